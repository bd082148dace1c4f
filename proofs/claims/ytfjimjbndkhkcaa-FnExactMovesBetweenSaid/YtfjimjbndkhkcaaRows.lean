/-
  No cell of these rows narrows 'for every input' (looked for: loops, veiled, ifaces, maps, wideKeys, modest, calm, conditions, laid).
  DERIVED. THE GIVEN ROWS OF THIS SEAT. 12 by the template 'for every input the law returns true; each argument reads behind the call as it read before'; 0 by the template 'total and deterministic' (their statements: YtfjimjbndkhkcaaTotals.lean).
  GIVEN WITH THE SEED: the statements are not yours to turn. If you find one false, say at which input.
  Laid BY PROGRAM, IN A SANDBOX (cutbox-rows.mjs): the forced cells as the released guide's own fill.sh prints them over the translation c23cf86537255fcc… (all of the seat's roots in one cut). By AI agents, Wed Nov 11 2026. No macro, syntax, notation, axiom, sorry.
-/
import Derived.Test.YtfjimjbndkhkcaaChecked
import GoSem.Claim
import GoSem.ClaimJoined
import GoSem.ClaimMapViews
import Derived.JoinedTies
import Derived.KernelRfl
namespace Go.Proofs.Ytfjimjbndkhkcaa
/- THE CELL 'sum', in the pinned program and in every row, IS THE sha256 OF THE DUMP (.gsa) THAT YtfjimjbndkhkcaaProg.lean LOADS. Nothing in Lean hashes anything: it is a label: what it is worth is what the hold of that sum in a sandbox is worth. -/
noncomputable def Try.pinned : Pinned := { name := "ytfjimjbndkhkcaa", sum := "c23cf86537255fcc677dd2b4a1ce950d5c48a7d4a3c061135a357c5b5fa1de98", checked := Try.checked }
namespace Rows
def none {H : Type} : Left H := { results := [], args := [] }

/-- 'laws.FnExactCellsOf': WHATEVER THE INPUT: true; the input reads as it did. -/
def fnExactCellsOfSpec : ChangeSpec := { name := "fnExactCellsOf", fn := fun _ => fun
  | [d1, d2, d3] => { results := [.lit (.bool true)], args := [d1, d2, d3] }
  | _ => none }
def fnExactCellsOfRow : OpenClaim := { program := "ytfjimjbndkhkcaa", sum := "c23cf86537255fcc677dd2b4a1ce950d5c48a7d4a3c061135a357c5b5fa1de98", func := "loop.example/g01097/laws.FnExactCellsOf", spec := "fnExactCellsOf", apart := false }
def FnExactCellsOfSaid : Prop := fnExactCellsOfRow.holds Try.pinned (OpenSpec.ofChange fnExactCellsOfSpec)

/-- ITS FALSE NEIGHBOUR: 'it returns false'. Refute it at one input. -/
def fnExactCellsOfWrong : ChangeSpec := { name := "fnExactCellsOf", fn := fun _ => fun
  | [d1, d2, d3] => { results := [.lit (.bool false)], args := [d1, d2, d3] }
  | _ => none }
def FnExactCellsOfWrongFalsely : Prop := fnExactCellsOfRow.holds Try.pinned (OpenSpec.ofChange fnExactCellsOfWrong)

/-- 'laws.FnExactIsPlacement': WHATEVER THE INPUT: true; the input reads as it did. -/
def fnExactIsPlacementSpec : ChangeSpec := { name := "fnExactIsPlacement", fn := fun _ => fun
  | [d1, d2, d3, d4] => { results := [.lit (.bool true)], args := [d1, d2, d3, d4] }
  | _ => none }
def fnExactIsPlacementRow : OpenClaim := { program := "ytfjimjbndkhkcaa", sum := "c23cf86537255fcc677dd2b4a1ce950d5c48a7d4a3c061135a357c5b5fa1de98", func := "loop.example/g01097/laws.FnExactIsPlacement", spec := "fnExactIsPlacement", unfollowed := true, recurses := true, apart := false }
def FnExactIsPlacementSaid : Prop := fnExactIsPlacementRow.holds Try.pinned (OpenSpec.ofChange fnExactIsPlacementSpec)

/-- ITS FALSE NEIGHBOUR: 'it returns false'. Refute it at one input. -/
def fnExactIsPlacementWrong : ChangeSpec := { name := "fnExactIsPlacement", fn := fun _ => fun
  | [d1, d2, d3, d4] => { results := [.lit (.bool false)], args := [d1, d2, d3, d4] }
  | _ => none }
def FnExactIsPlacementWrongFalsely : Prop := fnExactIsPlacementRow.holds Try.pinned (OpenSpec.ofChange fnExactIsPlacementWrong)

/-- 'laws.FnExactIsCrowd': WHATEVER THE INPUT: true; the input reads as it did. -/
def fnExactIsCrowdSpec : ChangeSpec := { name := "fnExactIsCrowd", fn := fun _ => fun
  | [d1, d2, d3, d4] => { results := [.lit (.bool true)], args := [d1, d2, d3, d4] }
  | _ => none }
def fnExactIsCrowdRow : OpenClaim := { program := "ytfjimjbndkhkcaa", sum := "c23cf86537255fcc677dd2b4a1ce950d5c48a7d4a3c061135a357c5b5fa1de98", func := "loop.example/g01097/laws.FnExactIsCrowd", spec := "fnExactIsCrowd", apart := false }
def FnExactIsCrowdSaid : Prop := fnExactIsCrowdRow.holds Try.pinned (OpenSpec.ofChange fnExactIsCrowdSpec)

/-- ITS FALSE NEIGHBOUR: 'it returns false'. Refute it at one input. -/
def fnExactIsCrowdWrong : ChangeSpec := { name := "fnExactIsCrowd", fn := fun _ => fun
  | [d1, d2, d3, d4] => { results := [.lit (.bool false)], args := [d1, d2, d3, d4] }
  | _ => none }
def FnExactIsCrowdWrongFalsely : Prop := fnExactIsCrowdRow.holds Try.pinned (OpenSpec.ofChange fnExactIsCrowdWrong)

/-- 'laws.FnExactNewCuckoo': WHATEVER THE INPUT: true; the input reads as it did. -/
def fnExactNewCuckooSpec : ChangeSpec := { name := "fnExactNewCuckoo", fn := fun _ => fun
  | [d1, d2] => { results := [.lit (.bool true)], args := [d1, d2] }
  | _ => none }
def fnExactNewCuckooRow : OpenClaim := { program := "ytfjimjbndkhkcaa", sum := "c23cf86537255fcc677dd2b4a1ce950d5c48a7d4a3c061135a357c5b5fa1de98", func := "loop.example/g01097/laws.FnExactNewCuckoo", spec := "fnExactNewCuckoo", apart := false }
def FnExactNewCuckooSaid : Prop := fnExactNewCuckooRow.holds Try.pinned (OpenSpec.ofChange fnExactNewCuckooSpec)

/-- ITS FALSE NEIGHBOUR: 'it returns false'. Refute it at one input. -/
def fnExactNewCuckooWrong : ChangeSpec := { name := "fnExactNewCuckoo", fn := fun _ => fun
  | [d1, d2] => { results := [.lit (.bool false)], args := [d1, d2] }
  | _ => none }
def FnExactNewCuckooWrongFalsely : Prop := fnExactNewCuckooRow.holds Try.pinned (OpenSpec.ofChange fnExactNewCuckooWrong)

/-- 'laws.FnExactIsCuckoo': WHATEVER THE INPUT: true; the input reads as it did. -/
def fnExactIsCuckooSpec : ChangeSpec := { name := "fnExactIsCuckoo", fn := fun _ => fun
  | [d] => { results := [.lit (.bool true)], args := [d] }
  | _ => none }
def fnExactIsCuckooRow : OpenClaim := { program := "ytfjimjbndkhkcaa", sum := "c23cf86537255fcc677dd2b4a1ce950d5c48a7d4a3c061135a357c5b5fa1de98", func := "loop.example/g01097/laws.FnExactIsCuckoo", spec := "fnExactIsCuckoo", unfollowed := true, recurses := true, apart := false }
def FnExactIsCuckooSaid : Prop := fnExactIsCuckooRow.holds Try.pinned (OpenSpec.ofChange fnExactIsCuckooSpec)

/-- ITS FALSE NEIGHBOUR: 'it returns false'. Refute it at one input. -/
def fnExactIsCuckooWrong : ChangeSpec := { name := "fnExactIsCuckoo", fn := fun _ => fun
  | [d] => { results := [.lit (.bool false)], args := [d] }
  | _ => none }
def FnExactIsCuckooWrongFalsely : Prop := fnExactIsCuckooRow.holds Try.pinned (OpenSpec.ofChange fnExactIsCuckooWrong)

/-- 'laws.FnExactCuckooKeys': WHATEVER THE INPUT: true; the input reads as it did. -/
def fnExactCuckooKeysSpec : ChangeSpec := { name := "fnExactCuckooKeys", fn := fun _ => fun
  | [d] => { results := [.lit (.bool true)], args := [d] }
  | _ => none }
def fnExactCuckooKeysRow : OpenClaim := { program := "ytfjimjbndkhkcaa", sum := "c23cf86537255fcc677dd2b4a1ce950d5c48a7d4a3c061135a357c5b5fa1de98", func := "loop.example/g01097/laws.FnExactCuckooKeys", spec := "fnExactCuckooKeys", unfollowed := true, recurses := true, apart := false }
def FnExactCuckooKeysSaid : Prop := fnExactCuckooKeysRow.holds Try.pinned (OpenSpec.ofChange fnExactCuckooKeysSpec)

/-- ITS FALSE NEIGHBOUR: 'it returns false'. Refute it at one input. -/
def fnExactCuckooKeysWrong : ChangeSpec := { name := "fnExactCuckooKeys", fn := fun _ => fun
  | [d] => { results := [.lit (.bool false)], args := [d] }
  | _ => none }
def FnExactCuckooKeysWrongFalsely : Prop := fnExactCuckooKeysRow.holds Try.pinned (OpenSpec.ofChange fnExactCuckooKeysWrong)

/-- 'laws.FnExactCuckooFind': WHATEVER THE INPUT: true; the input reads as it did. -/
def fnExactCuckooFindSpec : ChangeSpec := { name := "fnExactCuckooFind", fn := fun _ => fun
  | [d1, d2] => { results := [.lit (.bool true)], args := [d1, d2] }
  | _ => none }
def fnExactCuckooFindRow : OpenClaim := { program := "ytfjimjbndkhkcaa", sum := "c23cf86537255fcc677dd2b4a1ce950d5c48a7d4a3c061135a357c5b5fa1de98", func := "loop.example/g01097/laws.FnExactCuckooFind", spec := "fnExactCuckooFind", unfollowed := true, recurses := true, apart := false }
def FnExactCuckooFindSaid : Prop := fnExactCuckooFindRow.holds Try.pinned (OpenSpec.ofChange fnExactCuckooFindSpec)

/-- ITS FALSE NEIGHBOUR: 'it returns false'. Refute it at one input. -/
def fnExactCuckooFindWrong : ChangeSpec := { name := "fnExactCuckooFind", fn := fun _ => fun
  | [d1, d2] => { results := [.lit (.bool false)], args := [d1, d2] }
  | _ => none }
def FnExactCuckooFindWrongFalsely : Prop := fnExactCuckooFindRow.holds Try.pinned (OpenSpec.ofChange fnExactCuckooFindWrong)

/-- 'laws.FnExactCuckooRemove': WHATEVER THE INPUT: true; the input reads as it did. -/
def fnExactCuckooRemoveSpec : ChangeSpec := { name := "fnExactCuckooRemove", fn := fun _ => fun
  | [d1, d2] => { results := [.lit (.bool true)], args := [d1, d2] }
  | _ => none }
def fnExactCuckooRemoveRow : OpenClaim := { program := "ytfjimjbndkhkcaa", sum := "c23cf86537255fcc677dd2b4a1ce950d5c48a7d4a3c061135a357c5b5fa1de98", func := "loop.example/g01097/laws.FnExactCuckooRemove", spec := "fnExactCuckooRemove", unfollowed := true, recurses := true, apart := false }
def FnExactCuckooRemoveSaid : Prop := fnExactCuckooRemoveRow.holds Try.pinned (OpenSpec.ofChange fnExactCuckooRemoveSpec)

/-- ITS FALSE NEIGHBOUR: 'it returns false'. Refute it at one input. -/
def fnExactCuckooRemoveWrong : ChangeSpec := { name := "fnExactCuckooRemove", fn := fun _ => fun
  | [d1, d2] => { results := [.lit (.bool false)], args := [d1, d2] }
  | _ => none }
def FnExactCuckooRemoveWrongFalsely : Prop := fnExactCuckooRemoveRow.holds Try.pinned (OpenSpec.ofChange fnExactCuckooRemoveWrong)

/-- 'laws.FnExactCuckooUnstash': WHATEVER THE INPUT: true; the input reads as it did. -/
def fnExactCuckooUnstashSpec : ChangeSpec := { name := "fnExactCuckooUnstash", fn := fun _ => fun
  | [d] => { results := [.lit (.bool true)], args := [d] }
  | _ => none }
def fnExactCuckooUnstashRow : OpenClaim := { program := "ytfjimjbndkhkcaa", sum := "c23cf86537255fcc677dd2b4a1ce950d5c48a7d4a3c061135a357c5b5fa1de98", func := "loop.example/g01097/laws.FnExactCuckooUnstash", spec := "fnExactCuckooUnstash", unfollowed := true, recurses := true, apart := false }
def FnExactCuckooUnstashSaid : Prop := fnExactCuckooUnstashRow.holds Try.pinned (OpenSpec.ofChange fnExactCuckooUnstashSpec)

/-- ITS FALSE NEIGHBOUR: 'it returns false'. Refute it at one input. -/
def fnExactCuckooUnstashWrong : ChangeSpec := { name := "fnExactCuckooUnstash", fn := fun _ => fun
  | [d] => { results := [.lit (.bool false)], args := [d] }
  | _ => none }
def FnExactCuckooUnstashWrongFalsely : Prop := fnExactCuckooUnstashRow.holds Try.pinned (OpenSpec.ofChange fnExactCuckooUnstashWrong)

/-- 'laws.FnExactCuckooInsert': WHATEVER THE INPUT: true; the input reads as it did. -/
def fnExactCuckooInsertSpec : ChangeSpec := { name := "fnExactCuckooInsert", fn := fun _ => fun
  | [d1, d2, d3] => { results := [.lit (.bool true)], args := [d1, d2, d3] }
  | _ => none }
def fnExactCuckooInsertRow : OpenClaim := { program := "ytfjimjbndkhkcaa", sum := "c23cf86537255fcc677dd2b4a1ce950d5c48a7d4a3c061135a357c5b5fa1de98", func := "loop.example/g01097/laws.FnExactCuckooInsert", spec := "fnExactCuckooInsert", unfollowed := true, recurses := true, apart := false }
def FnExactCuckooInsertSaid : Prop := fnExactCuckooInsertRow.holds Try.pinned (OpenSpec.ofChange fnExactCuckooInsertSpec)

/-- ITS FALSE NEIGHBOUR: 'it returns false'. Refute it at one input. -/
def fnExactCuckooInsertWrong : ChangeSpec := { name := "fnExactCuckooInsert", fn := fun _ => fun
  | [d1, d2, d3] => { results := [.lit (.bool false)], args := [d1, d2, d3] }
  | _ => none }
def FnExactCuckooInsertWrongFalsely : Prop := fnExactCuckooInsertRow.holds Try.pinned (OpenSpec.ofChange fnExactCuckooInsertWrong)

/-- 'laws.FnExactCuckooOf': WHATEVER THE INPUT: true; the input reads as it did. -/
def fnExactCuckooOfSpec : ChangeSpec := { name := "fnExactCuckooOf", fn := fun _ => fun
  | [d1, d2, d3, d4] => { results := [.lit (.bool true)], args := [d1, d2, d3, d4] }
  | _ => none }
def fnExactCuckooOfRow : OpenClaim := { program := "ytfjimjbndkhkcaa", sum := "c23cf86537255fcc677dd2b4a1ce950d5c48a7d4a3c061135a357c5b5fa1de98", func := "loop.example/g01097/laws.FnExactCuckooOf", spec := "fnExactCuckooOf", unfollowed := true, recurses := true, apart := false }
def FnExactCuckooOfSaid : Prop := fnExactCuckooOfRow.holds Try.pinned (OpenSpec.ofChange fnExactCuckooOfSpec)

/-- ITS FALSE NEIGHBOUR: 'it returns false'. Refute it at one input. -/
def fnExactCuckooOfWrong : ChangeSpec := { name := "fnExactCuckooOf", fn := fun _ => fun
  | [d1, d2, d3, d4] => { results := [.lit (.bool false)], args := [d1, d2, d3, d4] }
  | _ => none }
def FnExactCuckooOfWrongFalsely : Prop := fnExactCuckooOfRow.holds Try.pinned (OpenSpec.ofChange fnExactCuckooOfWrong)

/-- 'laws.FnExactMovesBetween': WHATEVER THE INPUT: true; the input reads as it did. -/
def fnExactMovesBetweenSpec : ChangeSpec := { name := "fnExactMovesBetween", fn := fun _ => fun
  | [d1, d2, d3, d4, d5] => { results := [.lit (.bool true)], args := [d1, d2, d3, d4, d5] }
  | _ => none }
def fnExactMovesBetweenRow : OpenClaim := { program := "ytfjimjbndkhkcaa", sum := "c23cf86537255fcc677dd2b4a1ce950d5c48a7d4a3c061135a357c5b5fa1de98", func := "loop.example/g01097/laws.FnExactMovesBetween", spec := "fnExactMovesBetween", unfollowed := true, recurses := true, apart := false }
def FnExactMovesBetweenSaid : Prop := fnExactMovesBetweenRow.holds Try.pinned (OpenSpec.ofChange fnExactMovesBetweenSpec)

/-- ITS FALSE NEIGHBOUR: 'it returns false'. Refute it at one input. -/
def fnExactMovesBetweenWrong : ChangeSpec := { name := "fnExactMovesBetween", fn := fun _ => fun
  | [d1, d2, d3, d4, d5] => { results := [.lit (.bool false)], args := [d1, d2, d3, d4, d5] }
  | _ => none }
def FnExactMovesBetweenWrongFalsely : Prop := fnExactMovesBetweenRow.holds Try.pinned (OpenSpec.ofChange fnExactMovesBetweenWrong)

/- THE SECOND FORM. 'bulk': how many values and letters a reading holds, each counted each time it is reached (what is shared counts as often as it is met; a slice's spare places count too). A statement '..UptoSaid' is the law's where the arguments, and the package variables that the reading takes, are together of bulk at most 1048576: NARROWER than '..Said'. Prove '..Said' where nothing that the law and all that it calls make is longer than what came in: it says more and counts as full. Else prove '..UptoSaid'. A law counts once. -/
mutual
def uptoBulk {H : Type} : DataW H → Nat
  | .lit (.string bytes) => bytes.length + 1
  | .lit _ => 1
  | .nil => 1
  | .ptr d => uptoBulk d + 1
  | .slice elems spare => uptoBulkAll elems + uptoBulkAll spare + 1
  | .agg parts => uptoBulkAll parts + 1
  | .iface _ d => uptoBulk d + 1
  | .map entries => uptoBulkEntries entries + 1
  | .held _ => 1
def uptoBulkAll {H : Type} : List (DataW H) → Nat
  | [] => 0
  | d :: r => uptoBulk d + uptoBulkAll r
def uptoBulkEntries {H : Type} : List (Lit × DataW H) → Nat
  | [] => 0
  | x :: r => uptoBulkEntry x + uptoBulkEntries r
def uptoBulkEntry {H : Type} : Lit × DataW H → Nat
  | (.string bytes, d) => bytes.length + uptoBulk d + 1
  | (_, d) => uptoBulk d + 1
 end
def uptoSmall : (H : Type) → List (DataW H) → Bool := fun _ ds => decide (uptoBulkAll ds ≤ 1048576)
def OpenSpec.upto (s : _root_.Go.ChangeSpec) : _root_.Go.OpenSpec := { _root_.Go.OpenSpec.ofChange s with cond := some uptoSmall }

/-- 'laws.FnExactCellsOf', WHERE WHAT IT READS IS OF BULK AT MOST 1048576: true; the input reads as it did. -/
def fnExactCellsOfUptoRow : OpenClaim := { program := "ytfjimjbndkhkcaa", sum := "c23cf86537255fcc677dd2b4a1ce950d5c48a7d4a3c061135a357c5b5fa1de98", func := "loop.example/g01097/laws.FnExactCellsOf", spec := "fnExactCellsOf", apart := false, narrowed := true }
def FnExactCellsOfUptoSaid : Prop := fnExactCellsOfUptoRow.holds Try.pinned (OpenSpec.upto fnExactCellsOfSpec)

/-- 'laws.FnExactIsPlacement', WHERE WHAT IT READS IS OF BULK AT MOST 1048576: true; the input reads as it did. -/
def fnExactIsPlacementUptoRow : OpenClaim := { program := "ytfjimjbndkhkcaa", sum := "c23cf86537255fcc677dd2b4a1ce950d5c48a7d4a3c061135a357c5b5fa1de98", func := "loop.example/g01097/laws.FnExactIsPlacement", spec := "fnExactIsPlacement", unfollowed := true, recurses := true, apart := false, narrowed := true }
def FnExactIsPlacementUptoSaid : Prop := fnExactIsPlacementUptoRow.holds Try.pinned (OpenSpec.upto fnExactIsPlacementSpec)

/-- 'laws.FnExactIsCrowd', WHERE WHAT IT READS IS OF BULK AT MOST 1048576: true; the input reads as it did. -/
def fnExactIsCrowdUptoRow : OpenClaim := { program := "ytfjimjbndkhkcaa", sum := "c23cf86537255fcc677dd2b4a1ce950d5c48a7d4a3c061135a357c5b5fa1de98", func := "loop.example/g01097/laws.FnExactIsCrowd", spec := "fnExactIsCrowd", apart := false, narrowed := true }
def FnExactIsCrowdUptoSaid : Prop := fnExactIsCrowdUptoRow.holds Try.pinned (OpenSpec.upto fnExactIsCrowdSpec)

/-- 'laws.FnExactNewCuckoo', WHERE WHAT IT READS IS OF BULK AT MOST 1048576: true; the input reads as it did. -/
def fnExactNewCuckooUptoRow : OpenClaim := { program := "ytfjimjbndkhkcaa", sum := "c23cf86537255fcc677dd2b4a1ce950d5c48a7d4a3c061135a357c5b5fa1de98", func := "loop.example/g01097/laws.FnExactNewCuckoo", spec := "fnExactNewCuckoo", apart := false, narrowed := true }
def FnExactNewCuckooUptoSaid : Prop := fnExactNewCuckooUptoRow.holds Try.pinned (OpenSpec.upto fnExactNewCuckooSpec)

/-- 'laws.FnExactIsCuckoo', WHERE WHAT IT READS IS OF BULK AT MOST 1048576: true; the input reads as it did. -/
def fnExactIsCuckooUptoRow : OpenClaim := { program := "ytfjimjbndkhkcaa", sum := "c23cf86537255fcc677dd2b4a1ce950d5c48a7d4a3c061135a357c5b5fa1de98", func := "loop.example/g01097/laws.FnExactIsCuckoo", spec := "fnExactIsCuckoo", unfollowed := true, recurses := true, apart := false, narrowed := true }
def FnExactIsCuckooUptoSaid : Prop := fnExactIsCuckooUptoRow.holds Try.pinned (OpenSpec.upto fnExactIsCuckooSpec)

/-- 'laws.FnExactCuckooKeys', WHERE WHAT IT READS IS OF BULK AT MOST 1048576: true; the input reads as it did. -/
def fnExactCuckooKeysUptoRow : OpenClaim := { program := "ytfjimjbndkhkcaa", sum := "c23cf86537255fcc677dd2b4a1ce950d5c48a7d4a3c061135a357c5b5fa1de98", func := "loop.example/g01097/laws.FnExactCuckooKeys", spec := "fnExactCuckooKeys", unfollowed := true, recurses := true, apart := false, narrowed := true }
def FnExactCuckooKeysUptoSaid : Prop := fnExactCuckooKeysUptoRow.holds Try.pinned (OpenSpec.upto fnExactCuckooKeysSpec)

/-- 'laws.FnExactCuckooFind', WHERE WHAT IT READS IS OF BULK AT MOST 1048576: true; the input reads as it did. -/
def fnExactCuckooFindUptoRow : OpenClaim := { program := "ytfjimjbndkhkcaa", sum := "c23cf86537255fcc677dd2b4a1ce950d5c48a7d4a3c061135a357c5b5fa1de98", func := "loop.example/g01097/laws.FnExactCuckooFind", spec := "fnExactCuckooFind", unfollowed := true, recurses := true, apart := false, narrowed := true }
def FnExactCuckooFindUptoSaid : Prop := fnExactCuckooFindUptoRow.holds Try.pinned (OpenSpec.upto fnExactCuckooFindSpec)

/-- 'laws.FnExactCuckooRemove', WHERE WHAT IT READS IS OF BULK AT MOST 1048576: true; the input reads as it did. -/
def fnExactCuckooRemoveUptoRow : OpenClaim := { program := "ytfjimjbndkhkcaa", sum := "c23cf86537255fcc677dd2b4a1ce950d5c48a7d4a3c061135a357c5b5fa1de98", func := "loop.example/g01097/laws.FnExactCuckooRemove", spec := "fnExactCuckooRemove", unfollowed := true, recurses := true, apart := false, narrowed := true }
def FnExactCuckooRemoveUptoSaid : Prop := fnExactCuckooRemoveUptoRow.holds Try.pinned (OpenSpec.upto fnExactCuckooRemoveSpec)

/-- 'laws.FnExactCuckooUnstash', WHERE WHAT IT READS IS OF BULK AT MOST 1048576: true; the input reads as it did. -/
def fnExactCuckooUnstashUptoRow : OpenClaim := { program := "ytfjimjbndkhkcaa", sum := "c23cf86537255fcc677dd2b4a1ce950d5c48a7d4a3c061135a357c5b5fa1de98", func := "loop.example/g01097/laws.FnExactCuckooUnstash", spec := "fnExactCuckooUnstash", unfollowed := true, recurses := true, apart := false, narrowed := true }
def FnExactCuckooUnstashUptoSaid : Prop := fnExactCuckooUnstashUptoRow.holds Try.pinned (OpenSpec.upto fnExactCuckooUnstashSpec)

/-- 'laws.FnExactCuckooInsert', WHERE WHAT IT READS IS OF BULK AT MOST 1048576: true; the input reads as it did. -/
def fnExactCuckooInsertUptoRow : OpenClaim := { program := "ytfjimjbndkhkcaa", sum := "c23cf86537255fcc677dd2b4a1ce950d5c48a7d4a3c061135a357c5b5fa1de98", func := "loop.example/g01097/laws.FnExactCuckooInsert", spec := "fnExactCuckooInsert", unfollowed := true, recurses := true, apart := false, narrowed := true }
def FnExactCuckooInsertUptoSaid : Prop := fnExactCuckooInsertUptoRow.holds Try.pinned (OpenSpec.upto fnExactCuckooInsertSpec)

/-- 'laws.FnExactCuckooOf', WHERE WHAT IT READS IS OF BULK AT MOST 1048576: true; the input reads as it did. -/
def fnExactCuckooOfUptoRow : OpenClaim := { program := "ytfjimjbndkhkcaa", sum := "c23cf86537255fcc677dd2b4a1ce950d5c48a7d4a3c061135a357c5b5fa1de98", func := "loop.example/g01097/laws.FnExactCuckooOf", spec := "fnExactCuckooOf", unfollowed := true, recurses := true, apart := false, narrowed := true }
def FnExactCuckooOfUptoSaid : Prop := fnExactCuckooOfUptoRow.holds Try.pinned (OpenSpec.upto fnExactCuckooOfSpec)

/-- 'laws.FnExactMovesBetween', WHERE WHAT IT READS IS OF BULK AT MOST 1048576: true; the input reads as it did. -/
def fnExactMovesBetweenUptoRow : OpenClaim := { program := "ytfjimjbndkhkcaa", sum := "c23cf86537255fcc677dd2b4a1ce950d5c48a7d4a3c061135a357c5b5fa1de98", func := "loop.example/g01097/laws.FnExactMovesBetween", spec := "fnExactMovesBetween", unfollowed := true, recurses := true, apart := false, narrowed := true }
def FnExactMovesBetweenUptoSaid : Prop := fnExactMovesBetweenUptoRow.holds Try.pinned (OpenSpec.upto fnExactMovesBetweenSpec)

end Rows
end Go.Proofs.Ytfjimjbndkhkcaa
