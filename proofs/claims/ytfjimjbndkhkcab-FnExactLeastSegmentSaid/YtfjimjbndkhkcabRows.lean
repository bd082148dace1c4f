/-
  No cell of these rows narrows 'for every input' (looked for: loops, veiled, ifaces, maps, wideKeys, modest, calm, conditions, laid).
  DERIVED. THE GIVEN ROWS OF THIS SEAT. 4 by the template 'for every input the law returns true; each argument reads behind the call as it read before'; 0 by the template 'total and deterministic' (their statements: YtfjimjbndkhkcabTotals.lean).
  GIVEN WITH THE SEED: the statements are not yours to turn. If you find one false, say at which input.
  Laid BY PROGRAM, IN A SANDBOX (cutbox-rows.mjs): the forced cells as the released guide's own fill.sh prints them over the translation a64c59c0a2625d2a… (all of the seat's roots in one cut). By AI agents, Wed Nov 11 2026. No macro, syntax, notation, axiom, sorry.
-/
import Derived.Test.YtfjimjbndkhkcabChecked
import GoSem.Claim
import GoSem.ClaimJoined
import GoSem.ClaimMapViews
import Derived.JoinedTies
import Derived.KernelRfl
namespace Go.Proofs.Ytfjimjbndkhkcab
/- THE CELL 'sum', in the pinned program and in every row, IS THE sha256 OF THE DUMP (.gsa) THAT YtfjimjbndkhkcabProg.lean LOADS. Nothing in Lean hashes anything: it is a label: what it is worth is what the hold of that sum in a sandbox is worth. -/
noncomputable def Try.pinned : Pinned := { name := "ytfjimjbndkhkcab", sum := "a64c59c0a2625d2a41e95577ca793bd97bed75f9fb489cd3c4bfd4ca1ddebb3b", checked := Try.checked }
namespace Rows
def none {H : Type} : Left H := { results := [], args := [] }

/-- 'laws.FnExactFirstSeed': WHATEVER THE INPUT: true; the input reads as it did. -/
def fnExactFirstSeedSpec : ChangeSpec := { name := "fnExactFirstSeed", fn := fun _ => fun
  | [d1, d2, d3, d4] => { results := [.lit (.bool true)], args := [d1, d2, d3, d4] }
  | _ => none }
def fnExactFirstSeedRow : OpenClaim := { program := "ytfjimjbndkhkcab", sum := "a64c59c0a2625d2a41e95577ca793bd97bed75f9fb489cd3c4bfd4ca1ddebb3b", func := "loop.example/g01097/laws.FnExactFirstSeed", spec := "fnExactFirstSeed", unfollowed := true, recurses := true, apart := false }
def FnExactFirstSeedSaid : Prop := fnExactFirstSeedRow.holds Try.pinned (OpenSpec.ofChange fnExactFirstSeedSpec)

/-- ITS FALSE NEIGHBOUR: 'it returns false'. Refute it at one input. -/
def fnExactFirstSeedWrong : ChangeSpec := { name := "fnExactFirstSeed", fn := fun _ => fun
  | [d1, d2, d3, d4] => { results := [.lit (.bool false)], args := [d1, d2, d3, d4] }
  | _ => none }
def FnExactFirstSeedWrongFalsely : Prop := fnExactFirstSeedRow.holds Try.pinned (OpenSpec.ofChange fnExactFirstSeedWrong)

/-- 'laws.FnExactLeastSegment': WHATEVER THE INPUT: true; the input reads as it did. -/
def fnExactLeastSegmentSpec : ChangeSpec := { name := "fnExactLeastSegment", fn := fun _ => fun
  | [d1, d2, d3] => { results := [.lit (.bool true)], args := [d1, d2, d3] }
  | _ => none }
def fnExactLeastSegmentRow : OpenClaim := { program := "ytfjimjbndkhkcab", sum := "a64c59c0a2625d2a41e95577ca793bd97bed75f9fb489cd3c4bfd4ca1ddebb3b", func := "loop.example/g01097/laws.FnExactLeastSegment", spec := "fnExactLeastSegment", unfollowed := true, recurses := true, apart := false }
def FnExactLeastSegmentSaid : Prop := fnExactLeastSegmentRow.holds Try.pinned (OpenSpec.ofChange fnExactLeastSegmentSpec)

/-- ITS FALSE NEIGHBOUR: 'it returns false'. Refute it at one input. -/
def fnExactLeastSegmentWrong : ChangeSpec := { name := "fnExactLeastSegment", fn := fun _ => fun
  | [d1, d2, d3] => { results := [.lit (.bool false)], args := [d1, d2, d3] }
  | _ => none }
def FnExactLeastSegmentWrongFalsely : Prop := fnExactLeastSegmentRow.holds Try.pinned (OpenSpec.ofChange fnExactLeastSegmentWrong)

/-- 'laws.FnExactPlainSeed': WHATEVER THE INPUT: true; the input reads as it did. -/
def fnExactPlainSeedSpec : ChangeSpec := { name := "fnExactPlainSeed", fn := fun _ => fun
  | [d1, d2, d3, d4] => { results := [.lit (.bool true)], args := [d1, d2, d3, d4] }
  | _ => none }
def fnExactPlainSeedRow : OpenClaim := { program := "ytfjimjbndkhkcab", sum := "a64c59c0a2625d2a41e95577ca793bd97bed75f9fb489cd3c4bfd4ca1ddebb3b", func := "loop.example/g01097/laws.FnExactPlainSeed", spec := "fnExactPlainSeed", unfollowed := true, recurses := true, apart := false }
def FnExactPlainSeedSaid : Prop := fnExactPlainSeedRow.holds Try.pinned (OpenSpec.ofChange fnExactPlainSeedSpec)

/-- ITS FALSE NEIGHBOUR: 'it returns false'. Refute it at one input. -/
def fnExactPlainSeedWrong : ChangeSpec := { name := "fnExactPlainSeed", fn := fun _ => fun
  | [d1, d2, d3, d4] => { results := [.lit (.bool false)], args := [d1, d2, d3, d4] }
  | _ => none }
def FnExactPlainSeedWrongFalsely : Prop := fnExactPlainSeedRow.holds Try.pinned (OpenSpec.ofChange fnExactPlainSeedWrong)

/-- 'laws.FnExactMeetSparse': WHATEVER THE INPUT: true; the input reads as it did. -/
def fnExactMeetSparseSpec : ChangeSpec := { name := "fnExactMeetSparse", fn := fun _ => fun
  | [d1, d2] => { results := [.lit (.bool true)], args := [d1, d2] }
  | _ => none }
def fnExactMeetSparseRow : OpenClaim := { program := "ytfjimjbndkhkcab", sum := "a64c59c0a2625d2a41e95577ca793bd97bed75f9fb489cd3c4bfd4ca1ddebb3b", func := "loop.example/g01097/laws.FnExactMeetSparse", spec := "fnExactMeetSparse", apart := false }
def FnExactMeetSparseSaid : Prop := fnExactMeetSparseRow.holds Try.pinned (OpenSpec.ofChange fnExactMeetSparseSpec)

/-- ITS FALSE NEIGHBOUR: 'it returns false'. Refute it at one input. -/
def fnExactMeetSparseWrong : ChangeSpec := { name := "fnExactMeetSparse", fn := fun _ => fun
  | [d1, d2] => { results := [.lit (.bool false)], args := [d1, d2] }
  | _ => none }
def FnExactMeetSparseWrongFalsely : Prop := fnExactMeetSparseRow.holds Try.pinned (OpenSpec.ofChange fnExactMeetSparseWrong)

/- THE SECOND FORM. 'bulk': how many values and letters a reading holds, each counted each time it is reached (what is shared counts as often as it is met; a slice's spare places count too). A statement '..UptoSaid' is the law's where the arguments, and the package variables that the reading takes, are together of bulk at most 1048576: NARROWER than '..Said'. Prove '..Said' where nothing that the law and all that it calls make is longer than what came in: it says more and counts as full. Else prove '..UptoSaid'. A law counts once. -/
mutual
def uptoBulk {H : Type} : DataW H → Nat
  | .lit (.string bytes) => bytes.length + 1
  | .lit _ => 1
  | .nil => 1
  | .ptr d => uptoBulk d + 1
  | .slice elems spare => uptoBulkAll elems + uptoBulkAll spare + 1
  | .agg parts => uptoBulkAll parts + 1
  | .iface _ d => uptoBulk d + 1
  | .map entries => uptoBulkEntries entries + 1
  | .held _ => 1
def uptoBulkAll {H : Type} : List (DataW H) → Nat
  | [] => 0
  | d :: r => uptoBulk d + uptoBulkAll r
def uptoBulkEntries {H : Type} : List (Lit × DataW H) → Nat
  | [] => 0
  | x :: r => uptoBulkEntry x + uptoBulkEntries r
def uptoBulkEntry {H : Type} : Lit × DataW H → Nat
  | (.string bytes, d) => bytes.length + uptoBulk d + 1
  | (_, d) => uptoBulk d + 1
 end
def uptoSmall : (H : Type) → List (DataW H) → Bool := fun _ ds => decide (uptoBulkAll ds ≤ 1048576)
def OpenSpec.upto (s : _root_.Go.ChangeSpec) : _root_.Go.OpenSpec := { _root_.Go.OpenSpec.ofChange s with cond := some uptoSmall }

/-- 'laws.FnExactFirstSeed', WHERE WHAT IT READS IS OF BULK AT MOST 1048576: true; the input reads as it did. -/
def fnExactFirstSeedUptoRow : OpenClaim := { program := "ytfjimjbndkhkcab", sum := "a64c59c0a2625d2a41e95577ca793bd97bed75f9fb489cd3c4bfd4ca1ddebb3b", func := "loop.example/g01097/laws.FnExactFirstSeed", spec := "fnExactFirstSeed", unfollowed := true, recurses := true, apart := false, narrowed := true }
def FnExactFirstSeedUptoSaid : Prop := fnExactFirstSeedUptoRow.holds Try.pinned (OpenSpec.upto fnExactFirstSeedSpec)

/-- 'laws.FnExactLeastSegment', WHERE WHAT IT READS IS OF BULK AT MOST 1048576: true; the input reads as it did. -/
def fnExactLeastSegmentUptoRow : OpenClaim := { program := "ytfjimjbndkhkcab", sum := "a64c59c0a2625d2a41e95577ca793bd97bed75f9fb489cd3c4bfd4ca1ddebb3b", func := "loop.example/g01097/laws.FnExactLeastSegment", spec := "fnExactLeastSegment", unfollowed := true, recurses := true, apart := false, narrowed := true }
def FnExactLeastSegmentUptoSaid : Prop := fnExactLeastSegmentUptoRow.holds Try.pinned (OpenSpec.upto fnExactLeastSegmentSpec)

/-- 'laws.FnExactPlainSeed', WHERE WHAT IT READS IS OF BULK AT MOST 1048576: true; the input reads as it did. -/
def fnExactPlainSeedUptoRow : OpenClaim := { program := "ytfjimjbndkhkcab", sum := "a64c59c0a2625d2a41e95577ca793bd97bed75f9fb489cd3c4bfd4ca1ddebb3b", func := "loop.example/g01097/laws.FnExactPlainSeed", spec := "fnExactPlainSeed", unfollowed := true, recurses := true, apart := false, narrowed := true }
def FnExactPlainSeedUptoSaid : Prop := fnExactPlainSeedUptoRow.holds Try.pinned (OpenSpec.upto fnExactPlainSeedSpec)

/-- 'laws.FnExactMeetSparse', WHERE WHAT IT READS IS OF BULK AT MOST 1048576: true; the input reads as it did. -/
def fnExactMeetSparseUptoRow : OpenClaim := { program := "ytfjimjbndkhkcab", sum := "a64c59c0a2625d2a41e95577ca793bd97bed75f9fb489cd3c4bfd4ca1ddebb3b", func := "loop.example/g01097/laws.FnExactMeetSparse", spec := "fnExactMeetSparse", apart := false, narrowed := true }
def FnExactMeetSparseUptoSaid : Prop := fnExactMeetSparseUptoRow.holds Try.pinned (OpenSpec.upto fnExactMeetSparseSpec)

end Rows
end Go.Proofs.Ytfjimjbndkhkcab
