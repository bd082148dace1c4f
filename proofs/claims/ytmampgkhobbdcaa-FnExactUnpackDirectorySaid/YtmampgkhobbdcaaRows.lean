/-
  No cell of these rows narrows 'for every input' (looked for: loops, veiled, ifaces, maps, wideKeys, modest, calm, conditions, laid).
  DERIVED. THE GIVEN ROWS OF THIS SEAT. 13 by the template 'for every input the law returns true; each argument reads behind the call as it read before'; 0 by the template 'total and deterministic' (their statements: YtmampgkhobbdcaaTotals.lean).
  GIVEN WITH THE SEED: the statements are not yours to turn. If you find one false, say at which input.
  Laid BY PROGRAM, IN A SANDBOX (cutbox-rows.mjs): the forced cells as the released guide's own fill.sh prints them over the translation d6a88f8d79bb1ba5… (all of the seat's roots in one cut). By AI agents, Wed Nov 11 2026. No macro, syntax, notation, axiom, sorry.
-/
import Derived.Test.YtmampgkhobbdcaaChecked
import GoSem.Claim
import GoSem.ClaimJoined
import GoSem.ClaimMapViews
import Derived.JoinedTies
import Derived.KernelRfl
namespace Go.Proofs.Ytmampgkhobbdcaa
/- THE CELL 'sum', in the pinned program and in every row, IS THE sha256 OF THE DUMP (.gsa) THAT YtmampgkhobbdcaaProg.lean LOADS. Nothing in Lean hashes anything: it is a label: what it is worth is what the hold of that sum in a sandbox is worth. -/
noncomputable def Try.pinned : Pinned := { name := "ytmampgkhobbdcaa", sum := "d6a88f8d79bb1ba5dbf1f57b6f68c38b20392d5d642a5f3763fea2002ba3f86c", checked := Try.checked }
namespace Rows
def none {H : Type} : Left H := { results := [], args := [] }

/-- 'laws.FnExactBuildRanked': WHATEVER THE INPUT: true; the input reads as it did. -/
def fnExactBuildRankedSpec : ChangeSpec := { name := "fnExactBuildRanked", fn := fun _ => fun
  | [d] => { results := [.lit (.bool true)], args := [d] }
  | _ => none }
def fnExactBuildRankedRow : OpenClaim := { program := "ytmampgkhobbdcaa", sum := "d6a88f8d79bb1ba5dbf1f57b6f68c38b20392d5d642a5f3763fea2002ba3f86c", func := "loop.example/g01097/laws.FnExactBuildRanked", spec := "fnExactBuildRanked", apart := false }
def FnExactBuildRankedSaid : Prop := fnExactBuildRankedRow.holds Try.pinned (OpenSpec.ofChange fnExactBuildRankedSpec)

/-- ITS FALSE NEIGHBOUR: 'it returns false'. Refute it at one input. -/
def fnExactBuildRankedWrong : ChangeSpec := { name := "fnExactBuildRanked", fn := fun _ => fun
  | [d] => { results := [.lit (.bool false)], args := [d] }
  | _ => none }
def FnExactBuildRankedWrongFalsely : Prop := fnExactBuildRankedRow.holds Try.pinned (OpenSpec.ofChange fnExactBuildRankedWrong)

/-- 'laws.FnExactIsRanked': WHATEVER THE INPUT: true; the input reads as it did. -/
def fnExactIsRankedSpec : ChangeSpec := { name := "fnExactIsRanked", fn := fun _ => fun
  | [d] => { results := [.lit (.bool true)], args := [d] }
  | _ => none }
def fnExactIsRankedRow : OpenClaim := { program := "ytmampgkhobbdcaa", sum := "d6a88f8d79bb1ba5dbf1f57b6f68c38b20392d5d642a5f3763fea2002ba3f86c", func := "loop.example/g01097/laws.FnExactIsRanked", spec := "fnExactIsRanked", apart := false }
def FnExactIsRankedSaid : Prop := fnExactIsRankedRow.holds Try.pinned (OpenSpec.ofChange fnExactIsRankedSpec)

/-- ITS FALSE NEIGHBOUR: 'it returns false'. Refute it at one input. -/
def fnExactIsRankedWrong : ChangeSpec := { name := "fnExactIsRanked", fn := fun _ => fun
  | [d] => { results := [.lit (.bool false)], args := [d] }
  | _ => none }
def FnExactIsRankedWrongFalsely : Prop := fnExactIsRankedRow.holds Try.pinned (OpenSpec.ofChange fnExactIsRankedWrong)

/-- 'laws.FnExactOnesOf': WHATEVER THE INPUT: true; the input reads as it did. -/
def fnExactOnesOfSpec : ChangeSpec := { name := "fnExactOnesOf", fn := fun _ => fun
  | [d] => { results := [.lit (.bool true)], args := [d] }
  | _ => none }
def fnExactOnesOfRow : OpenClaim := { program := "ytmampgkhobbdcaa", sum := "d6a88f8d79bb1ba5dbf1f57b6f68c38b20392d5d642a5f3763fea2002ba3f86c", func := "loop.example/g01097/laws.FnExactOnesOf", spec := "fnExactOnesOf", unfollowed := true, recurses := true, apart := false }
def FnExactOnesOfSaid : Prop := fnExactOnesOfRow.holds Try.pinned (OpenSpec.ofChange fnExactOnesOfSpec)

/-- ITS FALSE NEIGHBOUR: 'it returns false'. Refute it at one input. -/
def fnExactOnesOfWrong : ChangeSpec := { name := "fnExactOnesOf", fn := fun _ => fun
  | [d] => { results := [.lit (.bool false)], args := [d] }
  | _ => none }
def FnExactOnesOfWrongFalsely : Prop := fnExactOnesOfRow.holds Try.pinned (OpenSpec.ofChange fnExactOnesOfWrong)

/-- 'laws.FnExactRank1': WHATEVER THE INPUT: true; the input reads as it did. -/
def fnExactRank1Spec : ChangeSpec := { name := "fnExactRank1", fn := fun _ => fun
  | [d1, d2] => { results := [.lit (.bool true)], args := [d1, d2] }
  | _ => none }
def fnExactRank1Row : OpenClaim := { program := "ytmampgkhobbdcaa", sum := "d6a88f8d79bb1ba5dbf1f57b6f68c38b20392d5d642a5f3763fea2002ba3f86c", func := "loop.example/g01097/laws.FnExactRank1", spec := "fnExactRank1", unfollowed := true, recurses := true, apart := false }
def FnExactRank1Said : Prop := fnExactRank1Row.holds Try.pinned (OpenSpec.ofChange fnExactRank1Spec)

/-- ITS FALSE NEIGHBOUR: 'it returns false'. Refute it at one input. -/
def fnExactRank1Wrong : ChangeSpec := { name := "fnExactRank1", fn := fun _ => fun
  | [d1, d2] => { results := [.lit (.bool false)], args := [d1, d2] }
  | _ => none }
def FnExactRank1WrongFalsely : Prop := fnExactRank1Row.holds Try.pinned (OpenSpec.ofChange fnExactRank1Wrong)

/-- 'laws.FnExactRank0': WHATEVER THE INPUT: true; the input reads as it did. -/
def fnExactRank0Spec : ChangeSpec := { name := "fnExactRank0", fn := fun _ => fun
  | [d1, d2] => { results := [.lit (.bool true)], args := [d1, d2] }
  | _ => none }
def fnExactRank0Row : OpenClaim := { program := "ytmampgkhobbdcaa", sum := "d6a88f8d79bb1ba5dbf1f57b6f68c38b20392d5d642a5f3763fea2002ba3f86c", func := "loop.example/g01097/laws.FnExactRank0", spec := "fnExactRank0", unfollowed := true, recurses := true, apart := false }
def FnExactRank0Said : Prop := fnExactRank0Row.holds Try.pinned (OpenSpec.ofChange fnExactRank0Spec)

/-- ITS FALSE NEIGHBOUR: 'it returns false'. Refute it at one input. -/
def fnExactRank0Wrong : ChangeSpec := { name := "fnExactRank0", fn := fun _ => fun
  | [d1, d2] => { results := [.lit (.bool false)], args := [d1, d2] }
  | _ => none }
def FnExactRank0WrongFalsely : Prop := fnExactRank0Row.holds Try.pinned (OpenSpec.ofChange fnExactRank0Wrong)

/-- 'laws.FnExactSelect1': WHATEVER THE INPUT: true; the input reads as it did. -/
def fnExactSelect1Spec : ChangeSpec := { name := "fnExactSelect1", fn := fun _ => fun
  | [d1, d2] => { results := [.lit (.bool true)], args := [d1, d2] }
  | _ => none }
def fnExactSelect1Row : OpenClaim := { program := "ytmampgkhobbdcaa", sum := "d6a88f8d79bb1ba5dbf1f57b6f68c38b20392d5d642a5f3763fea2002ba3f86c", func := "loop.example/g01097/laws.FnExactSelect1", spec := "fnExactSelect1", unfollowed := true, recurses := true, apart := false }
def FnExactSelect1Said : Prop := fnExactSelect1Row.holds Try.pinned (OpenSpec.ofChange fnExactSelect1Spec)

/-- ITS FALSE NEIGHBOUR: 'it returns false'. Refute it at one input. -/
def fnExactSelect1Wrong : ChangeSpec := { name := "fnExactSelect1", fn := fun _ => fun
  | [d1, d2] => { results := [.lit (.bool false)], args := [d1, d2] }
  | _ => none }
def FnExactSelect1WrongFalsely : Prop := fnExactSelect1Row.holds Try.pinned (OpenSpec.ofChange fnExactSelect1Wrong)

/-- 'laws.FnExactSelect0': WHATEVER THE INPUT: true; the input reads as it did. -/
def fnExactSelect0Spec : ChangeSpec := { name := "fnExactSelect0", fn := fun _ => fun
  | [d1, d2] => { results := [.lit (.bool true)], args := [d1, d2] }
  | _ => none }
def fnExactSelect0Row : OpenClaim := { program := "ytmampgkhobbdcaa", sum := "d6a88f8d79bb1ba5dbf1f57b6f68c38b20392d5d642a5f3763fea2002ba3f86c", func := "loop.example/g01097/laws.FnExactSelect0", spec := "fnExactSelect0", unfollowed := true, recurses := true, apart := false }
def FnExactSelect0Said : Prop := fnExactSelect0Row.holds Try.pinned (OpenSpec.ofChange fnExactSelect0Spec)

/-- ITS FALSE NEIGHBOUR: 'it returns false'. Refute it at one input. -/
def fnExactSelect0Wrong : ChangeSpec := { name := "fnExactSelect0", fn := fun _ => fun
  | [d1, d2] => { results := [.lit (.bool false)], args := [d1, d2] }
  | _ => none }
def FnExactSelect0WrongFalsely : Prop := fnExactSelect0Row.holds Try.pinned (OpenSpec.ofChange fnExactSelect0Wrong)

/-- 'laws.FnExactNextOne': WHATEVER THE INPUT: true; the input reads as it did. -/
def fnExactNextOneSpec : ChangeSpec := { name := "fnExactNextOne", fn := fun _ => fun
  | [d1, d2] => { results := [.lit (.bool true)], args := [d1, d2] }
  | _ => none }
def fnExactNextOneRow : OpenClaim := { program := "ytmampgkhobbdcaa", sum := "d6a88f8d79bb1ba5dbf1f57b6f68c38b20392d5d642a5f3763fea2002ba3f86c", func := "loop.example/g01097/laws.FnExactNextOne", spec := "fnExactNextOne", unfollowed := true, recurses := true, apart := false }
def FnExactNextOneSaid : Prop := fnExactNextOneRow.holds Try.pinned (OpenSpec.ofChange fnExactNextOneSpec)

/-- ITS FALSE NEIGHBOUR: 'it returns false'. Refute it at one input. -/
def fnExactNextOneWrong : ChangeSpec := { name := "fnExactNextOne", fn := fun _ => fun
  | [d1, d2] => { results := [.lit (.bool false)], args := [d1, d2] }
  | _ => none }
def FnExactNextOneWrongFalsely : Prop := fnExactNextOneRow.holds Try.pinned (OpenSpec.ofChange fnExactNextOneWrong)

/-- 'laws.FnExactLastOne': WHATEVER THE INPUT: true; the input reads as it did. -/
def fnExactLastOneSpec : ChangeSpec := { name := "fnExactLastOne", fn := fun _ => fun
  | [d1, d2] => { results := [.lit (.bool true)], args := [d1, d2] }
  | _ => none }
def fnExactLastOneRow : OpenClaim := { program := "ytmampgkhobbdcaa", sum := "d6a88f8d79bb1ba5dbf1f57b6f68c38b20392d5d642a5f3763fea2002ba3f86c", func := "loop.example/g01097/laws.FnExactLastOne", spec := "fnExactLastOne", unfollowed := true, recurses := true, apart := false }
def FnExactLastOneSaid : Prop := fnExactLastOneRow.holds Try.pinned (OpenSpec.ofChange fnExactLastOneSpec)

/-- ITS FALSE NEIGHBOUR: 'it returns false'. Refute it at one input. -/
def fnExactLastOneWrong : ChangeSpec := { name := "fnExactLastOne", fn := fun _ => fun
  | [d1, d2] => { results := [.lit (.bool false)], args := [d1, d2] }
  | _ => none }
def FnExactLastOneWrongFalsely : Prop := fnExactLastOneRow.holds Try.pinned (OpenSpec.ofChange fnExactLastOneWrong)

/-- 'laws.FnExactJoinRanked': WHATEVER THE INPUT: true; the input reads as it did. -/
def fnExactJoinRankedSpec : ChangeSpec := { name := "fnExactJoinRanked", fn := fun _ => fun
  | [d1, d2] => { results := [.lit (.bool true)], args := [d1, d2] }
  | _ => none }
def fnExactJoinRankedRow : OpenClaim := { program := "ytmampgkhobbdcaa", sum := "d6a88f8d79bb1ba5dbf1f57b6f68c38b20392d5d642a5f3763fea2002ba3f86c", func := "loop.example/g01097/laws.FnExactJoinRanked", spec := "fnExactJoinRanked", apart := false }
def FnExactJoinRankedSaid : Prop := fnExactJoinRankedRow.holds Try.pinned (OpenSpec.ofChange fnExactJoinRankedSpec)

/-- ITS FALSE NEIGHBOUR: 'it returns false'. Refute it at one input. -/
def fnExactJoinRankedWrong : ChangeSpec := { name := "fnExactJoinRanked", fn := fun _ => fun
  | [d1, d2] => { results := [.lit (.bool false)], args := [d1, d2] }
  | _ => none }
def FnExactJoinRankedWrongFalsely : Prop := fnExactJoinRankedRow.holds Try.pinned (OpenSpec.ofChange fnExactJoinRankedWrong)

/-- 'laws.FnExactDirectoryBits': WHATEVER THE INPUT: true; the input reads as it did. -/
def fnExactDirectoryBitsSpec : ChangeSpec := { name := "fnExactDirectoryBits", fn := fun _ => fun
  | [d] => { results := [.lit (.bool true)], args := [d] }
  | _ => none }
def fnExactDirectoryBitsRow : OpenClaim := { program := "ytmampgkhobbdcaa", sum := "d6a88f8d79bb1ba5dbf1f57b6f68c38b20392d5d642a5f3763fea2002ba3f86c", func := "loop.example/g01097/laws.FnExactDirectoryBits", spec := "fnExactDirectoryBits", apart := false }
def FnExactDirectoryBitsSaid : Prop := fnExactDirectoryBitsRow.holds Try.pinned (OpenSpec.ofChange fnExactDirectoryBitsSpec)

/-- ITS FALSE NEIGHBOUR: 'it returns false'. Refute it at one input. -/
def fnExactDirectoryBitsWrong : ChangeSpec := { name := "fnExactDirectoryBits", fn := fun _ => fun
  | [d] => { results := [.lit (.bool false)], args := [d] }
  | _ => none }
def FnExactDirectoryBitsWrongFalsely : Prop := fnExactDirectoryBitsRow.holds Try.pinned (OpenSpec.ofChange fnExactDirectoryBitsWrong)

/-- 'laws.FnExactPackDirectory': WHATEVER THE INPUT: true; the input reads as it did. -/
def fnExactPackDirectorySpec : ChangeSpec := { name := "fnExactPackDirectory", fn := fun _ => fun
  | [d] => { results := [.lit (.bool true)], args := [d] }
  | _ => none }
def fnExactPackDirectoryRow : OpenClaim := { program := "ytmampgkhobbdcaa", sum := "d6a88f8d79bb1ba5dbf1f57b6f68c38b20392d5d642a5f3763fea2002ba3f86c", func := "loop.example/g01097/laws.FnExactPackDirectory", spec := "fnExactPackDirectory", apart := false }
def FnExactPackDirectorySaid : Prop := fnExactPackDirectoryRow.holds Try.pinned (OpenSpec.ofChange fnExactPackDirectorySpec)

/-- ITS FALSE NEIGHBOUR: 'it returns false'. Refute it at one input. -/
def fnExactPackDirectoryWrong : ChangeSpec := { name := "fnExactPackDirectory", fn := fun _ => fun
  | [d] => { results := [.lit (.bool false)], args := [d] }
  | _ => none }
def FnExactPackDirectoryWrongFalsely : Prop := fnExactPackDirectoryRow.holds Try.pinned (OpenSpec.ofChange fnExactPackDirectoryWrong)

/-- 'laws.FnExactUnpackDirectory': WHATEVER THE INPUT: true; the input reads as it did. -/
def fnExactUnpackDirectorySpec : ChangeSpec := { name := "fnExactUnpackDirectory", fn := fun _ => fun
  | [d1, d2] => { results := [.lit (.bool true)], args := [d1, d2] }
  | _ => none }
def fnExactUnpackDirectoryRow : OpenClaim := { program := "ytmampgkhobbdcaa", sum := "d6a88f8d79bb1ba5dbf1f57b6f68c38b20392d5d642a5f3763fea2002ba3f86c", func := "loop.example/g01097/laws.FnExactUnpackDirectory", spec := "fnExactUnpackDirectory", apart := false }
def FnExactUnpackDirectorySaid : Prop := fnExactUnpackDirectoryRow.holds Try.pinned (OpenSpec.ofChange fnExactUnpackDirectorySpec)

/-- ITS FALSE NEIGHBOUR: 'it returns false'. Refute it at one input. -/
def fnExactUnpackDirectoryWrong : ChangeSpec := { name := "fnExactUnpackDirectory", fn := fun _ => fun
  | [d1, d2] => { results := [.lit (.bool false)], args := [d1, d2] }
  | _ => none }
def FnExactUnpackDirectoryWrongFalsely : Prop := fnExactUnpackDirectoryRow.holds Try.pinned (OpenSpec.ofChange fnExactUnpackDirectoryWrong)

/- THE SECOND FORM. 'bulk': how many values and letters a reading holds, each counted each time it is reached (what is shared counts as often as it is met; a slice's spare places count too). A statement '..UptoSaid' is the law's where the arguments, and the package variables that the reading takes, are together of bulk at most 1048576: NARROWER than '..Said'. Prove '..Said' where nothing that the law and all that it calls make is longer than what came in: it says more and counts as full. Else prove '..UptoSaid'. A law counts once. -/
mutual
def uptoBulk {H : Type} : DataW H → Nat
  | .lit (.string bytes) => bytes.length + 1
  | .lit _ => 1
  | .nil => 1
  | .ptr d => uptoBulk d + 1
  | .slice elems spare => uptoBulkAll elems + uptoBulkAll spare + 1
  | .agg parts => uptoBulkAll parts + 1
  | .iface _ d => uptoBulk d + 1
  | .map entries => uptoBulkEntries entries + 1
  | .held _ => 1
def uptoBulkAll {H : Type} : List (DataW H) → Nat
  | [] => 0
  | d :: r => uptoBulk d + uptoBulkAll r
def uptoBulkEntries {H : Type} : List (Lit × DataW H) → Nat
  | [] => 0
  | x :: r => uptoBulkEntry x + uptoBulkEntries r
def uptoBulkEntry {H : Type} : Lit × DataW H → Nat
  | (.string bytes, d) => bytes.length + uptoBulk d + 1
  | (_, d) => uptoBulk d + 1
 end
def uptoSmall : (H : Type) → List (DataW H) → Bool := fun _ ds => decide (uptoBulkAll ds ≤ 1048576)
def OpenSpec.upto (s : _root_.Go.ChangeSpec) : _root_.Go.OpenSpec := { _root_.Go.OpenSpec.ofChange s with cond := some uptoSmall }

/-- 'laws.FnExactBuildRanked', WHERE WHAT IT READS IS OF BULK AT MOST 1048576: true; the input reads as it did. -/
def fnExactBuildRankedUptoRow : OpenClaim := { program := "ytmampgkhobbdcaa", sum := "d6a88f8d79bb1ba5dbf1f57b6f68c38b20392d5d642a5f3763fea2002ba3f86c", func := "loop.example/g01097/laws.FnExactBuildRanked", spec := "fnExactBuildRanked", apart := false, narrowed := true }
def FnExactBuildRankedUptoSaid : Prop := fnExactBuildRankedUptoRow.holds Try.pinned (OpenSpec.upto fnExactBuildRankedSpec)

/-- 'laws.FnExactIsRanked', WHERE WHAT IT READS IS OF BULK AT MOST 1048576: true; the input reads as it did. -/
def fnExactIsRankedUptoRow : OpenClaim := { program := "ytmampgkhobbdcaa", sum := "d6a88f8d79bb1ba5dbf1f57b6f68c38b20392d5d642a5f3763fea2002ba3f86c", func := "loop.example/g01097/laws.FnExactIsRanked", spec := "fnExactIsRanked", apart := false, narrowed := true }
def FnExactIsRankedUptoSaid : Prop := fnExactIsRankedUptoRow.holds Try.pinned (OpenSpec.upto fnExactIsRankedSpec)

/-- 'laws.FnExactOnesOf', WHERE WHAT IT READS IS OF BULK AT MOST 1048576: true; the input reads as it did. -/
def fnExactOnesOfUptoRow : OpenClaim := { program := "ytmampgkhobbdcaa", sum := "d6a88f8d79bb1ba5dbf1f57b6f68c38b20392d5d642a5f3763fea2002ba3f86c", func := "loop.example/g01097/laws.FnExactOnesOf", spec := "fnExactOnesOf", unfollowed := true, recurses := true, apart := false, narrowed := true }
def FnExactOnesOfUptoSaid : Prop := fnExactOnesOfUptoRow.holds Try.pinned (OpenSpec.upto fnExactOnesOfSpec)

/-- 'laws.FnExactRank1', WHERE WHAT IT READS IS OF BULK AT MOST 1048576: true; the input reads as it did. -/
def fnExactRank1UptoRow : OpenClaim := { program := "ytmampgkhobbdcaa", sum := "d6a88f8d79bb1ba5dbf1f57b6f68c38b20392d5d642a5f3763fea2002ba3f86c", func := "loop.example/g01097/laws.FnExactRank1", spec := "fnExactRank1", unfollowed := true, recurses := true, apart := false, narrowed := true }
def FnExactRank1UptoSaid : Prop := fnExactRank1UptoRow.holds Try.pinned (OpenSpec.upto fnExactRank1Spec)

/-- 'laws.FnExactRank0', WHERE WHAT IT READS IS OF BULK AT MOST 1048576: true; the input reads as it did. -/
def fnExactRank0UptoRow : OpenClaim := { program := "ytmampgkhobbdcaa", sum := "d6a88f8d79bb1ba5dbf1f57b6f68c38b20392d5d642a5f3763fea2002ba3f86c", func := "loop.example/g01097/laws.FnExactRank0", spec := "fnExactRank0", unfollowed := true, recurses := true, apart := false, narrowed := true }
def FnExactRank0UptoSaid : Prop := fnExactRank0UptoRow.holds Try.pinned (OpenSpec.upto fnExactRank0Spec)

/-- 'laws.FnExactSelect1', WHERE WHAT IT READS IS OF BULK AT MOST 1048576: true; the input reads as it did. -/
def fnExactSelect1UptoRow : OpenClaim := { program := "ytmampgkhobbdcaa", sum := "d6a88f8d79bb1ba5dbf1f57b6f68c38b20392d5d642a5f3763fea2002ba3f86c", func := "loop.example/g01097/laws.FnExactSelect1", spec := "fnExactSelect1", unfollowed := true, recurses := true, apart := false, narrowed := true }
def FnExactSelect1UptoSaid : Prop := fnExactSelect1UptoRow.holds Try.pinned (OpenSpec.upto fnExactSelect1Spec)

/-- 'laws.FnExactSelect0', WHERE WHAT IT READS IS OF BULK AT MOST 1048576: true; the input reads as it did. -/
def fnExactSelect0UptoRow : OpenClaim := { program := "ytmampgkhobbdcaa", sum := "d6a88f8d79bb1ba5dbf1f57b6f68c38b20392d5d642a5f3763fea2002ba3f86c", func := "loop.example/g01097/laws.FnExactSelect0", spec := "fnExactSelect0", unfollowed := true, recurses := true, apart := false, narrowed := true }
def FnExactSelect0UptoSaid : Prop := fnExactSelect0UptoRow.holds Try.pinned (OpenSpec.upto fnExactSelect0Spec)

/-- 'laws.FnExactNextOne', WHERE WHAT IT READS IS OF BULK AT MOST 1048576: true; the input reads as it did. -/
def fnExactNextOneUptoRow : OpenClaim := { program := "ytmampgkhobbdcaa", sum := "d6a88f8d79bb1ba5dbf1f57b6f68c38b20392d5d642a5f3763fea2002ba3f86c", func := "loop.example/g01097/laws.FnExactNextOne", spec := "fnExactNextOne", unfollowed := true, recurses := true, apart := false, narrowed := true }
def FnExactNextOneUptoSaid : Prop := fnExactNextOneUptoRow.holds Try.pinned (OpenSpec.upto fnExactNextOneSpec)

/-- 'laws.FnExactLastOne', WHERE WHAT IT READS IS OF BULK AT MOST 1048576: true; the input reads as it did. -/
def fnExactLastOneUptoRow : OpenClaim := { program := "ytmampgkhobbdcaa", sum := "d6a88f8d79bb1ba5dbf1f57b6f68c38b20392d5d642a5f3763fea2002ba3f86c", func := "loop.example/g01097/laws.FnExactLastOne", spec := "fnExactLastOne", unfollowed := true, recurses := true, apart := false, narrowed := true }
def FnExactLastOneUptoSaid : Prop := fnExactLastOneUptoRow.holds Try.pinned (OpenSpec.upto fnExactLastOneSpec)

/-- 'laws.FnExactJoinRanked', WHERE WHAT IT READS IS OF BULK AT MOST 1048576: true; the input reads as it did. -/
def fnExactJoinRankedUptoRow : OpenClaim := { program := "ytmampgkhobbdcaa", sum := "d6a88f8d79bb1ba5dbf1f57b6f68c38b20392d5d642a5f3763fea2002ba3f86c", func := "loop.example/g01097/laws.FnExactJoinRanked", spec := "fnExactJoinRanked", apart := false, narrowed := true }
def FnExactJoinRankedUptoSaid : Prop := fnExactJoinRankedUptoRow.holds Try.pinned (OpenSpec.upto fnExactJoinRankedSpec)

/-- 'laws.FnExactDirectoryBits', WHERE WHAT IT READS IS OF BULK AT MOST 1048576: true; the input reads as it did. -/
def fnExactDirectoryBitsUptoRow : OpenClaim := { program := "ytmampgkhobbdcaa", sum := "d6a88f8d79bb1ba5dbf1f57b6f68c38b20392d5d642a5f3763fea2002ba3f86c", func := "loop.example/g01097/laws.FnExactDirectoryBits", spec := "fnExactDirectoryBits", apart := false, narrowed := true }
def FnExactDirectoryBitsUptoSaid : Prop := fnExactDirectoryBitsUptoRow.holds Try.pinned (OpenSpec.upto fnExactDirectoryBitsSpec)

/-- 'laws.FnExactPackDirectory', WHERE WHAT IT READS IS OF BULK AT MOST 1048576: true; the input reads as it did. -/
def fnExactPackDirectoryUptoRow : OpenClaim := { program := "ytmampgkhobbdcaa", sum := "d6a88f8d79bb1ba5dbf1f57b6f68c38b20392d5d642a5f3763fea2002ba3f86c", func := "loop.example/g01097/laws.FnExactPackDirectory", spec := "fnExactPackDirectory", apart := false, narrowed := true }
def FnExactPackDirectoryUptoSaid : Prop := fnExactPackDirectoryUptoRow.holds Try.pinned (OpenSpec.upto fnExactPackDirectorySpec)

/-- 'laws.FnExactUnpackDirectory', WHERE WHAT IT READS IS OF BULK AT MOST 1048576: true; the input reads as it did. -/
def fnExactUnpackDirectoryUptoRow : OpenClaim := { program := "ytmampgkhobbdcaa", sum := "d6a88f8d79bb1ba5dbf1f57b6f68c38b20392d5d642a5f3763fea2002ba3f86c", func := "loop.example/g01097/laws.FnExactUnpackDirectory", spec := "fnExactUnpackDirectory", apart := false, narrowed := true }
def FnExactUnpackDirectoryUptoSaid : Prop := fnExactUnpackDirectoryUptoRow.holds Try.pinned (OpenSpec.upto fnExactUnpackDirectorySpec)

end Rows
end Go.Proofs.Ytmampgkhobbdcaa
