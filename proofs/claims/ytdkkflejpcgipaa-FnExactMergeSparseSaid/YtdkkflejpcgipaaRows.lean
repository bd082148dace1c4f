/-
  No cell of these rows narrows 'for every input' (looked for: loops, veiled, ifaces, maps, wideKeys, modest, calm, conditions, laid).
  DERIVED. THE GIVEN ROWS OF THIS SEAT. 13 by the template 'for every input the law returns true; each argument reads behind the call as it read before'; 0 by the template 'total and deterministic' (their statements: YtdkkflejpcgipaaTotals.lean).
  GIVEN WITH THE SEED: the statements are not yours to turn. If you find one false, say at which input.
  Laid BY PROGRAM, IN A SANDBOX (cutbox-rows.mjs): the forced cells as the released guide's own fill.sh prints them over the translation a9757c8c780b1512… (all of the seat's roots in one cut). By AI agents, Wed Nov 11 2026. No macro, syntax, notation, axiom, sorry.
-/
import Derived.Test.YtdkkflejpcgipaaChecked
import GoSem.Claim
import GoSem.ClaimJoined
import GoSem.ClaimMapViews
import Derived.JoinedTies
import Derived.KernelRfl
namespace Go.Proofs.Ytdkkflejpcgipaa
/- THE CELL 'sum', in the pinned program and in every row, IS THE sha256 OF THE DUMP (.gsa) THAT YtdkkflejpcgipaaProg.lean LOADS. Nothing in Lean hashes anything: it is a label: what it is worth is what the hold of that sum in a sandbox is worth. -/
noncomputable def Try.pinned : Pinned := { name := "ytdkkflejpcgipaa", sum := "a9757c8c780b151261a31f6efc0cb68d0d6fa9a87f341533b1ebbaeadd8229f2", checked := Try.checked }
namespace Rows
def none {H : Type} : Left H := { results := [], args := [] }

/-- 'laws.FnExactWidthFor': WHATEVER THE INPUT: true; the input reads as it did. -/
def fnExactWidthForSpec : ChangeSpec := { name := "fnExactWidthFor", fn := fun _ => fun
  | [d1, d2] => { results := [.lit (.bool true)], args := [d1, d2] }
  | _ => none }
def fnExactWidthForRow : OpenClaim := { program := "ytdkkflejpcgipaa", sum := "a9757c8c780b151261a31f6efc0cb68d0d6fa9a87f341533b1ebbaeadd8229f2", func := "loop.example/g01097/laws.FnExactWidthFor", spec := "fnExactWidthFor", apart := false }
def FnExactWidthForSaid : Prop := fnExactWidthForRow.holds Try.pinned (OpenSpec.ofChange fnExactWidthForSpec)

/-- ITS FALSE NEIGHBOUR: 'it returns false'. Refute it at one input. -/
def fnExactWidthForWrong : ChangeSpec := { name := "fnExactWidthFor", fn := fun _ => fun
  | [d1, d2] => { results := [.lit (.bool false)], args := [d1, d2] }
  | _ => none }
def FnExactWidthForWrongFalsely : Prop := fnExactWidthForRow.holds Try.pinned (OpenSpec.ofChange fnExactWidthForWrong)

/-- 'laws.FnExactBuildSparse': WHATEVER THE INPUT: true; the input reads as it did. -/
def fnExactBuildSparseSpec : ChangeSpec := { name := "fnExactBuildSparse", fn := fun _ => fun
  | [d1, d2] => { results := [.lit (.bool true)], args := [d1, d2] }
  | _ => none }
def fnExactBuildSparseRow : OpenClaim := { program := "ytdkkflejpcgipaa", sum := "a9757c8c780b151261a31f6efc0cb68d0d6fa9a87f341533b1ebbaeadd8229f2", func := "loop.example/g01097/laws.FnExactBuildSparse", spec := "fnExactBuildSparse", apart := false }
def FnExactBuildSparseSaid : Prop := fnExactBuildSparseRow.holds Try.pinned (OpenSpec.ofChange fnExactBuildSparseSpec)

/-- ITS FALSE NEIGHBOUR: 'it returns false'. Refute it at one input. -/
def fnExactBuildSparseWrong : ChangeSpec := { name := "fnExactBuildSparse", fn := fun _ => fun
  | [d1, d2] => { results := [.lit (.bool false)], args := [d1, d2] }
  | _ => none }
def FnExactBuildSparseWrongFalsely : Prop := fnExactBuildSparseRow.holds Try.pinned (OpenSpec.ofChange fnExactBuildSparseWrong)

/-- 'laws.FnExactIsSparse': WHATEVER THE INPUT: true; the input reads as it did. -/
def fnExactIsSparseSpec : ChangeSpec := { name := "fnExactIsSparse", fn := fun _ => fun
  | [d] => { results := [.lit (.bool true)], args := [d] }
  | _ => none }
def fnExactIsSparseRow : OpenClaim := { program := "ytdkkflejpcgipaa", sum := "a9757c8c780b151261a31f6efc0cb68d0d6fa9a87f341533b1ebbaeadd8229f2", func := "loop.example/g01097/laws.FnExactIsSparse", spec := "fnExactIsSparse", apart := false }
def FnExactIsSparseSaid : Prop := fnExactIsSparseRow.holds Try.pinned (OpenSpec.ofChange fnExactIsSparseSpec)

/-- ITS FALSE NEIGHBOUR: 'it returns false'. Refute it at one input. -/
def fnExactIsSparseWrong : ChangeSpec := { name := "fnExactIsSparse", fn := fun _ => fun
  | [d] => { results := [.lit (.bool false)], args := [d] }
  | _ => none }
def FnExactIsSparseWrongFalsely : Prop := fnExactIsSparseRow.holds Try.pinned (OpenSpec.ofChange fnExactIsSparseWrong)

/-- 'laws.FnExactSparseAt': WHATEVER THE INPUT: true; the input reads as it did. -/
def fnExactSparseAtSpec : ChangeSpec := { name := "fnExactSparseAt", fn := fun _ => fun
  | [d1, d2] => { results := [.lit (.bool true)], args := [d1, d2] }
  | _ => none }
def fnExactSparseAtRow : OpenClaim := { program := "ytdkkflejpcgipaa", sum := "a9757c8c780b151261a31f6efc0cb68d0d6fa9a87f341533b1ebbaeadd8229f2", func := "loop.example/g01097/laws.FnExactSparseAt", spec := "fnExactSparseAt", apart := false }
def FnExactSparseAtSaid : Prop := fnExactSparseAtRow.holds Try.pinned (OpenSpec.ofChange fnExactSparseAtSpec)

/-- ITS FALSE NEIGHBOUR: 'it returns false'. Refute it at one input. -/
def fnExactSparseAtWrong : ChangeSpec := { name := "fnExactSparseAt", fn := fun _ => fun
  | [d1, d2] => { results := [.lit (.bool false)], args := [d1, d2] }
  | _ => none }
def FnExactSparseAtWrongFalsely : Prop := fnExactSparseAtRow.holds Try.pinned (OpenSpec.ofChange fnExactSparseAtWrong)

/-- 'laws.FnExactSparseList': WHATEVER THE INPUT: true; the input reads as it did. -/
def fnExactSparseListSpec : ChangeSpec := { name := "fnExactSparseList", fn := fun _ => fun
  | [d] => { results := [.lit (.bool true)], args := [d] }
  | _ => none }
def fnExactSparseListRow : OpenClaim := { program := "ytdkkflejpcgipaa", sum := "a9757c8c780b151261a31f6efc0cb68d0d6fa9a87f341533b1ebbaeadd8229f2", func := "loop.example/g01097/laws.FnExactSparseList", spec := "fnExactSparseList", apart := false }
def FnExactSparseListSaid : Prop := fnExactSparseListRow.holds Try.pinned (OpenSpec.ofChange fnExactSparseListSpec)

/-- ITS FALSE NEIGHBOUR: 'it returns false'. Refute it at one input. -/
def fnExactSparseListWrong : ChangeSpec := { name := "fnExactSparseList", fn := fun _ => fun
  | [d] => { results := [.lit (.bool false)], args := [d] }
  | _ => none }
def FnExactSparseListWrongFalsely : Prop := fnExactSparseListRow.holds Try.pinned (OpenSpec.ofChange fnExactSparseListWrong)

/-- 'laws.FnExactCountBelow': WHATEVER THE INPUT: true; the input reads as it did. -/
def fnExactCountBelowSpec : ChangeSpec := { name := "fnExactCountBelow", fn := fun _ => fun
  | [d1, d2] => { results := [.lit (.bool true)], args := [d1, d2] }
  | _ => none }
def fnExactCountBelowRow : OpenClaim := { program := "ytdkkflejpcgipaa", sum := "a9757c8c780b151261a31f6efc0cb68d0d6fa9a87f341533b1ebbaeadd8229f2", func := "loop.example/g01097/laws.FnExactCountBelow", spec := "fnExactCountBelow", apart := false }
def FnExactCountBelowSaid : Prop := fnExactCountBelowRow.holds Try.pinned (OpenSpec.ofChange fnExactCountBelowSpec)

/-- ITS FALSE NEIGHBOUR: 'it returns false'. Refute it at one input. -/
def fnExactCountBelowWrong : ChangeSpec := { name := "fnExactCountBelow", fn := fun _ => fun
  | [d1, d2] => { results := [.lit (.bool false)], args := [d1, d2] }
  | _ => none }
def FnExactCountBelowWrongFalsely : Prop := fnExactCountBelowRow.holds Try.pinned (OpenSpec.ofChange fnExactCountBelowWrong)

/-- 'laws.FnExactLastAtMost': WHATEVER THE INPUT: true; the input reads as it did. -/
def fnExactLastAtMostSpec : ChangeSpec := { name := "fnExactLastAtMost", fn := fun _ => fun
  | [d1, d2] => { results := [.lit (.bool true)], args := [d1, d2] }
  | _ => none }
def fnExactLastAtMostRow : OpenClaim := { program := "ytdkkflejpcgipaa", sum := "a9757c8c780b151261a31f6efc0cb68d0d6fa9a87f341533b1ebbaeadd8229f2", func := "loop.example/g01097/laws.FnExactLastAtMost", spec := "fnExactLastAtMost", apart := false }
def FnExactLastAtMostSaid : Prop := fnExactLastAtMostRow.holds Try.pinned (OpenSpec.ofChange fnExactLastAtMostSpec)

/-- ITS FALSE NEIGHBOUR: 'it returns false'. Refute it at one input. -/
def fnExactLastAtMostWrong : ChangeSpec := { name := "fnExactLastAtMost", fn := fun _ => fun
  | [d1, d2] => { results := [.lit (.bool false)], args := [d1, d2] }
  | _ => none }
def FnExactLastAtMostWrongFalsely : Prop := fnExactLastAtMostRow.holds Try.pinned (OpenSpec.ofChange fnExactLastAtMostWrong)

/-- 'laws.FnExactFirstAtLeast': WHATEVER THE INPUT: true; the input reads as it did. -/
def fnExactFirstAtLeastSpec : ChangeSpec := { name := "fnExactFirstAtLeast", fn := fun _ => fun
  | [d1, d2] => { results := [.lit (.bool true)], args := [d1, d2] }
  | _ => none }
def fnExactFirstAtLeastRow : OpenClaim := { program := "ytdkkflejpcgipaa", sum := "a9757c8c780b151261a31f6efc0cb68d0d6fa9a87f341533b1ebbaeadd8229f2", func := "loop.example/g01097/laws.FnExactFirstAtLeast", spec := "fnExactFirstAtLeast", apart := false }
def FnExactFirstAtLeastSaid : Prop := fnExactFirstAtLeastRow.holds Try.pinned (OpenSpec.ofChange fnExactFirstAtLeastSpec)

/-- ITS FALSE NEIGHBOUR: 'it returns false'. Refute it at one input. -/
def fnExactFirstAtLeastWrong : ChangeSpec := { name := "fnExactFirstAtLeast", fn := fun _ => fun
  | [d1, d2] => { results := [.lit (.bool false)], args := [d1, d2] }
  | _ => none }
def FnExactFirstAtLeastWrongFalsely : Prop := fnExactFirstAtLeastRow.holds Try.pinned (OpenSpec.ofChange fnExactFirstAtLeastWrong)

/-- 'laws.FnExactHasNumber': WHATEVER THE INPUT: true; the input reads as it did. -/
def fnExactHasNumberSpec : ChangeSpec := { name := "fnExactHasNumber", fn := fun _ => fun
  | [d1, d2] => { results := [.lit (.bool true)], args := [d1, d2] }
  | _ => none }
def fnExactHasNumberRow : OpenClaim := { program := "ytdkkflejpcgipaa", sum := "a9757c8c780b151261a31f6efc0cb68d0d6fa9a87f341533b1ebbaeadd8229f2", func := "loop.example/g01097/laws.FnExactHasNumber", spec := "fnExactHasNumber", apart := false }
def FnExactHasNumberSaid : Prop := fnExactHasNumberRow.holds Try.pinned (OpenSpec.ofChange fnExactHasNumberSpec)

/-- ITS FALSE NEIGHBOUR: 'it returns false'. Refute it at one input. -/
def fnExactHasNumberWrong : ChangeSpec := { name := "fnExactHasNumber", fn := fun _ => fun
  | [d1, d2] => { results := [.lit (.bool false)], args := [d1, d2] }
  | _ => none }
def FnExactHasNumberWrongFalsely : Prop := fnExactHasNumberRow.holds Try.pinned (OpenSpec.ofChange fnExactHasNumberWrong)

/-- 'laws.FnExactSparseBits': WHATEVER THE INPUT: true; the input reads as it did. -/
def fnExactSparseBitsSpec : ChangeSpec := { name := "fnExactSparseBits", fn := fun _ => fun
  | [d] => { results := [.lit (.bool true)], args := [d] }
  | _ => none }
def fnExactSparseBitsRow : OpenClaim := { program := "ytdkkflejpcgipaa", sum := "a9757c8c780b151261a31f6efc0cb68d0d6fa9a87f341533b1ebbaeadd8229f2", func := "loop.example/g01097/laws.FnExactSparseBits", spec := "fnExactSparseBits", apart := false }
def FnExactSparseBitsSaid : Prop := fnExactSparseBitsRow.holds Try.pinned (OpenSpec.ofChange fnExactSparseBitsSpec)

/-- ITS FALSE NEIGHBOUR: 'it returns false'. Refute it at one input. -/
def fnExactSparseBitsWrong : ChangeSpec := { name := "fnExactSparseBits", fn := fun _ => fun
  | [d] => { results := [.lit (.bool false)], args := [d] }
  | _ => none }
def FnExactSparseBitsWrongFalsely : Prop := fnExactSparseBitsRow.holds Try.pinned (OpenSpec.ofChange fnExactSparseBitsWrong)

/-- 'laws.FnExactSliceSparse': WHATEVER THE INPUT: true; the input reads as it did. -/
def fnExactSliceSparseSpec : ChangeSpec := { name := "fnExactSliceSparse", fn := fun _ => fun
  | [d1, d2, d3] => { results := [.lit (.bool true)], args := [d1, d2, d3] }
  | _ => none }
def fnExactSliceSparseRow : OpenClaim := { program := "ytdkkflejpcgipaa", sum := "a9757c8c780b151261a31f6efc0cb68d0d6fa9a87f341533b1ebbaeadd8229f2", func := "loop.example/g01097/laws.FnExactSliceSparse", spec := "fnExactSliceSparse", apart := false }
def FnExactSliceSparseSaid : Prop := fnExactSliceSparseRow.holds Try.pinned (OpenSpec.ofChange fnExactSliceSparseSpec)

/-- ITS FALSE NEIGHBOUR: 'it returns false'. Refute it at one input. -/
def fnExactSliceSparseWrong : ChangeSpec := { name := "fnExactSliceSparse", fn := fun _ => fun
  | [d1, d2, d3] => { results := [.lit (.bool false)], args := [d1, d2, d3] }
  | _ => none }
def FnExactSliceSparseWrongFalsely : Prop := fnExactSliceSparseRow.holds Try.pinned (OpenSpec.ofChange fnExactSliceSparseWrong)

/-- 'laws.FnExactMergeSparse': WHATEVER THE INPUT: true; the input reads as it did. -/
def fnExactMergeSparseSpec : ChangeSpec := { name := "fnExactMergeSparse", fn := fun _ => fun
  | [d1, d2] => { results := [.lit (.bool true)], args := [d1, d2] }
  | _ => none }
def fnExactMergeSparseRow : OpenClaim := { program := "ytdkkflejpcgipaa", sum := "a9757c8c780b151261a31f6efc0cb68d0d6fa9a87f341533b1ebbaeadd8229f2", func := "loop.example/g01097/laws.FnExactMergeSparse", spec := "fnExactMergeSparse", apart := false }
def FnExactMergeSparseSaid : Prop := fnExactMergeSparseRow.holds Try.pinned (OpenSpec.ofChange fnExactMergeSparseSpec)

/-- ITS FALSE NEIGHBOUR: 'it returns false'. Refute it at one input. -/
def fnExactMergeSparseWrong : ChangeSpec := { name := "fnExactMergeSparse", fn := fun _ => fun
  | [d1, d2] => { results := [.lit (.bool false)], args := [d1, d2] }
  | _ => none }
def FnExactMergeSparseWrongFalsely : Prop := fnExactMergeSparseRow.holds Try.pinned (OpenSpec.ofChange fnExactMergeSparseWrong)

/-- 'laws.FnExactMeetSparse': WHATEVER THE INPUT: true; the input reads as it did. -/
def fnExactMeetSparseSpec : ChangeSpec := { name := "fnExactMeetSparse", fn := fun _ => fun
  | [d1, d2] => { results := [.lit (.bool true)], args := [d1, d2] }
  | _ => none }
def fnExactMeetSparseRow : OpenClaim := { program := "ytdkkflejpcgipaa", sum := "a9757c8c780b151261a31f6efc0cb68d0d6fa9a87f341533b1ebbaeadd8229f2", func := "loop.example/g01097/laws.FnExactMeetSparse", spec := "fnExactMeetSparse", apart := false }
def FnExactMeetSparseSaid : Prop := fnExactMeetSparseRow.holds Try.pinned (OpenSpec.ofChange fnExactMeetSparseSpec)

/-- ITS FALSE NEIGHBOUR: 'it returns false'. Refute it at one input. -/
def fnExactMeetSparseWrong : ChangeSpec := { name := "fnExactMeetSparse", fn := fun _ => fun
  | [d1, d2] => { results := [.lit (.bool false)], args := [d1, d2] }
  | _ => none }
def FnExactMeetSparseWrongFalsely : Prop := fnExactMeetSparseRow.holds Try.pinned (OpenSpec.ofChange fnExactMeetSparseWrong)

/- THE SECOND FORM. 'bulk': how many values and letters a reading holds, each counted each time it is reached (what is shared counts as often as it is met; a slice's spare places count too). A statement '..UptoSaid' is the law's where the arguments, and the package variables that the reading takes, are together of bulk at most 1048576: NARROWER than '..Said'. Prove '..Said' where nothing that the law and all that it calls make is longer than what came in: it says more and counts as full. Else prove '..UptoSaid'. A law counts once. -/
mutual
def uptoBulk {H : Type} : DataW H → Nat
  | .lit (.string bytes) => bytes.length + 1
  | .lit _ => 1
  | .nil => 1
  | .ptr d => uptoBulk d + 1
  | .slice elems spare => uptoBulkAll elems + uptoBulkAll spare + 1
  | .agg parts => uptoBulkAll parts + 1
  | .iface _ d => uptoBulk d + 1
  | .map entries => uptoBulkEntries entries + 1
  | .held _ => 1
def uptoBulkAll {H : Type} : List (DataW H) → Nat
  | [] => 0
  | d :: r => uptoBulk d + uptoBulkAll r
def uptoBulkEntries {H : Type} : List (Lit × DataW H) → Nat
  | [] => 0
  | x :: r => uptoBulkEntry x + uptoBulkEntries r
def uptoBulkEntry {H : Type} : Lit × DataW H → Nat
  | (.string bytes, d) => bytes.length + uptoBulk d + 1
  | (_, d) => uptoBulk d + 1
 end
def uptoSmall : (H : Type) → List (DataW H) → Bool := fun _ ds => decide (uptoBulkAll ds ≤ 1048576)
def OpenSpec.upto (s : _root_.Go.ChangeSpec) : _root_.Go.OpenSpec := { _root_.Go.OpenSpec.ofChange s with cond := some uptoSmall }

/-- 'laws.FnExactWidthFor', WHERE WHAT IT READS IS OF BULK AT MOST 1048576: true; the input reads as it did. -/
def fnExactWidthForUptoRow : OpenClaim := { program := "ytdkkflejpcgipaa", sum := "a9757c8c780b151261a31f6efc0cb68d0d6fa9a87f341533b1ebbaeadd8229f2", func := "loop.example/g01097/laws.FnExactWidthFor", spec := "fnExactWidthFor", apart := false, narrowed := true }
def FnExactWidthForUptoSaid : Prop := fnExactWidthForUptoRow.holds Try.pinned (OpenSpec.upto fnExactWidthForSpec)

/-- 'laws.FnExactBuildSparse', WHERE WHAT IT READS IS OF BULK AT MOST 1048576: true; the input reads as it did. -/
def fnExactBuildSparseUptoRow : OpenClaim := { program := "ytdkkflejpcgipaa", sum := "a9757c8c780b151261a31f6efc0cb68d0d6fa9a87f341533b1ebbaeadd8229f2", func := "loop.example/g01097/laws.FnExactBuildSparse", spec := "fnExactBuildSparse", apart := false, narrowed := true }
def FnExactBuildSparseUptoSaid : Prop := fnExactBuildSparseUptoRow.holds Try.pinned (OpenSpec.upto fnExactBuildSparseSpec)

/-- 'laws.FnExactIsSparse', WHERE WHAT IT READS IS OF BULK AT MOST 1048576: true; the input reads as it did. -/
def fnExactIsSparseUptoRow : OpenClaim := { program := "ytdkkflejpcgipaa", sum := "a9757c8c780b151261a31f6efc0cb68d0d6fa9a87f341533b1ebbaeadd8229f2", func := "loop.example/g01097/laws.FnExactIsSparse", spec := "fnExactIsSparse", apart := false, narrowed := true }
def FnExactIsSparseUptoSaid : Prop := fnExactIsSparseUptoRow.holds Try.pinned (OpenSpec.upto fnExactIsSparseSpec)

/-- 'laws.FnExactSparseAt', WHERE WHAT IT READS IS OF BULK AT MOST 1048576: true; the input reads as it did. -/
def fnExactSparseAtUptoRow : OpenClaim := { program := "ytdkkflejpcgipaa", sum := "a9757c8c780b151261a31f6efc0cb68d0d6fa9a87f341533b1ebbaeadd8229f2", func := "loop.example/g01097/laws.FnExactSparseAt", spec := "fnExactSparseAt", apart := false, narrowed := true }
def FnExactSparseAtUptoSaid : Prop := fnExactSparseAtUptoRow.holds Try.pinned (OpenSpec.upto fnExactSparseAtSpec)

/-- 'laws.FnExactSparseList', WHERE WHAT IT READS IS OF BULK AT MOST 1048576: true; the input reads as it did. -/
def fnExactSparseListUptoRow : OpenClaim := { program := "ytdkkflejpcgipaa", sum := "a9757c8c780b151261a31f6efc0cb68d0d6fa9a87f341533b1ebbaeadd8229f2", func := "loop.example/g01097/laws.FnExactSparseList", spec := "fnExactSparseList", apart := false, narrowed := true }
def FnExactSparseListUptoSaid : Prop := fnExactSparseListUptoRow.holds Try.pinned (OpenSpec.upto fnExactSparseListSpec)

/-- 'laws.FnExactCountBelow', WHERE WHAT IT READS IS OF BULK AT MOST 1048576: true; the input reads as it did. -/
def fnExactCountBelowUptoRow : OpenClaim := { program := "ytdkkflejpcgipaa", sum := "a9757c8c780b151261a31f6efc0cb68d0d6fa9a87f341533b1ebbaeadd8229f2", func := "loop.example/g01097/laws.FnExactCountBelow", spec := "fnExactCountBelow", apart := false, narrowed := true }
def FnExactCountBelowUptoSaid : Prop := fnExactCountBelowUptoRow.holds Try.pinned (OpenSpec.upto fnExactCountBelowSpec)

/-- 'laws.FnExactLastAtMost', WHERE WHAT IT READS IS OF BULK AT MOST 1048576: true; the input reads as it did. -/
def fnExactLastAtMostUptoRow : OpenClaim := { program := "ytdkkflejpcgipaa", sum := "a9757c8c780b151261a31f6efc0cb68d0d6fa9a87f341533b1ebbaeadd8229f2", func := "loop.example/g01097/laws.FnExactLastAtMost", spec := "fnExactLastAtMost", apart := false, narrowed := true }
def FnExactLastAtMostUptoSaid : Prop := fnExactLastAtMostUptoRow.holds Try.pinned (OpenSpec.upto fnExactLastAtMostSpec)

/-- 'laws.FnExactFirstAtLeast', WHERE WHAT IT READS IS OF BULK AT MOST 1048576: true; the input reads as it did. -/
def fnExactFirstAtLeastUptoRow : OpenClaim := { program := "ytdkkflejpcgipaa", sum := "a9757c8c780b151261a31f6efc0cb68d0d6fa9a87f341533b1ebbaeadd8229f2", func := "loop.example/g01097/laws.FnExactFirstAtLeast", spec := "fnExactFirstAtLeast", apart := false, narrowed := true }
def FnExactFirstAtLeastUptoSaid : Prop := fnExactFirstAtLeastUptoRow.holds Try.pinned (OpenSpec.upto fnExactFirstAtLeastSpec)

/-- 'laws.FnExactHasNumber', WHERE WHAT IT READS IS OF BULK AT MOST 1048576: true; the input reads as it did. -/
def fnExactHasNumberUptoRow : OpenClaim := { program := "ytdkkflejpcgipaa", sum := "a9757c8c780b151261a31f6efc0cb68d0d6fa9a87f341533b1ebbaeadd8229f2", func := "loop.example/g01097/laws.FnExactHasNumber", spec := "fnExactHasNumber", apart := false, narrowed := true }
def FnExactHasNumberUptoSaid : Prop := fnExactHasNumberUptoRow.holds Try.pinned (OpenSpec.upto fnExactHasNumberSpec)

/-- 'laws.FnExactSparseBits', WHERE WHAT IT READS IS OF BULK AT MOST 1048576: true; the input reads as it did. -/
def fnExactSparseBitsUptoRow : OpenClaim := { program := "ytdkkflejpcgipaa", sum := "a9757c8c780b151261a31f6efc0cb68d0d6fa9a87f341533b1ebbaeadd8229f2", func := "loop.example/g01097/laws.FnExactSparseBits", spec := "fnExactSparseBits", apart := false, narrowed := true }
def FnExactSparseBitsUptoSaid : Prop := fnExactSparseBitsUptoRow.holds Try.pinned (OpenSpec.upto fnExactSparseBitsSpec)

/-- 'laws.FnExactSliceSparse', WHERE WHAT IT READS IS OF BULK AT MOST 1048576: true; the input reads as it did. -/
def fnExactSliceSparseUptoRow : OpenClaim := { program := "ytdkkflejpcgipaa", sum := "a9757c8c780b151261a31f6efc0cb68d0d6fa9a87f341533b1ebbaeadd8229f2", func := "loop.example/g01097/laws.FnExactSliceSparse", spec := "fnExactSliceSparse", apart := false, narrowed := true }
def FnExactSliceSparseUptoSaid : Prop := fnExactSliceSparseUptoRow.holds Try.pinned (OpenSpec.upto fnExactSliceSparseSpec)

/-- 'laws.FnExactMergeSparse', WHERE WHAT IT READS IS OF BULK AT MOST 1048576: true; the input reads as it did. -/
def fnExactMergeSparseUptoRow : OpenClaim := { program := "ytdkkflejpcgipaa", sum := "a9757c8c780b151261a31f6efc0cb68d0d6fa9a87f341533b1ebbaeadd8229f2", func := "loop.example/g01097/laws.FnExactMergeSparse", spec := "fnExactMergeSparse", apart := false, narrowed := true }
def FnExactMergeSparseUptoSaid : Prop := fnExactMergeSparseUptoRow.holds Try.pinned (OpenSpec.upto fnExactMergeSparseSpec)

/-- 'laws.FnExactMeetSparse', WHERE WHAT IT READS IS OF BULK AT MOST 1048576: true; the input reads as it did. -/
def fnExactMeetSparseUptoRow : OpenClaim := { program := "ytdkkflejpcgipaa", sum := "a9757c8c780b151261a31f6efc0cb68d0d6fa9a87f341533b1ebbaeadd8229f2", func := "loop.example/g01097/laws.FnExactMeetSparse", spec := "fnExactMeetSparse", apart := false, narrowed := true }
def FnExactMeetSparseUptoSaid : Prop := fnExactMeetSparseUptoRow.holds Try.pinned (OpenSpec.upto fnExactMeetSparseSpec)

end Rows
end Go.Proofs.Ytdkkflejpcgipaa
