/-
  No cell of these rows narrows 'for every input' (looked for: loops, veiled, ifaces, maps, wideKeys, modest, calm, conditions, laid).
  DERIVED. THE GIVEN ROWS OF THIS SEAT. 5 by the template 'for every input the law returns true; each argument reads behind the call as it read before'; 0 by the template 'total and deterministic' (their statements: YtffdkfhnlgfigaaTotals.lean).
  GIVEN WITH THE SEED: the statements are not yours to turn. If you find one false, say at which input.
  Laid BY PROGRAM, IN A SANDBOX (cutbox-rows.mjs): the forced cells as the released guide's own fill.sh prints them over the translation bdc807fb8763cc5c… (all of the seat's roots in one cut). By AI agents, Wed Nov 11 2026. No macro, syntax, notation, axiom, sorry.
-/
import Derived.Test.YtffdkfhnlgfigaaChecked
import GoSem.Claim
import GoSem.ClaimJoined
import GoSem.ClaimMapViews
import Derived.JoinedTies
import Derived.KernelRfl
namespace Go.Proofs.Ytffdkfhnlgfigaa
/- THE CELL 'sum', in the pinned program and in every row, IS THE sha256 OF THE DUMP (.gsa) THAT YtffdkfhnlgfigaaProg.lean LOADS. Nothing in Lean hashes anything: it is a label: what it is worth is what the hold of that sum in a sandbox is worth. -/
noncomputable def Try.pinned : Pinned := { name := "ytffdkfhnlgfigaa", sum := "bdc807fb8763cc5ca193e3da2d30259e8ddad20f78b76177fe455463a99e6558", checked := Try.checked }
namespace Rows
def none {H : Type} : Left H := { results := [], args := [] }

/-- 'laws.FnWidths': WHATEVER THE INPUT: true; the input reads as it did. -/
def fnWidthsSpec : ChangeSpec := { name := "fnWidths", fn := fun _ => fun
  | [d1, d2] => { results := [.lit (.bool true)], args := [d1, d2] }
  | _ => none }
def fnWidthsRow : OpenClaim := { program := "ytffdkfhnlgfigaa", sum := "bdc807fb8763cc5ca193e3da2d30259e8ddad20f78b76177fe455463a99e6558", func := "loop.example/g01097/laws.FnWidths", spec := "fnWidths", apart := false }
def FnWidthsSaid : Prop := fnWidthsRow.holds Try.pinned (OpenSpec.ofChange fnWidthsSpec)

/-- ITS FALSE NEIGHBOUR: 'it returns false'. Refute it at one input. -/
def fnWidthsWrong : ChangeSpec := { name := "fnWidths", fn := fun _ => fun
  | [d1, d2] => { results := [.lit (.bool false)], args := [d1, d2] }
  | _ => none }
def FnWidthsWrongFalsely : Prop := fnWidthsRow.holds Try.pinned (OpenSpec.ofChange fnWidthsWrong)

/-- 'laws.FnExactIsRefusal': WHATEVER THE INPUT: true; the input reads as it did. -/
def fnExactIsRefusalSpec : ChangeSpec := { name := "fnExactIsRefusal", fn := fun _ => fun
  | [d1, d2] => { results := [.lit (.bool true)], args := [d1, d2] }
  | _ => none }
def fnExactIsRefusalRow : OpenClaim := { program := "ytffdkfhnlgfigaa", sum := "bdc807fb8763cc5ca193e3da2d30259e8ddad20f78b76177fe455463a99e6558", func := "loop.example/g01097/laws.FnExactIsRefusal", spec := "fnExactIsRefusal", apart := false }
def FnExactIsRefusalSaid : Prop := fnExactIsRefusalRow.holds Try.pinned (OpenSpec.ofChange fnExactIsRefusalSpec)

/-- ITS FALSE NEIGHBOUR: 'it returns false'. Refute it at one input. -/
def fnExactIsRefusalWrong : ChangeSpec := { name := "fnExactIsRefusal", fn := fun _ => fun
  | [d1, d2] => { results := [.lit (.bool false)], args := [d1, d2] }
  | _ => none }
def FnExactIsRefusalWrongFalsely : Prop := fnExactIsRefusalRow.holds Try.pinned (OpenSpec.ofChange fnExactIsRefusalWrong)

/-- 'laws.FnExactJoinSystems': WHATEVER THE INPUT: true; the input reads as it did. -/
def fnExactJoinSystemsSpec : ChangeSpec := { name := "fnExactJoinSystems", fn := fun _ => fun
  | [d1, d2] => { results := [.lit (.bool true)], args := [d1, d2] }
  | _ => none }
def fnExactJoinSystemsRow : OpenClaim := { program := "ytffdkfhnlgfigaa", sum := "bdc807fb8763cc5ca193e3da2d30259e8ddad20f78b76177fe455463a99e6558", func := "loop.example/g01097/laws.FnExactJoinSystems", spec := "fnExactJoinSystems", apart := false }
def FnExactJoinSystemsSaid : Prop := fnExactJoinSystemsRow.holds Try.pinned (OpenSpec.ofChange fnExactJoinSystemsSpec)

/-- ITS FALSE NEIGHBOUR: 'it returns false'. Refute it at one input. -/
def fnExactJoinSystemsWrong : ChangeSpec := { name := "fnExactJoinSystems", fn := fun _ => fun
  | [d1, d2] => { results := [.lit (.bool false)], args := [d1, d2] }
  | _ => none }
def FnExactJoinSystemsWrongFalsely : Prop := fnExactJoinSystemsRow.holds Try.pinned (OpenSpec.ofChange fnExactJoinSystemsWrong)

/-- 'laws.FnExactMeetSparse': WHATEVER THE INPUT: true; the input reads as it did. -/
def fnExactMeetSparseSpec : ChangeSpec := { name := "fnExactMeetSparse", fn := fun _ => fun
  | [d1, d2] => { results := [.lit (.bool true)], args := [d1, d2] }
  | _ => none }
def fnExactMeetSparseRow : OpenClaim := { program := "ytffdkfhnlgfigaa", sum := "bdc807fb8763cc5ca193e3da2d30259e8ddad20f78b76177fe455463a99e6558", func := "loop.example/g01097/laws.FnExactMeetSparse", spec := "fnExactMeetSparse", apart := false }
def FnExactMeetSparseSaid : Prop := fnExactMeetSparseRow.holds Try.pinned (OpenSpec.ofChange fnExactMeetSparseSpec)

/-- ITS FALSE NEIGHBOUR: 'it returns false'. Refute it at one input. -/
def fnExactMeetSparseWrong : ChangeSpec := { name := "fnExactMeetSparse", fn := fun _ => fun
  | [d1, d2] => { results := [.lit (.bool false)], args := [d1, d2] }
  | _ => none }
def FnExactMeetSparseWrongFalsely : Prop := fnExactMeetSparseRow.holds Try.pinned (OpenSpec.ofChange fnExactMeetSparseWrong)

/-- 'laws.FnExactIsCrowd': WHATEVER THE INPUT: true; the input reads as it did. -/
def fnExactIsCrowdSpec : ChangeSpec := { name := "fnExactIsCrowd", fn := fun _ => fun
  | [d1, d2, d3, d4] => { results := [.lit (.bool true)], args := [d1, d2, d3, d4] }
  | _ => none }
def fnExactIsCrowdRow : OpenClaim := { program := "ytffdkfhnlgfigaa", sum := "bdc807fb8763cc5ca193e3da2d30259e8ddad20f78b76177fe455463a99e6558", func := "loop.example/g01097/laws.FnExactIsCrowd", spec := "fnExactIsCrowd", apart := false }
def FnExactIsCrowdSaid : Prop := fnExactIsCrowdRow.holds Try.pinned (OpenSpec.ofChange fnExactIsCrowdSpec)

/-- ITS FALSE NEIGHBOUR: 'it returns false'. Refute it at one input. -/
def fnExactIsCrowdWrong : ChangeSpec := { name := "fnExactIsCrowd", fn := fun _ => fun
  | [d1, d2, d3, d4] => { results := [.lit (.bool false)], args := [d1, d2, d3, d4] }
  | _ => none }
def FnExactIsCrowdWrongFalsely : Prop := fnExactIsCrowdRow.holds Try.pinned (OpenSpec.ofChange fnExactIsCrowdWrong)

/- THE SECOND FORM. 'bulk': how many values and letters a reading holds, each counted each time it is reached (what is shared counts as often as it is met; a slice's spare places count too). A statement '..UptoSaid' is the law's where the arguments, and the package variables that the reading takes, are together of bulk at most 1048576: NARROWER than '..Said'. Prove '..Said' where nothing that the law and all that it calls make is longer than what came in: it says more and counts as full. Else prove '..UptoSaid'. A law counts once. -/
mutual
def uptoBulk {H : Type} : DataW H → Nat
  | .lit (.string bytes) => bytes.length + 1
  | .lit _ => 1
  | .nil => 1
  | .ptr d => uptoBulk d + 1
  | .slice elems spare => uptoBulkAll elems + uptoBulkAll spare + 1
  | .agg parts => uptoBulkAll parts + 1
  | .iface _ d => uptoBulk d + 1
  | .map entries => uptoBulkEntries entries + 1
  | .held _ => 1
def uptoBulkAll {H : Type} : List (DataW H) → Nat
  | [] => 0
  | d :: r => uptoBulk d + uptoBulkAll r
def uptoBulkEntries {H : Type} : List (Lit × DataW H) → Nat
  | [] => 0
  | x :: r => uptoBulkEntry x + uptoBulkEntries r
def uptoBulkEntry {H : Type} : Lit × DataW H → Nat
  | (.string bytes, d) => bytes.length + uptoBulk d + 1
  | (_, d) => uptoBulk d + 1
 end
def uptoSmall : (H : Type) → List (DataW H) → Bool := fun _ ds => decide (uptoBulkAll ds ≤ 1048576)
def OpenSpec.upto (s : _root_.Go.ChangeSpec) : _root_.Go.OpenSpec := { _root_.Go.OpenSpec.ofChange s with cond := some uptoSmall }

/-- 'laws.FnWidths', WHERE WHAT IT READS IS OF BULK AT MOST 1048576: true; the input reads as it did. -/
def fnWidthsUptoRow : OpenClaim := { program := "ytffdkfhnlgfigaa", sum := "bdc807fb8763cc5ca193e3da2d30259e8ddad20f78b76177fe455463a99e6558", func := "loop.example/g01097/laws.FnWidths", spec := "fnWidths", apart := false, narrowed := true }
def FnWidthsUptoSaid : Prop := fnWidthsUptoRow.holds Try.pinned (OpenSpec.upto fnWidthsSpec)

/-- 'laws.FnExactIsRefusal', WHERE WHAT IT READS IS OF BULK AT MOST 1048576: true; the input reads as it did. -/
def fnExactIsRefusalUptoRow : OpenClaim := { program := "ytffdkfhnlgfigaa", sum := "bdc807fb8763cc5ca193e3da2d30259e8ddad20f78b76177fe455463a99e6558", func := "loop.example/g01097/laws.FnExactIsRefusal", spec := "fnExactIsRefusal", apart := false, narrowed := true }
def FnExactIsRefusalUptoSaid : Prop := fnExactIsRefusalUptoRow.holds Try.pinned (OpenSpec.upto fnExactIsRefusalSpec)

/-- 'laws.FnExactJoinSystems', WHERE WHAT IT READS IS OF BULK AT MOST 1048576: true; the input reads as it did. -/
def fnExactJoinSystemsUptoRow : OpenClaim := { program := "ytffdkfhnlgfigaa", sum := "bdc807fb8763cc5ca193e3da2d30259e8ddad20f78b76177fe455463a99e6558", func := "loop.example/g01097/laws.FnExactJoinSystems", spec := "fnExactJoinSystems", apart := false, narrowed := true }
def FnExactJoinSystemsUptoSaid : Prop := fnExactJoinSystemsUptoRow.holds Try.pinned (OpenSpec.upto fnExactJoinSystemsSpec)

/-- 'laws.FnExactMeetSparse', WHERE WHAT IT READS IS OF BULK AT MOST 1048576: true; the input reads as it did. -/
def fnExactMeetSparseUptoRow : OpenClaim := { program := "ytffdkfhnlgfigaa", sum := "bdc807fb8763cc5ca193e3da2d30259e8ddad20f78b76177fe455463a99e6558", func := "loop.example/g01097/laws.FnExactMeetSparse", spec := "fnExactMeetSparse", apart := false, narrowed := true }
def FnExactMeetSparseUptoSaid : Prop := fnExactMeetSparseUptoRow.holds Try.pinned (OpenSpec.upto fnExactMeetSparseSpec)

/-- 'laws.FnExactIsCrowd', WHERE WHAT IT READS IS OF BULK AT MOST 1048576: true; the input reads as it did. -/
def fnExactIsCrowdUptoRow : OpenClaim := { program := "ytffdkfhnlgfigaa", sum := "bdc807fb8763cc5ca193e3da2d30259e8ddad20f78b76177fe455463a99e6558", func := "loop.example/g01097/laws.FnExactIsCrowd", spec := "fnExactIsCrowd", apart := false, narrowed := true }
def FnExactIsCrowdUptoSaid : Prop := fnExactIsCrowdUptoRow.holds Try.pinned (OpenSpec.upto fnExactIsCrowdSpec)

end Rows
end Go.Proofs.Ytffdkfhnlgfigaa
