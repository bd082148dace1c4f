/-
  No cell of these rows narrows 'for every input' (looked for: loops, veiled, ifaces, maps, wideKeys, modest, calm, conditions, laid).
  DERIVED. THE GIVEN ROWS OF THIS SEAT. 9 by the template 'for every input the law returns true; each argument reads behind the call as it read before'; 0 by the template 'total and deterministic' (their statements: YtijlpbcgkecinaaTotals.lean).
  GIVEN WITH THE SEED: the statements are not yours to turn. If you find one false, say at which input.
  Laid BY PROGRAM, IN A SANDBOX (cutbox-rows.mjs): the forced cells as the released guide's own fill.sh prints them over the translation 2b873700fb9bfe64… (all of the seat's roots in one cut). By AI agents, Wed Nov 11 2026. No macro, syntax, notation, axiom, sorry.
-/
import Derived.Test.YtijlpbcgkecinaaChecked
import GoSem.Claim
import GoSem.ClaimJoined
import GoSem.ClaimMapViews
import Derived.JoinedTies
import Derived.KernelRfl
namespace Go.Proofs.Ytijlpbcgkecinaa
/- THE CELL 'sum', in the pinned program and in every row, IS THE sha256 OF THE DUMP (.gsa) THAT YtijlpbcgkecinaaProg.lean LOADS. Nothing in Lean hashes anything: it is a label: what it is worth is what the hold of that sum in a sandbox is worth. -/
noncomputable def Try.pinned : Pinned := { name := "ytijlpbcgkecinaa", sum := "2b873700fb9bfe649606ca2af81e63cd048ab2168db9298f0361d42ec1ff0796", checked := Try.checked }
namespace Rows
def none {H : Type} : Left H := { results := [], args := [] }

/-- 'laws.FnExactIsSystem': WHATEVER THE INPUT: true; the input reads as it did. -/
def fnExactIsSystemSpec : ChangeSpec := { name := "fnExactIsSystem", fn := fun _ => fun
  | [d] => { results := [.lit (.bool true)], args := [d] }
  | _ => none }
def fnExactIsSystemRow : OpenClaim := { program := "ytijlpbcgkecinaa", sum := "2b873700fb9bfe649606ca2af81e63cd048ab2168db9298f0361d42ec1ff0796", func := "loop.example/g01097/laws.FnExactIsSystem", spec := "fnExactIsSystem", apart := false }
def FnExactIsSystemSaid : Prop := fnExactIsSystemRow.holds Try.pinned (OpenSpec.ofChange fnExactIsSystemSpec)

/-- ITS FALSE NEIGHBOUR: 'it returns false'. Refute it at one input. -/
def fnExactIsSystemWrong : ChangeSpec := { name := "fnExactIsSystem", fn := fun _ => fun
  | [d] => { results := [.lit (.bool false)], args := [d] }
  | _ => none }
def FnExactIsSystemWrongFalsely : Prop := fnExactIsSystemRow.holds Try.pinned (OpenSpec.ofChange fnExactIsSystemWrong)

/-- 'laws.FnExactSystemOf': WHATEVER THE INPUT: true; the input reads as it did. -/
def fnExactSystemOfSpec : ChangeSpec := { name := "fnExactSystemOf", fn := fun _ => fun
  | [d1, d2] => { results := [.lit (.bool true)], args := [d1, d2] }
  | _ => none }
def fnExactSystemOfRow : OpenClaim := { program := "ytijlpbcgkecinaa", sum := "2b873700fb9bfe649606ca2af81e63cd048ab2168db9298f0361d42ec1ff0796", func := "loop.example/g01097/laws.FnExactSystemOf", spec := "fnExactSystemOf", apart := false }
def FnExactSystemOfSaid : Prop := fnExactSystemOfRow.holds Try.pinned (OpenSpec.ofChange fnExactSystemOfSpec)

/-- ITS FALSE NEIGHBOUR: 'it returns false'. Refute it at one input. -/
def fnExactSystemOfWrong : ChangeSpec := { name := "fnExactSystemOf", fn := fun _ => fun
  | [d1, d2] => { results := [.lit (.bool false)], args := [d1, d2] }
  | _ => none }
def FnExactSystemOfWrongFalsely : Prop := fnExactSystemOfRow.holds Try.pinned (OpenSpec.ofChange fnExactSystemOfWrong)

/-- 'laws.FnExactIsSolution': WHATEVER THE INPUT: true; the input reads as it did. -/
def fnExactIsSolutionSpec : ChangeSpec := { name := "fnExactIsSolution", fn := fun _ => fun
  | [d1, d2] => { results := [.lit (.bool true)], args := [d1, d2] }
  | _ => none }
def fnExactIsSolutionRow : OpenClaim := { program := "ytijlpbcgkecinaa", sum := "2b873700fb9bfe649606ca2af81e63cd048ab2168db9298f0361d42ec1ff0796", func := "loop.example/g01097/laws.FnExactIsSolution", spec := "fnExactIsSolution", apart := false }
def FnExactIsSolutionSaid : Prop := fnExactIsSolutionRow.holds Try.pinned (OpenSpec.ofChange fnExactIsSolutionSpec)

/-- ITS FALSE NEIGHBOUR: 'it returns false'. Refute it at one input. -/
def fnExactIsSolutionWrong : ChangeSpec := { name := "fnExactIsSolution", fn := fun _ => fun
  | [d1, d2] => { results := [.lit (.bool false)], args := [d1, d2] }
  | _ => none }
def FnExactIsSolutionWrongFalsely : Prop := fnExactIsSolutionRow.holds Try.pinned (OpenSpec.ofChange fnExactIsSolutionWrong)

/-- 'laws.FnExactIsRefusal': WHATEVER THE INPUT: true; the input reads as it did. -/
def fnExactIsRefusalSpec : ChangeSpec := { name := "fnExactIsRefusal", fn := fun _ => fun
  | [d1, d2] => { results := [.lit (.bool true)], args := [d1, d2] }
  | _ => none }
def fnExactIsRefusalRow : OpenClaim := { program := "ytijlpbcgkecinaa", sum := "2b873700fb9bfe649606ca2af81e63cd048ab2168db9298f0361d42ec1ff0796", func := "loop.example/g01097/laws.FnExactIsRefusal", spec := "fnExactIsRefusal", apart := false }
def FnExactIsRefusalSaid : Prop := fnExactIsRefusalRow.holds Try.pinned (OpenSpec.ofChange fnExactIsRefusalSpec)

/-- ITS FALSE NEIGHBOUR: 'it returns false'. Refute it at one input. -/
def fnExactIsRefusalWrong : ChangeSpec := { name := "fnExactIsRefusal", fn := fun _ => fun
  | [d1, d2] => { results := [.lit (.bool false)], args := [d1, d2] }
  | _ => none }
def FnExactIsRefusalWrongFalsely : Prop := fnExactIsRefusalRow.holds Try.pinned (OpenSpec.ofChange fnExactIsRefusalWrong)

/-- 'laws.FnExactJoinSystems': WHATEVER THE INPUT: true; the input reads as it did. -/
def fnExactJoinSystemsSpec : ChangeSpec := { name := "fnExactJoinSystems", fn := fun _ => fun
  | [d1, d2] => { results := [.lit (.bool true)], args := [d1, d2] }
  | _ => none }
def fnExactJoinSystemsRow : OpenClaim := { program := "ytijlpbcgkecinaa", sum := "2b873700fb9bfe649606ca2af81e63cd048ab2168db9298f0361d42ec1ff0796", func := "loop.example/g01097/laws.FnExactJoinSystems", spec := "fnExactJoinSystems", apart := false }
def FnExactJoinSystemsSaid : Prop := fnExactJoinSystemsRow.holds Try.pinned (OpenSpec.ofChange fnExactJoinSystemsSpec)

/-- ITS FALSE NEIGHBOUR: 'it returns false'. Refute it at one input. -/
def fnExactJoinSystemsWrong : ChangeSpec := { name := "fnExactJoinSystems", fn := fun _ => fun
  | [d1, d2] => { results := [.lit (.bool false)], args := [d1, d2] }
  | _ => none }
def FnExactJoinSystemsWrongFalsely : Prop := fnExactJoinSystemsRow.holds Try.pinned (OpenSpec.ofChange fnExactJoinSystemsWrong)

/-- 'laws.FnExactRankOf': WHATEVER THE INPUT: true; the input reads as it did. -/
def fnExactRankOfSpec : ChangeSpec := { name := "fnExactRankOf", fn := fun _ => fun
  | [d] => { results := [.lit (.bool true)], args := [d] }
  | _ => none }
def fnExactRankOfRow : OpenClaim := { program := "ytijlpbcgkecinaa", sum := "2b873700fb9bfe649606ca2af81e63cd048ab2168db9298f0361d42ec1ff0796", func := "loop.example/g01097/laws.FnExactRankOf", spec := "fnExactRankOf", unfollowed := true, recurses := true, apart := false }
def FnExactRankOfSaid : Prop := fnExactRankOfRow.holds Try.pinned (OpenSpec.ofChange fnExactRankOfSpec)

/-- ITS FALSE NEIGHBOUR: 'it returns false'. Refute it at one input. -/
def fnExactRankOfWrong : ChangeSpec := { name := "fnExactRankOf", fn := fun _ => fun
  | [d] => { results := [.lit (.bool false)], args := [d] }
  | _ => none }
def FnExactRankOfWrongFalsely : Prop := fnExactRankOfRow.holds Try.pinned (OpenSpec.ofChange fnExactRankOfWrong)

/-- 'laws.FnExactFreeColumns': WHATEVER THE INPUT: true; the input reads as it did. -/
def fnExactFreeColumnsSpec : ChangeSpec := { name := "fnExactFreeColumns", fn := fun _ => fun
  | [d] => { results := [.lit (.bool true)], args := [d] }
  | _ => none }
def fnExactFreeColumnsRow : OpenClaim := { program := "ytijlpbcgkecinaa", sum := "2b873700fb9bfe649606ca2af81e63cd048ab2168db9298f0361d42ec1ff0796", func := "loop.example/g01097/laws.FnExactFreeColumns", spec := "fnExactFreeColumns", unfollowed := true, recurses := true, apart := false }
def FnExactFreeColumnsSaid : Prop := fnExactFreeColumnsRow.holds Try.pinned (OpenSpec.ofChange fnExactFreeColumnsSpec)

/-- ITS FALSE NEIGHBOUR: 'it returns false'. Refute it at one input. -/
def fnExactFreeColumnsWrong : ChangeSpec := { name := "fnExactFreeColumns", fn := fun _ => fun
  | [d] => { results := [.lit (.bool false)], args := [d] }
  | _ => none }
def FnExactFreeColumnsWrongFalsely : Prop := fnExactFreeColumnsRow.holds Try.pinned (OpenSpec.ofChange fnExactFreeColumnsWrong)

/-- 'laws.FnExactSolveSystem': WHATEVER THE INPUT: true; the input reads as it did. -/
def fnExactSolveSystemSpec : ChangeSpec := { name := "fnExactSolveSystem", fn := fun _ => fun
  | [d] => { results := [.lit (.bool true)], args := [d] }
  | _ => none }
def fnExactSolveSystemRow : OpenClaim := { program := "ytijlpbcgkecinaa", sum := "2b873700fb9bfe649606ca2af81e63cd048ab2168db9298f0361d42ec1ff0796", func := "loop.example/g01097/laws.FnExactSolveSystem", spec := "fnExactSolveSystem", unfollowed := true, recurses := true, apart := false }
def FnExactSolveSystemSaid : Prop := fnExactSolveSystemRow.holds Try.pinned (OpenSpec.ofChange fnExactSolveSystemSpec)

/-- ITS FALSE NEIGHBOUR: 'it returns false'. Refute it at one input. -/
def fnExactSolveSystemWrong : ChangeSpec := { name := "fnExactSolveSystem", fn := fun _ => fun
  | [d] => { results := [.lit (.bool false)], args := [d] }
  | _ => none }
def FnExactSolveSystemWrongFalsely : Prop := fnExactSolveSystemRow.holds Try.pinned (OpenSpec.ofChange fnExactSolveSystemWrong)

/-- 'laws.FnExactNullVectors': WHATEVER THE INPUT: true; the input reads as it did. -/
def fnExactNullVectorsSpec : ChangeSpec := { name := "fnExactNullVectors", fn := fun _ => fun
  | [d] => { results := [.lit (.bool true)], args := [d] }
  | _ => none }
def fnExactNullVectorsRow : OpenClaim := { program := "ytijlpbcgkecinaa", sum := "2b873700fb9bfe649606ca2af81e63cd048ab2168db9298f0361d42ec1ff0796", func := "loop.example/g01097/laws.FnExactNullVectors", spec := "fnExactNullVectors", unfollowed := true, recurses := true, apart := false }
def FnExactNullVectorsSaid : Prop := fnExactNullVectorsRow.holds Try.pinned (OpenSpec.ofChange fnExactNullVectorsSpec)

/-- ITS FALSE NEIGHBOUR: 'it returns false'. Refute it at one input. -/
def fnExactNullVectorsWrong : ChangeSpec := { name := "fnExactNullVectors", fn := fun _ => fun
  | [d] => { results := [.lit (.bool false)], args := [d] }
  | _ => none }
def FnExactNullVectorsWrongFalsely : Prop := fnExactNullVectorsRow.holds Try.pinned (OpenSpec.ofChange fnExactNullVectorsWrong)

/- THE SECOND FORM. 'bulk': how many values and letters a reading holds, each counted each time it is reached (what is shared counts as often as it is met; a slice's spare places count too). A statement '..UptoSaid' is the law's where the arguments, and the package variables that the reading takes, are together of bulk at most 1048576: NARROWER than '..Said'. Prove '..Said' where nothing that the law and all that it calls make is longer than what came in: it says more and counts as full. Else prove '..UptoSaid'. A law counts once. -/
mutual
def uptoBulk {H : Type} : DataW H → Nat
  | .lit (.string bytes) => bytes.length + 1
  | .lit _ => 1
  | .nil => 1
  | .ptr d => uptoBulk d + 1
  | .slice elems spare => uptoBulkAll elems + uptoBulkAll spare + 1
  | .agg parts => uptoBulkAll parts + 1
  | .iface _ d => uptoBulk d + 1
  | .map entries => uptoBulkEntries entries + 1
  | .held _ => 1
def uptoBulkAll {H : Type} : List (DataW H) → Nat
  | [] => 0
  | d :: r => uptoBulk d + uptoBulkAll r
def uptoBulkEntries {H : Type} : List (Lit × DataW H) → Nat
  | [] => 0
  | x :: r => uptoBulkEntry x + uptoBulkEntries r
def uptoBulkEntry {H : Type} : Lit × DataW H → Nat
  | (.string bytes, d) => bytes.length + uptoBulk d + 1
  | (_, d) => uptoBulk d + 1
 end
def uptoSmall : (H : Type) → List (DataW H) → Bool := fun _ ds => decide (uptoBulkAll ds ≤ 1048576)
def OpenSpec.upto (s : _root_.Go.ChangeSpec) : _root_.Go.OpenSpec := { _root_.Go.OpenSpec.ofChange s with cond := some uptoSmall }

/-- 'laws.FnExactIsSystem', WHERE WHAT IT READS IS OF BULK AT MOST 1048576: true; the input reads as it did. -/
def fnExactIsSystemUptoRow : OpenClaim := { program := "ytijlpbcgkecinaa", sum := "2b873700fb9bfe649606ca2af81e63cd048ab2168db9298f0361d42ec1ff0796", func := "loop.example/g01097/laws.FnExactIsSystem", spec := "fnExactIsSystem", apart := false, narrowed := true }
def FnExactIsSystemUptoSaid : Prop := fnExactIsSystemUptoRow.holds Try.pinned (OpenSpec.upto fnExactIsSystemSpec)

/-- 'laws.FnExactSystemOf', WHERE WHAT IT READS IS OF BULK AT MOST 1048576: true; the input reads as it did. -/
def fnExactSystemOfUptoRow : OpenClaim := { program := "ytijlpbcgkecinaa", sum := "2b873700fb9bfe649606ca2af81e63cd048ab2168db9298f0361d42ec1ff0796", func := "loop.example/g01097/laws.FnExactSystemOf", spec := "fnExactSystemOf", apart := false, narrowed := true }
def FnExactSystemOfUptoSaid : Prop := fnExactSystemOfUptoRow.holds Try.pinned (OpenSpec.upto fnExactSystemOfSpec)

/-- 'laws.FnExactIsSolution', WHERE WHAT IT READS IS OF BULK AT MOST 1048576: true; the input reads as it did. -/
def fnExactIsSolutionUptoRow : OpenClaim := { program := "ytijlpbcgkecinaa", sum := "2b873700fb9bfe649606ca2af81e63cd048ab2168db9298f0361d42ec1ff0796", func := "loop.example/g01097/laws.FnExactIsSolution", spec := "fnExactIsSolution", apart := false, narrowed := true }
def FnExactIsSolutionUptoSaid : Prop := fnExactIsSolutionUptoRow.holds Try.pinned (OpenSpec.upto fnExactIsSolutionSpec)

/-- 'laws.FnExactIsRefusal', WHERE WHAT IT READS IS OF BULK AT MOST 1048576: true; the input reads as it did. -/
def fnExactIsRefusalUptoRow : OpenClaim := { program := "ytijlpbcgkecinaa", sum := "2b873700fb9bfe649606ca2af81e63cd048ab2168db9298f0361d42ec1ff0796", func := "loop.example/g01097/laws.FnExactIsRefusal", spec := "fnExactIsRefusal", apart := false, narrowed := true }
def FnExactIsRefusalUptoSaid : Prop := fnExactIsRefusalUptoRow.holds Try.pinned (OpenSpec.upto fnExactIsRefusalSpec)

/-- 'laws.FnExactJoinSystems', WHERE WHAT IT READS IS OF BULK AT MOST 1048576: true; the input reads as it did. -/
def fnExactJoinSystemsUptoRow : OpenClaim := { program := "ytijlpbcgkecinaa", sum := "2b873700fb9bfe649606ca2af81e63cd048ab2168db9298f0361d42ec1ff0796", func := "loop.example/g01097/laws.FnExactJoinSystems", spec := "fnExactJoinSystems", apart := false, narrowed := true }
def FnExactJoinSystemsUptoSaid : Prop := fnExactJoinSystemsUptoRow.holds Try.pinned (OpenSpec.upto fnExactJoinSystemsSpec)

/-- 'laws.FnExactRankOf', WHERE WHAT IT READS IS OF BULK AT MOST 1048576: true; the input reads as it did. -/
def fnExactRankOfUptoRow : OpenClaim := { program := "ytijlpbcgkecinaa", sum := "2b873700fb9bfe649606ca2af81e63cd048ab2168db9298f0361d42ec1ff0796", func := "loop.example/g01097/laws.FnExactRankOf", spec := "fnExactRankOf", unfollowed := true, recurses := true, apart := false, narrowed := true }
def FnExactRankOfUptoSaid : Prop := fnExactRankOfUptoRow.holds Try.pinned (OpenSpec.upto fnExactRankOfSpec)

/-- 'laws.FnExactFreeColumns', WHERE WHAT IT READS IS OF BULK AT MOST 1048576: true; the input reads as it did. -/
def fnExactFreeColumnsUptoRow : OpenClaim := { program := "ytijlpbcgkecinaa", sum := "2b873700fb9bfe649606ca2af81e63cd048ab2168db9298f0361d42ec1ff0796", func := "loop.example/g01097/laws.FnExactFreeColumns", spec := "fnExactFreeColumns", unfollowed := true, recurses := true, apart := false, narrowed := true }
def FnExactFreeColumnsUptoSaid : Prop := fnExactFreeColumnsUptoRow.holds Try.pinned (OpenSpec.upto fnExactFreeColumnsSpec)

/-- 'laws.FnExactSolveSystem', WHERE WHAT IT READS IS OF BULK AT MOST 1048576: true; the input reads as it did. -/
def fnExactSolveSystemUptoRow : OpenClaim := { program := "ytijlpbcgkecinaa", sum := "2b873700fb9bfe649606ca2af81e63cd048ab2168db9298f0361d42ec1ff0796", func := "loop.example/g01097/laws.FnExactSolveSystem", spec := "fnExactSolveSystem", unfollowed := true, recurses := true, apart := false, narrowed := true }
def FnExactSolveSystemUptoSaid : Prop := fnExactSolveSystemUptoRow.holds Try.pinned (OpenSpec.upto fnExactSolveSystemSpec)

/-- 'laws.FnExactNullVectors', WHERE WHAT IT READS IS OF BULK AT MOST 1048576: true; the input reads as it did. -/
def fnExactNullVectorsUptoRow : OpenClaim := { program := "ytijlpbcgkecinaa", sum := "2b873700fb9bfe649606ca2af81e63cd048ab2168db9298f0361d42ec1ff0796", func := "loop.example/g01097/laws.FnExactNullVectors", spec := "fnExactNullVectors", unfollowed := true, recurses := true, apart := false, narrowed := true }
def FnExactNullVectorsUptoSaid : Prop := fnExactNullVectorsUptoRow.holds Try.pinned (OpenSpec.upto fnExactNullVectorsSpec)

end Rows
end Go.Proofs.Ytijlpbcgkecinaa
