/-
  No cell of these rows narrows 'for every input' (looked for: loops, veiled, ifaces, maps, wideKeys, modest, calm, conditions, laid).
  DERIVED. THE GIVEN ROWS OF THIS SEAT. 6 by the template 'for every input the law returns true; each argument reads behind the call as it read before'; 0 by the template 'total and deterministic' (their statements: YtbflgbmobbbebaaTotals.lean).
  GIVEN WITH THE SEED: the statements are not yours to turn. If you find one false, say at which input.
  Laid BY PROGRAM, IN A SANDBOX (cutbox-rows.mjs): the forced cells as the released guide's own fill.sh prints them over the translation a0bd881a3f07bc03… (all of the seat's roots in one cut). By AI agents, Wed Nov 11 2026. No macro, syntax, notation, axiom, sorry.
-/
import Derived.Test.YtbflgbmobbbebaaChecked
import GoSem.Claim
import GoSem.ClaimJoined
import GoSem.ClaimMapViews
import Derived.JoinedTies
import Derived.KernelRfl
namespace Go.Proofs.Ytbflgbmobbbebaa
/- THE CELL 'sum', in the pinned program and in every row, IS THE sha256 OF THE DUMP (.gsa) THAT YtbflgbmobbbebaaProg.lean LOADS. Nothing in Lean hashes anything: it is a label: what it is worth is what the hold of that sum in a sandbox is worth. -/
noncomputable def Try.pinned : Pinned := { name := "ytbflgbmobbbebaa", sum := "a0bd881a3f07bc036db2491bf53d3e7112ca4f48cfdff344df5eedbe25650e6e", checked := Try.checked }
namespace Rows
def none {H : Type} : Left H := { results := [], args := [] }

/-- 'laws.FnRankUndoesSelect': WHATEVER THE INPUT: true; the input reads as it did. -/
def fnRankUndoesSelectSpec : ChangeSpec := { name := "fnRankUndoesSelect", fn := fun _ => fun
  | [d1, d2] => { results := [.lit (.bool true)], args := [d1, d2] }
  | _ => none }
def fnRankUndoesSelectRow : OpenClaim := { program := "ytbflgbmobbbebaa", sum := "a0bd881a3f07bc036db2491bf53d3e7112ca4f48cfdff344df5eedbe25650e6e", func := "loop.example/g01097/laws.FnRankUndoesSelect", spec := "fnRankUndoesSelect", unfollowed := true, recurses := true, apart := false }
def FnRankUndoesSelectSaid : Prop := fnRankUndoesSelectRow.holds Try.pinned (OpenSpec.ofChange fnRankUndoesSelectSpec)

/-- ITS FALSE NEIGHBOUR: 'it returns false'. Refute it at one input. -/
def fnRankUndoesSelectWrong : ChangeSpec := { name := "fnRankUndoesSelect", fn := fun _ => fun
  | [d1, d2] => { results := [.lit (.bool false)], args := [d1, d2] }
  | _ => none }
def FnRankUndoesSelectWrongFalsely : Prop := fnRankUndoesSelectRow.holds Try.pinned (OpenSpec.ofChange fnRankUndoesSelectWrong)

/-- 'laws.FnNeighboursOfRank': WHATEVER THE INPUT: true; the input reads as it did. -/
def fnNeighboursOfRankSpec : ChangeSpec := { name := "fnNeighboursOfRank", fn := fun _ => fun
  | [d1, d2] => { results := [.lit (.bool true)], args := [d1, d2] }
  | _ => none }
def fnNeighboursOfRankRow : OpenClaim := { program := "ytbflgbmobbbebaa", sum := "a0bd881a3f07bc036db2491bf53d3e7112ca4f48cfdff344df5eedbe25650e6e", func := "loop.example/g01097/laws.FnNeighboursOfRank", spec := "fnNeighboursOfRank", unfollowed := true, recurses := true, apart := false }
def FnNeighboursOfRankSaid : Prop := fnNeighboursOfRankRow.holds Try.pinned (OpenSpec.ofChange fnNeighboursOfRankSpec)

/-- ITS FALSE NEIGHBOUR: 'it returns false'. Refute it at one input. -/
def fnNeighboursOfRankWrong : ChangeSpec := { name := "fnNeighboursOfRank", fn := fun _ => fun
  | [d1, d2] => { results := [.lit (.bool false)], args := [d1, d2] }
  | _ => none }
def FnNeighboursOfRankWrongFalsely : Prop := fnNeighboursOfRankRow.holds Try.pinned (OpenSpec.ofChange fnNeighboursOfRankWrong)

/-- 'laws.FnRanksJoin': WHATEVER THE INPUT: true; the input reads as it did. -/
def fnRanksJoinSpec : ChangeSpec := { name := "fnRanksJoin", fn := fun _ => fun
  | [d1, d2] => { results := [.lit (.bool true)], args := [d1, d2] }
  | _ => none }
def fnRanksJoinRow : OpenClaim := { program := "ytbflgbmobbbebaa", sum := "a0bd881a3f07bc036db2491bf53d3e7112ca4f48cfdff344df5eedbe25650e6e", func := "loop.example/g01097/laws.FnRanksJoin", spec := "fnRanksJoin", unfollowed := true, recurses := true, apart := false }
def FnRanksJoinSaid : Prop := fnRanksJoinRow.holds Try.pinned (OpenSpec.ofChange fnRanksJoinSpec)

/-- ITS FALSE NEIGHBOUR: 'it returns false'. Refute it at one input. -/
def fnRanksJoinWrong : ChangeSpec := { name := "fnRanksJoin", fn := fun _ => fun
  | [d1, d2] => { results := [.lit (.bool false)], args := [d1, d2] }
  | _ => none }
def FnRanksJoinWrongFalsely : Prop := fnRanksJoinRow.holds Try.pinned (OpenSpec.ofChange fnRanksJoinWrong)

/-- 'laws.FnDirectoriesArePacked': WHATEVER THE INPUT: true; the input reads as it did. -/
def fnDirectoriesArePackedSpec : ChangeSpec := { name := "fnDirectoriesArePacked", fn := fun _ => fun
  | [d1, d2] => { results := [.lit (.bool true)], args := [d1, d2] }
  | _ => none }
def fnDirectoriesArePackedRow : OpenClaim := { program := "ytbflgbmobbbebaa", sum := "a0bd881a3f07bc036db2491bf53d3e7112ca4f48cfdff344df5eedbe25650e6e", func := "loop.example/g01097/laws.FnDirectoriesArePacked", spec := "fnDirectoriesArePacked", apart := false }
def FnDirectoriesArePackedSaid : Prop := fnDirectoriesArePackedRow.holds Try.pinned (OpenSpec.ofChange fnDirectoriesArePackedSpec)

/-- ITS FALSE NEIGHBOUR: 'it returns false'. Refute it at one input. -/
def fnDirectoriesArePackedWrong : ChangeSpec := { name := "fnDirectoriesArePacked", fn := fun _ => fun
  | [d1, d2] => { results := [.lit (.bool false)], args := [d1, d2] }
  | _ => none }
def FnDirectoriesArePackedWrongFalsely : Prop := fnDirectoriesArePackedRow.holds Try.pinned (OpenSpec.ofChange fnDirectoriesArePackedWrong)

/-- 'laws.FnParenthesesMatch': WHATEVER THE INPUT: true; the input reads as it did. -/
def fnParenthesesMatchSpec : ChangeSpec := { name := "fnParenthesesMatch", fn := fun _ => fun
  | [d1, d2] => { results := [.lit (.bool true)], args := [d1, d2] }
  | _ => none }
def fnParenthesesMatchRow : OpenClaim := { program := "ytbflgbmobbbebaa", sum := "a0bd881a3f07bc036db2491bf53d3e7112ca4f48cfdff344df5eedbe25650e6e", func := "loop.example/g01097/laws.FnParenthesesMatch", spec := "fnParenthesesMatch", apart := false }
def FnParenthesesMatchSaid : Prop := fnParenthesesMatchRow.holds Try.pinned (OpenSpec.ofChange fnParenthesesMatchSpec)

/-- ITS FALSE NEIGHBOUR: 'it returns false'. Refute it at one input. -/
def fnParenthesesMatchWrong : ChangeSpec := { name := "fnParenthesesMatch", fn := fun _ => fun
  | [d1, d2] => { results := [.lit (.bool false)], args := [d1, d2] }
  | _ => none }
def FnParenthesesMatchWrongFalsely : Prop := fnParenthesesMatchRow.holds Try.pinned (OpenSpec.ofChange fnParenthesesMatchWrong)

/-- 'laws.FnTreesAreParentheses': WHATEVER THE INPUT: true; the input reads as it did. -/
def fnTreesAreParenthesesSpec : ChangeSpec := { name := "fnTreesAreParentheses", fn := fun _ => fun
  | [d1, d2] => { results := [.lit (.bool true)], args := [d1, d2] }
  | _ => none }
def fnTreesAreParenthesesRow : OpenClaim := { program := "ytbflgbmobbbebaa", sum := "a0bd881a3f07bc036db2491bf53d3e7112ca4f48cfdff344df5eedbe25650e6e", func := "loop.example/g01097/laws.FnTreesAreParentheses", spec := "fnTreesAreParentheses", unfollowed := true, recurses := true, apart := false }
def FnTreesAreParenthesesSaid : Prop := fnTreesAreParenthesesRow.holds Try.pinned (OpenSpec.ofChange fnTreesAreParenthesesSpec)

/-- ITS FALSE NEIGHBOUR: 'it returns false'. Refute it at one input. -/
def fnTreesAreParenthesesWrong : ChangeSpec := { name := "fnTreesAreParentheses", fn := fun _ => fun
  | [d1, d2] => { results := [.lit (.bool false)], args := [d1, d2] }
  | _ => none }
def FnTreesAreParenthesesWrongFalsely : Prop := fnTreesAreParenthesesRow.holds Try.pinned (OpenSpec.ofChange fnTreesAreParenthesesWrong)

/- THE SECOND FORM. 'bulk': how many values and letters a reading holds, each counted each time it is reached (what is shared counts as often as it is met; a slice's spare places count too). A statement '..UptoSaid' is the law's where the arguments, and the package variables that the reading takes, are together of bulk at most 1048576: NARROWER than '..Said'. Prove '..Said' where nothing that the law and all that it calls make is longer than what came in: it says more and counts as full. Else prove '..UptoSaid'. A law counts once. -/
mutual
def uptoBulk {H : Type} : DataW H → Nat
  | .lit (.string bytes) => bytes.length + 1
  | .lit _ => 1
  | .nil => 1
  | .ptr d => uptoBulk d + 1
  | .slice elems spare => uptoBulkAll elems + uptoBulkAll spare + 1
  | .agg parts => uptoBulkAll parts + 1
  | .iface _ d => uptoBulk d + 1
  | .map entries => uptoBulkEntries entries + 1
  | .held _ => 1
def uptoBulkAll {H : Type} : List (DataW H) → Nat
  | [] => 0
  | d :: r => uptoBulk d + uptoBulkAll r
def uptoBulkEntries {H : Type} : List (Lit × DataW H) → Nat
  | [] => 0
  | x :: r => uptoBulkEntry x + uptoBulkEntries r
def uptoBulkEntry {H : Type} : Lit × DataW H → Nat
  | (.string bytes, d) => bytes.length + uptoBulk d + 1
  | (_, d) => uptoBulk d + 1
 end
def uptoSmall : (H : Type) → List (DataW H) → Bool := fun _ ds => decide (uptoBulkAll ds ≤ 1048576)
def OpenSpec.upto (s : _root_.Go.ChangeSpec) : _root_.Go.OpenSpec := { _root_.Go.OpenSpec.ofChange s with cond := some uptoSmall }

/-- 'laws.FnRankUndoesSelect', WHERE WHAT IT READS IS OF BULK AT MOST 1048576: true; the input reads as it did. -/
def fnRankUndoesSelectUptoRow : OpenClaim := { program := "ytbflgbmobbbebaa", sum := "a0bd881a3f07bc036db2491bf53d3e7112ca4f48cfdff344df5eedbe25650e6e", func := "loop.example/g01097/laws.FnRankUndoesSelect", spec := "fnRankUndoesSelect", unfollowed := true, recurses := true, apart := false, narrowed := true }
def FnRankUndoesSelectUptoSaid : Prop := fnRankUndoesSelectUptoRow.holds Try.pinned (OpenSpec.upto fnRankUndoesSelectSpec)

/-- 'laws.FnNeighboursOfRank', WHERE WHAT IT READS IS OF BULK AT MOST 1048576: true; the input reads as it did. -/
def fnNeighboursOfRankUptoRow : OpenClaim := { program := "ytbflgbmobbbebaa", sum := "a0bd881a3f07bc036db2491bf53d3e7112ca4f48cfdff344df5eedbe25650e6e", func := "loop.example/g01097/laws.FnNeighboursOfRank", spec := "fnNeighboursOfRank", unfollowed := true, recurses := true, apart := false, narrowed := true }
def FnNeighboursOfRankUptoSaid : Prop := fnNeighboursOfRankUptoRow.holds Try.pinned (OpenSpec.upto fnNeighboursOfRankSpec)

/-- 'laws.FnRanksJoin', WHERE WHAT IT READS IS OF BULK AT MOST 1048576: true; the input reads as it did. -/
def fnRanksJoinUptoRow : OpenClaim := { program := "ytbflgbmobbbebaa", sum := "a0bd881a3f07bc036db2491bf53d3e7112ca4f48cfdff344df5eedbe25650e6e", func := "loop.example/g01097/laws.FnRanksJoin", spec := "fnRanksJoin", unfollowed := true, recurses := true, apart := false, narrowed := true }
def FnRanksJoinUptoSaid : Prop := fnRanksJoinUptoRow.holds Try.pinned (OpenSpec.upto fnRanksJoinSpec)

/-- 'laws.FnDirectoriesArePacked', WHERE WHAT IT READS IS OF BULK AT MOST 1048576: true; the input reads as it did. -/
def fnDirectoriesArePackedUptoRow : OpenClaim := { program := "ytbflgbmobbbebaa", sum := "a0bd881a3f07bc036db2491bf53d3e7112ca4f48cfdff344df5eedbe25650e6e", func := "loop.example/g01097/laws.FnDirectoriesArePacked", spec := "fnDirectoriesArePacked", apart := false, narrowed := true }
def FnDirectoriesArePackedUptoSaid : Prop := fnDirectoriesArePackedUptoRow.holds Try.pinned (OpenSpec.upto fnDirectoriesArePackedSpec)

/-- 'laws.FnParenthesesMatch', WHERE WHAT IT READS IS OF BULK AT MOST 1048576: true; the input reads as it did. -/
def fnParenthesesMatchUptoRow : OpenClaim := { program := "ytbflgbmobbbebaa", sum := "a0bd881a3f07bc036db2491bf53d3e7112ca4f48cfdff344df5eedbe25650e6e", func := "loop.example/g01097/laws.FnParenthesesMatch", spec := "fnParenthesesMatch", apart := false, narrowed := true }
def FnParenthesesMatchUptoSaid : Prop := fnParenthesesMatchUptoRow.holds Try.pinned (OpenSpec.upto fnParenthesesMatchSpec)

/-- 'laws.FnTreesAreParentheses', WHERE WHAT IT READS IS OF BULK AT MOST 1048576: true; the input reads as it did. -/
def fnTreesAreParenthesesUptoRow : OpenClaim := { program := "ytbflgbmobbbebaa", sum := "a0bd881a3f07bc036db2491bf53d3e7112ca4f48cfdff344df5eedbe25650e6e", func := "loop.example/g01097/laws.FnTreesAreParentheses", spec := "fnTreesAreParentheses", unfollowed := true, recurses := true, apart := false, narrowed := true }
def FnTreesAreParenthesesUptoSaid : Prop := fnTreesAreParenthesesUptoRow.holds Try.pinned (OpenSpec.upto fnTreesAreParenthesesSpec)

end Rows
end Go.Proofs.Ytbflgbmobbbebaa
