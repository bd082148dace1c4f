/-
  No cell of these rows narrows 'for every input' (looked for: loops, veiled, ifaces, maps, wideKeys, modest, calm, conditions, laid).
  DERIVED. THE GIVEN ROWS OF THIS SEAT. 7 by the template 'for every input the law returns true; each argument reads behind the call as it read before'; 0 by the template 'total and deterministic' (their statements: YtijlpbcgkecinabTotals.lean).
  GIVEN WITH THE SEED: the statements are not yours to turn. If you find one false, say at which input.
  Laid BY PROGRAM, IN A SANDBOX (cutbox-rows.mjs): the forced cells as the released guide's own fill.sh prints them over the translation 2e04aa148c478075… (all of the seat's roots in one cut). By AI agents, Wed Nov 11 2026. No macro, syntax, notation, axiom, sorry.
-/
import Derived.Test.YtijlpbcgkecinabChecked
import GoSem.Claim
import GoSem.ClaimJoined
import GoSem.ClaimMapViews
import Derived.JoinedTies
import Derived.KernelRfl
namespace Go.Proofs.Ytijlpbcgkecinab
/- THE CELL 'sum', in the pinned program and in every row, IS THE sha256 OF THE DUMP (.gsa) THAT YtijlpbcgkecinabProg.lean LOADS. Nothing in Lean hashes anything: it is a label: what it is worth is what the hold of that sum in a sandbox is worth. -/
noncomputable def Try.pinned : Pinned := { name := "ytijlpbcgkecinab", sum := "2e04aa148c478075fe6914f83a5ae394085135c483a8e005d0581bc473deb0d6", checked := Try.checked }
namespace Rows
def none {H : Type} : Left H := { results := [], args := [] }

/-- 'laws.FnExactIsTable': WHATEVER THE INPUT: true; the input reads as it did. -/
def fnExactIsTableSpec : ChangeSpec := { name := "fnExactIsTable", fn := fun _ => fun
  | [d] => { results := [.lit (.bool true)], args := [d] }
  | _ => none }
def fnExactIsTableRow : OpenClaim := { program := "ytijlpbcgkecinab", sum := "2e04aa148c478075fe6914f83a5ae394085135c483a8e005d0581bc473deb0d6", func := "loop.example/g01097/laws.FnExactIsTable", spec := "fnExactIsTable", unfollowed := true, recurses := true, apart := false }
def FnExactIsTableSaid : Prop := fnExactIsTableRow.holds Try.pinned (OpenSpec.ofChange fnExactIsTableSpec)

/-- ITS FALSE NEIGHBOUR: 'it returns false'. Refute it at one input. -/
def fnExactIsTableWrong : ChangeSpec := { name := "fnExactIsTable", fn := fun _ => fun
  | [d] => { results := [.lit (.bool false)], args := [d] }
  | _ => none }
def FnExactIsTableWrongFalsely : Prop := fnExactIsTableRow.holds Try.pinned (OpenSpec.ofChange fnExactIsTableWrong)

/-- 'laws.FnExactRetrieveValue': WHATEVER THE INPUT: true; the input reads as it did. -/
def fnExactRetrieveValueSpec : ChangeSpec := { name := "fnExactRetrieveValue", fn := fun _ => fun
  | [d1, d2] => { results := [.lit (.bool true)], args := [d1, d2] }
  | _ => none }
def fnExactRetrieveValueRow : OpenClaim := { program := "ytijlpbcgkecinab", sum := "2e04aa148c478075fe6914f83a5ae394085135c483a8e005d0581bc473deb0d6", func := "loop.example/g01097/laws.FnExactRetrieveValue", spec := "fnExactRetrieveValue", unfollowed := true, recurses := true, apart := false }
def FnExactRetrieveValueSaid : Prop := fnExactRetrieveValueRow.holds Try.pinned (OpenSpec.ofChange fnExactRetrieveValueSpec)

/-- ITS FALSE NEIGHBOUR: 'it returns false'. Refute it at one input. -/
def fnExactRetrieveValueWrong : ChangeSpec := { name := "fnExactRetrieveValue", fn := fun _ => fun
  | [d1, d2] => { results := [.lit (.bool false)], args := [d1, d2] }
  | _ => none }
def FnExactRetrieveValueWrongFalsely : Prop := fnExactRetrieveValueRow.holds Try.pinned (OpenSpec.ofChange fnExactRetrieveValueWrong)

/-- 'laws.FnExactAddTables': WHATEVER THE INPUT: true; the input reads as it did. -/
def fnExactAddTablesSpec : ChangeSpec := { name := "fnExactAddTables", fn := fun _ => fun
  | [d1, d2] => { results := [.lit (.bool true)], args := [d1, d2] }
  | _ => none }
def fnExactAddTablesRow : OpenClaim := { program := "ytijlpbcgkecinab", sum := "2e04aa148c478075fe6914f83a5ae394085135c483a8e005d0581bc473deb0d6", func := "loop.example/g01097/laws.FnExactAddTables", spec := "fnExactAddTables", unfollowed := true, recurses := true, apart := false }
def FnExactAddTablesSaid : Prop := fnExactAddTablesRow.holds Try.pinned (OpenSpec.ofChange fnExactAddTablesSpec)

/-- ITS FALSE NEIGHBOUR: 'it returns false'. Refute it at one input. -/
def fnExactAddTablesWrong : ChangeSpec := { name := "fnExactAddTables", fn := fun _ => fun
  | [d1, d2] => { results := [.lit (.bool false)], args := [d1, d2] }
  | _ => none }
def FnExactAddTablesWrongFalsely : Prop := fnExactAddTablesRow.holds Try.pinned (OpenSpec.ofChange fnExactAddTablesWrong)

/-- 'laws.FnExactFirstDifference': WHATEVER THE INPUT: true; the input reads as it did. -/
def fnExactFirstDifferenceSpec : ChangeSpec := { name := "fnExactFirstDifference", fn := fun _ => fun
  | [d1, d2, d3] => { results := [.lit (.bool true)], args := [d1, d2, d3] }
  | _ => none }
def fnExactFirstDifferenceRow : OpenClaim := { program := "ytijlpbcgkecinab", sum := "2e04aa148c478075fe6914f83a5ae394085135c483a8e005d0581bc473deb0d6", func := "loop.example/g01097/laws.FnExactFirstDifference", spec := "fnExactFirstDifference", unfollowed := true, recurses := true, apart := false }
def FnExactFirstDifferenceSaid : Prop := fnExactFirstDifferenceRow.holds Try.pinned (OpenSpec.ofChange fnExactFirstDifferenceSpec)

/-- ITS FALSE NEIGHBOUR: 'it returns false'. Refute it at one input. -/
def fnExactFirstDifferenceWrong : ChangeSpec := { name := "fnExactFirstDifference", fn := fun _ => fun
  | [d1, d2, d3] => { results := [.lit (.bool false)], args := [d1, d2, d3] }
  | _ => none }
def FnExactFirstDifferenceWrongFalsely : Prop := fnExactFirstDifferenceRow.holds Try.pinned (OpenSpec.ofChange fnExactFirstDifferenceWrong)

/-- 'laws.FnExactTableByPeeling': WHATEVER THE INPUT: true; the input reads as it did. -/
def fnExactTableByPeelingSpec : ChangeSpec := { name := "fnExactTableByPeeling", fn := fun _ => fun
  | [d1, d2, d3, d4, d5] => { results := [.lit (.bool true)], args := [d1, d2, d3, d4, d5] }
  | _ => none }
def fnExactTableByPeelingRow : OpenClaim := { program := "ytijlpbcgkecinab", sum := "2e04aa148c478075fe6914f83a5ae394085135c483a8e005d0581bc473deb0d6", func := "loop.example/g01097/laws.FnExactTableByPeeling", spec := "fnExactTableByPeeling", unfollowed := true, recurses := true, apart := false }
def FnExactTableByPeelingSaid : Prop := fnExactTableByPeelingRow.holds Try.pinned (OpenSpec.ofChange fnExactTableByPeelingSpec)

/-- ITS FALSE NEIGHBOUR: 'it returns false'. Refute it at one input. -/
def fnExactTableByPeelingWrong : ChangeSpec := { name := "fnExactTableByPeeling", fn := fun _ => fun
  | [d1, d2, d3, d4, d5] => { results := [.lit (.bool false)], args := [d1, d2, d3, d4, d5] }
  | _ => none }
def FnExactTableByPeelingWrongFalsely : Prop := fnExactTableByPeelingRow.holds Try.pinned (OpenSpec.ofChange fnExactTableByPeelingWrong)

/-- 'laws.FnExactBuildOrdered': WHATEVER THE INPUT: true; the input reads as it did. -/
def fnExactBuildOrderedSpec : ChangeSpec := { name := "fnExactBuildOrdered", fn := fun _ => fun
  | [d1, d2, d3] => { results := [.lit (.bool true)], args := [d1, d2, d3] }
  | _ => none }
def fnExactBuildOrderedRow : OpenClaim := { program := "ytijlpbcgkecinab", sum := "2e04aa148c478075fe6914f83a5ae394085135c483a8e005d0581bc473deb0d6", func := "loop.example/g01097/laws.FnExactBuildOrdered", spec := "fnExactBuildOrdered", unfollowed := true, recurses := true, apart := false }
def FnExactBuildOrderedSaid : Prop := fnExactBuildOrderedRow.holds Try.pinned (OpenSpec.ofChange fnExactBuildOrderedSpec)

/-- ITS FALSE NEIGHBOUR: 'it returns false'. Refute it at one input. -/
def fnExactBuildOrderedWrong : ChangeSpec := { name := "fnExactBuildOrdered", fn := fun _ => fun
  | [d1, d2, d3] => { results := [.lit (.bool false)], args := [d1, d2, d3] }
  | _ => none }
def FnExactBuildOrderedWrongFalsely : Prop := fnExactBuildOrderedRow.holds Try.pinned (OpenSpec.ofChange fnExactBuildOrderedWrong)

/-- 'laws.FnExactBuildPeeled': WHATEVER THE INPUT: true; the input reads as it did. -/
def fnExactBuildPeeledSpec : ChangeSpec := { name := "fnExactBuildPeeled", fn := fun _ => fun
  | [d1, d2, d3] => { results := [.lit (.bool true)], args := [d1, d2, d3] }
  | _ => none }
def fnExactBuildPeeledRow : OpenClaim := { program := "ytijlpbcgkecinab", sum := "2e04aa148c478075fe6914f83a5ae394085135c483a8e005d0581bc473deb0d6", func := "loop.example/g01097/laws.FnExactBuildPeeled", spec := "fnExactBuildPeeled", unfollowed := true, recurses := true, apart := false }
def FnExactBuildPeeledSaid : Prop := fnExactBuildPeeledRow.holds Try.pinned (OpenSpec.ofChange fnExactBuildPeeledSpec)

/-- ITS FALSE NEIGHBOUR: 'it returns false'. Refute it at one input. -/
def fnExactBuildPeeledWrong : ChangeSpec := { name := "fnExactBuildPeeled", fn := fun _ => fun
  | [d1, d2, d3] => { results := [.lit (.bool false)], args := [d1, d2, d3] }
  | _ => none }
def FnExactBuildPeeledWrongFalsely : Prop := fnExactBuildPeeledRow.holds Try.pinned (OpenSpec.ofChange fnExactBuildPeeledWrong)

/- THE SECOND FORM. 'bulk': how many values and letters a reading holds, each counted each time it is reached (what is shared counts as often as it is met; a slice's spare places count too). A statement '..UptoSaid' is the law's where the arguments, and the package variables that the reading takes, are together of bulk at most 1048576: NARROWER than '..Said'. Prove '..Said' where nothing that the law and all that it calls make is longer than what came in: it says more and counts as full. Else prove '..UptoSaid'. A law counts once. -/
mutual
def uptoBulk {H : Type} : DataW H → Nat
  | .lit (.string bytes) => bytes.length + 1
  | .lit _ => 1
  | .nil => 1
  | .ptr d => uptoBulk d + 1
  | .slice elems spare => uptoBulkAll elems + uptoBulkAll spare + 1
  | .agg parts => uptoBulkAll parts + 1
  | .iface _ d => uptoBulk d + 1
  | .map entries => uptoBulkEntries entries + 1
  | .held _ => 1
def uptoBulkAll {H : Type} : List (DataW H) → Nat
  | [] => 0
  | d :: r => uptoBulk d + uptoBulkAll r
def uptoBulkEntries {H : Type} : List (Lit × DataW H) → Nat
  | [] => 0
  | x :: r => uptoBulkEntry x + uptoBulkEntries r
def uptoBulkEntry {H : Type} : Lit × DataW H → Nat
  | (.string bytes, d) => bytes.length + uptoBulk d + 1
  | (_, d) => uptoBulk d + 1
 end
def uptoSmall : (H : Type) → List (DataW H) → Bool := fun _ ds => decide (uptoBulkAll ds ≤ 1048576)
def OpenSpec.upto (s : _root_.Go.ChangeSpec) : _root_.Go.OpenSpec := { _root_.Go.OpenSpec.ofChange s with cond := some uptoSmall }

/-- 'laws.FnExactIsTable', WHERE WHAT IT READS IS OF BULK AT MOST 1048576: true; the input reads as it did. -/
def fnExactIsTableUptoRow : OpenClaim := { program := "ytijlpbcgkecinab", sum := "2e04aa148c478075fe6914f83a5ae394085135c483a8e005d0581bc473deb0d6", func := "loop.example/g01097/laws.FnExactIsTable", spec := "fnExactIsTable", unfollowed := true, recurses := true, apart := false, narrowed := true }
def FnExactIsTableUptoSaid : Prop := fnExactIsTableUptoRow.holds Try.pinned (OpenSpec.upto fnExactIsTableSpec)

/-- 'laws.FnExactRetrieveValue', WHERE WHAT IT READS IS OF BULK AT MOST 1048576: true; the input reads as it did. -/
def fnExactRetrieveValueUptoRow : OpenClaim := { program := "ytijlpbcgkecinab", sum := "2e04aa148c478075fe6914f83a5ae394085135c483a8e005d0581bc473deb0d6", func := "loop.example/g01097/laws.FnExactRetrieveValue", spec := "fnExactRetrieveValue", unfollowed := true, recurses := true, apart := false, narrowed := true }
def FnExactRetrieveValueUptoSaid : Prop := fnExactRetrieveValueUptoRow.holds Try.pinned (OpenSpec.upto fnExactRetrieveValueSpec)

/-- 'laws.FnExactAddTables', WHERE WHAT IT READS IS OF BULK AT MOST 1048576: true; the input reads as it did. -/
def fnExactAddTablesUptoRow : OpenClaim := { program := "ytijlpbcgkecinab", sum := "2e04aa148c478075fe6914f83a5ae394085135c483a8e005d0581bc473deb0d6", func := "loop.example/g01097/laws.FnExactAddTables", spec := "fnExactAddTables", unfollowed := true, recurses := true, apart := false, narrowed := true }
def FnExactAddTablesUptoSaid : Prop := fnExactAddTablesUptoRow.holds Try.pinned (OpenSpec.upto fnExactAddTablesSpec)

/-- 'laws.FnExactFirstDifference', WHERE WHAT IT READS IS OF BULK AT MOST 1048576: true; the input reads as it did. -/
def fnExactFirstDifferenceUptoRow : OpenClaim := { program := "ytijlpbcgkecinab", sum := "2e04aa148c478075fe6914f83a5ae394085135c483a8e005d0581bc473deb0d6", func := "loop.example/g01097/laws.FnExactFirstDifference", spec := "fnExactFirstDifference", unfollowed := true, recurses := true, apart := false, narrowed := true }
def FnExactFirstDifferenceUptoSaid : Prop := fnExactFirstDifferenceUptoRow.holds Try.pinned (OpenSpec.upto fnExactFirstDifferenceSpec)

/-- 'laws.FnExactTableByPeeling', WHERE WHAT IT READS IS OF BULK AT MOST 1048576: true; the input reads as it did. -/
def fnExactTableByPeelingUptoRow : OpenClaim := { program := "ytijlpbcgkecinab", sum := "2e04aa148c478075fe6914f83a5ae394085135c483a8e005d0581bc473deb0d6", func := "loop.example/g01097/laws.FnExactTableByPeeling", spec := "fnExactTableByPeeling", unfollowed := true, recurses := true, apart := false, narrowed := true }
def FnExactTableByPeelingUptoSaid : Prop := fnExactTableByPeelingUptoRow.holds Try.pinned (OpenSpec.upto fnExactTableByPeelingSpec)

/-- 'laws.FnExactBuildOrdered', WHERE WHAT IT READS IS OF BULK AT MOST 1048576: true; the input reads as it did. -/
def fnExactBuildOrderedUptoRow : OpenClaim := { program := "ytijlpbcgkecinab", sum := "2e04aa148c478075fe6914f83a5ae394085135c483a8e005d0581bc473deb0d6", func := "loop.example/g01097/laws.FnExactBuildOrdered", spec := "fnExactBuildOrdered", unfollowed := true, recurses := true, apart := false, narrowed := true }
def FnExactBuildOrderedUptoSaid : Prop := fnExactBuildOrderedUptoRow.holds Try.pinned (OpenSpec.upto fnExactBuildOrderedSpec)

/-- 'laws.FnExactBuildPeeled', WHERE WHAT IT READS IS OF BULK AT MOST 1048576: true; the input reads as it did. -/
def fnExactBuildPeeledUptoRow : OpenClaim := { program := "ytijlpbcgkecinab", sum := "2e04aa148c478075fe6914f83a5ae394085135c483a8e005d0581bc473deb0d6", func := "loop.example/g01097/laws.FnExactBuildPeeled", spec := "fnExactBuildPeeled", unfollowed := true, recurses := true, apart := false, narrowed := true }
def FnExactBuildPeeledUptoSaid : Prop := fnExactBuildPeeledUptoRow.holds Try.pinned (OpenSpec.upto fnExactBuildPeeledSpec)

end Rows
end Go.Proofs.Ytijlpbcgkecinab
