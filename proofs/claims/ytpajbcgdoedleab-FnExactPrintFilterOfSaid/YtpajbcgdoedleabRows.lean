/-
  No cell of these rows narrows 'for every input' (looked for: loops, veiled, ifaces, maps, wideKeys, modest, calm, conditions, laid).
  DERIVED. THE GIVEN ROWS OF THIS SEAT. 9 by the template 'for every input the law returns true; each argument reads behind the call as it read before'; 0 by the template 'total and deterministic' (their statements: YtpajbcgdoedleabTotals.lean).
  GIVEN WITH THE SEED: the statements are not yours to turn. If you find one false, say at which input.
  Laid BY PROGRAM, IN A SANDBOX (cutbox-rows.mjs): the forced cells as the released guide's own fill.sh prints them over the translation 3d41c5ffb6d983d2… (all of the seat's roots in one cut). By AI agents, Wed Nov 11 2026. No macro, syntax, notation, axiom, sorry.
-/
import Derived.Test.YtpajbcgdoedleabChecked
import GoSem.Claim
import GoSem.ClaimJoined
import GoSem.ClaimMapViews
import Derived.JoinedTies
import Derived.KernelRfl
namespace Go.Proofs.Ytpajbcgdoedleab
/- THE CELL 'sum', in the pinned program and in every row, IS THE sha256 OF THE DUMP (.gsa) THAT YtpajbcgdoedleabProg.lean LOADS. Nothing in Lean hashes anything: it is a label: what it is worth is what the hold of that sum in a sandbox is worth. -/
noncomputable def Try.pinned : Pinned := { name := "ytpajbcgdoedleab", sum := "3d41c5ffb6d983d28dc57510bd40f11f0ea03f2e65e9310caafec61b979c9b17", checked := Try.checked }
namespace Rows
def none {H : Type} : Left H := { results := [], args := [] }

/-- 'laws.FnExactIsCounting': WHATEVER THE INPUT: true; the input reads as it did. -/
def fnExactIsCountingSpec : ChangeSpec := { name := "fnExactIsCounting", fn := fun _ => fun
  | [d] => { results := [.lit (.bool true)], args := [d] }
  | _ => none }
def fnExactIsCountingRow : OpenClaim := { program := "ytpajbcgdoedleab", sum := "3d41c5ffb6d983d28dc57510bd40f11f0ea03f2e65e9310caafec61b979c9b17", func := "loop.example/g01097/laws.FnExactIsCounting", spec := "fnExactIsCounting", unfollowed := true, recurses := true, apart := false }
def FnExactIsCountingSaid : Prop := fnExactIsCountingRow.holds Try.pinned (OpenSpec.ofChange fnExactIsCountingSpec)

/-- ITS FALSE NEIGHBOUR: 'it returns false'. Refute it at one input. -/
def fnExactIsCountingWrong : ChangeSpec := { name := "fnExactIsCounting", fn := fun _ => fun
  | [d] => { results := [.lit (.bool false)], args := [d] }
  | _ => none }
def FnExactIsCountingWrongFalsely : Prop := fnExactIsCountingRow.holds Try.pinned (OpenSpec.ofChange fnExactIsCountingWrong)

/-- 'laws.FnExactCountingOf': WHATEVER THE INPUT: true; the input reads as it did. -/
def fnExactCountingOfSpec : ChangeSpec := { name := "fnExactCountingOf", fn := fun _ => fun
  | [d1, d2, d3, d4] => { results := [.lit (.bool true)], args := [d1, d2, d3, d4] }
  | _ => none }
def fnExactCountingOfRow : OpenClaim := { program := "ytpajbcgdoedleab", sum := "3d41c5ffb6d983d28dc57510bd40f11f0ea03f2e65e9310caafec61b979c9b17", func := "loop.example/g01097/laws.FnExactCountingOf", spec := "fnExactCountingOf", apart := false }
def FnExactCountingOfSaid : Prop := fnExactCountingOfRow.holds Try.pinned (OpenSpec.ofChange fnExactCountingOfSpec)

/-- ITS FALSE NEIGHBOUR: 'it returns false'. Refute it at one input. -/
def fnExactCountingOfWrong : ChangeSpec := { name := "fnExactCountingOf", fn := fun _ => fun
  | [d1, d2, d3, d4] => { results := [.lit (.bool false)], args := [d1, d2, d3, d4] }
  | _ => none }
def FnExactCountingOfWrongFalsely : Prop := fnExactCountingOfRow.holds Try.pinned (OpenSpec.ofChange fnExactCountingOfWrong)

/-- 'laws.FnExactCountingAdd': WHATEVER THE INPUT: true; the input reads as it did. -/
def fnExactCountingAddSpec : ChangeSpec := { name := "fnExactCountingAdd", fn := fun _ => fun
  | [d1, d2] => { results := [.lit (.bool true)], args := [d1, d2] }
  | _ => none }
def fnExactCountingAddRow : OpenClaim := { program := "ytpajbcgdoedleab", sum := "3d41c5ffb6d983d28dc57510bd40f11f0ea03f2e65e9310caafec61b979c9b17", func := "loop.example/g01097/laws.FnExactCountingAdd", spec := "fnExactCountingAdd", unfollowed := true, recurses := true, apart := false }
def FnExactCountingAddSaid : Prop := fnExactCountingAddRow.holds Try.pinned (OpenSpec.ofChange fnExactCountingAddSpec)

/-- ITS FALSE NEIGHBOUR: 'it returns false'. Refute it at one input. -/
def fnExactCountingAddWrong : ChangeSpec := { name := "fnExactCountingAdd", fn := fun _ => fun
  | [d1, d2] => { results := [.lit (.bool false)], args := [d1, d2] }
  | _ => none }
def FnExactCountingAddWrongFalsely : Prop := fnExactCountingAddRow.holds Try.pinned (OpenSpec.ofChange fnExactCountingAddWrong)

/-- 'laws.FnExactCountingRemove': WHATEVER THE INPUT: true; the input reads as it did. -/
def fnExactCountingRemoveSpec : ChangeSpec := { name := "fnExactCountingRemove", fn := fun _ => fun
  | [d1, d2] => { results := [.lit (.bool true)], args := [d1, d2] }
  | _ => none }
def fnExactCountingRemoveRow : OpenClaim := { program := "ytpajbcgdoedleab", sum := "3d41c5ffb6d983d28dc57510bd40f11f0ea03f2e65e9310caafec61b979c9b17", func := "loop.example/g01097/laws.FnExactCountingRemove", spec := "fnExactCountingRemove", unfollowed := true, recurses := true, apart := false }
def FnExactCountingRemoveSaid : Prop := fnExactCountingRemoveRow.holds Try.pinned (OpenSpec.ofChange fnExactCountingRemoveSpec)

/-- ITS FALSE NEIGHBOUR: 'it returns false'. Refute it at one input. -/
def fnExactCountingRemoveWrong : ChangeSpec := { name := "fnExactCountingRemove", fn := fun _ => fun
  | [d1, d2] => { results := [.lit (.bool false)], args := [d1, d2] }
  | _ => none }
def FnExactCountingRemoveWrongFalsely : Prop := fnExactCountingRemoveRow.holds Try.pinned (OpenSpec.ofChange fnExactCountingRemoveWrong)

/-- 'laws.FnExactBloomOfCounting': WHATEVER THE INPUT: true; the input reads as it did. -/
def fnExactBloomOfCountingSpec : ChangeSpec := { name := "fnExactBloomOfCounting", fn := fun _ => fun
  | [d] => { results := [.lit (.bool true)], args := [d] }
  | _ => none }
def fnExactBloomOfCountingRow : OpenClaim := { program := "ytpajbcgdoedleab", sum := "3d41c5ffb6d983d28dc57510bd40f11f0ea03f2e65e9310caafec61b979c9b17", func := "loop.example/g01097/laws.FnExactBloomOfCounting", spec := "fnExactBloomOfCounting", unfollowed := true, recurses := true, apart := false }
def FnExactBloomOfCountingSaid : Prop := fnExactBloomOfCountingRow.holds Try.pinned (OpenSpec.ofChange fnExactBloomOfCountingSpec)

/-- ITS FALSE NEIGHBOUR: 'it returns false'. Refute it at one input. -/
def fnExactBloomOfCountingWrong : ChangeSpec := { name := "fnExactBloomOfCounting", fn := fun _ => fun
  | [d] => { results := [.lit (.bool false)], args := [d] }
  | _ => none }
def FnExactBloomOfCountingWrongFalsely : Prop := fnExactBloomOfCountingRow.holds Try.pinned (OpenSpec.ofChange fnExactBloomOfCountingWrong)

/-- 'laws.FnExactPrintOf': WHATEVER THE INPUT: true; the input reads as it did. -/
def fnExactPrintOfSpec : ChangeSpec := { name := "fnExactPrintOf", fn := fun _ => fun
  | [d1, d2, d3] => { results := [.lit (.bool true)], args := [d1, d2, d3] }
  | _ => none }
def fnExactPrintOfRow : OpenClaim := { program := "ytpajbcgdoedleab", sum := "3d41c5ffb6d983d28dc57510bd40f11f0ea03f2e65e9310caafec61b979c9b17", func := "loop.example/g01097/laws.FnExactPrintOf", spec := "fnExactPrintOf", apart := false }
def FnExactPrintOfSaid : Prop := fnExactPrintOfRow.holds Try.pinned (OpenSpec.ofChange fnExactPrintOfSpec)

/-- ITS FALSE NEIGHBOUR: 'it returns false'. Refute it at one input. -/
def fnExactPrintOfWrong : ChangeSpec := { name := "fnExactPrintOf", fn := fun _ => fun
  | [d1, d2, d3] => { results := [.lit (.bool false)], args := [d1, d2, d3] }
  | _ => none }
def FnExactPrintOfWrongFalsely : Prop := fnExactPrintOfRow.holds Try.pinned (OpenSpec.ofChange fnExactPrintOfWrong)

/-- 'laws.FnExactPrintHas': WHATEVER THE INPUT: true; the input reads as it did. -/
def fnExactPrintHasSpec : ChangeSpec := { name := "fnExactPrintHas", fn := fun _ => fun
  | [d1, d2] => { results := [.lit (.bool true)], args := [d1, d2] }
  | _ => none }
def fnExactPrintHasRow : OpenClaim := { program := "ytpajbcgdoedleab", sum := "3d41c5ffb6d983d28dc57510bd40f11f0ea03f2e65e9310caafec61b979c9b17", func := "loop.example/g01097/laws.FnExactPrintHas", spec := "fnExactPrintHas", unfollowed := true, recurses := true, apart := false }
def FnExactPrintHasSaid : Prop := fnExactPrintHasRow.holds Try.pinned (OpenSpec.ofChange fnExactPrintHasSpec)

/-- ITS FALSE NEIGHBOUR: 'it returns false'. Refute it at one input. -/
def fnExactPrintHasWrong : ChangeSpec := { name := "fnExactPrintHas", fn := fun _ => fun
  | [d1, d2] => { results := [.lit (.bool false)], args := [d1, d2] }
  | _ => none }
def FnExactPrintHasWrongFalsely : Prop := fnExactPrintHasRow.holds Try.pinned (OpenSpec.ofChange fnExactPrintHasWrong)

/-- 'laws.FnExactPrintFalse': WHATEVER THE INPUT: true; the input reads as it did. -/
def fnExactPrintFalseSpec : ChangeSpec := { name := "fnExactPrintFalse", fn := fun _ => fun
  | [d1, d2, d3] => { results := [.lit (.bool true)], args := [d1, d2, d3] }
  | _ => none }
def fnExactPrintFalseRow : OpenClaim := { program := "ytpajbcgdoedleab", sum := "3d41c5ffb6d983d28dc57510bd40f11f0ea03f2e65e9310caafec61b979c9b17", func := "loop.example/g01097/laws.FnExactPrintFalse", spec := "fnExactPrintFalse", unfollowed := true, recurses := true, apart := false }
def FnExactPrintFalseSaid : Prop := fnExactPrintFalseRow.holds Try.pinned (OpenSpec.ofChange fnExactPrintFalseSpec)

/-- ITS FALSE NEIGHBOUR: 'it returns false'. Refute it at one input. -/
def fnExactPrintFalseWrong : ChangeSpec := { name := "fnExactPrintFalse", fn := fun _ => fun
  | [d1, d2, d3] => { results := [.lit (.bool false)], args := [d1, d2, d3] }
  | _ => none }
def FnExactPrintFalseWrongFalsely : Prop := fnExactPrintFalseRow.holds Try.pinned (OpenSpec.ofChange fnExactPrintFalseWrong)

/-- 'laws.FnExactPrintFilterOf': WHATEVER THE INPUT: true; the input reads as it did. -/
def fnExactPrintFilterOfSpec : ChangeSpec := { name := "fnExactPrintFilterOf", fn := fun _ => fun
  | [d1, d2, d3, d4] => { results := [.lit (.bool true)], args := [d1, d2, d3, d4] }
  | _ => none }
def fnExactPrintFilterOfRow : OpenClaim := { program := "ytpajbcgdoedleab", sum := "3d41c5ffb6d983d28dc57510bd40f11f0ea03f2e65e9310caafec61b979c9b17", func := "loop.example/g01097/laws.FnExactPrintFilterOf", spec := "fnExactPrintFilterOf", unfollowed := true, recurses := true, apart := false }
def FnExactPrintFilterOfSaid : Prop := fnExactPrintFilterOfRow.holds Try.pinned (OpenSpec.ofChange fnExactPrintFilterOfSpec)

/-- ITS FALSE NEIGHBOUR: 'it returns false'. Refute it at one input. -/
def fnExactPrintFilterOfWrong : ChangeSpec := { name := "fnExactPrintFilterOf", fn := fun _ => fun
  | [d1, d2, d3, d4] => { results := [.lit (.bool false)], args := [d1, d2, d3, d4] }
  | _ => none }
def FnExactPrintFilterOfWrongFalsely : Prop := fnExactPrintFilterOfRow.holds Try.pinned (OpenSpec.ofChange fnExactPrintFilterOfWrong)

/- THE SECOND FORM. 'bulk': how many values and letters a reading holds, each counted each time it is reached (what is shared counts as often as it is met; a slice's spare places count too). A statement '..UptoSaid' is the law's where the arguments, and the package variables that the reading takes, are together of bulk at most 1048576: NARROWER than '..Said'. Prove '..Said' where nothing that the law and all that it calls make is longer than what came in: it says more and counts as full. Else prove '..UptoSaid'. A law counts once. -/
mutual
def uptoBulk {H : Type} : DataW H → Nat
  | .lit (.string bytes) => bytes.length + 1
  | .lit _ => 1
  | .nil => 1
  | .ptr d => uptoBulk d + 1
  | .slice elems spare => uptoBulkAll elems + uptoBulkAll spare + 1
  | .agg parts => uptoBulkAll parts + 1
  | .iface _ d => uptoBulk d + 1
  | .map entries => uptoBulkEntries entries + 1
  | .held _ => 1
def uptoBulkAll {H : Type} : List (DataW H) → Nat
  | [] => 0
  | d :: r => uptoBulk d + uptoBulkAll r
def uptoBulkEntries {H : Type} : List (Lit × DataW H) → Nat
  | [] => 0
  | x :: r => uptoBulkEntry x + uptoBulkEntries r
def uptoBulkEntry {H : Type} : Lit × DataW H → Nat
  | (.string bytes, d) => bytes.length + uptoBulk d + 1
  | (_, d) => uptoBulk d + 1
 end
def uptoSmall : (H : Type) → List (DataW H) → Bool := fun _ ds => decide (uptoBulkAll ds ≤ 1048576)
def OpenSpec.upto (s : _root_.Go.ChangeSpec) : _root_.Go.OpenSpec := { _root_.Go.OpenSpec.ofChange s with cond := some uptoSmall }

/-- 'laws.FnExactIsCounting', WHERE WHAT IT READS IS OF BULK AT MOST 1048576: true; the input reads as it did. -/
def fnExactIsCountingUptoRow : OpenClaim := { program := "ytpajbcgdoedleab", sum := "3d41c5ffb6d983d28dc57510bd40f11f0ea03f2e65e9310caafec61b979c9b17", func := "loop.example/g01097/laws.FnExactIsCounting", spec := "fnExactIsCounting", unfollowed := true, recurses := true, apart := false, narrowed := true }
def FnExactIsCountingUptoSaid : Prop := fnExactIsCountingUptoRow.holds Try.pinned (OpenSpec.upto fnExactIsCountingSpec)

/-- 'laws.FnExactCountingOf', WHERE WHAT IT READS IS OF BULK AT MOST 1048576: true; the input reads as it did. -/
def fnExactCountingOfUptoRow : OpenClaim := { program := "ytpajbcgdoedleab", sum := "3d41c5ffb6d983d28dc57510bd40f11f0ea03f2e65e9310caafec61b979c9b17", func := "loop.example/g01097/laws.FnExactCountingOf", spec := "fnExactCountingOf", apart := false, narrowed := true }
def FnExactCountingOfUptoSaid : Prop := fnExactCountingOfUptoRow.holds Try.pinned (OpenSpec.upto fnExactCountingOfSpec)

/-- 'laws.FnExactCountingAdd', WHERE WHAT IT READS IS OF BULK AT MOST 1048576: true; the input reads as it did. -/
def fnExactCountingAddUptoRow : OpenClaim := { program := "ytpajbcgdoedleab", sum := "3d41c5ffb6d983d28dc57510bd40f11f0ea03f2e65e9310caafec61b979c9b17", func := "loop.example/g01097/laws.FnExactCountingAdd", spec := "fnExactCountingAdd", unfollowed := true, recurses := true, apart := false, narrowed := true }
def FnExactCountingAddUptoSaid : Prop := fnExactCountingAddUptoRow.holds Try.pinned (OpenSpec.upto fnExactCountingAddSpec)

/-- 'laws.FnExactCountingRemove', WHERE WHAT IT READS IS OF BULK AT MOST 1048576: true; the input reads as it did. -/
def fnExactCountingRemoveUptoRow : OpenClaim := { program := "ytpajbcgdoedleab", sum := "3d41c5ffb6d983d28dc57510bd40f11f0ea03f2e65e9310caafec61b979c9b17", func := "loop.example/g01097/laws.FnExactCountingRemove", spec := "fnExactCountingRemove", unfollowed := true, recurses := true, apart := false, narrowed := true }
def FnExactCountingRemoveUptoSaid : Prop := fnExactCountingRemoveUptoRow.holds Try.pinned (OpenSpec.upto fnExactCountingRemoveSpec)

/-- 'laws.FnExactBloomOfCounting', WHERE WHAT IT READS IS OF BULK AT MOST 1048576: true; the input reads as it did. -/
def fnExactBloomOfCountingUptoRow : OpenClaim := { program := "ytpajbcgdoedleab", sum := "3d41c5ffb6d983d28dc57510bd40f11f0ea03f2e65e9310caafec61b979c9b17", func := "loop.example/g01097/laws.FnExactBloomOfCounting", spec := "fnExactBloomOfCounting", unfollowed := true, recurses := true, apart := false, narrowed := true }
def FnExactBloomOfCountingUptoSaid : Prop := fnExactBloomOfCountingUptoRow.holds Try.pinned (OpenSpec.upto fnExactBloomOfCountingSpec)

/-- 'laws.FnExactPrintOf', WHERE WHAT IT READS IS OF BULK AT MOST 1048576: true; the input reads as it did. -/
def fnExactPrintOfUptoRow : OpenClaim := { program := "ytpajbcgdoedleab", sum := "3d41c5ffb6d983d28dc57510bd40f11f0ea03f2e65e9310caafec61b979c9b17", func := "loop.example/g01097/laws.FnExactPrintOf", spec := "fnExactPrintOf", apart := false, narrowed := true }
def FnExactPrintOfUptoSaid : Prop := fnExactPrintOfUptoRow.holds Try.pinned (OpenSpec.upto fnExactPrintOfSpec)

/-- 'laws.FnExactPrintHas', WHERE WHAT IT READS IS OF BULK AT MOST 1048576: true; the input reads as it did. -/
def fnExactPrintHasUptoRow : OpenClaim := { program := "ytpajbcgdoedleab", sum := "3d41c5ffb6d983d28dc57510bd40f11f0ea03f2e65e9310caafec61b979c9b17", func := "loop.example/g01097/laws.FnExactPrintHas", spec := "fnExactPrintHas", unfollowed := true, recurses := true, apart := false, narrowed := true }
def FnExactPrintHasUptoSaid : Prop := fnExactPrintHasUptoRow.holds Try.pinned (OpenSpec.upto fnExactPrintHasSpec)

/-- 'laws.FnExactPrintFalse', WHERE WHAT IT READS IS OF BULK AT MOST 1048576: true; the input reads as it did. -/
def fnExactPrintFalseUptoRow : OpenClaim := { program := "ytpajbcgdoedleab", sum := "3d41c5ffb6d983d28dc57510bd40f11f0ea03f2e65e9310caafec61b979c9b17", func := "loop.example/g01097/laws.FnExactPrintFalse", spec := "fnExactPrintFalse", unfollowed := true, recurses := true, apart := false, narrowed := true }
def FnExactPrintFalseUptoSaid : Prop := fnExactPrintFalseUptoRow.holds Try.pinned (OpenSpec.upto fnExactPrintFalseSpec)

/-- 'laws.FnExactPrintFilterOf', WHERE WHAT IT READS IS OF BULK AT MOST 1048576: true; the input reads as it did. -/
def fnExactPrintFilterOfUptoRow : OpenClaim := { program := "ytpajbcgdoedleab", sum := "3d41c5ffb6d983d28dc57510bd40f11f0ea03f2e65e9310caafec61b979c9b17", func := "loop.example/g01097/laws.FnExactPrintFilterOf", spec := "fnExactPrintFilterOf", unfollowed := true, recurses := true, apart := false, narrowed := true }
def FnExactPrintFilterOfUptoSaid : Prop := fnExactPrintFilterOfUptoRow.holds Try.pinned (OpenSpec.upto fnExactPrintFilterOfSpec)

end Rows
end Go.Proofs.Ytpajbcgdoedleab
