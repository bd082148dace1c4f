/-
  No cell of these rows narrows 'for every input' (looked for: loops, veiled, ifaces, maps, wideKeys, modest, calm, conditions, laid).
  DERIVED. THE GIVEN ROWS OF THIS SEAT. 5 by the template 'for every input the law returns true; each argument reads behind the call as it read before'; 0 by the template 'total and deterministic' (their statements: YtockhjdhihehlaaTotals.lean).
  GIVEN WITH THE SEED: the statements are not yours to turn. If you find one false, say at which input.
  Laid BY PROGRAM, IN A SANDBOX (cutbox-rows.mjs): the forced cells as the released guide's own fill.sh prints them over the translation 9368eb0de00232ea… (all of the seat's roots in one cut). By AI agents, Wed Nov 11 2026. No macro, syntax, notation, axiom, sorry.
-/
import Derived.Test.YtockhjdhihehlaaChecked
import GoSem.Claim
import GoSem.ClaimJoined
import GoSem.ClaimMapViews
import Derived.JoinedTies
import Derived.KernelRfl
namespace Go.Proofs.Ytockhjdhihehlaa
/- THE CELL 'sum', in the pinned program and in every row, IS THE sha256 OF THE DUMP (.gsa) THAT YtockhjdhihehlaaProg.lean LOADS. Nothing in Lean hashes anything: it is a label: what it is worth is what the hold of that sum in a sandbox is worth. -/
noncomputable def Try.pinned : Pinned := { name := "ytockhjdhihehlaa", sum := "9368eb0de00232ea3279cc8afa656248ee3a5f8b498710590d9ad774b739922d", checked := Try.checked }
namespace Rows
def none {H : Type} : Left H := { results := [], args := [] }

/-- 'laws.FnExactIsPeeledFor': WHATEVER THE INPUT: true; the input reads as it did. -/
def fnExactIsPeeledForSpec : ChangeSpec := { name := "fnExactIsPeeledFor", fn := fun _ => fun
  | [d1, d2] => { results := [.lit (.bool true)], args := [d1, d2] }
  | _ => none }
def fnExactIsPeeledForRow : OpenClaim := { program := "ytockhjdhihehlaa", sum := "9368eb0de00232ea3279cc8afa656248ee3a5f8b498710590d9ad774b739922d", func := "loop.example/g01097/laws.FnExactIsPeeledFor", spec := "fnExactIsPeeledFor", unfollowed := true, recurses := true, apart := false }
def FnExactIsPeeledForSaid : Prop := fnExactIsPeeledForRow.holds Try.pinned (OpenSpec.ofChange fnExactIsPeeledForSpec)

/-- ITS FALSE NEIGHBOUR: 'it returns false'. Refute it at one input. -/
def fnExactIsPeeledForWrong : ChangeSpec := { name := "fnExactIsPeeledFor", fn := fun _ => fun
  | [d1, d2] => { results := [.lit (.bool false)], args := [d1, d2] }
  | _ => none }
def FnExactIsPeeledForWrongFalsely : Prop := fnExactIsPeeledForRow.holds Try.pinned (OpenSpec.ofChange fnExactIsPeeledForWrong)

/-- 'laws.FnExactIsDisplacedFor': WHATEVER THE INPUT: true; the input reads as it did. -/
def fnExactIsDisplacedForSpec : ChangeSpec := { name := "fnExactIsDisplacedFor", fn := fun _ => fun
  | [d1, d2] => { results := [.lit (.bool true)], args := [d1, d2] }
  | _ => none }
def fnExactIsDisplacedForRow : OpenClaim := { program := "ytockhjdhihehlaa", sum := "9368eb0de00232ea3279cc8afa656248ee3a5f8b498710590d9ad774b739922d", func := "loop.example/g01097/laws.FnExactIsDisplacedFor", spec := "fnExactIsDisplacedFor", unfollowed := true, recurses := true, apart := false }
def FnExactIsDisplacedForSaid : Prop := fnExactIsDisplacedForRow.holds Try.pinned (OpenSpec.ofChange fnExactIsDisplacedForSpec)

/-- ITS FALSE NEIGHBOUR: 'it returns false'. Refute it at one input. -/
def fnExactIsDisplacedForWrong : ChangeSpec := { name := "fnExactIsDisplacedFor", fn := fun _ => fun
  | [d1, d2] => { results := [.lit (.bool false)], args := [d1, d2] }
  | _ => none }
def FnExactIsDisplacedForWrongFalsely : Prop := fnExactIsDisplacedForRow.holds Try.pinned (OpenSpec.ofChange fnExactIsDisplacedForWrong)

/-- 'laws.FnExactIsOrderedFor': WHATEVER THE INPUT: true; the input reads as it did. -/
def fnExactIsOrderedForSpec : ChangeSpec := { name := "fnExactIsOrderedFor", fn := fun _ => fun
  | [d1, d2] => { results := [.lit (.bool true)], args := [d1, d2] }
  | _ => none }
def fnExactIsOrderedForRow : OpenClaim := { program := "ytockhjdhihehlaa", sum := "9368eb0de00232ea3279cc8afa656248ee3a5f8b498710590d9ad774b739922d", func := "loop.example/g01097/laws.FnExactIsOrderedFor", spec := "fnExactIsOrderedFor", unfollowed := true, recurses := true, apart := false }
def FnExactIsOrderedForSaid : Prop := fnExactIsOrderedForRow.holds Try.pinned (OpenSpec.ofChange fnExactIsOrderedForSpec)

/-- ITS FALSE NEIGHBOUR: 'it returns false'. Refute it at one input. -/
def fnExactIsOrderedForWrong : ChangeSpec := { name := "fnExactIsOrderedFor", fn := fun _ => fun
  | [d1, d2] => { results := [.lit (.bool false)], args := [d1, d2] }
  | _ => none }
def FnExactIsOrderedForWrongFalsely : Prop := fnExactIsOrderedForRow.holds Try.pinned (OpenSpec.ofChange fnExactIsOrderedForWrong)

/-- 'laws.FnExactFreeSlots': WHATEVER THE INPUT: true; the input reads as it did. -/
def fnExactFreeSlotsSpec : ChangeSpec := { name := "fnExactFreeSlots", fn := fun _ => fun
  | [d1, d2] => { results := [.lit (.bool true)], args := [d1, d2] }
  | _ => none }
def fnExactFreeSlotsRow : OpenClaim := { program := "ytockhjdhihehlaa", sum := "9368eb0de00232ea3279cc8afa656248ee3a5f8b498710590d9ad774b739922d", func := "loop.example/g01097/laws.FnExactFreeSlots", spec := "fnExactFreeSlots", unfollowed := true, recurses := true, apart := false }
def FnExactFreeSlotsSaid : Prop := fnExactFreeSlotsRow.holds Try.pinned (OpenSpec.ofChange fnExactFreeSlotsSpec)

/-- ITS FALSE NEIGHBOUR: 'it returns false'. Refute it at one input. -/
def fnExactFreeSlotsWrong : ChangeSpec := { name := "fnExactFreeSlots", fn := fun _ => fun
  | [d1, d2] => { results := [.lit (.bool false)], args := [d1, d2] }
  | _ => none }
def FnExactFreeSlotsWrongFalsely : Prop := fnExactFreeSlotsRow.holds Try.pinned (OpenSpec.ofChange fnExactFreeSlotsWrong)

/-- 'laws.FnExactUsedOf': WHATEVER THE INPUT: true; the input reads as it did. -/
def fnExactUsedOfSpec : ChangeSpec := { name := "fnExactUsedOf", fn := fun _ => fun
  | [d] => { results := [.lit (.bool true)], args := [d] }
  | _ => none }
def fnExactUsedOfRow : OpenClaim := { program := "ytockhjdhihehlaa", sum := "9368eb0de00232ea3279cc8afa656248ee3a5f8b498710590d9ad774b739922d", func := "loop.example/g01097/laws.FnExactUsedOf", spec := "fnExactUsedOf", unfollowed := true, recurses := true, apart := false }
def FnExactUsedOfSaid : Prop := fnExactUsedOfRow.holds Try.pinned (OpenSpec.ofChange fnExactUsedOfSpec)

/-- ITS FALSE NEIGHBOUR: 'it returns false'. Refute it at one input. -/
def fnExactUsedOfWrong : ChangeSpec := { name := "fnExactUsedOf", fn := fun _ => fun
  | [d] => { results := [.lit (.bool false)], args := [d] }
  | _ => none }
def FnExactUsedOfWrongFalsely : Prop := fnExactUsedOfRow.holds Try.pinned (OpenSpec.ofChange fnExactUsedOfWrong)

/- THE SECOND FORM. 'bulk': how many values and letters a reading holds, each counted each time it is reached (what is shared counts as often as it is met; a slice's spare places count too). A statement '..UptoSaid' is the law's where the arguments, and the package variables that the reading takes, are together of bulk at most 1048576: NARROWER than '..Said'. Prove '..Said' where nothing that the law and all that it calls make is longer than what came in: it says more and counts as full. Else prove '..UptoSaid'. A law counts once. -/
mutual
def uptoBulk {H : Type} : DataW H → Nat
  | .lit (.string bytes) => bytes.length + 1
  | .lit _ => 1
  | .nil => 1
  | .ptr d => uptoBulk d + 1
  | .slice elems spare => uptoBulkAll elems + uptoBulkAll spare + 1
  | .agg parts => uptoBulkAll parts + 1
  | .iface _ d => uptoBulk d + 1
  | .map entries => uptoBulkEntries entries + 1
  | .held _ => 1
def uptoBulkAll {H : Type} : List (DataW H) → Nat
  | [] => 0
  | d :: r => uptoBulk d + uptoBulkAll r
def uptoBulkEntries {H : Type} : List (Lit × DataW H) → Nat
  | [] => 0
  | x :: r => uptoBulkEntry x + uptoBulkEntries r
def uptoBulkEntry {H : Type} : Lit × DataW H → Nat
  | (.string bytes, d) => bytes.length + uptoBulk d + 1
  | (_, d) => uptoBulk d + 1
 end
def uptoSmall : (H : Type) → List (DataW H) → Bool := fun _ ds => decide (uptoBulkAll ds ≤ 1048576)
def OpenSpec.upto (s : _root_.Go.ChangeSpec) : _root_.Go.OpenSpec := { _root_.Go.OpenSpec.ofChange s with cond := some uptoSmall }

/-- 'laws.FnExactIsPeeledFor', WHERE WHAT IT READS IS OF BULK AT MOST 1048576: true; the input reads as it did. -/
def fnExactIsPeeledForUptoRow : OpenClaim := { program := "ytockhjdhihehlaa", sum := "9368eb0de00232ea3279cc8afa656248ee3a5f8b498710590d9ad774b739922d", func := "loop.example/g01097/laws.FnExactIsPeeledFor", spec := "fnExactIsPeeledFor", unfollowed := true, recurses := true, apart := false, narrowed := true }
def FnExactIsPeeledForUptoSaid : Prop := fnExactIsPeeledForUptoRow.holds Try.pinned (OpenSpec.upto fnExactIsPeeledForSpec)

/-- 'laws.FnExactIsDisplacedFor', WHERE WHAT IT READS IS OF BULK AT MOST 1048576: true; the input reads as it did. -/
def fnExactIsDisplacedForUptoRow : OpenClaim := { program := "ytockhjdhihehlaa", sum := "9368eb0de00232ea3279cc8afa656248ee3a5f8b498710590d9ad774b739922d", func := "loop.example/g01097/laws.FnExactIsDisplacedFor", spec := "fnExactIsDisplacedFor", unfollowed := true, recurses := true, apart := false, narrowed := true }
def FnExactIsDisplacedForUptoSaid : Prop := fnExactIsDisplacedForUptoRow.holds Try.pinned (OpenSpec.upto fnExactIsDisplacedForSpec)

/-- 'laws.FnExactIsOrderedFor', WHERE WHAT IT READS IS OF BULK AT MOST 1048576: true; the input reads as it did. -/
def fnExactIsOrderedForUptoRow : OpenClaim := { program := "ytockhjdhihehlaa", sum := "9368eb0de00232ea3279cc8afa656248ee3a5f8b498710590d9ad774b739922d", func := "loop.example/g01097/laws.FnExactIsOrderedFor", spec := "fnExactIsOrderedFor", unfollowed := true, recurses := true, apart := false, narrowed := true }
def FnExactIsOrderedForUptoSaid : Prop := fnExactIsOrderedForUptoRow.holds Try.pinned (OpenSpec.upto fnExactIsOrderedForSpec)

/-- 'laws.FnExactFreeSlots', WHERE WHAT IT READS IS OF BULK AT MOST 1048576: true; the input reads as it did. -/
def fnExactFreeSlotsUptoRow : OpenClaim := { program := "ytockhjdhihehlaa", sum := "9368eb0de00232ea3279cc8afa656248ee3a5f8b498710590d9ad774b739922d", func := "loop.example/g01097/laws.FnExactFreeSlots", spec := "fnExactFreeSlots", unfollowed := true, recurses := true, apart := false, narrowed := true }
def FnExactFreeSlotsUptoSaid : Prop := fnExactFreeSlotsUptoRow.holds Try.pinned (OpenSpec.upto fnExactFreeSlotsSpec)

/-- 'laws.FnExactUsedOf', WHERE WHAT IT READS IS OF BULK AT MOST 1048576: true; the input reads as it did. -/
def fnExactUsedOfUptoRow : OpenClaim := { program := "ytockhjdhihehlaa", sum := "9368eb0de00232ea3279cc8afa656248ee3a5f8b498710590d9ad774b739922d", func := "loop.example/g01097/laws.FnExactUsedOf", spec := "fnExactUsedOf", unfollowed := true, recurses := true, apart := false, narrowed := true }
def FnExactUsedOfUptoSaid : Prop := fnExactUsedOfUptoRow.holds Try.pinned (OpenSpec.upto fnExactUsedOfSpec)

end Rows
end Go.Proofs.Ytockhjdhihehlaa
