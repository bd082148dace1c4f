/-
  No cell of these rows narrows 'for every input' (looked for: loops, veiled, ifaces, maps, wideKeys, modest, calm, conditions, laid).
  DERIVED. THE GIVEN ROWS OF THIS SEAT. 10 by the template 'for every input the law returns true; each argument reads behind the call as it read before'; 0 by the template 'total and deterministic' (their statements: YtfhanighnckbhabTotals.lean).
  GIVEN WITH THE SEED: the statements are not yours to turn. If you find one false, say at which input.
  Laid BY PROGRAM, IN A SANDBOX (cutbox-rows.mjs): the forced cells as the released guide's own fill.sh prints them over the translation 5f996dcb60bc6a98… (all of the seat's roots in one cut). By AI agents, Wed Nov 11 2026. No macro, syntax, notation, axiom, sorry.
-/
import Derived.Test.YtfhanighnckbhabChecked
import GoSem.Claim
import GoSem.ClaimJoined
import GoSem.ClaimMapViews
import Derived.JoinedTies
import Derived.KernelRfl
namespace Go.Proofs.Ytfhanighnckbhab
/- THE CELL 'sum', in the pinned program and in every row, IS THE sha256 OF THE DUMP (.gsa) THAT YtfhanighnckbhabProg.lean LOADS. Nothing in Lean hashes anything: it is a label: what it is worth is what the hold of that sum in a sandbox is worth. -/
noncomputable def Try.pinned : Pinned := { name := "ytfhanighnckbhab", sum := "5f996dcb60bc6a98cece0fac562185cd139ff8dcece894196913ce84221cd7b1", checked := Try.checked }
namespace Rows
def none {H : Type} : Left H := { results := [], args := [] }

/-- 'laws.FnExactIsPeeled': WHATEVER THE INPUT: true; the input reads as it did. -/
def fnExactIsPeeledSpec : ChangeSpec := { name := "fnExactIsPeeled", fn := fun _ => fun
  | [d] => { results := [.lit (.bool true)], args := [d] }
  | _ => none }
def fnExactIsPeeledRow : OpenClaim := { program := "ytfhanighnckbhab", sum := "5f996dcb60bc6a98cece0fac562185cd139ff8dcece894196913ce84221cd7b1", func := "loop.example/g01097/laws.FnExactIsPeeled", spec := "fnExactIsPeeled", unfollowed := true, recurses := true, apart := false }
def FnExactIsPeeledSaid : Prop := fnExactIsPeeledRow.holds Try.pinned (OpenSpec.ofChange fnExactIsPeeledSpec)

/-- ITS FALSE NEIGHBOUR: 'it returns false'. Refute it at one input. -/
def fnExactIsPeeledWrong : ChangeSpec := { name := "fnExactIsPeeled", fn := fun _ => fun
  | [d] => { results := [.lit (.bool false)], args := [d] }
  | _ => none }
def FnExactIsPeeledWrongFalsely : Prop := fnExactIsPeeledRow.holds Try.pinned (OpenSpec.ofChange fnExactIsPeeledWrong)

/-- 'laws.FnExactPeeledPlace': WHATEVER THE INPUT: true; the input reads as it did. -/
def fnExactPeeledPlaceSpec : ChangeSpec := { name := "fnExactPeeledPlace", fn := fun _ => fun
  | [d1, d2] => { results := [.lit (.bool true)], args := [d1, d2] }
  | _ => none }
def fnExactPeeledPlaceRow : OpenClaim := { program := "ytfhanighnckbhab", sum := "5f996dcb60bc6a98cece0fac562185cd139ff8dcece894196913ce84221cd7b1", func := "loop.example/g01097/laws.FnExactPeeledPlace", spec := "fnExactPeeledPlace", unfollowed := true, recurses := true, apart := false }
def FnExactPeeledPlaceSaid : Prop := fnExactPeeledPlaceRow.holds Try.pinned (OpenSpec.ofChange fnExactPeeledPlaceSpec)

/-- ITS FALSE NEIGHBOUR: 'it returns false'. Refute it at one input. -/
def fnExactPeeledPlaceWrong : ChangeSpec := { name := "fnExactPeeledPlace", fn := fun _ => fun
  | [d1, d2] => { results := [.lit (.bool false)], args := [d1, d2] }
  | _ => none }
def FnExactPeeledPlaceWrongFalsely : Prop := fnExactPeeledPlaceRow.holds Try.pinned (OpenSpec.ofChange fnExactPeeledPlaceWrong)

/-- 'laws.FnExactPeeledIndex': WHATEVER THE INPUT: true; the input reads as it did. -/
def fnExactPeeledIndexSpec : ChangeSpec := { name := "fnExactPeeledIndex", fn := fun _ => fun
  | [d1, d2] => { results := [.lit (.bool true)], args := [d1, d2] }
  | _ => none }
def fnExactPeeledIndexRow : OpenClaim := { program := "ytfhanighnckbhab", sum := "5f996dcb60bc6a98cece0fac562185cd139ff8dcece894196913ce84221cd7b1", func := "loop.example/g01097/laws.FnExactPeeledIndex", spec := "fnExactPeeledIndex", unfollowed := true, recurses := true, apart := false }
def FnExactPeeledIndexSaid : Prop := fnExactPeeledIndexRow.holds Try.pinned (OpenSpec.ofChange fnExactPeeledIndexSpec)

/-- ITS FALSE NEIGHBOUR: 'it returns false'. Refute it at one input. -/
def fnExactPeeledIndexWrong : ChangeSpec := { name := "fnExactPeeledIndex", fn := fun _ => fun
  | [d1, d2] => { results := [.lit (.bool false)], args := [d1, d2] }
  | _ => none }
def FnExactPeeledIndexWrongFalsely : Prop := fnExactPeeledIndexRow.holds Try.pinned (OpenSpec.ofChange fnExactPeeledIndexWrong)

/-- 'laws.FnExactPackMarks': WHATEVER THE INPUT: true; the input reads as it did. -/
def fnExactPackMarksSpec : ChangeSpec := { name := "fnExactPackMarks", fn := fun _ => fun
  | [d] => { results := [.lit (.bool true)], args := [d] }
  | _ => none }
def fnExactPackMarksRow : OpenClaim := { program := "ytfhanighnckbhab", sum := "5f996dcb60bc6a98cece0fac562185cd139ff8dcece894196913ce84221cd7b1", func := "loop.example/g01097/laws.FnExactPackMarks", spec := "fnExactPackMarks", unfollowed := true, recurses := true, apart := false }
def FnExactPackMarksSaid : Prop := fnExactPackMarksRow.holds Try.pinned (OpenSpec.ofChange fnExactPackMarksSpec)

/-- ITS FALSE NEIGHBOUR: 'it returns false'. Refute it at one input. -/
def fnExactPackMarksWrong : ChangeSpec := { name := "fnExactPackMarks", fn := fun _ => fun
  | [d] => { results := [.lit (.bool false)], args := [d] }
  | _ => none }
def FnExactPackMarksWrongFalsely : Prop := fnExactPackMarksRow.holds Try.pinned (OpenSpec.ofChange fnExactPackMarksWrong)

/-- 'laws.FnExactUnpackMarks': WHATEVER THE INPUT: true; the input reads as it did. -/
def fnExactUnpackMarksSpec : ChangeSpec := { name := "fnExactUnpackMarks", fn := fun _ => fun
  | [d1, d2, d3] => { results := [.lit (.bool true)], args := [d1, d2, d3] }
  | _ => none }
def fnExactUnpackMarksRow : OpenClaim := { program := "ytfhanighnckbhab", sum := "5f996dcb60bc6a98cece0fac562185cd139ff8dcece894196913ce84221cd7b1", func := "loop.example/g01097/laws.FnExactUnpackMarks", spec := "fnExactUnpackMarks", apart := false }
def FnExactUnpackMarksSaid : Prop := fnExactUnpackMarksRow.holds Try.pinned (OpenSpec.ofChange fnExactUnpackMarksSpec)

/-- ITS FALSE NEIGHBOUR: 'it returns false'. Refute it at one input. -/
def fnExactUnpackMarksWrong : ChangeSpec := { name := "fnExactUnpackMarks", fn := fun _ => fun
  | [d1, d2, d3] => { results := [.lit (.bool false)], args := [d1, d2, d3] }
  | _ => none }
def FnExactUnpackMarksWrongFalsely : Prop := fnExactUnpackMarksRow.holds Try.pinned (OpenSpec.ofChange fnExactUnpackMarksWrong)

/-- 'laws.FnExactIsDisplaced': WHATEVER THE INPUT: true; the input reads as it did. -/
def fnExactIsDisplacedSpec : ChangeSpec := { name := "fnExactIsDisplaced", fn := fun _ => fun
  | [d] => { results := [.lit (.bool true)], args := [d] }
  | _ => none }
def fnExactIsDisplacedRow : OpenClaim := { program := "ytfhanighnckbhab", sum := "5f996dcb60bc6a98cece0fac562185cd139ff8dcece894196913ce84221cd7b1", func := "loop.example/g01097/laws.FnExactIsDisplaced", spec := "fnExactIsDisplaced", unfollowed := true, recurses := true, apart := false }
def FnExactIsDisplacedSaid : Prop := fnExactIsDisplacedRow.holds Try.pinned (OpenSpec.ofChange fnExactIsDisplacedSpec)

/-- ITS FALSE NEIGHBOUR: 'it returns false'. Refute it at one input. -/
def fnExactIsDisplacedWrong : ChangeSpec := { name := "fnExactIsDisplaced", fn := fun _ => fun
  | [d] => { results := [.lit (.bool false)], args := [d] }
  | _ => none }
def FnExactIsDisplacedWrongFalsely : Prop := fnExactIsDisplacedRow.holds Try.pinned (OpenSpec.ofChange fnExactIsDisplacedWrong)

/-- 'laws.FnExactSlotOf': WHATEVER THE INPUT: true; the input reads as it did. -/
def fnExactSlotOfSpec : ChangeSpec := { name := "fnExactSlotOf", fn := fun _ => fun
  | [d1, d2] => { results := [.lit (.bool true)], args := [d1, d2] }
  | _ => none }
def fnExactSlotOfRow : OpenClaim := { program := "ytfhanighnckbhab", sum := "5f996dcb60bc6a98cece0fac562185cd139ff8dcece894196913ce84221cd7b1", func := "loop.example/g01097/laws.FnExactSlotOf", spec := "fnExactSlotOf", unfollowed := true, recurses := true, apart := false }
def FnExactSlotOfSaid : Prop := fnExactSlotOfRow.holds Try.pinned (OpenSpec.ofChange fnExactSlotOfSpec)

/-- ITS FALSE NEIGHBOUR: 'it returns false'. Refute it at one input. -/
def fnExactSlotOfWrong : ChangeSpec := { name := "fnExactSlotOf", fn := fun _ => fun
  | [d1, d2] => { results := [.lit (.bool false)], args := [d1, d2] }
  | _ => none }
def FnExactSlotOfWrongFalsely : Prop := fnExactSlotOfRow.holds Try.pinned (OpenSpec.ofChange fnExactSlotOfWrong)

/-- 'laws.FnExactIsOrdered': WHATEVER THE INPUT: true; the input reads as it did. -/
def fnExactIsOrderedSpec : ChangeSpec := { name := "fnExactIsOrdered", fn := fun _ => fun
  | [d] => { results := [.lit (.bool true)], args := [d] }
  | _ => none }
def fnExactIsOrderedRow : OpenClaim := { program := "ytfhanighnckbhab", sum := "5f996dcb60bc6a98cece0fac562185cd139ff8dcece894196913ce84221cd7b1", func := "loop.example/g01097/laws.FnExactIsOrdered", spec := "fnExactIsOrdered", unfollowed := true, recurses := true, apart := false }
def FnExactIsOrderedSaid : Prop := fnExactIsOrderedRow.holds Try.pinned (OpenSpec.ofChange fnExactIsOrderedSpec)

/-- ITS FALSE NEIGHBOUR: 'it returns false'. Refute it at one input. -/
def fnExactIsOrderedWrong : ChangeSpec := { name := "fnExactIsOrdered", fn := fun _ => fun
  | [d] => { results := [.lit (.bool false)], args := [d] }
  | _ => none }
def FnExactIsOrderedWrongFalsely : Prop := fnExactIsOrderedRow.holds Try.pinned (OpenSpec.ofChange fnExactIsOrderedWrong)

/-- 'laws.FnExactOrdinalOf': WHATEVER THE INPUT: true; the input reads as it did. -/
def fnExactOrdinalOfSpec : ChangeSpec := { name := "fnExactOrdinalOf", fn := fun _ => fun
  | [d1, d2] => { results := [.lit (.bool true)], args := [d1, d2] }
  | _ => none }
def fnExactOrdinalOfRow : OpenClaim := { program := "ytfhanighnckbhab", sum := "5f996dcb60bc6a98cece0fac562185cd139ff8dcece894196913ce84221cd7b1", func := "loop.example/g01097/laws.FnExactOrdinalOf", spec := "fnExactOrdinalOf", unfollowed := true, recurses := true, apart := false }
def FnExactOrdinalOfSaid : Prop := fnExactOrdinalOfRow.holds Try.pinned (OpenSpec.ofChange fnExactOrdinalOfSpec)

/-- ITS FALSE NEIGHBOUR: 'it returns false'. Refute it at one input. -/
def fnExactOrdinalOfWrong : ChangeSpec := { name := "fnExactOrdinalOf", fn := fun _ => fun
  | [d1, d2] => { results := [.lit (.bool false)], args := [d1, d2] }
  | _ => none }
def FnExactOrdinalOfWrongFalsely : Prop := fnExactOrdinalOfRow.holds Try.pinned (OpenSpec.ofChange fnExactOrdinalOfWrong)

/-- 'laws.FnExactPlainSeed': WHATEVER THE INPUT: true; the input reads as it did. -/
def fnExactPlainSeedSpec : ChangeSpec := { name := "fnExactPlainSeed", fn := fun _ => fun
  | [d1, d2, d3, d4] => { results := [.lit (.bool true)], args := [d1, d2, d3, d4] }
  | _ => none }
def fnExactPlainSeedRow : OpenClaim := { program := "ytfhanighnckbhab", sum := "5f996dcb60bc6a98cece0fac562185cd139ff8dcece894196913ce84221cd7b1", func := "loop.example/g01097/laws.FnExactPlainSeed", spec := "fnExactPlainSeed", apart := false }
def FnExactPlainSeedSaid : Prop := fnExactPlainSeedRow.holds Try.pinned (OpenSpec.ofChange fnExactPlainSeedSpec)

/-- ITS FALSE NEIGHBOUR: 'it returns false'. Refute it at one input. -/
def fnExactPlainSeedWrong : ChangeSpec := { name := "fnExactPlainSeed", fn := fun _ => fun
  | [d1, d2, d3, d4] => { results := [.lit (.bool false)], args := [d1, d2, d3, d4] }
  | _ => none }
def FnExactPlainSeedWrongFalsely : Prop := fnExactPlainSeedRow.holds Try.pinned (OpenSpec.ofChange fnExactPlainSeedWrong)

/- THE SECOND FORM. 'bulk': how many values and letters a reading holds, each counted each time it is reached (what is shared counts as often as it is met; a slice's spare places count too). A statement '..UptoSaid' is the law's where the arguments, and the package variables that the reading takes, are together of bulk at most 1048576: NARROWER than '..Said'. Prove '..Said' where nothing that the law and all that it calls make is longer than what came in: it says more and counts as full. Else prove '..UptoSaid'. A law counts once. -/
mutual
def uptoBulk {H : Type} : DataW H → Nat
  | .lit (.string bytes) => bytes.length + 1
  | .lit _ => 1
  | .nil => 1
  | .ptr d => uptoBulk d + 1
  | .slice elems spare => uptoBulkAll elems + uptoBulkAll spare + 1
  | .agg parts => uptoBulkAll parts + 1
  | .iface _ d => uptoBulk d + 1
  | .map entries => uptoBulkEntries entries + 1
  | .held _ => 1
def uptoBulkAll {H : Type} : List (DataW H) → Nat
  | [] => 0
  | d :: r => uptoBulk d + uptoBulkAll r
def uptoBulkEntries {H : Type} : List (Lit × DataW H) → Nat
  | [] => 0
  | x :: r => uptoBulkEntry x + uptoBulkEntries r
def uptoBulkEntry {H : Type} : Lit × DataW H → Nat
  | (.string bytes, d) => bytes.length + uptoBulk d + 1
  | (_, d) => uptoBulk d + 1
 end
def uptoSmall : (H : Type) → List (DataW H) → Bool := fun _ ds => decide (uptoBulkAll ds ≤ 1048576)
def OpenSpec.upto (s : _root_.Go.ChangeSpec) : _root_.Go.OpenSpec := { _root_.Go.OpenSpec.ofChange s with cond := some uptoSmall }

/-- 'laws.FnExactIsPeeled', WHERE WHAT IT READS IS OF BULK AT MOST 1048576: true; the input reads as it did. -/
def fnExactIsPeeledUptoRow : OpenClaim := { program := "ytfhanighnckbhab", sum := "5f996dcb60bc6a98cece0fac562185cd139ff8dcece894196913ce84221cd7b1", func := "loop.example/g01097/laws.FnExactIsPeeled", spec := "fnExactIsPeeled", unfollowed := true, recurses := true, apart := false, narrowed := true }
def FnExactIsPeeledUptoSaid : Prop := fnExactIsPeeledUptoRow.holds Try.pinned (OpenSpec.upto fnExactIsPeeledSpec)

/-- 'laws.FnExactPeeledPlace', WHERE WHAT IT READS IS OF BULK AT MOST 1048576: true; the input reads as it did. -/
def fnExactPeeledPlaceUptoRow : OpenClaim := { program := "ytfhanighnckbhab", sum := "5f996dcb60bc6a98cece0fac562185cd139ff8dcece894196913ce84221cd7b1", func := "loop.example/g01097/laws.FnExactPeeledPlace", spec := "fnExactPeeledPlace", unfollowed := true, recurses := true, apart := false, narrowed := true }
def FnExactPeeledPlaceUptoSaid : Prop := fnExactPeeledPlaceUptoRow.holds Try.pinned (OpenSpec.upto fnExactPeeledPlaceSpec)

/-- 'laws.FnExactPeeledIndex', WHERE WHAT IT READS IS OF BULK AT MOST 1048576: true; the input reads as it did. -/
def fnExactPeeledIndexUptoRow : OpenClaim := { program := "ytfhanighnckbhab", sum := "5f996dcb60bc6a98cece0fac562185cd139ff8dcece894196913ce84221cd7b1", func := "loop.example/g01097/laws.FnExactPeeledIndex", spec := "fnExactPeeledIndex", unfollowed := true, recurses := true, apart := false, narrowed := true }
def FnExactPeeledIndexUptoSaid : Prop := fnExactPeeledIndexUptoRow.holds Try.pinned (OpenSpec.upto fnExactPeeledIndexSpec)

/-- 'laws.FnExactPackMarks', WHERE WHAT IT READS IS OF BULK AT MOST 1048576: true; the input reads as it did. -/
def fnExactPackMarksUptoRow : OpenClaim := { program := "ytfhanighnckbhab", sum := "5f996dcb60bc6a98cece0fac562185cd139ff8dcece894196913ce84221cd7b1", func := "loop.example/g01097/laws.FnExactPackMarks", spec := "fnExactPackMarks", unfollowed := true, recurses := true, apart := false, narrowed := true }
def FnExactPackMarksUptoSaid : Prop := fnExactPackMarksUptoRow.holds Try.pinned (OpenSpec.upto fnExactPackMarksSpec)

/-- 'laws.FnExactUnpackMarks', WHERE WHAT IT READS IS OF BULK AT MOST 1048576: true; the input reads as it did. -/
def fnExactUnpackMarksUptoRow : OpenClaim := { program := "ytfhanighnckbhab", sum := "5f996dcb60bc6a98cece0fac562185cd139ff8dcece894196913ce84221cd7b1", func := "loop.example/g01097/laws.FnExactUnpackMarks", spec := "fnExactUnpackMarks", apart := false, narrowed := true }
def FnExactUnpackMarksUptoSaid : Prop := fnExactUnpackMarksUptoRow.holds Try.pinned (OpenSpec.upto fnExactUnpackMarksSpec)

/-- 'laws.FnExactIsDisplaced', WHERE WHAT IT READS IS OF BULK AT MOST 1048576: true; the input reads as it did. -/
def fnExactIsDisplacedUptoRow : OpenClaim := { program := "ytfhanighnckbhab", sum := "5f996dcb60bc6a98cece0fac562185cd139ff8dcece894196913ce84221cd7b1", func := "loop.example/g01097/laws.FnExactIsDisplaced", spec := "fnExactIsDisplaced", unfollowed := true, recurses := true, apart := false, narrowed := true }
def FnExactIsDisplacedUptoSaid : Prop := fnExactIsDisplacedUptoRow.holds Try.pinned (OpenSpec.upto fnExactIsDisplacedSpec)

/-- 'laws.FnExactSlotOf', WHERE WHAT IT READS IS OF BULK AT MOST 1048576: true; the input reads as it did. -/
def fnExactSlotOfUptoRow : OpenClaim := { program := "ytfhanighnckbhab", sum := "5f996dcb60bc6a98cece0fac562185cd139ff8dcece894196913ce84221cd7b1", func := "loop.example/g01097/laws.FnExactSlotOf", spec := "fnExactSlotOf", unfollowed := true, recurses := true, apart := false, narrowed := true }
def FnExactSlotOfUptoSaid : Prop := fnExactSlotOfUptoRow.holds Try.pinned (OpenSpec.upto fnExactSlotOfSpec)

/-- 'laws.FnExactIsOrdered', WHERE WHAT IT READS IS OF BULK AT MOST 1048576: true; the input reads as it did. -/
def fnExactIsOrderedUptoRow : OpenClaim := { program := "ytfhanighnckbhab", sum := "5f996dcb60bc6a98cece0fac562185cd139ff8dcece894196913ce84221cd7b1", func := "loop.example/g01097/laws.FnExactIsOrdered", spec := "fnExactIsOrdered", unfollowed := true, recurses := true, apart := false, narrowed := true }
def FnExactIsOrderedUptoSaid : Prop := fnExactIsOrderedUptoRow.holds Try.pinned (OpenSpec.upto fnExactIsOrderedSpec)

/-- 'laws.FnExactOrdinalOf', WHERE WHAT IT READS IS OF BULK AT MOST 1048576: true; the input reads as it did. -/
def fnExactOrdinalOfUptoRow : OpenClaim := { program := "ytfhanighnckbhab", sum := "5f996dcb60bc6a98cece0fac562185cd139ff8dcece894196913ce84221cd7b1", func := "loop.example/g01097/laws.FnExactOrdinalOf", spec := "fnExactOrdinalOf", unfollowed := true, recurses := true, apart := false, narrowed := true }
def FnExactOrdinalOfUptoSaid : Prop := fnExactOrdinalOfUptoRow.holds Try.pinned (OpenSpec.upto fnExactOrdinalOfSpec)

/-- 'laws.FnExactPlainSeed', WHERE WHAT IT READS IS OF BULK AT MOST 1048576: true; the input reads as it did. -/
def fnExactPlainSeedUptoRow : OpenClaim := { program := "ytfhanighnckbhab", sum := "5f996dcb60bc6a98cece0fac562185cd139ff8dcece894196913ce84221cd7b1", func := "loop.example/g01097/laws.FnExactPlainSeed", spec := "fnExactPlainSeed", apart := false, narrowed := true }
def FnExactPlainSeedUptoSaid : Prop := fnExactPlainSeedUptoRow.holds Try.pinned (OpenSpec.upto fnExactPlainSeedSpec)

end Rows
end Go.Proofs.Ytfhanighnckbhab
