/-
  No cell of these rows narrows 'for every input' (looked for: loops, veiled, ifaces, maps, wideKeys, modest, calm, conditions, laid).
  DERIVED. THE GIVEN ROWS OF THIS SEAT. 10 by the template 'for every input the law returns true; each argument reads behind the call as it read before'; 0 by the template 'total and deterministic' (their statements: YtfhanighnckbhaaTotals.lean).
  GIVEN WITH THE SEED: the statements are not yours to turn. If you find one false, say at which input.
  Laid BY PROGRAM, IN A SANDBOX (cutbox-rows.mjs): the forced cells as the released guide's own fill.sh prints them over the translation 8d794089b97a44c7… (all of the seat's roots in one cut). By AI agents, Wed Nov 11 2026. No macro, syntax, notation, axiom, sorry.
-/
import Derived.Test.YtfhanighnckbhaaChecked
import GoSem.Claim
import GoSem.ClaimJoined
import GoSem.ClaimMapViews
import Derived.JoinedTies
import Derived.KernelRfl
namespace Go.Proofs.Ytfhanighnckbhaa
/- THE CELL 'sum', in the pinned program and in every row, IS THE sha256 OF THE DUMP (.gsa) THAT YtfhanighnckbhaaProg.lean LOADS. Nothing in Lean hashes anything: it is a label: what it is worth is what the hold of that sum in a sandbox is worth. -/
noncomputable def Try.pinned : Pinned := { name := "ytfhanighnckbhaa", sum := "8d794089b97a44c783d93b852a07045f9c541ddf53316018e12240684bc66a44", checked := Try.checked }
namespace Rows
def none {H : Type} : Left H := { results := [], args := [] }

/-- 'laws.FnExactHyperOf': WHATEVER THE INPUT: true; the input reads as it did. -/
def fnExactHyperOfSpec : ChangeSpec := { name := "fnExactHyperOf", fn := fun _ => fun
  | [d1, d2, d3] => { results := [.lit (.bool true)], args := [d1, d2, d3] }
  | _ => none }
def fnExactHyperOfRow : OpenClaim := { program := "ytfhanighnckbhaa", sum := "8d794089b97a44c783d93b852a07045f9c541ddf53316018e12240684bc66a44", func := "loop.example/g01097/laws.FnExactHyperOf", spec := "fnExactHyperOf", apart := false }
def FnExactHyperOfSaid : Prop := fnExactHyperOfRow.holds Try.pinned (OpenSpec.ofChange fnExactHyperOfSpec)

/-- ITS FALSE NEIGHBOUR: 'it returns false'. Refute it at one input. -/
def fnExactHyperOfWrong : ChangeSpec := { name := "fnExactHyperOf", fn := fun _ => fun
  | [d1, d2, d3] => { results := [.lit (.bool false)], args := [d1, d2, d3] }
  | _ => none }
def FnExactHyperOfWrongFalsely : Prop := fnExactHyperOfRow.holds Try.pinned (OpenSpec.ofChange fnExactHyperOfWrong)

/-- 'laws.FnExactHyperParts': WHATEVER THE INPUT: true; the input reads as it did. -/
def fnExactHyperPartsSpec : ChangeSpec := { name := "fnExactHyperParts", fn := fun _ => fun
  | [d] => { results := [.lit (.bool true)], args := [d] }
  | _ => none }
def fnExactHyperPartsRow : OpenClaim := { program := "ytfhanighnckbhaa", sum := "8d794089b97a44c783d93b852a07045f9c541ddf53316018e12240684bc66a44", func := "loop.example/g01097/laws.FnExactHyperParts", spec := "fnExactHyperParts", unfollowed := true, recurses := true, apart := false }
def FnExactHyperPartsSaid : Prop := fnExactHyperPartsRow.holds Try.pinned (OpenSpec.ofChange fnExactHyperPartsSpec)

/-- ITS FALSE NEIGHBOUR: 'it returns false'. Refute it at one input. -/
def fnExactHyperPartsWrong : ChangeSpec := { name := "fnExactHyperParts", fn := fun _ => fun
  | [d] => { results := [.lit (.bool false)], args := [d] }
  | _ => none }
def FnExactHyperPartsWrongFalsely : Prop := fnExactHyperPartsRow.holds Try.pinned (OpenSpec.ofChange fnExactHyperPartsWrong)

/-- 'laws.FnExactPeelOrder': WHATEVER THE INPUT: true; the input reads as it did. -/
def fnExactPeelOrderSpec : ChangeSpec := { name := "fnExactPeelOrder", fn := fun _ => fun
  | [d] => { results := [.lit (.bool true)], args := [d] }
  | _ => none }
def fnExactPeelOrderRow : OpenClaim := { program := "ytfhanighnckbhaa", sum := "8d794089b97a44c783d93b852a07045f9c541ddf53316018e12240684bc66a44", func := "loop.example/g01097/laws.FnExactPeelOrder", spec := "fnExactPeelOrder", apart := false }
def FnExactPeelOrderSaid : Prop := fnExactPeelOrderRow.holds Try.pinned (OpenSpec.ofChange fnExactPeelOrderSpec)

/-- ITS FALSE NEIGHBOUR: 'it returns false'. Refute it at one input. -/
def fnExactPeelOrderWrong : ChangeSpec := { name := "fnExactPeelOrder", fn := fun _ => fun
  | [d] => { results := [.lit (.bool false)], args := [d] }
  | _ => none }
def FnExactPeelOrderWrongFalsely : Prop := fnExactPeelOrderRow.holds Try.pinned (OpenSpec.ofChange fnExactPeelOrderWrong)

/-- 'laws.FnExactPeelBy': WHATEVER THE INPUT: true; the input reads as it did. -/
def fnExactPeelBySpec : ChangeSpec := { name := "fnExactPeelBy", fn := fun _ => fun
  | [d1, d2] => { results := [.lit (.bool true)], args := [d1, d2] }
  | _ => none }
def fnExactPeelByRow : OpenClaim := { program := "ytfhanighnckbhaa", sum := "8d794089b97a44c783d93b852a07045f9c541ddf53316018e12240684bc66a44", func := "loop.example/g01097/laws.FnExactPeelBy", spec := "fnExactPeelBy", apart := false }
def FnExactPeelBySaid : Prop := fnExactPeelByRow.holds Try.pinned (OpenSpec.ofChange fnExactPeelBySpec)

/-- ITS FALSE NEIGHBOUR: 'it returns false'. Refute it at one input. -/
def fnExactPeelByWrong : ChangeSpec := { name := "fnExactPeelBy", fn := fun _ => fun
  | [d1, d2] => { results := [.lit (.bool false)], args := [d1, d2] }
  | _ => none }
def FnExactPeelByWrongFalsely : Prop := fnExactPeelByRow.holds Try.pinned (OpenSpec.ofChange fnExactPeelByWrong)

/-- 'laws.FnExactIsPeelOrder': WHATEVER THE INPUT: true; the input reads as it did. -/
def fnExactIsPeelOrderSpec : ChangeSpec := { name := "fnExactIsPeelOrder", fn := fun _ => fun
  | [d1, d2] => { results := [.lit (.bool true)], args := [d1, d2] }
  | _ => none }
def fnExactIsPeelOrderRow : OpenClaim := { program := "ytfhanighnckbhaa", sum := "8d794089b97a44c783d93b852a07045f9c541ddf53316018e12240684bc66a44", func := "loop.example/g01097/laws.FnExactIsPeelOrder", spec := "fnExactIsPeelOrder", apart := false }
def FnExactIsPeelOrderSaid : Prop := fnExactIsPeelOrderRow.holds Try.pinned (OpenSpec.ofChange fnExactIsPeelOrderSpec)

/-- ITS FALSE NEIGHBOUR: 'it returns false'. Refute it at one input. -/
def fnExactIsPeelOrderWrong : ChangeSpec := { name := "fnExactIsPeelOrder", fn := fun _ => fun
  | [d1, d2] => { results := [.lit (.bool false)], args := [d1, d2] }
  | _ => none }
def FnExactIsPeelOrderWrongFalsely : Prop := fnExactIsPeelOrderRow.holds Try.pinned (OpenSpec.ofChange fnExactIsPeelOrderWrong)

/-- 'laws.FnExactLayersOf': WHATEVER THE INPUT: true; the input reads as it did. -/
def fnExactLayersOfSpec : ChangeSpec := { name := "fnExactLayersOf", fn := fun _ => fun
  | [d] => { results := [.lit (.bool true)], args := [d] }
  | _ => none }
def fnExactLayersOfRow : OpenClaim := { program := "ytfhanighnckbhaa", sum := "8d794089b97a44c783d93b852a07045f9c541ddf53316018e12240684bc66a44", func := "loop.example/g01097/laws.FnExactLayersOf", spec := "fnExactLayersOf", recurses := true, apart := false }
def FnExactLayersOfSaid : Prop := fnExactLayersOfRow.holds Try.pinned (OpenSpec.ofChange fnExactLayersOfSpec)

/-- ITS FALSE NEIGHBOUR: 'it returns false'. Refute it at one input. -/
def fnExactLayersOfWrong : ChangeSpec := { name := "fnExactLayersOf", fn := fun _ => fun
  | [d] => { results := [.lit (.bool false)], args := [d] }
  | _ => none }
def FnExactLayersOfWrongFalsely : Prop := fnExactLayersOfRow.holds Try.pinned (OpenSpec.ofChange fnExactLayersOfWrong)

/-- 'laws.FnExactCoreOf': WHATEVER THE INPUT: true; the input reads as it did. -/
def fnExactCoreOfSpec : ChangeSpec := { name := "fnExactCoreOf", fn := fun _ => fun
  | [d] => { results := [.lit (.bool true)], args := [d] }
  | _ => none }
def fnExactCoreOfRow : OpenClaim := { program := "ytfhanighnckbhaa", sum := "8d794089b97a44c783d93b852a07045f9c541ddf53316018e12240684bc66a44", func := "loop.example/g01097/laws.FnExactCoreOf", spec := "fnExactCoreOf", recurses := true, apart := false }
def FnExactCoreOfSaid : Prop := fnExactCoreOfRow.holds Try.pinned (OpenSpec.ofChange fnExactCoreOfSpec)

/-- ITS FALSE NEIGHBOUR: 'it returns false'. Refute it at one input. -/
def fnExactCoreOfWrong : ChangeSpec := { name := "fnExactCoreOf", fn := fun _ => fun
  | [d] => { results := [.lit (.bool false)], args := [d] }
  | _ => none }
def FnExactCoreOfWrongFalsely : Prop := fnExactCoreOfRow.holds Try.pinned (OpenSpec.ofChange fnExactCoreOfWrong)

/-- 'laws.FnExactFirstSeed': WHATEVER THE INPUT: true; the input reads as it did. -/
def fnExactFirstSeedSpec : ChangeSpec := { name := "fnExactFirstSeed", fn := fun _ => fun
  | [d1, d2, d3, d4] => { results := [.lit (.bool true)], args := [d1, d2, d3, d4] }
  | _ => none }
def fnExactFirstSeedRow : OpenClaim := { program := "ytfhanighnckbhaa", sum := "8d794089b97a44c783d93b852a07045f9c541ddf53316018e12240684bc66a44", func := "loop.example/g01097/laws.FnExactFirstSeed", spec := "fnExactFirstSeed", apart := false }
def FnExactFirstSeedSaid : Prop := fnExactFirstSeedRow.holds Try.pinned (OpenSpec.ofChange fnExactFirstSeedSpec)

/-- ITS FALSE NEIGHBOUR: 'it returns false'. Refute it at one input. -/
def fnExactFirstSeedWrong : ChangeSpec := { name := "fnExactFirstSeed", fn := fun _ => fun
  | [d1, d2, d3, d4] => { results := [.lit (.bool false)], args := [d1, d2, d3, d4] }
  | _ => none }
def FnExactFirstSeedWrongFalsely : Prop := fnExactFirstSeedRow.holds Try.pinned (OpenSpec.ofChange fnExactFirstSeedWrong)

/-- 'laws.FnExactLeastSegment': WHATEVER THE INPUT: true; the input reads as it did. -/
def fnExactLeastSegmentSpec : ChangeSpec := { name := "fnExactLeastSegment", fn := fun _ => fun
  | [d1, d2, d3] => { results := [.lit (.bool true)], args := [d1, d2, d3] }
  | _ => none }
def fnExactLeastSegmentRow : OpenClaim := { program := "ytfhanighnckbhaa", sum := "8d794089b97a44c783d93b852a07045f9c541ddf53316018e12240684bc66a44", func := "loop.example/g01097/laws.FnExactLeastSegment", spec := "fnExactLeastSegment", apart := false }
def FnExactLeastSegmentSaid : Prop := fnExactLeastSegmentRow.holds Try.pinned (OpenSpec.ofChange fnExactLeastSegmentSpec)

/-- ITS FALSE NEIGHBOUR: 'it returns false'. Refute it at one input. -/
def fnExactLeastSegmentWrong : ChangeSpec := { name := "fnExactLeastSegment", fn := fun _ => fun
  | [d1, d2, d3] => { results := [.lit (.bool false)], args := [d1, d2, d3] }
  | _ => none }
def FnExactLeastSegmentWrongFalsely : Prop := fnExactLeastSegmentRow.holds Try.pinned (OpenSpec.ofChange fnExactLeastSegmentWrong)

/-- 'laws.FnExactBucketsOf': WHATEVER THE INPUT: true; the input reads as it did. -/
def fnExactBucketsOfSpec : ChangeSpec := { name := "fnExactBucketsOf", fn := fun _ => fun
  | [d1, d2, d3] => { results := [.lit (.bool true)], args := [d1, d2, d3] }
  | _ => none }
def fnExactBucketsOfRow : OpenClaim := { program := "ytfhanighnckbhaa", sum := "8d794089b97a44c783d93b852a07045f9c541ddf53316018e12240684bc66a44", func := "loop.example/g01097/laws.FnExactBucketsOf", spec := "fnExactBucketsOf", apart := false }
def FnExactBucketsOfSaid : Prop := fnExactBucketsOfRow.holds Try.pinned (OpenSpec.ofChange fnExactBucketsOfSpec)

/-- ITS FALSE NEIGHBOUR: 'it returns false'. Refute it at one input. -/
def fnExactBucketsOfWrong : ChangeSpec := { name := "fnExactBucketsOf", fn := fun _ => fun
  | [d1, d2, d3] => { results := [.lit (.bool false)], args := [d1, d2, d3] }
  | _ => none }
def FnExactBucketsOfWrongFalsely : Prop := fnExactBucketsOfRow.holds Try.pinned (OpenSpec.ofChange fnExactBucketsOfWrong)

/- THE SECOND FORM. 'bulk': how many values and letters a reading holds, each counted each time it is reached (what is shared counts as often as it is met; a slice's spare places count too). A statement '..UptoSaid' is the law's where the arguments, and the package variables that the reading takes, are together of bulk at most 1048576: NARROWER than '..Said'. Prove '..Said' where nothing that the law and all that it calls make is longer than what came in: it says more and counts as full. Else prove '..UptoSaid'. A law counts once. -/
mutual
def uptoBulk {H : Type} : DataW H → Nat
  | .lit (.string bytes) => bytes.length + 1
  | .lit _ => 1
  | .nil => 1
  | .ptr d => uptoBulk d + 1
  | .slice elems spare => uptoBulkAll elems + uptoBulkAll spare + 1
  | .agg parts => uptoBulkAll parts + 1
  | .iface _ d => uptoBulk d + 1
  | .map entries => uptoBulkEntries entries + 1
  | .held _ => 1
def uptoBulkAll {H : Type} : List (DataW H) → Nat
  | [] => 0
  | d :: r => uptoBulk d + uptoBulkAll r
def uptoBulkEntries {H : Type} : List (Lit × DataW H) → Nat
  | [] => 0
  | x :: r => uptoBulkEntry x + uptoBulkEntries r
def uptoBulkEntry {H : Type} : Lit × DataW H → Nat
  | (.string bytes, d) => bytes.length + uptoBulk d + 1
  | (_, d) => uptoBulk d + 1
 end
def uptoSmall : (H : Type) → List (DataW H) → Bool := fun _ ds => decide (uptoBulkAll ds ≤ 1048576)
def OpenSpec.upto (s : _root_.Go.ChangeSpec) : _root_.Go.OpenSpec := { _root_.Go.OpenSpec.ofChange s with cond := some uptoSmall }

/-- 'laws.FnExactHyperOf', WHERE WHAT IT READS IS OF BULK AT MOST 1048576: true; the input reads as it did. -/
def fnExactHyperOfUptoRow : OpenClaim := { program := "ytfhanighnckbhaa", sum := "8d794089b97a44c783d93b852a07045f9c541ddf53316018e12240684bc66a44", func := "loop.example/g01097/laws.FnExactHyperOf", spec := "fnExactHyperOf", apart := false, narrowed := true }
def FnExactHyperOfUptoSaid : Prop := fnExactHyperOfUptoRow.holds Try.pinned (OpenSpec.upto fnExactHyperOfSpec)

/-- 'laws.FnExactHyperParts', WHERE WHAT IT READS IS OF BULK AT MOST 1048576: true; the input reads as it did. -/
def fnExactHyperPartsUptoRow : OpenClaim := { program := "ytfhanighnckbhaa", sum := "8d794089b97a44c783d93b852a07045f9c541ddf53316018e12240684bc66a44", func := "loop.example/g01097/laws.FnExactHyperParts", spec := "fnExactHyperParts", unfollowed := true, recurses := true, apart := false, narrowed := true }
def FnExactHyperPartsUptoSaid : Prop := fnExactHyperPartsUptoRow.holds Try.pinned (OpenSpec.upto fnExactHyperPartsSpec)

/-- 'laws.FnExactPeelOrder', WHERE WHAT IT READS IS OF BULK AT MOST 1048576: true; the input reads as it did. -/
def fnExactPeelOrderUptoRow : OpenClaim := { program := "ytfhanighnckbhaa", sum := "8d794089b97a44c783d93b852a07045f9c541ddf53316018e12240684bc66a44", func := "loop.example/g01097/laws.FnExactPeelOrder", spec := "fnExactPeelOrder", apart := false, narrowed := true }
def FnExactPeelOrderUptoSaid : Prop := fnExactPeelOrderUptoRow.holds Try.pinned (OpenSpec.upto fnExactPeelOrderSpec)

/-- 'laws.FnExactPeelBy', WHERE WHAT IT READS IS OF BULK AT MOST 1048576: true; the input reads as it did. -/
def fnExactPeelByUptoRow : OpenClaim := { program := "ytfhanighnckbhaa", sum := "8d794089b97a44c783d93b852a07045f9c541ddf53316018e12240684bc66a44", func := "loop.example/g01097/laws.FnExactPeelBy", spec := "fnExactPeelBy", apart := false, narrowed := true }
def FnExactPeelByUptoSaid : Prop := fnExactPeelByUptoRow.holds Try.pinned (OpenSpec.upto fnExactPeelBySpec)

/-- 'laws.FnExactIsPeelOrder', WHERE WHAT IT READS IS OF BULK AT MOST 1048576: true; the input reads as it did. -/
def fnExactIsPeelOrderUptoRow : OpenClaim := { program := "ytfhanighnckbhaa", sum := "8d794089b97a44c783d93b852a07045f9c541ddf53316018e12240684bc66a44", func := "loop.example/g01097/laws.FnExactIsPeelOrder", spec := "fnExactIsPeelOrder", apart := false, narrowed := true }
def FnExactIsPeelOrderUptoSaid : Prop := fnExactIsPeelOrderUptoRow.holds Try.pinned (OpenSpec.upto fnExactIsPeelOrderSpec)

/-- 'laws.FnExactLayersOf', WHERE WHAT IT READS IS OF BULK AT MOST 1048576: true; the input reads as it did. -/
def fnExactLayersOfUptoRow : OpenClaim := { program := "ytfhanighnckbhaa", sum := "8d794089b97a44c783d93b852a07045f9c541ddf53316018e12240684bc66a44", func := "loop.example/g01097/laws.FnExactLayersOf", spec := "fnExactLayersOf", recurses := true, apart := false, narrowed := true }
def FnExactLayersOfUptoSaid : Prop := fnExactLayersOfUptoRow.holds Try.pinned (OpenSpec.upto fnExactLayersOfSpec)

/-- 'laws.FnExactCoreOf', WHERE WHAT IT READS IS OF BULK AT MOST 1048576: true; the input reads as it did. -/
def fnExactCoreOfUptoRow : OpenClaim := { program := "ytfhanighnckbhaa", sum := "8d794089b97a44c783d93b852a07045f9c541ddf53316018e12240684bc66a44", func := "loop.example/g01097/laws.FnExactCoreOf", spec := "fnExactCoreOf", recurses := true, apart := false, narrowed := true }
def FnExactCoreOfUptoSaid : Prop := fnExactCoreOfUptoRow.holds Try.pinned (OpenSpec.upto fnExactCoreOfSpec)

/-- 'laws.FnExactFirstSeed', WHERE WHAT IT READS IS OF BULK AT MOST 1048576: true; the input reads as it did. -/
def fnExactFirstSeedUptoRow : OpenClaim := { program := "ytfhanighnckbhaa", sum := "8d794089b97a44c783d93b852a07045f9c541ddf53316018e12240684bc66a44", func := "loop.example/g01097/laws.FnExactFirstSeed", spec := "fnExactFirstSeed", apart := false, narrowed := true }
def FnExactFirstSeedUptoSaid : Prop := fnExactFirstSeedUptoRow.holds Try.pinned (OpenSpec.upto fnExactFirstSeedSpec)

/-- 'laws.FnExactLeastSegment', WHERE WHAT IT READS IS OF BULK AT MOST 1048576: true; the input reads as it did. -/
def fnExactLeastSegmentUptoRow : OpenClaim := { program := "ytfhanighnckbhaa", sum := "8d794089b97a44c783d93b852a07045f9c541ddf53316018e12240684bc66a44", func := "loop.example/g01097/laws.FnExactLeastSegment", spec := "fnExactLeastSegment", apart := false, narrowed := true }
def FnExactLeastSegmentUptoSaid : Prop := fnExactLeastSegmentUptoRow.holds Try.pinned (OpenSpec.upto fnExactLeastSegmentSpec)

/-- 'laws.FnExactBucketsOf', WHERE WHAT IT READS IS OF BULK AT MOST 1048576: true; the input reads as it did. -/
def fnExactBucketsOfUptoRow : OpenClaim := { program := "ytfhanighnckbhaa", sum := "8d794089b97a44c783d93b852a07045f9c541ddf53316018e12240684bc66a44", func := "loop.example/g01097/laws.FnExactBucketsOf", spec := "fnExactBucketsOf", apart := false, narrowed := true }
def FnExactBucketsOfUptoSaid : Prop := fnExactBucketsOfUptoRow.holds Try.pinned (OpenSpec.upto fnExactBucketsOfSpec)

end Rows
end Go.Proofs.Ytfhanighnckbhaa
