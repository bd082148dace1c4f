/-
  No cell of these rows narrows 'for every input' (looked for: loops, veiled, ifaces, maps, wideKeys, modest, calm, conditions, laid).
  DERIVED. THE GIVEN ROWS OF THIS SEAT. 17 by the template 'for every input the law returns true; each argument reads behind the call as it read before'; 0 by the template 'total and deterministic' (their statements: YtdmdafifgaenhaaTotals.lean).
  GIVEN WITH THE SEED: the statements are not yours to turn. If you find one false, say at which input.
  Laid BY PROGRAM, IN A SANDBOX (cutbox-rows.mjs): the forced cells as the released guide's own fill.sh prints them over the translation 8916841cec20902d… (all of the seat's roots in one cut). By AI agents, Wed Nov 11 2026. No macro, syntax, notation, axiom, sorry.
-/
import Derived.Test.YtdmdafifgaenhaaChecked
import GoSem.Claim
import GoSem.ClaimJoined
import GoSem.ClaimMapViews
import Derived.JoinedTies
import Derived.KernelRfl
namespace Go.Proofs.Ytdmdafifgaenhaa
/- THE CELL 'sum', in the pinned program and in every row, IS THE sha256 OF THE DUMP (.gsa) THAT YtdmdafifgaenhaaProg.lean LOADS. Nothing in Lean hashes anything: it is a label: what it is worth is what the hold of that sum in a sandbox is worth. -/
noncomputable def Try.pinned : Pinned := { name := "ytdmdafifgaenhaa", sum := "8916841cec20902d36c1cf6c7c9aaf94ca9782e0d11df3d7b4d323c7981ca960", checked := Try.checked }
namespace Rows
def none {H : Type} : Left H := { results := [], args := [] }

/-- 'laws.FnExactIsHyper': WHATEVER THE INPUT: true; the input reads as it did. -/
def fnExactIsHyperSpec : ChangeSpec := { name := "fnExactIsHyper", fn := fun _ => fun
  | [d] => { results := [.lit (.bool true)], args := [d] }
  | _ => none }
def fnExactIsHyperRow : OpenClaim := { program := "ytdmdafifgaenhaa", sum := "8916841cec20902d36c1cf6c7c9aaf94ca9782e0d11df3d7b4d323c7981ca960", func := "loop.example/g01097/laws.FnExactIsHyper", spec := "fnExactIsHyper", apart := false }
def FnExactIsHyperSaid : Prop := fnExactIsHyperRow.holds Try.pinned (OpenSpec.ofChange fnExactIsHyperSpec)

/-- ITS FALSE NEIGHBOUR: 'it returns false'. Refute it at one input. -/
def fnExactIsHyperWrong : ChangeSpec := { name := "fnExactIsHyper", fn := fun _ => fun
  | [d] => { results := [.lit (.bool false)], args := [d] }
  | _ => none }
def FnExactIsHyperWrongFalsely : Prop := fnExactIsHyperRow.holds Try.pinned (OpenSpec.ofChange fnExactIsHyperWrong)

/-- 'laws.FnExactHyperOf': WHATEVER THE INPUT: true; the input reads as it did. -/
def fnExactHyperOfSpec : ChangeSpec := { name := "fnExactHyperOf", fn := fun _ => fun
  | [d1, d2, d3] => { results := [.lit (.bool true)], args := [d1, d2, d3] }
  | _ => none }
def fnExactHyperOfRow : OpenClaim := { program := "ytdmdafifgaenhaa", sum := "8916841cec20902d36c1cf6c7c9aaf94ca9782e0d11df3d7b4d323c7981ca960", func := "loop.example/g01097/laws.FnExactHyperOf", spec := "fnExactHyperOf", apart := false }
def FnExactHyperOfSaid : Prop := fnExactHyperOfRow.holds Try.pinned (OpenSpec.ofChange fnExactHyperOfSpec)

/-- ITS FALSE NEIGHBOUR: 'it returns false'. Refute it at one input. -/
def fnExactHyperOfWrong : ChangeSpec := { name := "fnExactHyperOf", fn := fun _ => fun
  | [d1, d2, d3] => { results := [.lit (.bool false)], args := [d1, d2, d3] }
  | _ => none }
def FnExactHyperOfWrongFalsely : Prop := fnExactHyperOfRow.holds Try.pinned (OpenSpec.ofChange fnExactHyperOfWrong)

/-- 'laws.FnExactHyperDegrees': WHATEVER THE INPUT: true; the input reads as it did. -/
def fnExactHyperDegreesSpec : ChangeSpec := { name := "fnExactHyperDegrees", fn := fun _ => fun
  | [d] => { results := [.lit (.bool true)], args := [d] }
  | _ => none }
def fnExactHyperDegreesRow : OpenClaim := { program := "ytdmdafifgaenhaa", sum := "8916841cec20902d36c1cf6c7c9aaf94ca9782e0d11df3d7b4d323c7981ca960", func := "loop.example/g01097/laws.FnExactHyperDegrees", spec := "fnExactHyperDegrees", apart := false }
def FnExactHyperDegreesSaid : Prop := fnExactHyperDegreesRow.holds Try.pinned (OpenSpec.ofChange fnExactHyperDegreesSpec)

/-- ITS FALSE NEIGHBOUR: 'it returns false'. Refute it at one input. -/
def fnExactHyperDegreesWrong : ChangeSpec := { name := "fnExactHyperDegrees", fn := fun _ => fun
  | [d] => { results := [.lit (.bool false)], args := [d] }
  | _ => none }
def FnExactHyperDegreesWrongFalsely : Prop := fnExactHyperDegreesRow.holds Try.pinned (OpenSpec.ofChange fnExactHyperDegreesWrong)

/-- 'laws.FnExactEdgesAt': WHATEVER THE INPUT: true; the input reads as it did. -/
def fnExactEdgesAtSpec : ChangeSpec := { name := "fnExactEdgesAt", fn := fun _ => fun
  | [d1, d2] => { results := [.lit (.bool true)], args := [d1, d2] }
  | _ => none }
def fnExactEdgesAtRow : OpenClaim := { program := "ytdmdafifgaenhaa", sum := "8916841cec20902d36c1cf6c7c9aaf94ca9782e0d11df3d7b4d323c7981ca960", func := "loop.example/g01097/laws.FnExactEdgesAt", spec := "fnExactEdgesAt", apart := false }
def FnExactEdgesAtSaid : Prop := fnExactEdgesAtRow.holds Try.pinned (OpenSpec.ofChange fnExactEdgesAtSpec)

/-- ITS FALSE NEIGHBOUR: 'it returns false'. Refute it at one input. -/
def fnExactEdgesAtWrong : ChangeSpec := { name := "fnExactEdgesAt", fn := fun _ => fun
  | [d1, d2] => { results := [.lit (.bool false)], args := [d1, d2] }
  | _ => none }
def FnExactEdgesAtWrongFalsely : Prop := fnExactEdgesAtRow.holds Try.pinned (OpenSpec.ofChange fnExactEdgesAtWrong)

/-- 'laws.FnExactWithEdge': WHATEVER THE INPUT: true; the input reads as it did. -/
def fnExactWithEdgeSpec : ChangeSpec := { name := "fnExactWithEdge", fn := fun _ => fun
  | [d1, d2] => { results := [.lit (.bool true)], args := [d1, d2] }
  | _ => none }
def fnExactWithEdgeRow : OpenClaim := { program := "ytdmdafifgaenhaa", sum := "8916841cec20902d36c1cf6c7c9aaf94ca9782e0d11df3d7b4d323c7981ca960", func := "loop.example/g01097/laws.FnExactWithEdge", spec := "fnExactWithEdge", apart := false }
def FnExactWithEdgeSaid : Prop := fnExactWithEdgeRow.holds Try.pinned (OpenSpec.ofChange fnExactWithEdgeSpec)

/-- ITS FALSE NEIGHBOUR: 'it returns false'. Refute it at one input. -/
def fnExactWithEdgeWrong : ChangeSpec := { name := "fnExactWithEdge", fn := fun _ => fun
  | [d1, d2] => { results := [.lit (.bool false)], args := [d1, d2] }
  | _ => none }
def FnExactWithEdgeWrongFalsely : Prop := fnExactWithEdgeRow.holds Try.pinned (OpenSpec.ofChange fnExactWithEdgeWrong)

/-- 'laws.FnExactWithoutEdge': WHATEVER THE INPUT: true; the input reads as it did. -/
def fnExactWithoutEdgeSpec : ChangeSpec := { name := "fnExactWithoutEdge", fn := fun _ => fun
  | [d1, d2] => { results := [.lit (.bool true)], args := [d1, d2] }
  | _ => none }
def fnExactWithoutEdgeRow : OpenClaim := { program := "ytdmdafifgaenhaa", sum := "8916841cec20902d36c1cf6c7c9aaf94ca9782e0d11df3d7b4d323c7981ca960", func := "loop.example/g01097/laws.FnExactWithoutEdge", spec := "fnExactWithoutEdge", apart := false }
def FnExactWithoutEdgeSaid : Prop := fnExactWithoutEdgeRow.holds Try.pinned (OpenSpec.ofChange fnExactWithoutEdgeSpec)

/-- ITS FALSE NEIGHBOUR: 'it returns false'. Refute it at one input. -/
def fnExactWithoutEdgeWrong : ChangeSpec := { name := "fnExactWithoutEdge", fn := fun _ => fun
  | [d1, d2] => { results := [.lit (.bool false)], args := [d1, d2] }
  | _ => none }
def FnExactWithoutEdgeWrongFalsely : Prop := fnExactWithoutEdgeRow.holds Try.pinned (OpenSpec.ofChange fnExactWithoutEdgeWrong)

/-- 'laws.FnExactHyperParts': WHATEVER THE INPUT: true; the input reads as it did. -/
def fnExactHyperPartsSpec : ChangeSpec := { name := "fnExactHyperParts", fn := fun _ => fun
  | [d] => { results := [.lit (.bool true)], args := [d] }
  | _ => none }
def fnExactHyperPartsRow : OpenClaim := { program := "ytdmdafifgaenhaa", sum := "8916841cec20902d36c1cf6c7c9aaf94ca9782e0d11df3d7b4d323c7981ca960", func := "loop.example/g01097/laws.FnExactHyperParts", spec := "fnExactHyperParts", unfollowed := true, recurses := true, apart := false }
def FnExactHyperPartsSaid : Prop := fnExactHyperPartsRow.holds Try.pinned (OpenSpec.ofChange fnExactHyperPartsSpec)

/-- ITS FALSE NEIGHBOUR: 'it returns false'. Refute it at one input. -/
def fnExactHyperPartsWrong : ChangeSpec := { name := "fnExactHyperParts", fn := fun _ => fun
  | [d] => { results := [.lit (.bool false)], args := [d] }
  | _ => none }
def FnExactHyperPartsWrongFalsely : Prop := fnExactHyperPartsRow.holds Try.pinned (OpenSpec.ofChange fnExactHyperPartsWrong)

/-- 'laws.FnExactPeelOrder': WHATEVER THE INPUT: true; the input reads as it did. -/
def fnExactPeelOrderSpec : ChangeSpec := { name := "fnExactPeelOrder", fn := fun _ => fun
  | [d] => { results := [.lit (.bool true)], args := [d] }
  | _ => none }
def fnExactPeelOrderRow : OpenClaim := { program := "ytdmdafifgaenhaa", sum := "8916841cec20902d36c1cf6c7c9aaf94ca9782e0d11df3d7b4d323c7981ca960", func := "loop.example/g01097/laws.FnExactPeelOrder", spec := "fnExactPeelOrder", apart := false }
def FnExactPeelOrderSaid : Prop := fnExactPeelOrderRow.holds Try.pinned (OpenSpec.ofChange fnExactPeelOrderSpec)

/-- ITS FALSE NEIGHBOUR: 'it returns false'. Refute it at one input. -/
def fnExactPeelOrderWrong : ChangeSpec := { name := "fnExactPeelOrder", fn := fun _ => fun
  | [d] => { results := [.lit (.bool false)], args := [d] }
  | _ => none }
def FnExactPeelOrderWrongFalsely : Prop := fnExactPeelOrderRow.holds Try.pinned (OpenSpec.ofChange fnExactPeelOrderWrong)

/-- 'laws.FnExactPeelBy': WHATEVER THE INPUT: true; the input reads as it did. -/
def fnExactPeelBySpec : ChangeSpec := { name := "fnExactPeelBy", fn := fun _ => fun
  | [d1, d2] => { results := [.lit (.bool true)], args := [d1, d2] }
  | _ => none }
def fnExactPeelByRow : OpenClaim := { program := "ytdmdafifgaenhaa", sum := "8916841cec20902d36c1cf6c7c9aaf94ca9782e0d11df3d7b4d323c7981ca960", func := "loop.example/g01097/laws.FnExactPeelBy", spec := "fnExactPeelBy", apart := false }
def FnExactPeelBySaid : Prop := fnExactPeelByRow.holds Try.pinned (OpenSpec.ofChange fnExactPeelBySpec)

/-- ITS FALSE NEIGHBOUR: 'it returns false'. Refute it at one input. -/
def fnExactPeelByWrong : ChangeSpec := { name := "fnExactPeelBy", fn := fun _ => fun
  | [d1, d2] => { results := [.lit (.bool false)], args := [d1, d2] }
  | _ => none }
def FnExactPeelByWrongFalsely : Prop := fnExactPeelByRow.holds Try.pinned (OpenSpec.ofChange fnExactPeelByWrong)

/-- 'laws.FnExactIsPeelOrder': WHATEVER THE INPUT: true; the input reads as it did. -/
def fnExactIsPeelOrderSpec : ChangeSpec := { name := "fnExactIsPeelOrder", fn := fun _ => fun
  | [d1, d2] => { results := [.lit (.bool true)], args := [d1, d2] }
  | _ => none }
def fnExactIsPeelOrderRow : OpenClaim := { program := "ytdmdafifgaenhaa", sum := "8916841cec20902d36c1cf6c7c9aaf94ca9782e0d11df3d7b4d323c7981ca960", func := "loop.example/g01097/laws.FnExactIsPeelOrder", spec := "fnExactIsPeelOrder", apart := false }
def FnExactIsPeelOrderSaid : Prop := fnExactIsPeelOrderRow.holds Try.pinned (OpenSpec.ofChange fnExactIsPeelOrderSpec)

/-- ITS FALSE NEIGHBOUR: 'it returns false'. Refute it at one input. -/
def fnExactIsPeelOrderWrong : ChangeSpec := { name := "fnExactIsPeelOrder", fn := fun _ => fun
  | [d1, d2] => { results := [.lit (.bool false)], args := [d1, d2] }
  | _ => none }
def FnExactIsPeelOrderWrongFalsely : Prop := fnExactIsPeelOrderRow.holds Try.pinned (OpenSpec.ofChange fnExactIsPeelOrderWrong)

/-- 'laws.FnExactLayersOf': WHATEVER THE INPUT: true; the input reads as it did. -/
def fnExactLayersOfSpec : ChangeSpec := { name := "fnExactLayersOf", fn := fun _ => fun
  | [d] => { results := [.lit (.bool true)], args := [d] }
  | _ => none }
def fnExactLayersOfRow : OpenClaim := { program := "ytdmdafifgaenhaa", sum := "8916841cec20902d36c1cf6c7c9aaf94ca9782e0d11df3d7b4d323c7981ca960", func := "loop.example/g01097/laws.FnExactLayersOf", spec := "fnExactLayersOf", recurses := true, apart := false }
def FnExactLayersOfSaid : Prop := fnExactLayersOfRow.holds Try.pinned (OpenSpec.ofChange fnExactLayersOfSpec)

/-- ITS FALSE NEIGHBOUR: 'it returns false'. Refute it at one input. -/
def fnExactLayersOfWrong : ChangeSpec := { name := "fnExactLayersOf", fn := fun _ => fun
  | [d] => { results := [.lit (.bool false)], args := [d] }
  | _ => none }
def FnExactLayersOfWrongFalsely : Prop := fnExactLayersOfRow.holds Try.pinned (OpenSpec.ofChange fnExactLayersOfWrong)

/-- 'laws.FnExactCoreOf': WHATEVER THE INPUT: true; the input reads as it did. -/
def fnExactCoreOfSpec : ChangeSpec := { name := "fnExactCoreOf", fn := fun _ => fun
  | [d] => { results := [.lit (.bool true)], args := [d] }
  | _ => none }
def fnExactCoreOfRow : OpenClaim := { program := "ytdmdafifgaenhaa", sum := "8916841cec20902d36c1cf6c7c9aaf94ca9782e0d11df3d7b4d323c7981ca960", func := "loop.example/g01097/laws.FnExactCoreOf", spec := "fnExactCoreOf", recurses := true, apart := false }
def FnExactCoreOfSaid : Prop := fnExactCoreOfRow.holds Try.pinned (OpenSpec.ofChange fnExactCoreOfSpec)

/-- ITS FALSE NEIGHBOUR: 'it returns false'. Refute it at one input. -/
def fnExactCoreOfWrong : ChangeSpec := { name := "fnExactCoreOf", fn := fun _ => fun
  | [d] => { results := [.lit (.bool false)], args := [d] }
  | _ => none }
def FnExactCoreOfWrongFalsely : Prop := fnExactCoreOfRow.holds Try.pinned (OpenSpec.ofChange fnExactCoreOfWrong)

/-- 'laws.FnExactIsCore': WHATEVER THE INPUT: true; the input reads as it did. -/
def fnExactIsCoreSpec : ChangeSpec := { name := "fnExactIsCore", fn := fun _ => fun
  | [d1, d2] => { results := [.lit (.bool true)], args := [d1, d2] }
  | _ => none }
def fnExactIsCoreRow : OpenClaim := { program := "ytdmdafifgaenhaa", sum := "8916841cec20902d36c1cf6c7c9aaf94ca9782e0d11df3d7b4d323c7981ca960", func := "loop.example/g01097/laws.FnExactIsCore", spec := "fnExactIsCore", apart := false }
def FnExactIsCoreSaid : Prop := fnExactIsCoreRow.holds Try.pinned (OpenSpec.ofChange fnExactIsCoreSpec)

/-- ITS FALSE NEIGHBOUR: 'it returns false'. Refute it at one input. -/
def fnExactIsCoreWrong : ChangeSpec := { name := "fnExactIsCore", fn := fun _ => fun
  | [d1, d2] => { results := [.lit (.bool false)], args := [d1, d2] }
  | _ => none }
def FnExactIsCoreWrongFalsely : Prop := fnExactIsCoreRow.holds Try.pinned (OpenSpec.ofChange fnExactIsCoreWrong)

/-- 'laws.FnExactOwnPlaces': WHATEVER THE INPUT: true; the input reads as it did. -/
def fnExactOwnPlacesSpec : ChangeSpec := { name := "fnExactOwnPlaces", fn := fun _ => fun
  | [d] => { results := [.lit (.bool true)], args := [d] }
  | _ => none }
def fnExactOwnPlacesRow : OpenClaim := { program := "ytdmdafifgaenhaa", sum := "8916841cec20902d36c1cf6c7c9aaf94ca9782e0d11df3d7b4d323c7981ca960", func := "loop.example/g01097/laws.FnExactOwnPlaces", spec := "fnExactOwnPlaces", apart := false }
def FnExactOwnPlacesSaid : Prop := fnExactOwnPlacesRow.holds Try.pinned (OpenSpec.ofChange fnExactOwnPlacesSpec)

/-- ITS FALSE NEIGHBOUR: 'it returns false'. Refute it at one input. -/
def fnExactOwnPlacesWrong : ChangeSpec := { name := "fnExactOwnPlaces", fn := fun _ => fun
  | [d] => { results := [.lit (.bool false)], args := [d] }
  | _ => none }
def FnExactOwnPlacesWrongFalsely : Prop := fnExactOwnPlacesRow.holds Try.pinned (OpenSpec.ofChange fnExactOwnPlacesWrong)

/-- 'laws.FnExactAreOwnPlaces': WHATEVER THE INPUT: true; the input reads as it did. -/
def fnExactAreOwnPlacesSpec : ChangeSpec := { name := "fnExactAreOwnPlaces", fn := fun _ => fun
  | [d1, d2] => { results := [.lit (.bool true)], args := [d1, d2] }
  | _ => none }
def fnExactAreOwnPlacesRow : OpenClaim := { program := "ytdmdafifgaenhaa", sum := "8916841cec20902d36c1cf6c7c9aaf94ca9782e0d11df3d7b4d323c7981ca960", func := "loop.example/g01097/laws.FnExactAreOwnPlaces", spec := "fnExactAreOwnPlaces", apart := false }
def FnExactAreOwnPlacesSaid : Prop := fnExactAreOwnPlacesRow.holds Try.pinned (OpenSpec.ofChange fnExactAreOwnPlacesSpec)

/-- ITS FALSE NEIGHBOUR: 'it returns false'. Refute it at one input. -/
def fnExactAreOwnPlacesWrong : ChangeSpec := { name := "fnExactAreOwnPlaces", fn := fun _ => fun
  | [d1, d2] => { results := [.lit (.bool false)], args := [d1, d2] }
  | _ => none }
def FnExactAreOwnPlacesWrongFalsely : Prop := fnExactAreOwnPlacesRow.holds Try.pinned (OpenSpec.ofChange fnExactAreOwnPlacesWrong)

/-- 'laws.FnExactFirstSeed': WHATEVER THE INPUT: true; the input reads as it did. -/
def fnExactFirstSeedSpec : ChangeSpec := { name := "fnExactFirstSeed", fn := fun _ => fun
  | [d1, d2, d3, d4] => { results := [.lit (.bool true)], args := [d1, d2, d3, d4] }
  | _ => none }
def fnExactFirstSeedRow : OpenClaim := { program := "ytdmdafifgaenhaa", sum := "8916841cec20902d36c1cf6c7c9aaf94ca9782e0d11df3d7b4d323c7981ca960", func := "loop.example/g01097/laws.FnExactFirstSeed", spec := "fnExactFirstSeed", apart := false }
def FnExactFirstSeedSaid : Prop := fnExactFirstSeedRow.holds Try.pinned (OpenSpec.ofChange fnExactFirstSeedSpec)

/-- ITS FALSE NEIGHBOUR: 'it returns false'. Refute it at one input. -/
def fnExactFirstSeedWrong : ChangeSpec := { name := "fnExactFirstSeed", fn := fun _ => fun
  | [d1, d2, d3, d4] => { results := [.lit (.bool false)], args := [d1, d2, d3, d4] }
  | _ => none }
def FnExactFirstSeedWrongFalsely : Prop := fnExactFirstSeedRow.holds Try.pinned (OpenSpec.ofChange fnExactFirstSeedWrong)

/-- 'laws.FnExactLeastSegment': WHATEVER THE INPUT: true; the input reads as it did. -/
def fnExactLeastSegmentSpec : ChangeSpec := { name := "fnExactLeastSegment", fn := fun _ => fun
  | [d1, d2, d3] => { results := [.lit (.bool true)], args := [d1, d2, d3] }
  | _ => none }
def fnExactLeastSegmentRow : OpenClaim := { program := "ytdmdafifgaenhaa", sum := "8916841cec20902d36c1cf6c7c9aaf94ca9782e0d11df3d7b4d323c7981ca960", func := "loop.example/g01097/laws.FnExactLeastSegment", spec := "fnExactLeastSegment", apart := false }
def FnExactLeastSegmentSaid : Prop := fnExactLeastSegmentRow.holds Try.pinned (OpenSpec.ofChange fnExactLeastSegmentSpec)

/-- ITS FALSE NEIGHBOUR: 'it returns false'. Refute it at one input. -/
def fnExactLeastSegmentWrong : ChangeSpec := { name := "fnExactLeastSegment", fn := fun _ => fun
  | [d1, d2, d3] => { results := [.lit (.bool false)], args := [d1, d2, d3] }
  | _ => none }
def FnExactLeastSegmentWrongFalsely : Prop := fnExactLeastSegmentRow.holds Try.pinned (OpenSpec.ofChange fnExactLeastSegmentWrong)

/- THE SECOND FORM. 'bulk': how many values and letters a reading holds, each counted each time it is reached (what is shared counts as often as it is met; a slice's spare places count too). A statement '..UptoSaid' is the law's where the arguments, and the package variables that the reading takes, are together of bulk at most 1048576: NARROWER than '..Said'. Prove '..Said' where nothing that the law and all that it calls make is longer than what came in: it says more and counts as full. Else prove '..UptoSaid'. A law counts once. -/
mutual
def uptoBulk {H : Type} : DataW H → Nat
  | .lit (.string bytes) => bytes.length + 1
  | .lit _ => 1
  | .nil => 1
  | .ptr d => uptoBulk d + 1
  | .slice elems spare => uptoBulkAll elems + uptoBulkAll spare + 1
  | .agg parts => uptoBulkAll parts + 1
  | .iface _ d => uptoBulk d + 1
  | .map entries => uptoBulkEntries entries + 1
  | .held _ => 1
def uptoBulkAll {H : Type} : List (DataW H) → Nat
  | [] => 0
  | d :: r => uptoBulk d + uptoBulkAll r
def uptoBulkEntries {H : Type} : List (Lit × DataW H) → Nat
  | [] => 0
  | x :: r => uptoBulkEntry x + uptoBulkEntries r
def uptoBulkEntry {H : Type} : Lit × DataW H → Nat
  | (.string bytes, d) => bytes.length + uptoBulk d + 1
  | (_, d) => uptoBulk d + 1
 end
def uptoSmall : (H : Type) → List (DataW H) → Bool := fun _ ds => decide (uptoBulkAll ds ≤ 1048576)
def OpenSpec.upto (s : _root_.Go.ChangeSpec) : _root_.Go.OpenSpec := { _root_.Go.OpenSpec.ofChange s with cond := some uptoSmall }

/-- 'laws.FnExactIsHyper', WHERE WHAT IT READS IS OF BULK AT MOST 1048576: true; the input reads as it did. -/
def fnExactIsHyperUptoRow : OpenClaim := { program := "ytdmdafifgaenhaa", sum := "8916841cec20902d36c1cf6c7c9aaf94ca9782e0d11df3d7b4d323c7981ca960", func := "loop.example/g01097/laws.FnExactIsHyper", spec := "fnExactIsHyper", apart := false, narrowed := true }
def FnExactIsHyperUptoSaid : Prop := fnExactIsHyperUptoRow.holds Try.pinned (OpenSpec.upto fnExactIsHyperSpec)

/-- 'laws.FnExactHyperOf', WHERE WHAT IT READS IS OF BULK AT MOST 1048576: true; the input reads as it did. -/
def fnExactHyperOfUptoRow : OpenClaim := { program := "ytdmdafifgaenhaa", sum := "8916841cec20902d36c1cf6c7c9aaf94ca9782e0d11df3d7b4d323c7981ca960", func := "loop.example/g01097/laws.FnExactHyperOf", spec := "fnExactHyperOf", apart := false, narrowed := true }
def FnExactHyperOfUptoSaid : Prop := fnExactHyperOfUptoRow.holds Try.pinned (OpenSpec.upto fnExactHyperOfSpec)

/-- 'laws.FnExactHyperDegrees', WHERE WHAT IT READS IS OF BULK AT MOST 1048576: true; the input reads as it did. -/
def fnExactHyperDegreesUptoRow : OpenClaim := { program := "ytdmdafifgaenhaa", sum := "8916841cec20902d36c1cf6c7c9aaf94ca9782e0d11df3d7b4d323c7981ca960", func := "loop.example/g01097/laws.FnExactHyperDegrees", spec := "fnExactHyperDegrees", apart := false, narrowed := true }
def FnExactHyperDegreesUptoSaid : Prop := fnExactHyperDegreesUptoRow.holds Try.pinned (OpenSpec.upto fnExactHyperDegreesSpec)

/-- 'laws.FnExactEdgesAt', WHERE WHAT IT READS IS OF BULK AT MOST 1048576: true; the input reads as it did. -/
def fnExactEdgesAtUptoRow : OpenClaim := { program := "ytdmdafifgaenhaa", sum := "8916841cec20902d36c1cf6c7c9aaf94ca9782e0d11df3d7b4d323c7981ca960", func := "loop.example/g01097/laws.FnExactEdgesAt", spec := "fnExactEdgesAt", apart := false, narrowed := true }
def FnExactEdgesAtUptoSaid : Prop := fnExactEdgesAtUptoRow.holds Try.pinned (OpenSpec.upto fnExactEdgesAtSpec)

/-- 'laws.FnExactWithEdge', WHERE WHAT IT READS IS OF BULK AT MOST 1048576: true; the input reads as it did. -/
def fnExactWithEdgeUptoRow : OpenClaim := { program := "ytdmdafifgaenhaa", sum := "8916841cec20902d36c1cf6c7c9aaf94ca9782e0d11df3d7b4d323c7981ca960", func := "loop.example/g01097/laws.FnExactWithEdge", spec := "fnExactWithEdge", apart := false, narrowed := true }
def FnExactWithEdgeUptoSaid : Prop := fnExactWithEdgeUptoRow.holds Try.pinned (OpenSpec.upto fnExactWithEdgeSpec)

/-- 'laws.FnExactWithoutEdge', WHERE WHAT IT READS IS OF BULK AT MOST 1048576: true; the input reads as it did. -/
def fnExactWithoutEdgeUptoRow : OpenClaim := { program := "ytdmdafifgaenhaa", sum := "8916841cec20902d36c1cf6c7c9aaf94ca9782e0d11df3d7b4d323c7981ca960", func := "loop.example/g01097/laws.FnExactWithoutEdge", spec := "fnExactWithoutEdge", apart := false, narrowed := true }
def FnExactWithoutEdgeUptoSaid : Prop := fnExactWithoutEdgeUptoRow.holds Try.pinned (OpenSpec.upto fnExactWithoutEdgeSpec)

/-- 'laws.FnExactHyperParts', WHERE WHAT IT READS IS OF BULK AT MOST 1048576: true; the input reads as it did. -/
def fnExactHyperPartsUptoRow : OpenClaim := { program := "ytdmdafifgaenhaa", sum := "8916841cec20902d36c1cf6c7c9aaf94ca9782e0d11df3d7b4d323c7981ca960", func := "loop.example/g01097/laws.FnExactHyperParts", spec := "fnExactHyperParts", unfollowed := true, recurses := true, apart := false, narrowed := true }
def FnExactHyperPartsUptoSaid : Prop := fnExactHyperPartsUptoRow.holds Try.pinned (OpenSpec.upto fnExactHyperPartsSpec)

/-- 'laws.FnExactPeelOrder', WHERE WHAT IT READS IS OF BULK AT MOST 1048576: true; the input reads as it did. -/
def fnExactPeelOrderUptoRow : OpenClaim := { program := "ytdmdafifgaenhaa", sum := "8916841cec20902d36c1cf6c7c9aaf94ca9782e0d11df3d7b4d323c7981ca960", func := "loop.example/g01097/laws.FnExactPeelOrder", spec := "fnExactPeelOrder", apart := false, narrowed := true }
def FnExactPeelOrderUptoSaid : Prop := fnExactPeelOrderUptoRow.holds Try.pinned (OpenSpec.upto fnExactPeelOrderSpec)

/-- 'laws.FnExactPeelBy', WHERE WHAT IT READS IS OF BULK AT MOST 1048576: true; the input reads as it did. -/
def fnExactPeelByUptoRow : OpenClaim := { program := "ytdmdafifgaenhaa", sum := "8916841cec20902d36c1cf6c7c9aaf94ca9782e0d11df3d7b4d323c7981ca960", func := "loop.example/g01097/laws.FnExactPeelBy", spec := "fnExactPeelBy", apart := false, narrowed := true }
def FnExactPeelByUptoSaid : Prop := fnExactPeelByUptoRow.holds Try.pinned (OpenSpec.upto fnExactPeelBySpec)

/-- 'laws.FnExactIsPeelOrder', WHERE WHAT IT READS IS OF BULK AT MOST 1048576: true; the input reads as it did. -/
def fnExactIsPeelOrderUptoRow : OpenClaim := { program := "ytdmdafifgaenhaa", sum := "8916841cec20902d36c1cf6c7c9aaf94ca9782e0d11df3d7b4d323c7981ca960", func := "loop.example/g01097/laws.FnExactIsPeelOrder", spec := "fnExactIsPeelOrder", apart := false, narrowed := true }
def FnExactIsPeelOrderUptoSaid : Prop := fnExactIsPeelOrderUptoRow.holds Try.pinned (OpenSpec.upto fnExactIsPeelOrderSpec)

/-- 'laws.FnExactLayersOf', WHERE WHAT IT READS IS OF BULK AT MOST 1048576: true; the input reads as it did. -/
def fnExactLayersOfUptoRow : OpenClaim := { program := "ytdmdafifgaenhaa", sum := "8916841cec20902d36c1cf6c7c9aaf94ca9782e0d11df3d7b4d323c7981ca960", func := "loop.example/g01097/laws.FnExactLayersOf", spec := "fnExactLayersOf", recurses := true, apart := false, narrowed := true }
def FnExactLayersOfUptoSaid : Prop := fnExactLayersOfUptoRow.holds Try.pinned (OpenSpec.upto fnExactLayersOfSpec)

/-- 'laws.FnExactCoreOf', WHERE WHAT IT READS IS OF BULK AT MOST 1048576: true; the input reads as it did. -/
def fnExactCoreOfUptoRow : OpenClaim := { program := "ytdmdafifgaenhaa", sum := "8916841cec20902d36c1cf6c7c9aaf94ca9782e0d11df3d7b4d323c7981ca960", func := "loop.example/g01097/laws.FnExactCoreOf", spec := "fnExactCoreOf", recurses := true, apart := false, narrowed := true }
def FnExactCoreOfUptoSaid : Prop := fnExactCoreOfUptoRow.holds Try.pinned (OpenSpec.upto fnExactCoreOfSpec)

/-- 'laws.FnExactIsCore', WHERE WHAT IT READS IS OF BULK AT MOST 1048576: true; the input reads as it did. -/
def fnExactIsCoreUptoRow : OpenClaim := { program := "ytdmdafifgaenhaa", sum := "8916841cec20902d36c1cf6c7c9aaf94ca9782e0d11df3d7b4d323c7981ca960", func := "loop.example/g01097/laws.FnExactIsCore", spec := "fnExactIsCore", apart := false, narrowed := true }
def FnExactIsCoreUptoSaid : Prop := fnExactIsCoreUptoRow.holds Try.pinned (OpenSpec.upto fnExactIsCoreSpec)

/-- 'laws.FnExactOwnPlaces', WHERE WHAT IT READS IS OF BULK AT MOST 1048576: true; the input reads as it did. -/
def fnExactOwnPlacesUptoRow : OpenClaim := { program := "ytdmdafifgaenhaa", sum := "8916841cec20902d36c1cf6c7c9aaf94ca9782e0d11df3d7b4d323c7981ca960", func := "loop.example/g01097/laws.FnExactOwnPlaces", spec := "fnExactOwnPlaces", apart := false, narrowed := true }
def FnExactOwnPlacesUptoSaid : Prop := fnExactOwnPlacesUptoRow.holds Try.pinned (OpenSpec.upto fnExactOwnPlacesSpec)

/-- 'laws.FnExactAreOwnPlaces', WHERE WHAT IT READS IS OF BULK AT MOST 1048576: true; the input reads as it did. -/
def fnExactAreOwnPlacesUptoRow : OpenClaim := { program := "ytdmdafifgaenhaa", sum := "8916841cec20902d36c1cf6c7c9aaf94ca9782e0d11df3d7b4d323c7981ca960", func := "loop.example/g01097/laws.FnExactAreOwnPlaces", spec := "fnExactAreOwnPlaces", apart := false, narrowed := true }
def FnExactAreOwnPlacesUptoSaid : Prop := fnExactAreOwnPlacesUptoRow.holds Try.pinned (OpenSpec.upto fnExactAreOwnPlacesSpec)

/-- 'laws.FnExactFirstSeed', WHERE WHAT IT READS IS OF BULK AT MOST 1048576: true; the input reads as it did. -/
def fnExactFirstSeedUptoRow : OpenClaim := { program := "ytdmdafifgaenhaa", sum := "8916841cec20902d36c1cf6c7c9aaf94ca9782e0d11df3d7b4d323c7981ca960", func := "loop.example/g01097/laws.FnExactFirstSeed", spec := "fnExactFirstSeed", apart := false, narrowed := true }
def FnExactFirstSeedUptoSaid : Prop := fnExactFirstSeedUptoRow.holds Try.pinned (OpenSpec.upto fnExactFirstSeedSpec)

/-- 'laws.FnExactLeastSegment', WHERE WHAT IT READS IS OF BULK AT MOST 1048576: true; the input reads as it did. -/
def fnExactLeastSegmentUptoRow : OpenClaim := { program := "ytdmdafifgaenhaa", sum := "8916841cec20902d36c1cf6c7c9aaf94ca9782e0d11df3d7b4d323c7981ca960", func := "loop.example/g01097/laws.FnExactLeastSegment", spec := "fnExactLeastSegment", apart := false, narrowed := true }
def FnExactLeastSegmentUptoSaid : Prop := fnExactLeastSegmentUptoRow.holds Try.pinned (OpenSpec.upto fnExactLeastSegmentSpec)

end Rows
end Go.Proofs.Ytdmdafifgaenhaa
