/-
  No cell of these rows narrows 'for every input' (looked for: loops, veiled, ifaces, maps, wideKeys, modest, calm, conditions, laid).
  DERIVED. THE GIVEN ROWS OF THIS SEAT. 24 by the template 'for every input the law returns true; each argument reads behind the call as it read before'; 0 by the template 'total and deterministic' (their statements: YtglccgpiakadbaaTotals.lean).
  GIVEN WITH THE SEED: the statements are not yours to turn. If you find one false, say at which input.
  Laid BY PROGRAM, IN A SANDBOX (cutbox-rows.mjs): the forced cells as the released guide's own fill.sh prints them over the translation 6d2a5d083654a3f9… (all of the seat's roots in one cut). By AI agents, Wed Nov 11 2026. No macro, syntax, notation, axiom, sorry.
-/
import Derived.Test.YtglccgpiakadbaaChecked
import GoSem.Claim
import GoSem.ClaimJoined
import GoSem.ClaimMapViews
import Derived.JoinedTies
import Derived.KernelRfl
namespace Go.Proofs.Ytglccgpiakadbaa
/- THE CELL 'sum', in the pinned program and in every row, IS THE sha256 OF THE DUMP (.gsa) THAT YtglccgpiakadbaaProg.lean LOADS. Nothing in Lean hashes anything: it is a label: what it is worth is what the hold of that sum in a sandbox is worth. -/
noncomputable def Try.pinned : Pinned := { name := "ytglccgpiakadbaa", sum := "6d2a5d083654a3f9412c184b4f3387476ec529729794dfeb828239a5168c65e6", checked := Try.checked }
namespace Rows
def none {H : Type} : Left H := { results := [], args := [] }

/-- 'laws.FnFieldsStay': WHATEVER THE INPUT: true; the input reads as it did. -/
def fnFieldsStaySpec : ChangeSpec := { name := "fnFieldsStay", fn := fun _ => fun
  | [d1, d2] => { results := [.lit (.bool true)], args := [d1, d2] }
  | _ => none }
def fnFieldsStayRow : OpenClaim := { program := "ytglccgpiakadbaa", sum := "6d2a5d083654a3f9412c184b4f3387476ec529729794dfeb828239a5168c65e6", func := "loop.example/g01097/laws.FnFieldsStay", spec := "fnFieldsStay", apart := false }
def FnFieldsStaySaid : Prop := fnFieldsStayRow.holds Try.pinned (OpenSpec.ofChange fnFieldsStaySpec)

/-- ITS FALSE NEIGHBOUR: 'it returns false'. Refute it at one input. -/
def fnFieldsStayWrong : ChangeSpec := { name := "fnFieldsStay", fn := fun _ => fun
  | [d1, d2] => { results := [.lit (.bool false)], args := [d1, d2] }
  | _ => none }
def FnFieldsStayWrongFalsely : Prop := fnFieldsStayRow.holds Try.pinned (OpenSpec.ofChange fnFieldsStayWrong)

/-- 'laws.FnJoinsAreCut': WHATEVER THE INPUT: true; the input reads as it did. -/
def fnJoinsAreCutSpec : ChangeSpec := { name := "fnJoinsAreCut", fn := fun _ => fun
  | [d1, d2] => { results := [.lit (.bool true)], args := [d1, d2] }
  | _ => none }
def fnJoinsAreCutRow : OpenClaim := { program := "ytglccgpiakadbaa", sum := "6d2a5d083654a3f9412c184b4f3387476ec529729794dfeb828239a5168c65e6", func := "loop.example/g01097/laws.FnJoinsAreCut", spec := "fnJoinsAreCut", apart := false }
def FnJoinsAreCutSaid : Prop := fnJoinsAreCutRow.holds Try.pinned (OpenSpec.ofChange fnJoinsAreCutSpec)

/-- ITS FALSE NEIGHBOUR: 'it returns false'. Refute it at one input. -/
def fnJoinsAreCutWrong : ChangeSpec := { name := "fnJoinsAreCut", fn := fun _ => fun
  | [d1, d2] => { results := [.lit (.bool false)], args := [d1, d2] }
  | _ => none }
def FnJoinsAreCutWrongFalsely : Prop := fnJoinsAreCutRow.holds Try.pinned (OpenSpec.ofChange fnJoinsAreCutWrong)

/-- 'laws.FnXorTellsDifferences': WHATEVER THE INPUT: true; the input reads as it did. -/
def fnXorTellsDifferencesSpec : ChangeSpec := { name := "fnXorTellsDifferences", fn := fun _ => fun
  | [d1, d2] => { results := [.lit (.bool true)], args := [d1, d2] }
  | _ => none }
def fnXorTellsDifferencesRow : OpenClaim := { program := "ytglccgpiakadbaa", sum := "6d2a5d083654a3f9412c184b4f3387476ec529729794dfeb828239a5168c65e6", func := "loop.example/g01097/laws.FnXorTellsDifferences", spec := "fnXorTellsDifferences", apart := false }
def FnXorTellsDifferencesSaid : Prop := fnXorTellsDifferencesRow.holds Try.pinned (OpenSpec.ofChange fnXorTellsDifferencesSpec)

/-- ITS FALSE NEIGHBOUR: 'it returns false'. Refute it at one input. -/
def fnXorTellsDifferencesWrong : ChangeSpec := { name := "fnXorTellsDifferences", fn := fun _ => fun
  | [d1, d2] => { results := [.lit (.bool false)], args := [d1, d2] }
  | _ => none }
def FnXorTellsDifferencesWrongFalsely : Prop := fnXorTellsDifferencesRow.holds Try.pinned (OpenSpec.ofChange fnXorTellsDifferencesWrong)

/-- 'laws.FnBitTexts': WHATEVER THE INPUT: true; the input reads as it did. -/
def fnBitTextsSpec : ChangeSpec := { name := "fnBitTexts", fn := fun _ => fun
  | [d1, d2] => { results := [.lit (.bool true)], args := [d1, d2] }
  | _ => none }
def fnBitTextsRow : OpenClaim := { program := "ytglccgpiakadbaa", sum := "6d2a5d083654a3f9412c184b4f3387476ec529729794dfeb828239a5168c65e6", func := "loop.example/g01097/laws.FnBitTexts", spec := "fnBitTexts", apart := false }
def FnBitTextsSaid : Prop := fnBitTextsRow.holds Try.pinned (OpenSpec.ofChange fnBitTextsSpec)

/-- ITS FALSE NEIGHBOUR: 'it returns false'. Refute it at one input. -/
def fnBitTextsWrong : ChangeSpec := { name := "fnBitTexts", fn := fun _ => fun
  | [d1, d2] => { results := [.lit (.bool false)], args := [d1, d2] }
  | _ => none }
def FnBitTextsWrongFalsely : Prop := fnBitTextsRow.holds Try.pinned (OpenSpec.ofChange fnBitTextsWrong)

/-- 'laws.FnPlacesOfHashes': WHATEVER THE INPUT: true; the input reads as it did. -/
def fnPlacesOfHashesSpec : ChangeSpec := { name := "fnPlacesOfHashes", fn := fun _ => fun
  | [d1, d2] => { results := [.lit (.bool true)], args := [d1, d2] }
  | _ => none }
def fnPlacesOfHashesRow : OpenClaim := { program := "ytglccgpiakadbaa", sum := "6d2a5d083654a3f9412c184b4f3387476ec529729794dfeb828239a5168c65e6", func := "loop.example/g01097/laws.FnPlacesOfHashes", spec := "fnPlacesOfHashes", apart := false }
def FnPlacesOfHashesSaid : Prop := fnPlacesOfHashesRow.holds Try.pinned (OpenSpec.ofChange fnPlacesOfHashesSpec)

/-- ITS FALSE NEIGHBOUR: 'it returns false'. Refute it at one input. -/
def fnPlacesOfHashesWrong : ChangeSpec := { name := "fnPlacesOfHashes", fn := fun _ => fun
  | [d1, d2] => { results := [.lit (.bool false)], args := [d1, d2] }
  | _ => none }
def FnPlacesOfHashesWrongFalsely : Prop := fnPlacesOfHashesRow.holds Try.pinned (OpenSpec.ofChange fnPlacesOfHashesWrong)

/-- 'laws.FnExactIsBits': WHATEVER THE INPUT: true; the input reads as it did. -/
def fnExactIsBitsSpec : ChangeSpec := { name := "fnExactIsBits", fn := fun _ => fun
  | [d] => { results := [.lit (.bool true)], args := [d] }
  | _ => none }
def fnExactIsBitsRow : OpenClaim := { program := "ytglccgpiakadbaa", sum := "6d2a5d083654a3f9412c184b4f3387476ec529729794dfeb828239a5168c65e6", func := "loop.example/g01097/laws.FnExactIsBits", spec := "fnExactIsBits", apart := false }
def FnExactIsBitsSaid : Prop := fnExactIsBitsRow.holds Try.pinned (OpenSpec.ofChange fnExactIsBitsSpec)

/-- ITS FALSE NEIGHBOUR: 'it returns false'. Refute it at one input. -/
def fnExactIsBitsWrong : ChangeSpec := { name := "fnExactIsBits", fn := fun _ => fun
  | [d] => { results := [.lit (.bool false)], args := [d] }
  | _ => none }
def FnExactIsBitsWrongFalsely : Prop := fnExactIsBitsRow.holds Try.pinned (OpenSpec.ofChange fnExactIsBitsWrong)

/-- 'laws.FnExactNewBits': WHATEVER THE INPUT: true; the input reads as it did. -/
def fnExactNewBitsSpec : ChangeSpec := { name := "fnExactNewBits", fn := fun _ => fun
  | [d] => { results := [.lit (.bool true)], args := [d] }
  | _ => none }
def fnExactNewBitsRow : OpenClaim := { program := "ytglccgpiakadbaa", sum := "6d2a5d083654a3f9412c184b4f3387476ec529729794dfeb828239a5168c65e6", func := "loop.example/g01097/laws.FnExactNewBits", spec := "fnExactNewBits", apart := false }
def FnExactNewBitsSaid : Prop := fnExactNewBitsRow.holds Try.pinned (OpenSpec.ofChange fnExactNewBitsSpec)

/-- ITS FALSE NEIGHBOUR: 'it returns false'. Refute it at one input. -/
def fnExactNewBitsWrong : ChangeSpec := { name := "fnExactNewBits", fn := fun _ => fun
  | [d] => { results := [.lit (.bool false)], args := [d] }
  | _ => none }
def FnExactNewBitsWrongFalsely : Prop := fnExactNewBitsRow.holds Try.pinned (OpenSpec.ofChange fnExactNewBitsWrong)

/-- 'laws.FnExactBitAt': WHATEVER THE INPUT: true; the input reads as it did. -/
def fnExactBitAtSpec : ChangeSpec := { name := "fnExactBitAt", fn := fun _ => fun
  | [d1, d2] => { results := [.lit (.bool true)], args := [d1, d2] }
  | _ => none }
def fnExactBitAtRow : OpenClaim := { program := "ytglccgpiakadbaa", sum := "6d2a5d083654a3f9412c184b4f3387476ec529729794dfeb828239a5168c65e6", func := "loop.example/g01097/laws.FnExactBitAt", spec := "fnExactBitAt", apart := false }
def FnExactBitAtSaid : Prop := fnExactBitAtRow.holds Try.pinned (OpenSpec.ofChange fnExactBitAtSpec)

/-- ITS FALSE NEIGHBOUR: 'it returns false'. Refute it at one input. -/
def fnExactBitAtWrong : ChangeSpec := { name := "fnExactBitAt", fn := fun _ => fun
  | [d1, d2] => { results := [.lit (.bool false)], args := [d1, d2] }
  | _ => none }
def FnExactBitAtWrongFalsely : Prop := fnExactBitAtRow.holds Try.pinned (OpenSpec.ofChange fnExactBitAtWrong)

/-- 'laws.FnExactPutBit': WHATEVER THE INPUT: true; the input reads as it did. -/
def fnExactPutBitSpec : ChangeSpec := { name := "fnExactPutBit", fn := fun _ => fun
  | [d1, d2, d3] => { results := [.lit (.bool true)], args := [d1, d2, d3] }
  | _ => none }
def fnExactPutBitRow : OpenClaim := { program := "ytglccgpiakadbaa", sum := "6d2a5d083654a3f9412c184b4f3387476ec529729794dfeb828239a5168c65e6", func := "loop.example/g01097/laws.FnExactPutBit", spec := "fnExactPutBit", apart := false }
def FnExactPutBitSaid : Prop := fnExactPutBitRow.holds Try.pinned (OpenSpec.ofChange fnExactPutBitSpec)

/-- ITS FALSE NEIGHBOUR: 'it returns false'. Refute it at one input. -/
def fnExactPutBitWrong : ChangeSpec := { name := "fnExactPutBit", fn := fun _ => fun
  | [d1, d2, d3] => { results := [.lit (.bool false)], args := [d1, d2, d3] }
  | _ => none }
def FnExactPutBitWrongFalsely : Prop := fnExactPutBitRow.holds Try.pinned (OpenSpec.ofChange fnExactPutBitWrong)

/-- 'laws.FnExactCountBits': WHATEVER THE INPUT: true; the input reads as it did. -/
def fnExactCountBitsSpec : ChangeSpec := { name := "fnExactCountBits", fn := fun _ => fun
  | [d1, d2, d3] => { results := [.lit (.bool true)], args := [d1, d2, d3] }
  | _ => none }
def fnExactCountBitsRow : OpenClaim := { program := "ytglccgpiakadbaa", sum := "6d2a5d083654a3f9412c184b4f3387476ec529729794dfeb828239a5168c65e6", func := "loop.example/g01097/laws.FnExactCountBits", spec := "fnExactCountBits", apart := false }
def FnExactCountBitsSaid : Prop := fnExactCountBitsRow.holds Try.pinned (OpenSpec.ofChange fnExactCountBitsSpec)

/-- ITS FALSE NEIGHBOUR: 'it returns false'. Refute it at one input. -/
def fnExactCountBitsWrong : ChangeSpec := { name := "fnExactCountBits", fn := fun _ => fun
  | [d1, d2, d3] => { results := [.lit (.bool false)], args := [d1, d2, d3] }
  | _ => none }
def FnExactCountBitsWrongFalsely : Prop := fnExactCountBitsRow.holds Try.pinned (OpenSpec.ofChange fnExactCountBitsWrong)

/-- 'laws.FnExactNextBit': WHATEVER THE INPUT: true; the input reads as it did. -/
def fnExactNextBitSpec : ChangeSpec := { name := "fnExactNextBit", fn := fun _ => fun
  | [d1, d2, d3] => { results := [.lit (.bool true)], args := [d1, d2, d3] }
  | _ => none }
def fnExactNextBitRow : OpenClaim := { program := "ytglccgpiakadbaa", sum := "6d2a5d083654a3f9412c184b4f3387476ec529729794dfeb828239a5168c65e6", func := "loop.example/g01097/laws.FnExactNextBit", spec := "fnExactNextBit", apart := false }
def FnExactNextBitSaid : Prop := fnExactNextBitRow.holds Try.pinned (OpenSpec.ofChange fnExactNextBitSpec)

/-- ITS FALSE NEIGHBOUR: 'it returns false'. Refute it at one input. -/
def fnExactNextBitWrong : ChangeSpec := { name := "fnExactNextBit", fn := fun _ => fun
  | [d1, d2, d3] => { results := [.lit (.bool false)], args := [d1, d2, d3] }
  | _ => none }
def FnExactNextBitWrongFalsely : Prop := fnExactNextBitRow.holds Try.pinned (OpenSpec.ofChange fnExactNextBitWrong)

/-- 'laws.FnExactReadField': WHATEVER THE INPUT: true; the input reads as it did. -/
def fnExactReadFieldSpec : ChangeSpec := { name := "fnExactReadField", fn := fun _ => fun
  | [d1, d2, d3] => { results := [.lit (.bool true)], args := [d1, d2, d3] }
  | _ => none }
def fnExactReadFieldRow : OpenClaim := { program := "ytglccgpiakadbaa", sum := "6d2a5d083654a3f9412c184b4f3387476ec529729794dfeb828239a5168c65e6", func := "loop.example/g01097/laws.FnExactReadField", spec := "fnExactReadField", apart := false }
def FnExactReadFieldSaid : Prop := fnExactReadFieldRow.holds Try.pinned (OpenSpec.ofChange fnExactReadFieldSpec)

/-- ITS FALSE NEIGHBOUR: 'it returns false'. Refute it at one input. -/
def fnExactReadFieldWrong : ChangeSpec := { name := "fnExactReadField", fn := fun _ => fun
  | [d1, d2, d3] => { results := [.lit (.bool false)], args := [d1, d2, d3] }
  | _ => none }
def FnExactReadFieldWrongFalsely : Prop := fnExactReadFieldRow.holds Try.pinned (OpenSpec.ofChange fnExactReadFieldWrong)

/-- 'laws.FnExactPutField': WHATEVER THE INPUT: true; the input reads as it did. -/
def fnExactPutFieldSpec : ChangeSpec := { name := "fnExactPutField", fn := fun _ => fun
  | [d1, d2, d3, d4] => { results := [.lit (.bool true)], args := [d1, d2, d3, d4] }
  | _ => none }
def fnExactPutFieldRow : OpenClaim := { program := "ytglccgpiakadbaa", sum := "6d2a5d083654a3f9412c184b4f3387476ec529729794dfeb828239a5168c65e6", func := "loop.example/g01097/laws.FnExactPutField", spec := "fnExactPutField", apart := false }
def FnExactPutFieldSaid : Prop := fnExactPutFieldRow.holds Try.pinned (OpenSpec.ofChange fnExactPutFieldSpec)

/-- ITS FALSE NEIGHBOUR: 'it returns false'. Refute it at one input. -/
def fnExactPutFieldWrong : ChangeSpec := { name := "fnExactPutField", fn := fun _ => fun
  | [d1, d2, d3, d4] => { results := [.lit (.bool false)], args := [d1, d2, d3, d4] }
  | _ => none }
def FnExactPutFieldWrongFalsely : Prop := fnExactPutFieldRow.holds Try.pinned (OpenSpec.ofChange fnExactPutFieldWrong)

/-- 'laws.FnExactJoinBits': WHATEVER THE INPUT: true; the input reads as it did. -/
def fnExactJoinBitsSpec : ChangeSpec := { name := "fnExactJoinBits", fn := fun _ => fun
  | [d1, d2] => { results := [.lit (.bool true)], args := [d1, d2] }
  | _ => none }
def fnExactJoinBitsRow : OpenClaim := { program := "ytglccgpiakadbaa", sum := "6d2a5d083654a3f9412c184b4f3387476ec529729794dfeb828239a5168c65e6", func := "loop.example/g01097/laws.FnExactJoinBits", spec := "fnExactJoinBits", apart := false }
def FnExactJoinBitsSaid : Prop := fnExactJoinBitsRow.holds Try.pinned (OpenSpec.ofChange fnExactJoinBitsSpec)

/-- ITS FALSE NEIGHBOUR: 'it returns false'. Refute it at one input. -/
def fnExactJoinBitsWrong : ChangeSpec := { name := "fnExactJoinBits", fn := fun _ => fun
  | [d1, d2] => { results := [.lit (.bool false)], args := [d1, d2] }
  | _ => none }
def FnExactJoinBitsWrongFalsely : Prop := fnExactJoinBitsRow.holds Try.pinned (OpenSpec.ofChange fnExactJoinBitsWrong)

/-- 'laws.FnExactCutBits': WHATEVER THE INPUT: true; the input reads as it did. -/
def fnExactCutBitsSpec : ChangeSpec := { name := "fnExactCutBits", fn := fun _ => fun
  | [d1, d2, d3] => { results := [.lit (.bool true)], args := [d1, d2, d3] }
  | _ => none }
def fnExactCutBitsRow : OpenClaim := { program := "ytglccgpiakadbaa", sum := "6d2a5d083654a3f9412c184b4f3387476ec529729794dfeb828239a5168c65e6", func := "loop.example/g01097/laws.FnExactCutBits", spec := "fnExactCutBits", apart := false }
def FnExactCutBitsSaid : Prop := fnExactCutBitsRow.holds Try.pinned (OpenSpec.ofChange fnExactCutBitsSpec)

/-- ITS FALSE NEIGHBOUR: 'it returns false'. Refute it at one input. -/
def fnExactCutBitsWrong : ChangeSpec := { name := "fnExactCutBits", fn := fun _ => fun
  | [d1, d2, d3] => { results := [.lit (.bool false)], args := [d1, d2, d3] }
  | _ => none }
def FnExactCutBitsWrongFalsely : Prop := fnExactCutBitsRow.holds Try.pinned (OpenSpec.ofChange fnExactCutBitsWrong)

/-- 'laws.FnExactXorBits': WHATEVER THE INPUT: true; the input reads as it did. -/
def fnExactXorBitsSpec : ChangeSpec := { name := "fnExactXorBits", fn := fun _ => fun
  | [d1, d2] => { results := [.lit (.bool true)], args := [d1, d2] }
  | _ => none }
def fnExactXorBitsRow : OpenClaim := { program := "ytglccgpiakadbaa", sum := "6d2a5d083654a3f9412c184b4f3387476ec529729794dfeb828239a5168c65e6", func := "loop.example/g01097/laws.FnExactXorBits", spec := "fnExactXorBits", apart := false }
def FnExactXorBitsSaid : Prop := fnExactXorBitsRow.holds Try.pinned (OpenSpec.ofChange fnExactXorBitsSpec)

/-- ITS FALSE NEIGHBOUR: 'it returns false'. Refute it at one input. -/
def fnExactXorBitsWrong : ChangeSpec := { name := "fnExactXorBits", fn := fun _ => fun
  | [d1, d2] => { results := [.lit (.bool false)], args := [d1, d2] }
  | _ => none }
def FnExactXorBitsWrongFalsely : Prop := fnExactXorBitsRow.holds Try.pinned (OpenSpec.ofChange fnExactXorBitsWrong)

/-- 'laws.FnExactBitsText': WHATEVER THE INPUT: true; the input reads as it did. -/
def fnExactBitsTextSpec : ChangeSpec := { name := "fnExactBitsText", fn := fun _ => fun
  | [d] => { results := [.lit (.bool true)], args := [d] }
  | _ => none }
def fnExactBitsTextRow : OpenClaim := { program := "ytglccgpiakadbaa", sum := "6d2a5d083654a3f9412c184b4f3387476ec529729794dfeb828239a5168c65e6", func := "loop.example/g01097/laws.FnExactBitsText", spec := "fnExactBitsText", apart := false }
def FnExactBitsTextSaid : Prop := fnExactBitsTextRow.holds Try.pinned (OpenSpec.ofChange fnExactBitsTextSpec)

/-- ITS FALSE NEIGHBOUR: 'it returns false'. Refute it at one input. -/
def fnExactBitsTextWrong : ChangeSpec := { name := "fnExactBitsText", fn := fun _ => fun
  | [d] => { results := [.lit (.bool false)], args := [d] }
  | _ => none }
def FnExactBitsTextWrongFalsely : Prop := fnExactBitsTextRow.holds Try.pinned (OpenSpec.ofChange fnExactBitsTextWrong)

/-- 'laws.FnExactParseBits': WHATEVER THE INPUT: true; the input reads as it did. -/
def fnExactParseBitsSpec : ChangeSpec := { name := "fnExactParseBits", fn := fun _ => fun
  | [d] => { results := [.lit (.bool true)], args := [d] }
  | _ => none }
def fnExactParseBitsRow : OpenClaim := { program := "ytglccgpiakadbaa", sum := "6d2a5d083654a3f9412c184b4f3387476ec529729794dfeb828239a5168c65e6", func := "loop.example/g01097/laws.FnExactParseBits", spec := "fnExactParseBits", apart := false }
def FnExactParseBitsSaid : Prop := fnExactParseBitsRow.holds Try.pinned (OpenSpec.ofChange fnExactParseBitsSpec)

/-- ITS FALSE NEIGHBOUR: 'it returns false'. Refute it at one input. -/
def fnExactParseBitsWrong : ChangeSpec := { name := "fnExactParseBits", fn := fun _ => fun
  | [d] => { results := [.lit (.bool false)], args := [d] }
  | _ => none }
def FnExactParseBitsWrongFalsely : Prop := fnExactParseBitsRow.holds Try.pinned (OpenSpec.ofChange fnExactParseBitsWrong)

/-- 'laws.FnExactIsKey': WHATEVER THE INPUT: true; the input reads as it did. -/
def fnExactIsKeySpec : ChangeSpec := { name := "fnExactIsKey", fn := fun _ => fun
  | [d] => { results := [.lit (.bool true)], args := [d] }
  | _ => none }
def fnExactIsKeyRow : OpenClaim := { program := "ytglccgpiakadbaa", sum := "6d2a5d083654a3f9412c184b4f3387476ec529729794dfeb828239a5168c65e6", func := "loop.example/g01097/laws.FnExactIsKey", spec := "fnExactIsKey", apart := false }
def FnExactIsKeySaid : Prop := fnExactIsKeyRow.holds Try.pinned (OpenSpec.ofChange fnExactIsKeySpec)

/-- ITS FALSE NEIGHBOUR: 'it returns false'. Refute it at one input. -/
def fnExactIsKeyWrong : ChangeSpec := { name := "fnExactIsKey", fn := fun _ => fun
  | [d] => { results := [.lit (.bool false)], args := [d] }
  | _ => none }
def FnExactIsKeyWrongFalsely : Prop := fnExactIsKeyRow.holds Try.pinned (OpenSpec.ofChange fnExactIsKeyWrong)

/-- 'laws.FnExactAreKeys': WHATEVER THE INPUT: true; the input reads as it did. -/
def fnExactAreKeysSpec : ChangeSpec := { name := "fnExactAreKeys", fn := fun _ => fun
  | [d] => { results := [.lit (.bool true)], args := [d] }
  | _ => none }
def fnExactAreKeysRow : OpenClaim := { program := "ytglccgpiakadbaa", sum := "6d2a5d083654a3f9412c184b4f3387476ec529729794dfeb828239a5168c65e6", func := "loop.example/g01097/laws.FnExactAreKeys", spec := "fnExactAreKeys", apart := false }
def FnExactAreKeysSaid : Prop := fnExactAreKeysRow.holds Try.pinned (OpenSpec.ofChange fnExactAreKeysSpec)

/-- ITS FALSE NEIGHBOUR: 'it returns false'. Refute it at one input. -/
def fnExactAreKeysWrong : ChangeSpec := { name := "fnExactAreKeys", fn := fun _ => fun
  | [d] => { results := [.lit (.bool false)], args := [d] }
  | _ => none }
def FnExactAreKeysWrongFalsely : Prop := fnExactAreKeysRow.holds Try.pinned (OpenSpec.ofChange fnExactAreKeysWrong)

/-- 'laws.FnExactHashOf': WHATEVER THE INPUT: true; the input reads as it did. -/
def fnExactHashOfSpec : ChangeSpec := { name := "fnExactHashOf", fn := fun _ => fun
  | [d1, d2, d3] => { results := [.lit (.bool true)], args := [d1, d2, d3] }
  | _ => none }
def fnExactHashOfRow : OpenClaim := { program := "ytglccgpiakadbaa", sum := "6d2a5d083654a3f9412c184b4f3387476ec529729794dfeb828239a5168c65e6", func := "loop.example/g01097/laws.FnExactHashOf", spec := "fnExactHashOf", apart := false }
def FnExactHashOfSaid : Prop := fnExactHashOfRow.holds Try.pinned (OpenSpec.ofChange fnExactHashOfSpec)

/-- ITS FALSE NEIGHBOUR: 'it returns false'. Refute it at one input. -/
def fnExactHashOfWrong : ChangeSpec := { name := "fnExactHashOf", fn := fun _ => fun
  | [d1, d2, d3] => { results := [.lit (.bool false)], args := [d1, d2, d3] }
  | _ => none }
def FnExactHashOfWrongFalsely : Prop := fnExactHashOfRow.holds Try.pinned (OpenSpec.ofChange fnExactHashOfWrong)

/-- 'laws.FnExactPlaceOf': WHATEVER THE INPUT: true; the input reads as it did. -/
def fnExactPlaceOfSpec : ChangeSpec := { name := "fnExactPlaceOf", fn := fun _ => fun
  | [d1, d2, d3, d4] => { results := [.lit (.bool true)], args := [d1, d2, d3, d4] }
  | _ => none }
def fnExactPlaceOfRow : OpenClaim := { program := "ytglccgpiakadbaa", sum := "6d2a5d083654a3f9412c184b4f3387476ec529729794dfeb828239a5168c65e6", func := "loop.example/g01097/laws.FnExactPlaceOf", spec := "fnExactPlaceOf", apart := false }
def FnExactPlaceOfSaid : Prop := fnExactPlaceOfRow.holds Try.pinned (OpenSpec.ofChange fnExactPlaceOfSpec)

/-- ITS FALSE NEIGHBOUR: 'it returns false'. Refute it at one input. -/
def fnExactPlaceOfWrong : ChangeSpec := { name := "fnExactPlaceOf", fn := fun _ => fun
  | [d1, d2, d3, d4] => { results := [.lit (.bool false)], args := [d1, d2, d3, d4] }
  | _ => none }
def FnExactPlaceOfWrongFalsely : Prop := fnExactPlaceOfRow.holds Try.pinned (OpenSpec.ofChange fnExactPlaceOfWrong)

/-- 'laws.FnExactLoadsOf': WHATEVER THE INPUT: true; the input reads as it did. -/
def fnExactLoadsOfSpec : ChangeSpec := { name := "fnExactLoadsOf", fn := fun _ => fun
  | [d1, d2, d3, d4] => { results := [.lit (.bool true)], args := [d1, d2, d3, d4] }
  | _ => none }
def fnExactLoadsOfRow : OpenClaim := { program := "ytglccgpiakadbaa", sum := "6d2a5d083654a3f9412c184b4f3387476ec529729794dfeb828239a5168c65e6", func := "loop.example/g01097/laws.FnExactLoadsOf", spec := "fnExactLoadsOf", apart := false }
def FnExactLoadsOfSaid : Prop := fnExactLoadsOfRow.holds Try.pinned (OpenSpec.ofChange fnExactLoadsOfSpec)

/-- ITS FALSE NEIGHBOUR: 'it returns false'. Refute it at one input. -/
def fnExactLoadsOfWrong : ChangeSpec := { name := "fnExactLoadsOf", fn := fun _ => fun
  | [d1, d2, d3, d4] => { results := [.lit (.bool false)], args := [d1, d2, d3, d4] }
  | _ => none }
def FnExactLoadsOfWrongFalsely : Prop := fnExactLoadsOfRow.holds Try.pinned (OpenSpec.ofChange fnExactLoadsOfWrong)

/-- 'laws.FnExactCollisionOf': WHATEVER THE INPUT: true; the input reads as it did. -/
def fnExactCollisionOfSpec : ChangeSpec := { name := "fnExactCollisionOf", fn := fun _ => fun
  | [d1, d2, d3, d4] => { results := [.lit (.bool true)], args := [d1, d2, d3, d4] }
  | _ => none }
def fnExactCollisionOfRow : OpenClaim := { program := "ytglccgpiakadbaa", sum := "6d2a5d083654a3f9412c184b4f3387476ec529729794dfeb828239a5168c65e6", func := "loop.example/g01097/laws.FnExactCollisionOf", spec := "fnExactCollisionOf", apart := false }
def FnExactCollisionOfSaid : Prop := fnExactCollisionOfRow.holds Try.pinned (OpenSpec.ofChange fnExactCollisionOfSpec)

/-- ITS FALSE NEIGHBOUR: 'it returns false'. Refute it at one input. -/
def fnExactCollisionOfWrong : ChangeSpec := { name := "fnExactCollisionOf", fn := fun _ => fun
  | [d1, d2, d3, d4] => { results := [.lit (.bool false)], args := [d1, d2, d3, d4] }
  | _ => none }
def FnExactCollisionOfWrongFalsely : Prop := fnExactCollisionOfRow.holds Try.pinned (OpenSpec.ofChange fnExactCollisionOfWrong)

/- THE SECOND FORM. 'bulk': how many values and letters a reading holds, each counted each time it is reached (what is shared counts as often as it is met; a slice's spare places count too). A statement '..UptoSaid' is the law's where the arguments, and the package variables that the reading takes, are together of bulk at most 1048576: NARROWER than '..Said'. Prove '..Said' where nothing that the law and all that it calls make is longer than what came in: it says more and counts as full. Else prove '..UptoSaid'. A law counts once. -/
mutual
def uptoBulk {H : Type} : DataW H → Nat
  | .lit (.string bytes) => bytes.length + 1
  | .lit _ => 1
  | .nil => 1
  | .ptr d => uptoBulk d + 1
  | .slice elems spare => uptoBulkAll elems + uptoBulkAll spare + 1
  | .agg parts => uptoBulkAll parts + 1
  | .iface _ d => uptoBulk d + 1
  | .map entries => uptoBulkEntries entries + 1
  | .held _ => 1
def uptoBulkAll {H : Type} : List (DataW H) → Nat
  | [] => 0
  | d :: r => uptoBulk d + uptoBulkAll r
def uptoBulkEntries {H : Type} : List (Lit × DataW H) → Nat
  | [] => 0
  | x :: r => uptoBulkEntry x + uptoBulkEntries r
def uptoBulkEntry {H : Type} : Lit × DataW H → Nat
  | (.string bytes, d) => bytes.length + uptoBulk d + 1
  | (_, d) => uptoBulk d + 1
 end
def uptoSmall : (H : Type) → List (DataW H) → Bool := fun _ ds => decide (uptoBulkAll ds ≤ 1048576)
def OpenSpec.upto (s : _root_.Go.ChangeSpec) : _root_.Go.OpenSpec := { _root_.Go.OpenSpec.ofChange s with cond := some uptoSmall }

/-- 'laws.FnFieldsStay', WHERE WHAT IT READS IS OF BULK AT MOST 1048576: true; the input reads as it did. -/
def fnFieldsStayUptoRow : OpenClaim := { program := "ytglccgpiakadbaa", sum := "6d2a5d083654a3f9412c184b4f3387476ec529729794dfeb828239a5168c65e6", func := "loop.example/g01097/laws.FnFieldsStay", spec := "fnFieldsStay", apart := false, narrowed := true }
def FnFieldsStayUptoSaid : Prop := fnFieldsStayUptoRow.holds Try.pinned (OpenSpec.upto fnFieldsStaySpec)

/-- 'laws.FnJoinsAreCut', WHERE WHAT IT READS IS OF BULK AT MOST 1048576: true; the input reads as it did. -/
def fnJoinsAreCutUptoRow : OpenClaim := { program := "ytglccgpiakadbaa", sum := "6d2a5d083654a3f9412c184b4f3387476ec529729794dfeb828239a5168c65e6", func := "loop.example/g01097/laws.FnJoinsAreCut", spec := "fnJoinsAreCut", apart := false, narrowed := true }
def FnJoinsAreCutUptoSaid : Prop := fnJoinsAreCutUptoRow.holds Try.pinned (OpenSpec.upto fnJoinsAreCutSpec)

/-- 'laws.FnXorTellsDifferences', WHERE WHAT IT READS IS OF BULK AT MOST 1048576: true; the input reads as it did. -/
def fnXorTellsDifferencesUptoRow : OpenClaim := { program := "ytglccgpiakadbaa", sum := "6d2a5d083654a3f9412c184b4f3387476ec529729794dfeb828239a5168c65e6", func := "loop.example/g01097/laws.FnXorTellsDifferences", spec := "fnXorTellsDifferences", apart := false, narrowed := true }
def FnXorTellsDifferencesUptoSaid : Prop := fnXorTellsDifferencesUptoRow.holds Try.pinned (OpenSpec.upto fnXorTellsDifferencesSpec)

/-- 'laws.FnBitTexts', WHERE WHAT IT READS IS OF BULK AT MOST 1048576: true; the input reads as it did. -/
def fnBitTextsUptoRow : OpenClaim := { program := "ytglccgpiakadbaa", sum := "6d2a5d083654a3f9412c184b4f3387476ec529729794dfeb828239a5168c65e6", func := "loop.example/g01097/laws.FnBitTexts", spec := "fnBitTexts", apart := false, narrowed := true }
def FnBitTextsUptoSaid : Prop := fnBitTextsUptoRow.holds Try.pinned (OpenSpec.upto fnBitTextsSpec)

/-- 'laws.FnPlacesOfHashes', WHERE WHAT IT READS IS OF BULK AT MOST 1048576: true; the input reads as it did. -/
def fnPlacesOfHashesUptoRow : OpenClaim := { program := "ytglccgpiakadbaa", sum := "6d2a5d083654a3f9412c184b4f3387476ec529729794dfeb828239a5168c65e6", func := "loop.example/g01097/laws.FnPlacesOfHashes", spec := "fnPlacesOfHashes", apart := false, narrowed := true }
def FnPlacesOfHashesUptoSaid : Prop := fnPlacesOfHashesUptoRow.holds Try.pinned (OpenSpec.upto fnPlacesOfHashesSpec)

/-- 'laws.FnExactIsBits', WHERE WHAT IT READS IS OF BULK AT MOST 1048576: true; the input reads as it did. -/
def fnExactIsBitsUptoRow : OpenClaim := { program := "ytglccgpiakadbaa", sum := "6d2a5d083654a3f9412c184b4f3387476ec529729794dfeb828239a5168c65e6", func := "loop.example/g01097/laws.FnExactIsBits", spec := "fnExactIsBits", apart := false, narrowed := true }
def FnExactIsBitsUptoSaid : Prop := fnExactIsBitsUptoRow.holds Try.pinned (OpenSpec.upto fnExactIsBitsSpec)

/-- 'laws.FnExactNewBits', WHERE WHAT IT READS IS OF BULK AT MOST 1048576: true; the input reads as it did. -/
def fnExactNewBitsUptoRow : OpenClaim := { program := "ytglccgpiakadbaa", sum := "6d2a5d083654a3f9412c184b4f3387476ec529729794dfeb828239a5168c65e6", func := "loop.example/g01097/laws.FnExactNewBits", spec := "fnExactNewBits", apart := false, narrowed := true }
def FnExactNewBitsUptoSaid : Prop := fnExactNewBitsUptoRow.holds Try.pinned (OpenSpec.upto fnExactNewBitsSpec)

/-- 'laws.FnExactBitAt', WHERE WHAT IT READS IS OF BULK AT MOST 1048576: true; the input reads as it did. -/
def fnExactBitAtUptoRow : OpenClaim := { program := "ytglccgpiakadbaa", sum := "6d2a5d083654a3f9412c184b4f3387476ec529729794dfeb828239a5168c65e6", func := "loop.example/g01097/laws.FnExactBitAt", spec := "fnExactBitAt", apart := false, narrowed := true }
def FnExactBitAtUptoSaid : Prop := fnExactBitAtUptoRow.holds Try.pinned (OpenSpec.upto fnExactBitAtSpec)

/-- 'laws.FnExactPutBit', WHERE WHAT IT READS IS OF BULK AT MOST 1048576: true; the input reads as it did. -/
def fnExactPutBitUptoRow : OpenClaim := { program := "ytglccgpiakadbaa", sum := "6d2a5d083654a3f9412c184b4f3387476ec529729794dfeb828239a5168c65e6", func := "loop.example/g01097/laws.FnExactPutBit", spec := "fnExactPutBit", apart := false, narrowed := true }
def FnExactPutBitUptoSaid : Prop := fnExactPutBitUptoRow.holds Try.pinned (OpenSpec.upto fnExactPutBitSpec)

/-- 'laws.FnExactCountBits', WHERE WHAT IT READS IS OF BULK AT MOST 1048576: true; the input reads as it did. -/
def fnExactCountBitsUptoRow : OpenClaim := { program := "ytglccgpiakadbaa", sum := "6d2a5d083654a3f9412c184b4f3387476ec529729794dfeb828239a5168c65e6", func := "loop.example/g01097/laws.FnExactCountBits", spec := "fnExactCountBits", apart := false, narrowed := true }
def FnExactCountBitsUptoSaid : Prop := fnExactCountBitsUptoRow.holds Try.pinned (OpenSpec.upto fnExactCountBitsSpec)

/-- 'laws.FnExactNextBit', WHERE WHAT IT READS IS OF BULK AT MOST 1048576: true; the input reads as it did. -/
def fnExactNextBitUptoRow : OpenClaim := { program := "ytglccgpiakadbaa", sum := "6d2a5d083654a3f9412c184b4f3387476ec529729794dfeb828239a5168c65e6", func := "loop.example/g01097/laws.FnExactNextBit", spec := "fnExactNextBit", apart := false, narrowed := true }
def FnExactNextBitUptoSaid : Prop := fnExactNextBitUptoRow.holds Try.pinned (OpenSpec.upto fnExactNextBitSpec)

/-- 'laws.FnExactReadField', WHERE WHAT IT READS IS OF BULK AT MOST 1048576: true; the input reads as it did. -/
def fnExactReadFieldUptoRow : OpenClaim := { program := "ytglccgpiakadbaa", sum := "6d2a5d083654a3f9412c184b4f3387476ec529729794dfeb828239a5168c65e6", func := "loop.example/g01097/laws.FnExactReadField", spec := "fnExactReadField", apart := false, narrowed := true }
def FnExactReadFieldUptoSaid : Prop := fnExactReadFieldUptoRow.holds Try.pinned (OpenSpec.upto fnExactReadFieldSpec)

/-- 'laws.FnExactPutField', WHERE WHAT IT READS IS OF BULK AT MOST 1048576: true; the input reads as it did. -/
def fnExactPutFieldUptoRow : OpenClaim := { program := "ytglccgpiakadbaa", sum := "6d2a5d083654a3f9412c184b4f3387476ec529729794dfeb828239a5168c65e6", func := "loop.example/g01097/laws.FnExactPutField", spec := "fnExactPutField", apart := false, narrowed := true }
def FnExactPutFieldUptoSaid : Prop := fnExactPutFieldUptoRow.holds Try.pinned (OpenSpec.upto fnExactPutFieldSpec)

/-- 'laws.FnExactJoinBits', WHERE WHAT IT READS IS OF BULK AT MOST 1048576: true; the input reads as it did. -/
def fnExactJoinBitsUptoRow : OpenClaim := { program := "ytglccgpiakadbaa", sum := "6d2a5d083654a3f9412c184b4f3387476ec529729794dfeb828239a5168c65e6", func := "loop.example/g01097/laws.FnExactJoinBits", spec := "fnExactJoinBits", apart := false, narrowed := true }
def FnExactJoinBitsUptoSaid : Prop := fnExactJoinBitsUptoRow.holds Try.pinned (OpenSpec.upto fnExactJoinBitsSpec)

/-- 'laws.FnExactCutBits', WHERE WHAT IT READS IS OF BULK AT MOST 1048576: true; the input reads as it did. -/
def fnExactCutBitsUptoRow : OpenClaim := { program := "ytglccgpiakadbaa", sum := "6d2a5d083654a3f9412c184b4f3387476ec529729794dfeb828239a5168c65e6", func := "loop.example/g01097/laws.FnExactCutBits", spec := "fnExactCutBits", apart := false, narrowed := true }
def FnExactCutBitsUptoSaid : Prop := fnExactCutBitsUptoRow.holds Try.pinned (OpenSpec.upto fnExactCutBitsSpec)

/-- 'laws.FnExactXorBits', WHERE WHAT IT READS IS OF BULK AT MOST 1048576: true; the input reads as it did. -/
def fnExactXorBitsUptoRow : OpenClaim := { program := "ytglccgpiakadbaa", sum := "6d2a5d083654a3f9412c184b4f3387476ec529729794dfeb828239a5168c65e6", func := "loop.example/g01097/laws.FnExactXorBits", spec := "fnExactXorBits", apart := false, narrowed := true }
def FnExactXorBitsUptoSaid : Prop := fnExactXorBitsUptoRow.holds Try.pinned (OpenSpec.upto fnExactXorBitsSpec)

/-- 'laws.FnExactBitsText', WHERE WHAT IT READS IS OF BULK AT MOST 1048576: true; the input reads as it did. -/
def fnExactBitsTextUptoRow : OpenClaim := { program := "ytglccgpiakadbaa", sum := "6d2a5d083654a3f9412c184b4f3387476ec529729794dfeb828239a5168c65e6", func := "loop.example/g01097/laws.FnExactBitsText", spec := "fnExactBitsText", apart := false, narrowed := true }
def FnExactBitsTextUptoSaid : Prop := fnExactBitsTextUptoRow.holds Try.pinned (OpenSpec.upto fnExactBitsTextSpec)

/-- 'laws.FnExactParseBits', WHERE WHAT IT READS IS OF BULK AT MOST 1048576: true; the input reads as it did. -/
def fnExactParseBitsUptoRow : OpenClaim := { program := "ytglccgpiakadbaa", sum := "6d2a5d083654a3f9412c184b4f3387476ec529729794dfeb828239a5168c65e6", func := "loop.example/g01097/laws.FnExactParseBits", spec := "fnExactParseBits", apart := false, narrowed := true }
def FnExactParseBitsUptoSaid : Prop := fnExactParseBitsUptoRow.holds Try.pinned (OpenSpec.upto fnExactParseBitsSpec)

/-- 'laws.FnExactIsKey', WHERE WHAT IT READS IS OF BULK AT MOST 1048576: true; the input reads as it did. -/
def fnExactIsKeyUptoRow : OpenClaim := { program := "ytglccgpiakadbaa", sum := "6d2a5d083654a3f9412c184b4f3387476ec529729794dfeb828239a5168c65e6", func := "loop.example/g01097/laws.FnExactIsKey", spec := "fnExactIsKey", apart := false, narrowed := true }
def FnExactIsKeyUptoSaid : Prop := fnExactIsKeyUptoRow.holds Try.pinned (OpenSpec.upto fnExactIsKeySpec)

/-- 'laws.FnExactAreKeys', WHERE WHAT IT READS IS OF BULK AT MOST 1048576: true; the input reads as it did. -/
def fnExactAreKeysUptoRow : OpenClaim := { program := "ytglccgpiakadbaa", sum := "6d2a5d083654a3f9412c184b4f3387476ec529729794dfeb828239a5168c65e6", func := "loop.example/g01097/laws.FnExactAreKeys", spec := "fnExactAreKeys", apart := false, narrowed := true }
def FnExactAreKeysUptoSaid : Prop := fnExactAreKeysUptoRow.holds Try.pinned (OpenSpec.upto fnExactAreKeysSpec)

/-- 'laws.FnExactHashOf', WHERE WHAT IT READS IS OF BULK AT MOST 1048576: true; the input reads as it did. -/
def fnExactHashOfUptoRow : OpenClaim := { program := "ytglccgpiakadbaa", sum := "6d2a5d083654a3f9412c184b4f3387476ec529729794dfeb828239a5168c65e6", func := "loop.example/g01097/laws.FnExactHashOf", spec := "fnExactHashOf", apart := false, narrowed := true }
def FnExactHashOfUptoSaid : Prop := fnExactHashOfUptoRow.holds Try.pinned (OpenSpec.upto fnExactHashOfSpec)

/-- 'laws.FnExactPlaceOf', WHERE WHAT IT READS IS OF BULK AT MOST 1048576: true; the input reads as it did. -/
def fnExactPlaceOfUptoRow : OpenClaim := { program := "ytglccgpiakadbaa", sum := "6d2a5d083654a3f9412c184b4f3387476ec529729794dfeb828239a5168c65e6", func := "loop.example/g01097/laws.FnExactPlaceOf", spec := "fnExactPlaceOf", apart := false, narrowed := true }
def FnExactPlaceOfUptoSaid : Prop := fnExactPlaceOfUptoRow.holds Try.pinned (OpenSpec.upto fnExactPlaceOfSpec)

/-- 'laws.FnExactLoadsOf', WHERE WHAT IT READS IS OF BULK AT MOST 1048576: true; the input reads as it did. -/
def fnExactLoadsOfUptoRow : OpenClaim := { program := "ytglccgpiakadbaa", sum := "6d2a5d083654a3f9412c184b4f3387476ec529729794dfeb828239a5168c65e6", func := "loop.example/g01097/laws.FnExactLoadsOf", spec := "fnExactLoadsOf", apart := false, narrowed := true }
def FnExactLoadsOfUptoSaid : Prop := fnExactLoadsOfUptoRow.holds Try.pinned (OpenSpec.upto fnExactLoadsOfSpec)

/-- 'laws.FnExactCollisionOf', WHERE WHAT IT READS IS OF BULK AT MOST 1048576: true; the input reads as it did. -/
def fnExactCollisionOfUptoRow : OpenClaim := { program := "ytglccgpiakadbaa", sum := "6d2a5d083654a3f9412c184b4f3387476ec529729794dfeb828239a5168c65e6", func := "loop.example/g01097/laws.FnExactCollisionOf", spec := "fnExactCollisionOf", apart := false, narrowed := true }
def FnExactCollisionOfUptoSaid : Prop := fnExactCollisionOfUptoRow.holds Try.pinned (OpenSpec.upto fnExactCollisionOfSpec)

end Rows
end Go.Proofs.Ytglccgpiakadbaa
