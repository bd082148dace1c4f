/-
  No cell of these rows narrows 'for every input' (looked for: loops, veiled, ifaces, maps, wideKeys, modest, calm, conditions, laid).
  DERIVED. THE GIVEN ROWS OF THIS SEAT. 11 by the template 'for every input the law returns true; each argument reads behind the call as it read before'; 0 by the template 'total and deterministic' (their statements: YtpajbcgdoedleaaTotals.lean).
  GIVEN WITH THE SEED: the statements are not yours to turn. If you find one false, say at which input.
  Laid BY PROGRAM, IN A SANDBOX (cutbox-rows.mjs): the forced cells as the released guide's own fill.sh prints them over the translation bf0ecc8666c3133f… (all of the seat's roots in one cut). By AI agents, Wed Nov 11 2026. No macro, syntax, notation, axiom, sorry.
-/
import Derived.Test.YtpajbcgdoedleaaChecked
import GoSem.Claim
import GoSem.ClaimJoined
import GoSem.ClaimMapViews
import Derived.JoinedTies
import Derived.KernelRfl
namespace Go.Proofs.Ytpajbcgdoedleaa
/- THE CELL 'sum', in the pinned program and in every row, IS THE sha256 OF THE DUMP (.gsa) THAT YtpajbcgdoedleaaProg.lean LOADS. Nothing in Lean hashes anything: it is a label: what it is worth is what the hold of that sum in a sandbox is worth. -/
noncomputable def Try.pinned : Pinned := { name := "ytpajbcgdoedleaa", sum := "bf0ecc8666c3133f14c09d356d0db397e1149c99d2d98e9fd11c6fb9e922f4ff", checked := Try.checked }
namespace Rows
def none {H : Type} : Left H := { results := [], args := [] }

/-- 'laws.FnExactIsBloom': WHATEVER THE INPUT: true; the input reads as it did. -/
def fnExactIsBloomSpec : ChangeSpec := { name := "fnExactIsBloom", fn := fun _ => fun
  | [d] => { results := [.lit (.bool true)], args := [d] }
  | _ => none }
def fnExactIsBloomRow : OpenClaim := { program := "ytpajbcgdoedleaa", sum := "bf0ecc8666c3133f14c09d356d0db397e1149c99d2d98e9fd11c6fb9e922f4ff", func := "loop.example/g01097/laws.FnExactIsBloom", spec := "fnExactIsBloom", apart := false }
def FnExactIsBloomSaid : Prop := fnExactIsBloomRow.holds Try.pinned (OpenSpec.ofChange fnExactIsBloomSpec)

/-- ITS FALSE NEIGHBOUR: 'it returns false'. Refute it at one input. -/
def fnExactIsBloomWrong : ChangeSpec := { name := "fnExactIsBloom", fn := fun _ => fun
  | [d] => { results := [.lit (.bool false)], args := [d] }
  | _ => none }
def FnExactIsBloomWrongFalsely : Prop := fnExactIsBloomRow.holds Try.pinned (OpenSpec.ofChange fnExactIsBloomWrong)

/-- 'laws.FnExactNewBloom': WHATEVER THE INPUT: true; the input reads as it did. -/
def fnExactNewBloomSpec : ChangeSpec := { name := "fnExactNewBloom", fn := fun _ => fun
  | [d1, d2, d3] => { results := [.lit (.bool true)], args := [d1, d2, d3] }
  | _ => none }
def fnExactNewBloomRow : OpenClaim := { program := "ytpajbcgdoedleaa", sum := "bf0ecc8666c3133f14c09d356d0db397e1149c99d2d98e9fd11c6fb9e922f4ff", func := "loop.example/g01097/laws.FnExactNewBloom", spec := "fnExactNewBloom", apart := false }
def FnExactNewBloomSaid : Prop := fnExactNewBloomRow.holds Try.pinned (OpenSpec.ofChange fnExactNewBloomSpec)

/-- ITS FALSE NEIGHBOUR: 'it returns false'. Refute it at one input. -/
def fnExactNewBloomWrong : ChangeSpec := { name := "fnExactNewBloom", fn := fun _ => fun
  | [d1, d2, d3] => { results := [.lit (.bool false)], args := [d1, d2, d3] }
  | _ => none }
def FnExactNewBloomWrongFalsely : Prop := fnExactNewBloomRow.holds Try.pinned (OpenSpec.ofChange fnExactNewBloomWrong)

/-- 'laws.FnExactProbesOf': WHATEVER THE INPUT: true; the input reads as it did. -/
def fnExactProbesOfSpec : ChangeSpec := { name := "fnExactProbesOf", fn := fun _ => fun
  | [d1, d2, d3, d4] => { results := [.lit (.bool true)], args := [d1, d2, d3, d4] }
  | _ => none }
def fnExactProbesOfRow : OpenClaim := { program := "ytpajbcgdoedleaa", sum := "bf0ecc8666c3133f14c09d356d0db397e1149c99d2d98e9fd11c6fb9e922f4ff", func := "loop.example/g01097/laws.FnExactProbesOf", spec := "fnExactProbesOf", apart := false }
def FnExactProbesOfSaid : Prop := fnExactProbesOfRow.holds Try.pinned (OpenSpec.ofChange fnExactProbesOfSpec)

/-- ITS FALSE NEIGHBOUR: 'it returns false'. Refute it at one input. -/
def fnExactProbesOfWrong : ChangeSpec := { name := "fnExactProbesOf", fn := fun _ => fun
  | [d1, d2, d3, d4] => { results := [.lit (.bool false)], args := [d1, d2, d3, d4] }
  | _ => none }
def FnExactProbesOfWrongFalsely : Prop := fnExactProbesOfRow.holds Try.pinned (OpenSpec.ofChange fnExactProbesOfWrong)

/-- 'laws.FnExactBloomAdd': WHATEVER THE INPUT: true; the input reads as it did. -/
def fnExactBloomAddSpec : ChangeSpec := { name := "fnExactBloomAdd", fn := fun _ => fun
  | [d1, d2] => { results := [.lit (.bool true)], args := [d1, d2] }
  | _ => none }
def fnExactBloomAddRow : OpenClaim := { program := "ytpajbcgdoedleaa", sum := "bf0ecc8666c3133f14c09d356d0db397e1149c99d2d98e9fd11c6fb9e922f4ff", func := "loop.example/g01097/laws.FnExactBloomAdd", spec := "fnExactBloomAdd", apart := false }
def FnExactBloomAddSaid : Prop := fnExactBloomAddRow.holds Try.pinned (OpenSpec.ofChange fnExactBloomAddSpec)

/-- ITS FALSE NEIGHBOUR: 'it returns false'. Refute it at one input. -/
def fnExactBloomAddWrong : ChangeSpec := { name := "fnExactBloomAdd", fn := fun _ => fun
  | [d1, d2] => { results := [.lit (.bool false)], args := [d1, d2] }
  | _ => none }
def FnExactBloomAddWrongFalsely : Prop := fnExactBloomAddRow.holds Try.pinned (OpenSpec.ofChange fnExactBloomAddWrong)

/-- 'laws.FnExactBloomHas': WHATEVER THE INPUT: true; the input reads as it did. -/
def fnExactBloomHasSpec : ChangeSpec := { name := "fnExactBloomHas", fn := fun _ => fun
  | [d1, d2] => { results := [.lit (.bool true)], args := [d1, d2] }
  | _ => none }
def fnExactBloomHasRow : OpenClaim := { program := "ytpajbcgdoedleaa", sum := "bf0ecc8666c3133f14c09d356d0db397e1149c99d2d98e9fd11c6fb9e922f4ff", func := "loop.example/g01097/laws.FnExactBloomHas", spec := "fnExactBloomHas", apart := false }
def FnExactBloomHasSaid : Prop := fnExactBloomHasRow.holds Try.pinned (OpenSpec.ofChange fnExactBloomHasSpec)

/-- ITS FALSE NEIGHBOUR: 'it returns false'. Refute it at one input. -/
def fnExactBloomHasWrong : ChangeSpec := { name := "fnExactBloomHas", fn := fun _ => fun
  | [d1, d2] => { results := [.lit (.bool false)], args := [d1, d2] }
  | _ => none }
def FnExactBloomHasWrongFalsely : Prop := fnExactBloomHasRow.holds Try.pinned (OpenSpec.ofChange fnExactBloomHasWrong)

/-- 'laws.FnExactBloomOf': WHATEVER THE INPUT: true; the input reads as it did. -/
def fnExactBloomOfSpec : ChangeSpec := { name := "fnExactBloomOf", fn := fun _ => fun
  | [d1, d2, d3, d4] => { results := [.lit (.bool true)], args := [d1, d2, d3, d4] }
  | _ => none }
def fnExactBloomOfRow : OpenClaim := { program := "ytpajbcgdoedleaa", sum := "bf0ecc8666c3133f14c09d356d0db397e1149c99d2d98e9fd11c6fb9e922f4ff", func := "loop.example/g01097/laws.FnExactBloomOf", spec := "fnExactBloomOf", apart := false }
def FnExactBloomOfSaid : Prop := fnExactBloomOfRow.holds Try.pinned (OpenSpec.ofChange fnExactBloomOfSpec)

/-- ITS FALSE NEIGHBOUR: 'it returns false'. Refute it at one input. -/
def fnExactBloomOfWrong : ChangeSpec := { name := "fnExactBloomOf", fn := fun _ => fun
  | [d1, d2, d3, d4] => { results := [.lit (.bool false)], args := [d1, d2, d3, d4] }
  | _ => none }
def FnExactBloomOfWrongFalsely : Prop := fnExactBloomOfRow.holds Try.pinned (OpenSpec.ofChange fnExactBloomOfWrong)

/-- 'laws.FnExactUnionBloom': WHATEVER THE INPUT: true; the input reads as it did. -/
def fnExactUnionBloomSpec : ChangeSpec := { name := "fnExactUnionBloom", fn := fun _ => fun
  | [d1, d2] => { results := [.lit (.bool true)], args := [d1, d2] }
  | _ => none }
def fnExactUnionBloomRow : OpenClaim := { program := "ytpajbcgdoedleaa", sum := "bf0ecc8666c3133f14c09d356d0db397e1149c99d2d98e9fd11c6fb9e922f4ff", func := "loop.example/g01097/laws.FnExactUnionBloom", spec := "fnExactUnionBloom", apart := false }
def FnExactUnionBloomSaid : Prop := fnExactUnionBloomRow.holds Try.pinned (OpenSpec.ofChange fnExactUnionBloomSpec)

/-- ITS FALSE NEIGHBOUR: 'it returns false'. Refute it at one input. -/
def fnExactUnionBloomWrong : ChangeSpec := { name := "fnExactUnionBloom", fn := fun _ => fun
  | [d1, d2] => { results := [.lit (.bool false)], args := [d1, d2] }
  | _ => none }
def FnExactUnionBloomWrongFalsely : Prop := fnExactUnionBloomRow.holds Try.pinned (OpenSpec.ofChange fnExactUnionBloomWrong)

/-- 'laws.FnExactCoversBloom': WHATEVER THE INPUT: true; the input reads as it did. -/
def fnExactCoversBloomSpec : ChangeSpec := { name := "fnExactCoversBloom", fn := fun _ => fun
  | [d1, d2] => { results := [.lit (.bool true)], args := [d1, d2] }
  | _ => none }
def fnExactCoversBloomRow : OpenClaim := { program := "ytpajbcgdoedleaa", sum := "bf0ecc8666c3133f14c09d356d0db397e1149c99d2d98e9fd11c6fb9e922f4ff", func := "loop.example/g01097/laws.FnExactCoversBloom", spec := "fnExactCoversBloom", apart := false }
def FnExactCoversBloomSaid : Prop := fnExactCoversBloomRow.holds Try.pinned (OpenSpec.ofChange fnExactCoversBloomSpec)

/-- ITS FALSE NEIGHBOUR: 'it returns false'. Refute it at one input. -/
def fnExactCoversBloomWrong : ChangeSpec := { name := "fnExactCoversBloom", fn := fun _ => fun
  | [d1, d2] => { results := [.lit (.bool false)], args := [d1, d2] }
  | _ => none }
def FnExactCoversBloomWrongFalsely : Prop := fnExactCoversBloomRow.holds Try.pinned (OpenSpec.ofChange fnExactCoversBloomWrong)

/-- 'laws.FnExactBloomLoad': WHATEVER THE INPUT: true; the input reads as it did. -/
def fnExactBloomLoadSpec : ChangeSpec := { name := "fnExactBloomLoad", fn := fun _ => fun
  | [d] => { results := [.lit (.bool true)], args := [d] }
  | _ => none }
def fnExactBloomLoadRow : OpenClaim := { program := "ytpajbcgdoedleaa", sum := "bf0ecc8666c3133f14c09d356d0db397e1149c99d2d98e9fd11c6fb9e922f4ff", func := "loop.example/g01097/laws.FnExactBloomLoad", spec := "fnExactBloomLoad", apart := false }
def FnExactBloomLoadSaid : Prop := fnExactBloomLoadRow.holds Try.pinned (OpenSpec.ofChange fnExactBloomLoadSpec)

/-- ITS FALSE NEIGHBOUR: 'it returns false'. Refute it at one input. -/
def fnExactBloomLoadWrong : ChangeSpec := { name := "fnExactBloomLoad", fn := fun _ => fun
  | [d] => { results := [.lit (.bool false)], args := [d] }
  | _ => none }
def FnExactBloomLoadWrongFalsely : Prop := fnExactBloomLoadRow.holds Try.pinned (OpenSpec.ofChange fnExactBloomLoadWrong)

/-- 'laws.FnExactFalseAnswers': WHATEVER THE INPUT: true; the input reads as it did. -/
def fnExactFalseAnswersSpec : ChangeSpec := { name := "fnExactFalseAnswers", fn := fun _ => fun
  | [d1, d2, d3] => { results := [.lit (.bool true)], args := [d1, d2, d3] }
  | _ => none }
def fnExactFalseAnswersRow : OpenClaim := { program := "ytpajbcgdoedleaa", sum := "bf0ecc8666c3133f14c09d356d0db397e1149c99d2d98e9fd11c6fb9e922f4ff", func := "loop.example/g01097/laws.FnExactFalseAnswers", spec := "fnExactFalseAnswers", unfollowed := true, recurses := true, apart := false }
def FnExactFalseAnswersSaid : Prop := fnExactFalseAnswersRow.holds Try.pinned (OpenSpec.ofChange fnExactFalseAnswersSpec)

/-- ITS FALSE NEIGHBOUR: 'it returns false'. Refute it at one input. -/
def fnExactFalseAnswersWrong : ChangeSpec := { name := "fnExactFalseAnswers", fn := fun _ => fun
  | [d1, d2, d3] => { results := [.lit (.bool false)], args := [d1, d2, d3] }
  | _ => none }
def FnExactFalseAnswersWrongFalsely : Prop := fnExactFalseAnswersRow.holds Try.pinned (OpenSpec.ofChange fnExactFalseAnswersWrong)

/-- 'laws.FnExactLeastBloom': WHATEVER THE INPUT: true; the input reads as it did. -/
def fnExactLeastBloomSpec : ChangeSpec := { name := "fnExactLeastBloom", fn := fun _ => fun
  | [d1, d2, d3, d4, d5] => { results := [.lit (.bool true)], args := [d1, d2, d3, d4, d5] }
  | _ => none }
def fnExactLeastBloomRow : OpenClaim := { program := "ytpajbcgdoedleaa", sum := "bf0ecc8666c3133f14c09d356d0db397e1149c99d2d98e9fd11c6fb9e922f4ff", func := "loop.example/g01097/laws.FnExactLeastBloom", spec := "fnExactLeastBloom", unfollowed := true, recurses := true, apart := false }
def FnExactLeastBloomSaid : Prop := fnExactLeastBloomRow.holds Try.pinned (OpenSpec.ofChange fnExactLeastBloomSpec)

/-- ITS FALSE NEIGHBOUR: 'it returns false'. Refute it at one input. -/
def fnExactLeastBloomWrong : ChangeSpec := { name := "fnExactLeastBloom", fn := fun _ => fun
  | [d1, d2, d3, d4, d5] => { results := [.lit (.bool false)], args := [d1, d2, d3, d4, d5] }
  | _ => none }
def FnExactLeastBloomWrongFalsely : Prop := fnExactLeastBloomRow.holds Try.pinned (OpenSpec.ofChange fnExactLeastBloomWrong)

/- THE SECOND FORM. 'bulk': how many values and letters a reading holds, each counted each time it is reached (what is shared counts as often as it is met; a slice's spare places count too). A statement '..UptoSaid' is the law's where the arguments, and the package variables that the reading takes, are together of bulk at most 1048576: NARROWER than '..Said'. Prove '..Said' where nothing that the law and all that it calls make is longer than what came in: it says more and counts as full. Else prove '..UptoSaid'. A law counts once. -/
mutual
def uptoBulk {H : Type} : DataW H → Nat
  | .lit (.string bytes) => bytes.length + 1
  | .lit _ => 1
  | .nil => 1
  | .ptr d => uptoBulk d + 1
  | .slice elems spare => uptoBulkAll elems + uptoBulkAll spare + 1
  | .agg parts => uptoBulkAll parts + 1
  | .iface _ d => uptoBulk d + 1
  | .map entries => uptoBulkEntries entries + 1
  | .held _ => 1
def uptoBulkAll {H : Type} : List (DataW H) → Nat
  | [] => 0
  | d :: r => uptoBulk d + uptoBulkAll r
def uptoBulkEntries {H : Type} : List (Lit × DataW H) → Nat
  | [] => 0
  | x :: r => uptoBulkEntry x + uptoBulkEntries r
def uptoBulkEntry {H : Type} : Lit × DataW H → Nat
  | (.string bytes, d) => bytes.length + uptoBulk d + 1
  | (_, d) => uptoBulk d + 1
 end
def uptoSmall : (H : Type) → List (DataW H) → Bool := fun _ ds => decide (uptoBulkAll ds ≤ 1048576)
def OpenSpec.upto (s : _root_.Go.ChangeSpec) : _root_.Go.OpenSpec := { _root_.Go.OpenSpec.ofChange s with cond := some uptoSmall }

/-- 'laws.FnExactIsBloom', WHERE WHAT IT READS IS OF BULK AT MOST 1048576: true; the input reads as it did. -/
def fnExactIsBloomUptoRow : OpenClaim := { program := "ytpajbcgdoedleaa", sum := "bf0ecc8666c3133f14c09d356d0db397e1149c99d2d98e9fd11c6fb9e922f4ff", func := "loop.example/g01097/laws.FnExactIsBloom", spec := "fnExactIsBloom", apart := false, narrowed := true }
def FnExactIsBloomUptoSaid : Prop := fnExactIsBloomUptoRow.holds Try.pinned (OpenSpec.upto fnExactIsBloomSpec)

/-- 'laws.FnExactNewBloom', WHERE WHAT IT READS IS OF BULK AT MOST 1048576: true; the input reads as it did. -/
def fnExactNewBloomUptoRow : OpenClaim := { program := "ytpajbcgdoedleaa", sum := "bf0ecc8666c3133f14c09d356d0db397e1149c99d2d98e9fd11c6fb9e922f4ff", func := "loop.example/g01097/laws.FnExactNewBloom", spec := "fnExactNewBloom", apart := false, narrowed := true }
def FnExactNewBloomUptoSaid : Prop := fnExactNewBloomUptoRow.holds Try.pinned (OpenSpec.upto fnExactNewBloomSpec)

/-- 'laws.FnExactProbesOf', WHERE WHAT IT READS IS OF BULK AT MOST 1048576: true; the input reads as it did. -/
def fnExactProbesOfUptoRow : OpenClaim := { program := "ytpajbcgdoedleaa", sum := "bf0ecc8666c3133f14c09d356d0db397e1149c99d2d98e9fd11c6fb9e922f4ff", func := "loop.example/g01097/laws.FnExactProbesOf", spec := "fnExactProbesOf", apart := false, narrowed := true }
def FnExactProbesOfUptoSaid : Prop := fnExactProbesOfUptoRow.holds Try.pinned (OpenSpec.upto fnExactProbesOfSpec)

/-- 'laws.FnExactBloomAdd', WHERE WHAT IT READS IS OF BULK AT MOST 1048576: true; the input reads as it did. -/
def fnExactBloomAddUptoRow : OpenClaim := { program := "ytpajbcgdoedleaa", sum := "bf0ecc8666c3133f14c09d356d0db397e1149c99d2d98e9fd11c6fb9e922f4ff", func := "loop.example/g01097/laws.FnExactBloomAdd", spec := "fnExactBloomAdd", apart := false, narrowed := true }
def FnExactBloomAddUptoSaid : Prop := fnExactBloomAddUptoRow.holds Try.pinned (OpenSpec.upto fnExactBloomAddSpec)

/-- 'laws.FnExactBloomHas', WHERE WHAT IT READS IS OF BULK AT MOST 1048576: true; the input reads as it did. -/
def fnExactBloomHasUptoRow : OpenClaim := { program := "ytpajbcgdoedleaa", sum := "bf0ecc8666c3133f14c09d356d0db397e1149c99d2d98e9fd11c6fb9e922f4ff", func := "loop.example/g01097/laws.FnExactBloomHas", spec := "fnExactBloomHas", apart := false, narrowed := true }
def FnExactBloomHasUptoSaid : Prop := fnExactBloomHasUptoRow.holds Try.pinned (OpenSpec.upto fnExactBloomHasSpec)

/-- 'laws.FnExactBloomOf', WHERE WHAT IT READS IS OF BULK AT MOST 1048576: true; the input reads as it did. -/
def fnExactBloomOfUptoRow : OpenClaim := { program := "ytpajbcgdoedleaa", sum := "bf0ecc8666c3133f14c09d356d0db397e1149c99d2d98e9fd11c6fb9e922f4ff", func := "loop.example/g01097/laws.FnExactBloomOf", spec := "fnExactBloomOf", apart := false, narrowed := true }
def FnExactBloomOfUptoSaid : Prop := fnExactBloomOfUptoRow.holds Try.pinned (OpenSpec.upto fnExactBloomOfSpec)

/-- 'laws.FnExactUnionBloom', WHERE WHAT IT READS IS OF BULK AT MOST 1048576: true; the input reads as it did. -/
def fnExactUnionBloomUptoRow : OpenClaim := { program := "ytpajbcgdoedleaa", sum := "bf0ecc8666c3133f14c09d356d0db397e1149c99d2d98e9fd11c6fb9e922f4ff", func := "loop.example/g01097/laws.FnExactUnionBloom", spec := "fnExactUnionBloom", apart := false, narrowed := true }
def FnExactUnionBloomUptoSaid : Prop := fnExactUnionBloomUptoRow.holds Try.pinned (OpenSpec.upto fnExactUnionBloomSpec)

/-- 'laws.FnExactCoversBloom', WHERE WHAT IT READS IS OF BULK AT MOST 1048576: true; the input reads as it did. -/
def fnExactCoversBloomUptoRow : OpenClaim := { program := "ytpajbcgdoedleaa", sum := "bf0ecc8666c3133f14c09d356d0db397e1149c99d2d98e9fd11c6fb9e922f4ff", func := "loop.example/g01097/laws.FnExactCoversBloom", spec := "fnExactCoversBloom", apart := false, narrowed := true }
def FnExactCoversBloomUptoSaid : Prop := fnExactCoversBloomUptoRow.holds Try.pinned (OpenSpec.upto fnExactCoversBloomSpec)

/-- 'laws.FnExactBloomLoad', WHERE WHAT IT READS IS OF BULK AT MOST 1048576: true; the input reads as it did. -/
def fnExactBloomLoadUptoRow : OpenClaim := { program := "ytpajbcgdoedleaa", sum := "bf0ecc8666c3133f14c09d356d0db397e1149c99d2d98e9fd11c6fb9e922f4ff", func := "loop.example/g01097/laws.FnExactBloomLoad", spec := "fnExactBloomLoad", apart := false, narrowed := true }
def FnExactBloomLoadUptoSaid : Prop := fnExactBloomLoadUptoRow.holds Try.pinned (OpenSpec.upto fnExactBloomLoadSpec)

/-- 'laws.FnExactFalseAnswers', WHERE WHAT IT READS IS OF BULK AT MOST 1048576: true; the input reads as it did. -/
def fnExactFalseAnswersUptoRow : OpenClaim := { program := "ytpajbcgdoedleaa", sum := "bf0ecc8666c3133f14c09d356d0db397e1149c99d2d98e9fd11c6fb9e922f4ff", func := "loop.example/g01097/laws.FnExactFalseAnswers", spec := "fnExactFalseAnswers", unfollowed := true, recurses := true, apart := false, narrowed := true }
def FnExactFalseAnswersUptoSaid : Prop := fnExactFalseAnswersUptoRow.holds Try.pinned (OpenSpec.upto fnExactFalseAnswersSpec)

/-- 'laws.FnExactLeastBloom', WHERE WHAT IT READS IS OF BULK AT MOST 1048576: true; the input reads as it did. -/
def fnExactLeastBloomUptoRow : OpenClaim := { program := "ytpajbcgdoedleaa", sum := "bf0ecc8666c3133f14c09d356d0db397e1149c99d2d98e9fd11c6fb9e922f4ff", func := "loop.example/g01097/laws.FnExactLeastBloom", spec := "fnExactLeastBloom", unfollowed := true, recurses := true, apart := false, narrowed := true }
def FnExactLeastBloomUptoSaid : Prop := fnExactLeastBloomUptoRow.holds Try.pinned (OpenSpec.upto fnExactLeastBloomSpec)

end Rows
end Go.Proofs.Ytpajbcgdoedleaa
