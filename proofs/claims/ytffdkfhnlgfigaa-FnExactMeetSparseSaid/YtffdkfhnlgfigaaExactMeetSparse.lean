/- For every input the law FnExactMeetSparse returns true, and the input reads behind the call as it did. No condition. -/
import Derived.Test.YtffdkfhnlgfigaaRows
import Derived.Test.YtffdkfhnlgfigaaClosed
import Derived.Test.YtffdkfhnlgfigaaOpen
import Derived.Test.YtffdkfhnlgfigaaOpenS
import Derived.Test.YtffdkfhnlgfigaaExactMeetSparseWalk
import Derived.WalkKit
import Derived.ProofKit
import Derived.OpenShut
import Derived.ShutString
import Derived.ChangeOld
import Derived.Below
import Derived.SizedLaws
import Derived.SliceStrings
import Derived.Lib.SmallJoins
namespace Go.Proofs.Ytffdkfhnlgfigaa.fnExactMeetSparse
open Go.ChangeShapes Go.WideShapes Go.ChangeAt Go.RowKit Go.Joins
open Go.ChangeMaps (open_string shut_string)
set_option linter.unusedVariables false

theorem cellsS : Try.prog.cellsOf 58 = 7 := by kernel_rfl

set_option maxRecDepth 100000 in
theorem lifted (os : Os) (started : os.Started) (H : Type) (enc : TypeId × Value → H) :
    ReturnsInHanded {} Try.checked os 6 .any (Rows.fnExactMeetSparseSpec.pre6 enc Try.prog Try.f6 Rows.fnExactMeetSparseRow.domain false) (Rows.fnExactMeetSparseSpec.post enc Try.prog Try.f6 false true false false) := by
  refine returnsInHanded_of_change_sized (C := Try.checked) own started (by kernel_rfl) Try.func6
    (ChangeSpec.witness6 (enc := enc) (C := Try.checked) false ⟨#[], #[.agg #[.int .i64 0, .int .i64 0, .int .i64 0, .int .i64 0, .slice none 0 0, .int .i64 0, .slice none 0 0], .agg #[.int .i64 0, .int .i64 0, .int .i64 0, .int .i64 0, .slice none 0 0, .int .i64 0, .slice none 0 0]], []⟩ 8 (by kernel_rfl) (by kernel_rfl) (by kernel_rfl) (by kernel_rfl)) ?_
  intro W base args ds gs before hval0 hW hcnd hsz0 _
  have hsz : (DataW.weightsEach Try.prog (Try.f6.params.toList ++ Rows.fnExactMeetSparseSpec.plain.varTypes Try.prog) (ds ++ gs)).all (· ≤ reachBytes) = true := hsz0
  have hval : ∀ (j : Nat) t v, Try.f6.params[j]? = some t → args[j]? = some v → Value.okWide Try.prog W .any base t v := hval0
  have hW' := hW
  obtain ⟨p, q, hA0, hV, rfl, hfz, hnd⟩ := hW
  have hA : DataW.TrodAll enc Try.prog W 0 (fun _ => true) true Try.f6.params.toList args.toList ds p := hA0
  rw [Try.params6] at hA hval hsz
  obtain ⟨v0, vs0, d0, ds0, p0, q0, hargs, rfl, rfl, h0, r0⟩ := trodAll_cons hA
  obtain ⟨v1, vs1, d1, ds1, p1, q1, rfl, rfl, rfl, h1, r1⟩ := trodAll_cons r0
  obtain ⟨rfl, rfl, rfl⟩ := trodAll_nil r1
  obtain rfl : args = #[v0, v1] := by cases args; simp_all
  obtain ⟨rfl, rfl⟩ := trodVars_none hV
  have k0 := h0
  have lt0 : ∀ x ∈ p0, x.block < W.heap.size := by obtain ⟨m, hm⟩ := k0; exact DataW.trod_lt m _ _ _ hm
  obtain ⟨z0, y0, x0, l0, A0, n0, c0, g0, B0, u0, e0, rfl, wz0, wy0, wx0, wl0, wg0, ⟨m0, X0, R0⟩, ⟨M0, Y0, S0⟩⟩ := sparseRow_of Try.underlying58 Try.underlying56 Try.underlying56 (by kernel_rfl) cellsS Try.underlying3 Try.underlying3 Try.underlying3 Try.underlying3 Try.underlying28 Try.underlying3 (by kernel_rfl) (hval 0 58 v0 rfl rfl) h0
  have k1 := h1
  have lt1 : ∀ x ∈ p1, x.block < W.heap.size := by obtain ⟨m, hm⟩ := k1; exact DataW.trod_lt m _ _ _ hm
  obtain ⟨z1, y1, x1, l1, A1, n1, c1, g1, B1, u1, e1, rfl, wz1, wy1, wx1, wl1, wg1, ⟨m1, X1, R1⟩, ⟨M1, Y1, S1⟩⟩ := sparseRow_of Try.underlying58 Try.underlying56 Try.underlying56 (by kernel_rfl) cellsS Try.underlying3 Try.underlying3 Try.underlying3 Try.underlying3 Try.underlying28 Try.underlying3 (by kernel_rfl) (hval 1 58 v1 rfl rfl) h1
  clear hA0 hval0
  refine (walk_FnExactMeetSparse W z0 wz0 y0 wy0 x0 wx0 l0 wl0 A0 n0 c0 X0 m0 R0 g0 wg0 B0 u0 e0 Y0 M0 S0 z1 wz1 y1 wy1 x1 wx1 l1 wl1 A1 n1 c1 X1 m1 R1 g1 wg1 B1 u1 e1 Y1 M1 S1).mono fun e W' ⟨he, bel⟩ => ?_
  subst he
  exact ⟨_, rfl, _, _, _, [], _, [], hW', trodAll_mk1 (shut_bool Try.underlying4 _), (trodAll_cons_mk (Below.trod laidOut (by kernel_rfl) (of_decide_eq_true (by kernel_rfl)) k0 bel lt0) (trodAll_cons_mk (Below.trod laidOut (by kernel_rfl) (of_decide_eq_true (by kernel_rfl)) k1 bel lt1) trodAll_mk0)), rfl, bel.frame _, fun h => by cases h⟩

theorem closed : joinedFacts Try.prog 6 Try.f6 Rows.fnExactMeetSparseSpec Rows.fnExactMeetSparseRow = true :=
  joined_intro (by as_aux_lemma => kernel_rfl) laidOut rowed (by as_aux_lemma => kernel_rfl) (by as_aux_lemma => kernel_rfl) rfl noStops rfl noKnobs (by as_aux_lemma => kernel_rfl) (by as_aux_lemma => kernel_rfl) (by as_aux_lemma => kernel_rfl) (by as_aux_lemma => kernel_rfl) (by as_aux_lemma => kernel_rfl) (by as_aux_lemma => kernel_rfl)
    (by as_aux_lemma => kernel_rfl) (by as_aux_lemma => kernel_rfl) (by as_aux_lemma => kernel_rfl) (by as_aux_lemma => kernel_rfl) (by as_aux_lemma => kernel_rfl) (by as_aux_lemma => kernel_rfl) (by as_aux_lemma => kernel_rfl) (by rw [plain]; rfl) rfl heard enters (by rw [finals]; rfl) (by rw [made]; rfl) rfl rfl rfl (by as_aux_lemma => kernel_rfl) (by as_aux_lemma => kernel_rfl)
theorem over : Rows.fnExactMeetSparseRow.holds Try.pinned (OpenSpec.ofChange Rows.fnExactMeetSparseSpec) :=
  OpenClaim.holds_of_wide 6 Try.f6 rfl rfl rfl rfl rfl rfl rfl ⟨rfl, rfl, rfl, rfl, rfl⟩ rfl rfl rfl rfl rfl (by as_aux_lemma => kernel_rfl) Try.func6 closed
    (of_decide_eq_true (by as_aux_lemma => kernel_rfl)) (by unfold Func.isWrapper; rw [if_neg (of_decide_eq_false (by as_aux_lemma => kernel_rfl))]; exact ⟨rfl, rfl⟩)
    (fun os started H enc _ => lifted os started H enc)

theorem fnExactMeetSparse_proved : Rows.FnExactMeetSparseSaid := over
#print axioms fnExactMeetSparse_proved
end Go.Proofs.Ytffdkfhnlgfigaa.fnExactMeetSparse
