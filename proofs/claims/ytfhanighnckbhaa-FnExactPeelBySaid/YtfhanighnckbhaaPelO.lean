/- PeelOrder of both sides: the steps as a row of their own. -/
import Derived.Test.YtfhanighnckbhaaOwnPl
import Derived.Test.YtfhanighnckbhaaObjPS
namespace Go.Proofs.Ytfhanighnckbhaa
open Go.RowKit

/-- The cells of steps. -/
def stF (E P : Nat → Nat) (j : Nat) : Int := if j % 2 = 0 then ((E (j / 2) : Nat) : Int) else ((P (j / 2) : Nat) : Int)
theorem steps_ow {w : World} {B : Nat} {SA : Option Addr} {k sc : Nat} {E P : Nat → Nat} (h : w.ownsRow B 82 2 (.slice SA k sc) k (stepsL E P k)) : Ow B w.heap.size 82 SA (2 * k) (intV (stF E P)) w := fun hk => by
  obtain ⟨hl, h1 | ⟨g, cap, cur, he, hB, hb, hn, hm, hs, ht⟩⟩ := h
  · omega
  · injection he with e1 e2 e3
    subst e1 e3
    have h' : w.ownsRow B 82 2 (.slice (some ⟨g, 0, none⟩) k sc) k (stepsL E P k) := ⟨hl, .inr ⟨g, sc, cur, rfl, hB, hb, hn, hm, hs, ht⟩⟩
    have hcell : ∀ i, i < 2 * k → cur[i]? = some (intV (stF E P) i) := fun i hi => by
      have h3 := h'.cellAt i (by omega)
      obtain ⟨g0, g1⟩ := stepsL_get (E := E) (P := P) (j := i / 2) k (by omega)
      have h4 : (stepsL E P k)[i]? = some (intV (stF E P) i) := by
        unfold intV stF
        rcases Nat.mod_two_eq_zero_or_one i with e | e
        · rw [if_pos e]; rw [show 2 * (i / 2) = i by omega] at g0; exact g0
        · rw [if_neg (by omega)]; rw [show 2 * (i / 2) + 1 = i by omega] at g1; exact g1
      rw [h4] at h3
      simpa [World.cell?, hb] using h3
    refine ⟨g, 0, cur, rfl, hB, (Array.getElem?_eq_some_iff.1 hb).1, hb, ?_, fun i hi => by rw [Nat.zero_add]; exact hcell i hi⟩
    have := (Array.getElem?_eq_some_iff.1 (hcell (2 * k - 1) (by omega))).1
    omega
/-- What PeelOrder answers: k steps, or nothing. -/
def StepsOwn (k : Nat) (F : Nat → Int) (b : Bool) (w : World) (e : Ending) (w' : World) : Prop := ∃ A c, e = .returned (.tuple #[.slice A k c, .bool b]) ∧ Ow w.heap.size w'.heap.size 82 A (2 * k) (intV F) w' ∧ Below w.heap.size w w'
theorem StepsOwn.row {k : Nat} {F : Nat → Int} {b : Bool} {w : World} (e : Ending) (w' : World) (h : StepsOwn k F b w e w') : ∃ A c, e = .returned (.tuple #[.slice A k c, .bool b]) ∧ GRow w' A (2 * k) (intV F) ∧ Below w.heap.size w w' := by
  obtain ⟨A, c, h1, h2, h3⟩ := h
  exact ⟨A, c, h1, h2.rd.row (Nat.le_refl _), h3⟩
theorem steps_none {F : Nat → Int} {w : World} {e : Ending} {w' : World} (h : e = .returned (.tuple #[.slice none 0 0, .bool false])) (hb : Below w.heap.size w w') : StepsOwn 0 F false w e w' := ⟨none, 0, h, ow_zero _ _ _ _ _ _, hb⟩
set_option maxRecDepth 100000 in
set_option maxHeartbeats 2000000 in
theorem spec_peelOrder (z : Nat) (A : Option Addr) (n c : Nat) (B : Nat → Option Addr) (l d : Nat → Nat) (X : Nat → Nat → Int) (w : World) (hn : n + sumL l n ≤ 1048576) (hr : HR w A n B l d X) (h : HyperOk z n l X) :
    Calls Try.prog 29 #[.agg #[.int .i64 z, .slice A n c]] w fun e w' => ∃ k, Goes z l X n zeroC k ∧ freL (degF l X (goneS z l X n zeroC k) n) z = [] ∧ Below w.heap.size w w' ∧
      ((leftL (goneS z l X n zeroC k) n).length = 0 → ∃ SA sc, e = .returned (.tuple #[.slice SA k sc, .bool true]) ∧ w'.ownsRow w.heap.size 82 2 (.slice SA k sc) k (stepsL (stE z l X n zeroC) (stP z l X n zeroC) k)) ∧
      (0 < (leftL (goneS z l X n zeroC k) n).length → e = .returned (.tuple #[.slice none 0 0, .bool false])) := by
  have L0 := Lib.hid (LH.start (z := (z : Int)) (c := c) hr 26)
  have HG := Lib.hid h
  clear hr h
  go_enter Try.func29, Try.ntmps29
  go_wp2_with fail
  refine (spec_peGood_is z A n c l X _ true hn ⟨B, d, L0.out.row⟩ (by simp only [true_iff]; exact HG.out)).mono ?_; rintro e w1 ⟨rfl, hb⟩
  have L1 := Lib.hid (L0.out.step hb)
  clear hb L0
  obtain ⟨hsz, b0, b1⟩ := L1.out.box
  have hlow := L1.out.below.size
  go_wp2_with fail
  refine (spec_pePeel z A n c B l d X _ L1.out.row HG.out).mono ?_; rintro e w2 ⟨k, SA, sc, FA, fc, rfl, hgo, hf, ho, hl, hb⟩
  have HGo := Lib.hid hgo
  have HF := Lib.hid hf
  have HB := Lib.hid (L1.out.step hb).below
  have HO := Lib.hid (own_lowG ho hlow)
  clear hgo hf hb ho hl
  by_cases hlt : 0 < (leftL (goneS z l X n zeroC k) n).length
  · go_wp2_with fail
    go_ret2
    exact ⟨k, HGo.out, HF.out, HB.out, fun e => by omega, fun _ => rfl⟩
  · have h0 : (leftL (goneS z l X n zeroC k) n).length = 0 := by omega
    go_wp2_with fail
    go_ret2
    exact ⟨k, HGo.out, HF.out, HB.out, fun _ => ⟨SA, sc, rfl, HO.out⟩, fun e => by omega⟩
set_option maxRecDepth 100000 in
set_option maxHeartbeats 2000000 in
theorem spec_peelOrder_no (z : Int) (A : Option Addr) (n c : Nat) (l : Nat → Nat) (X : Nat → Nat → Int) (w : World) (hn : n + sumL l n ≤ 1048576) (hr : HRow w A n l X) (h : ¬ HyperOk z n l X) :
    Calls Try.prog 29 #[.agg #[.int .i64 z, .slice A n c]] w fun e w' => e = .returned (.tuple #[.slice none 0 0, .bool false]) ∧ Below w.heap.size w w' := by
  obtain ⟨B, d, hr⟩ := hr
  have L0 := Lib.hid (LH.start (z := z) (c := c) hr 26)
  have HG := Lib.hid h
  clear hr h
  go_enter Try.func29, Try.ntmps29
  go_wp2_with fail
  refine (spec_peGood_is z A n c l X _ false hn ⟨B, d, L0.out.row⟩ (by simp only [Bool.false_eq_true, false_iff]; exact HG.out)).mono ?_; rintro e w1 ⟨rfl, hb⟩
  have L1 := Lib.hid (L0.out.step hb)
  clear hb L0
  go_wp2_with fail
  go_ret2
  exact ⟨rfl, L1.out.below⟩
theorem goes_ex (z : Nat) (l : Nat → Nat) (X : Nat → Nat → Int) (n : Nat) (C : Nat → Nat) : ∃ k, Goes z l X n C k ∧ freL (degF l X (goneS z l X n C k) n) z = [] := by
  have h : ∀ m, (∃ k, Goes z l X n C k ∧ freL (degF l X (goneS z l X n C k) n) z = []) ∨ Goes z l X n C m := by
    intro m
    induction m with
    | zero => exact .inr (fun j hj => by omega)
    | succ m ih =>
      rcases ih with ih | ih
      · exact .inl ih
      · by_cases e : freL (degF l X (goneS z l X n C m) n) z = []
        · exact .inl ⟨m, ih, e⟩
        · exact .inr (fun j hj => by
            by_cases e2 : j = m
            · subst e2; exact e
            · exact ih j (by omega))
  rcases h n with h1 | h1
  · exact h1
  · exact ⟨n, h1, goes_end h1⟩
theorem steps_post {z n : Nat} {l : Nat → Nat} {X : Nat → Nat → Int} {k : Nat} (hg : Goes z l X n zeroC k) (hf : freL (degF l X (goneS z l X n zeroC k) n) z = []) (w : World) (e : Ending) (w' : World)
    (h : ∃ k, Goes z l X n zeroC k ∧ freL (degF l X (goneS z l X n zeroC k) n) z = [] ∧ Below w.heap.size w w' ∧
      ((leftL (goneS z l X n zeroC k) n).length = 0 → ∃ SA sc, e = .returned (.tuple #[.slice SA k sc, .bool true]) ∧ w'.ownsRow w.heap.size 82 2 (.slice SA k sc) k (stepsL (stE z l X n zeroC) (stP z l X n zeroC) k)) ∧
      (0 < (leftL (goneS z l X n zeroC k) n).length → e = .returned (.tuple #[.slice none 0 0, .bool false]))) :
    ((leftL (goneS z l X n zeroC k) n).length = 0 → StepsOwn k (stF (stE z l X n zeroC) (stP z l X n zeroC)) true w e w') ∧ (0 < (leftL (goneS z l X n zeroC k) n).length → StepsOwn 0 (fun _ => 0) false w e w') := by
  obtain ⟨j, h1, h2, h3, h4, h5⟩ := h
  obtain rfl := goes_same h1 h2 hg hf
  refine ⟨fun h => ?_, fun h => ?_⟩
  · obtain ⟨A, c, h6, h7⟩ := h4 h
    exact ⟨A, c, h6, steps_ow h7, h3⟩
  · exact steps_none (h5 h) h3
end Go.Proofs.Ytfhanighnckbhaa
