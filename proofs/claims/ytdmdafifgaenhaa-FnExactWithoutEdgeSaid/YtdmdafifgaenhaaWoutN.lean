/- WithoutEdge: what both refuse; a Hyper copied, its capacity told. -/
import Derived.Test.YtdmdafifgaenhaaWoutM
namespace Go.Proofs.Ytdmdafifgaenhaa
open Go.RowKit

set_option maxRecDepth 100000 in
set_option maxHeartbeats 2000000 in
theorem impl_withoutEdge_no1 (z : Int) (A : Option Addr) (n c : Nat) (l : Nat → Nat) (X : Nat → Nat → Int) (i : Int) (w : World) (hn : n + sumL l n ≤ 1048576) (hr : HRow w A n l X) (h : ¬ HyperOk z n l X) :
    Calls Try.prog 44 #[.agg #[.int .i64 z, .slice A n c], .int .i64 i] w (HypNo w) := by
  obtain ⟨B, d, hr⟩ := hr
  have L0 := Lib.hid ((LH.start (z := z) (c := c) hr 27).step ((Below.refl _ _).alloc (Nat.le_refl _) (.cells #[.int .i64 0, .slice none 0 0] 27)))
  have N0 := Lib.hid (nbx_two' w (.cells #[.int .i64 z, .slice A n c] 27))
  have HG := Lib.hid h
  clear hr h
  go_enter Try.func44, Try.ntmps44
  go_wp2_with fail
  refine (impl_isHyper_is z A n c l X _ false hn ⟨B, d, L0.out.row⟩ (by simp only [Bool.false_eq_true, false_iff]; exact HG.out)).mono ?_; rintro e w1 ⟨rfl, hb⟩
  have L1 := Lib.hid (L0.out.step hb)
  have N1 := Lib.hid (N0.out.b hb)
  clear hb L0 N0
  obtain ⟨hsz, b0, b1⟩ := L1.out.box
  have r0 := N1.out.cell 0 _ rfl
  have r1 := N1.out.cell 1 _ rfl
  have f0 := N1.out.free 0
  have f1 := N1.out.free 1
  go_wp2_with fail
  refine bodyPost_ret (v := .tuple #[.agg #[.int .i64 0, .slice none 0 0], .bool false]) (by simp [results, Try.results44, go_sem, r0, r1]) rfl ?_
  exact ⟨rfl, by first | exact L1.out.below | exact below_setAt (below_setAt L1.out.below (by omega) _) (by omega) _⟩


set_option maxRecDepth 100000 in
set_option maxHeartbeats 2000000 in
theorem spec_withoutEdge_no1 (z : Int) (A : Option Addr) (n c : Nat) (l : Nat → Nat) (X : Nat → Nat → Int) (i : Int) (w : World) (hn : n + sumL l n ≤ 1048576) (hr : HRow w A n l X) (h : ¬ HyperOk z n l X) :
    Calls Try.prog 43 #[.agg #[.int .i64 z, .slice A n c], .int .i64 i] w (HypNo w) := by
  obtain ⟨B, d, hr⟩ := hr
  have L0 := Lib.hid ((LH.start (z := z) (c := c) hr 27).step ((Below.refl _ _).alloc (Nat.le_refl _) (.cells #[.int .i64 0, .slice none 0 0] 27)))
  have N0 := Lib.hid (nbx_two' w (.cells #[.int .i64 z, .slice A n c] 27))
  have HG := Lib.hid h
  clear hr h
  go_enter Try.func43, Try.ntmps43
  go_wp2_with fail
  refine (spec_peGood_is z A n c l X _ false hn ⟨B, d, L0.out.row⟩ (by simp only [Bool.false_eq_true, false_iff]; exact HG.out)).mono ?_; rintro e w1 ⟨rfl, hb⟩
  have L1 := Lib.hid (L0.out.step hb)
  have N1 := Lib.hid (N0.out.b hb)
  clear hb L0 N0
  obtain ⟨hsz, b0, b1⟩ := L1.out.box
  have r0 := N1.out.cell 0 _ rfl
  have r1 := N1.out.cell 1 _ rfl
  have f0 := N1.out.free 0
  have f1 := N1.out.free 1
  go_wp2_with fail
  refine bodyPost_ret (v := .tuple #[.agg #[.int .i64 0, .slice none 0 0], .bool false]) (by simp [results, Try.results43, go_sem, r0, r1]) rfl ?_
  exact ⟨rfl, by first | exact L1.out.below | exact below_setAt (below_setAt L1.out.below (by omega) _) (by omega) _⟩


set_option maxRecDepth 100000 in
set_option maxHeartbeats 2000000 in
theorem impl_withoutEdge_no2 (z : Int) (A : Option Addr) (n c : Nat) (l : Nat → Nat) (X : Nat → Nat → Int) (i : Int) (w : World) (hn : n + sumL l n ≤ 1048576) (hr : HRow w A n l X) (h : HyperOk z n l X) (hi : ¬ (0 ≤ i ∧ i < n)) :
    Calls Try.prog 44 #[.agg #[.int .i64 z, .slice A n c], .int .i64 i] w (HypNo w) := by
  obtain ⟨B, d, hr⟩ := hr
  have L0 := Lib.hid ((LH.start (z := z) (c := c) hr 27).step ((Below.refl _ _).alloc (Nat.le_refl _) (.cells #[.int .i64 0, .slice none 0 0] 27)))
  have N0 := Lib.hid (nbx_two' w (.cells #[.int .i64 z, .slice A n c] 27))
  have HG := Lib.hid h
  have hn40 := h.2.2.1
  clear hr h
  by_cases h0 : i < 0
  · have d0 : decide (i < 0) = true := by simpa using h0
    go_enter Try.func44, Try.ntmps44
    go_wp2_with fail
    refine (impl_isHyper_is z A n c l X _ true hn ⟨B, d, L0.out.row⟩ (by simp only [true_iff]; exact HG.out)).mono ?_; rintro e w1 ⟨rfl, hb⟩
    have L1 := Lib.hid (L0.out.step hb)
    have N1 := Lib.hid (N0.out.b hb)
    clear hb L0 N0
    obtain ⟨hsz, b0, b1⟩ := L1.out.box
    have r0 := N1.out.cell 0 _ rfl
    have r1 := N1.out.cell 1 _ rfl
    have f0 := N1.out.free 0
    have f1 := N1.out.free 1
    go_wp2_with fail
    refine bodyPost_ret (v := .tuple #[.agg #[.int .i64 0, .slice none 0 0], .bool false]) (by simp [results, Try.results44, go_sem, r0, r1]) rfl ?_
    exact ⟨rfl, by first | exact L1.out.below | exact below_setAt (below_setAt L1.out.below (by omega) _) (by omega) _⟩
  · have d0 : decide (i < 0) = false := by simpa using h0
    have d1 : decide ((n : Int) ≤ i) = true := by simp; omega
    go_enter Try.func44, Try.ntmps44
    go_wp2_with fail
    refine (impl_isHyper_is z A n c l X _ true hn ⟨B, d, L0.out.row⟩ (by simp only [true_iff]; exact HG.out)).mono ?_; rintro e w1 ⟨rfl, hb⟩
    have L1 := Lib.hid (L0.out.step hb)
    have N1 := Lib.hid (N0.out.b hb)
    clear hb L0 N0
    obtain ⟨hsz, b0, b1⟩ := L1.out.box
    have r0 := N1.out.cell 0 _ rfl
    have r1 := N1.out.cell 1 _ rfl
    have f0 := N1.out.free 0
    have f1 := N1.out.free 1
    go_wp2_with fail
    refine bodyPost_ret (v := .tuple #[.agg #[.int .i64 0, .slice none 0 0], .bool false]) (by simp [results, Try.results44, go_sem, r0, r1]) rfl ?_
    exact ⟨rfl, by first | exact L1.out.below | exact below_setAt (below_setAt L1.out.below (by omega) _) (by omega) _⟩

set_option maxRecDepth 100000 in
set_option maxHeartbeats 2000000 in
theorem spec_withoutEdge_no2 (z : Int) (A : Option Addr) (n c : Nat) (l : Nat → Nat) (X : Nat → Nat → Int) (i : Int) (w : World) (hn : n + sumL l n ≤ 1048576) (hr : HRow w A n l X) (h : HyperOk z n l X) (hi : ¬ (0 ≤ i ∧ i < n)) :
    Calls Try.prog 43 #[.agg #[.int .i64 z, .slice A n c], .int .i64 i] w (HypNo w) := by
  obtain ⟨B, d, hr⟩ := hr
  have L0 := Lib.hid ((LH.start (z := z) (c := c) hr 27).step ((Below.refl _ _).alloc (Nat.le_refl _) (.cells #[.int .i64 0, .slice none 0 0] 27)))
  have N0 := Lib.hid (nbx_two' w (.cells #[.int .i64 z, .slice A n c] 27))
  have HG := Lib.hid h
  have hn40 := h.2.2.1
  clear hr h
  have HC := Lib.hid (show ¬ (0 ≤ i ∧ i ≤ (n : Int) - 1) from fun h => hi ⟨h.1, by omega⟩)
  go_enter Try.func43, Try.ntmps43
  go_wp2_with fail
  refine (spec_peGood_is z A n c l X _ true hn ⟨B, d, L0.out.row⟩ (by simp only [true_iff]; exact HG.out)).mono ?_; rintro e w1 ⟨rfl, hb⟩
  have L1 := Lib.hid (L0.out.step hb)
  have N1 := Lib.hid (N0.out.b hb)
  clear hb L0 N0
  obtain ⟨hsz, b0, b1⟩ := L1.out.box
  have r0 := N1.out.cell 0 _ rfl
  have r1 := N1.out.cell 1 _ rfl
  have f0 := N1.out.free 0
  have f1 := N1.out.free 1
  go_wp2_with fail
  refine (l1In_no _ _ _ _ HC.out).mono ?_; rintro e w' ⟨rfl, rfl⟩
  go_wp2_with fail
  refine bodyPost_ret (v := .tuple #[.agg #[.int .i64 0, .slice none 0 0], .bool false]) (by simp [results, Try.results43, go_sem, r0, r1]) rfl ?_
  exact ⟨rfl, by first | exact L1.out.below | exact below_setAt (below_setAt L1.out.below (by omega) _) (by omega) _⟩


set_option maxHeartbeats 1000000 in
theorem to_IntSSn {A : Option Addr} {n c : Nat} {l : Nat → Nat} {X : Nat → Nat → Int} {w : World} (hn : n + sumL l n ≤ 1048576) (hr : HRow w A n l X) :
    Calls Try.prog 77 #[.slice A n c] w fun e w' => ∃ A', e = .returned (.slice A' n n) ∧ Ow2 w.heap.size w'.heap.size A' n l X w' ∧ Below w.heap.size w w' := by
  have hmk := fun W => run_make_row' (P := Try.prog) 22 39 (.slice none 0 0) 24 Try.underlying22 infoSl rfl .i64 .i64 n (by omega) (by omega) W
  obtain ⟨B, d, hr, hx⟩ := hr
  have HR := Lib.hid hr
  have HX := Lib.hid hx
  clear hr hx
  go_enter Try.func77, Try.ntmps77
  go_wp2_with fail
  go_loopw [4] (fun i wr => ∃ (k : Nat) (D : Nat → Option Addr) (e : Nat → Nat), k ≤ n ∧ i = .int .i64 k ∧ GOwn wr 39 w.heap.size n (fun j => if j < k then sliceV D l e j else .slice none 0 0) ∧ Hid (∀ j, j < k → Ow (w.heap.size + 1) wr.heap.size 3 (D j) (l j) (intV (X j)) wr) ∧ Hid (∀ i j, i < j → j < k → Apart (l i) (D i) (l j) (D j)) ∧ Below w.heap.size w wr ∧ w.heap.size < wr.heap.size) (fun i _ => n - (intOf i).toNat)
  case atStart => exact ⟨0, fun _ => none, fun _ => 0, Nat.zero_le _, rfl, (GOwn.made _ _ _ _).congr (fun _ _ => by simp), Lib.hid (fun j hj => absurd hj (by omega)), Lib.hid (fun i j _ hj => absurd hj (by omega)), (Below.refl _ _).alloc (Nat.le_refl _) _, by simp⟩
  case round =>
    obtain ⟨k, D, e, hk, rfl, ho, HI, HA, hb, hsz⟩ := hrel
    by_cases hlt : k < n
    · obtain ⟨b, off, rfl, hb1, hc⟩ := HR.out.below hb (Nat.le_refl _) (by omega)
      have hck := hc k hlt
      unfold sliceV at hck
      have hlk := sumL_at l hlt
      have HO := Lib.hid ho
      have HB := Lib.hid hb
      have hxk := Lib.hid ((HX.out k hlt).b hb)
      clear ho hb hc hb1
      go_wp2_with fail
      refine (to_IntS (by omega) hxk.out).mono ?_; rintro e' w2 ⟨A2, c2, rfl, ho2, hb⟩
      have HO2 := Lib.hid (HO.out.b hb)
      have HB2 := Lib.hid (HB.out.trans (hb.mono HB.out.size))
      have HN := Lib.hid ho2
      have hok := HO2.out.cell hlt
      have hfr := HO2.out.frozen k
      rw [if_neg (Nat.lt_irrefl k)] at hok
      have HP := Lib.hid (fun j (hj : j < k) => (At.b ⟨HI.out j hj, Nat.le_refl _, Ow.lives _ _ _ _ _ _⟩ hb).now)
      have hsz2 := hb.size
      clear ho2 hb HO HB
      go_wp2_with fail
      go_roundw
      case rel =>
        have hfar : ∀ (m : Nat) (A' : Option Addr) (F : Nat → Value) (lo hi : Nat), w.heap.size < lo → hi ≤ w2.heap.size → Ow lo hi 3 A' m F w2 → Ow lo hi 3 A' m F (w2.setCell ⟨w.heap.size, k, none⟩ (.slice A2 (l k) c2)) := fun m A' F lo hi h1 h2 h => h.same (only_set w2 w.heap.size k _) (.inr (by omega)) h2
        refine ⟨k + 1, fun j => if j = k then A2 else D j, fun j => if j = k then c2 else e j, by omega, by go_num, (HO2.out.set k (.slice A2 (l k) c2)).congr (fun j hj => ?_), Lib.hid (fun j hj => ?_), Lib.hid (fun i j hij hj => ?_), HB2.out.setCell (Nat.le_refl _) _, by simp; omega⟩
        · by_cases e1 : j = k
          · subst e1; simp [sliceV]
          · by_cases e2 : j < k <;> simp [e1, e2, sliceV] <;> omega
        · by_cases e1 : j = k
          · subst e1
            simp only [if_true, World.size_setCell]
            exact hfar _ _ _ _ _ (by omega) (Nat.le_refl _) (HN.out.mono (by omega) (Nat.le_refl _))
          · simp only [e1, if_false, World.size_setCell]
            exact hfar _ _ _ _ _ (by omega) (Nat.le_refl _) ((HP.out j (by omega)).mono (Nat.le_refl _) hsz2)
        · by_cases e1 : j = k
          · subst e1
            simp only [if_true, show ¬ i = j by omega, if_false]
            exact apart_of (HP.out i hij) HN.out (.inl (Nat.le_refl _))
          · simp only [e1, show ¬ i = k by omega, if_false]
            exact HA.out i j hij (by omega)
      case measure => simp [intOf]; omega
    · obtain rfl : k = n := by omega
      have HO := Lib.hid ho
      have HB := Lib.hid hb
      clear ho hb
      go_wp2_with fail
      go_ret
      exact ⟨_, rfl, ⟨D, e, ow_of_own (m := k) (HO.out.congr (fun j hj => by simp [hj])) (Nat.le_refl _) (Nat.le_refl _), fun j hj => (HI.out j hj).mono (by omega) (Nat.le_refl _), HA.out⟩, HB.out⟩


set_option maxRecDepth 100000 in
set_option maxHeartbeats 2000000 in
theorem to_Hypern {z0 : Int} {n1 : Nat} {l1 : Nat → Nat} {X1 : Nat → Nat → Int} {A1 : Option Addr} {c1 : Nat} {w : World} (hn1 : n1 + sumL l1 n1 ≤ 1048576) (hr1 : HRow w A1 n1 l1 X1) :
    Calls Try.prog 22 #[.agg #[.int .i64 z0, .slice A1 n1 c1]] w fun e w' => ∃ dA1, e = .returned (.agg #[.int .i64 z0, .slice dA1 n1 n1]) ∧ Ow2 w.heap.size w'.heap.size dA1 n1 l1 X1 w' ∧ Below w.heap.size w w' := by
  have FB := Lib.hid ((((At.start w).alloc (.cells #[.int .i64 z0, .slice A1 n1 c1] 24)).alloc (.cells #[.int .i64 0, .slice none 0 0] 27)).alloc (.cells #[.int .i64 z0, .slice none 0 0] 27))
  have R1 := Lib.hid ((((rd2_of_row hr1).alloc (.cells #[.int .i64 z0, .slice A1 n1 c1] 24)).alloc (.cells #[.int .i64 0, .slice none 0 0] 27)).alloc (.cells #[.int .i64 z0, .slice none 0 0] 27))
  have BX := Lib.hid (((boxed w #[.int .i64 z0, .slice A1 n1 c1] 24).alloc (.cells #[.int .i64 0, .slice none 0 0] 27)).alloc (.cells #[.int .i64 z0, .slice none 0 0] 27))
  have nb := nbx0 ((w.alloc (.cells #[.int .i64 z0, .slice A1 n1 c1] 24)).alloc (.cells #[.int .i64 0, .slice none 0 0] 27)) #[.int .i64 z0, .slice none 0 0] 27
  have nr := (nbx0 (w.alloc (.cells #[.int .i64 z0, .slice A1 n1 c1] 24)) #[.int .i64 0, .slice none 0 0] 27).b ((Below.refl _ _).alloc (Nat.le_refl _) (.cells #[.int .i64 z0, .slice none 0 0] 27))
  simp only [World.size_alloc] at nb nr
  have NB := Lib.hid nb
  have NR := Lib.hid nr
  clear nb nr hr1
  go_enter Try.func22, Try.ntmps22
  go_wp2_with fail
  refine (to_IntSSn hn1 R1.out.row2).mono ?_; rintro e w1 ⟨dA1, rfl, ho1, hb⟩
  replace FB := Lib.hid (FB.out.b hb)
  replace R1 := Lib.hid (R1.out.b hb)
  replace BX := Lib.hid (BX.out.b hb)
  have z_w1 : w.heap.size + 3 ≤ w1.heap.size := by have hsz := hb.size; first | omega | (simp at hsz; omega)
  replace NB := Lib.hid (NB.out.b hb)
  replace NR := Lib.hid (NR.out.b hb)
  have O1 := Lib.hid (owned2 (ho1.mono (lo' := w.heap.size + 3) (by simp) (Nat.le_refl _)))
  clear hb ho1
  have d1 := NB.out.cell 1 _ rfl
  have f1 := NB.out.free 1
  have c_BX_0 := BX.out.now 0 _ rfl
  have c_BX_1 := BX.out.now 1 _ rfl
  have g0 := NR.out.free 0
  have e0 := NR.out.cell 0 _ rfl
  have g1 := NR.out.free 1
  have e1 := NR.out.cell 1 _ rfl
  have d0 := NB.out.cell 0 _ rfl
  go_wp2_with fail
  refine bodyPost_ret (v := .agg #[.int .i64 z0, .slice dA1 n1 n1]) (by simp [results, Try.results22, go_sem, e0, e1]) rfl ?_
  replace FB := Lib.hid (((((((FB.out).setD (q := w.heap.size + 1 + 1) (.inl (by omega)) 1 (.slice dA1 n1 n1))).setD (q := w.heap.size + 1) (.inl (by omega)) 0 (.int .i64 z0))).setD (q := w.heap.size + 1) (.inl (by omega)) 1 (.slice dA1 n1 n1)))
  replace R1 := Lib.hid (((((((R1.out).setD (q := w.heap.size + 1 + 1) (.inl (by omega)) 1 (.slice dA1 n1 n1))).setD (q := w.heap.size + 1) (.inl (by omega)) 0 (.int .i64 z0))).setD (q := w.heap.size + 1) (.inl (by omega)) 1 (.slice dA1 n1 n1)))
  replace BX := Lib.hid (((((((BX.out).setD (q := w.heap.size + 1 + 1) (.inl (by omega)) 1 (.slice dA1 n1 n1))).setD (q := w.heap.size + 1) (.inl (by omega)) 0 (.int .i64 z0))).setD (q := w.heap.size + 1) (.inl (by omega)) 1 (.slice dA1 n1 n1)))
  replace O1 := Lib.hid (((((((O1.out).setD (q := w.heap.size + 1 + 1) (.inr (by omega)) 1 (.slice dA1 n1 n1))).setD (q := w.heap.size + 1) (.inr (by omega)) 0 (.int .i64 z0))).setD (q := w.heap.size + 1) (.inr (by omega)) 1 (.slice dA1 n1 n1)))
  exact ⟨dA1, rfl, O1.out.now.mono (by omega) O1.out.top, FB.out.now⟩


end Go.Proofs.Ytdmdafifgaenhaa
