/- PeelBy of both sides. -/
import Derived.Test.YtfhanighnckbhaaPeelD
import Derived.Test.YtfhanighnckbhaaPelO
import Derived.Test.YtfhanighnckbhaaFromG
namespace Go.Proofs.Ytfhanighnckbhaa
open Go.RowKit

theorem goes_exM (z : Nat) (l : Nat → Nat) (X : Nat → Nat → Int) (n : Nat) (C : Nat → Nat) : ∀ m, ∃ k, k ≤ m ∧ Goes z l X n C k ∧ (k = m ∨ freL (degF l X (goneS z l X n C k) n) z = [])
  | 0 => ⟨0, Nat.le_refl _, fun j hj => by omega, .inl rfl⟩
  | m + 1 => by
    obtain ⟨k, h1, h2, h3⟩ := goes_exM z l X n C m
    rcases h3 with rfl | h3
    · by_cases e : freL (degF l X (goneS z l X n C k) n) z = []
      · exact ⟨k, by omega, h2, .inr e⟩
      · exact ⟨k + 1, Nat.le_refl _, fun j hj => by
          by_cases e2 : j = k
          · subst e2; exact e
          · exact h2 j (by omega), .inl rfl⟩
    · exact ⟨k, by omega, h2, .inr h3⟩
theorem goes_sameM {z : Nat} {l : Nat → Nat} {X : Nat → Nat → Int} {n : Nat} {C : Nat → Nat} {m k j : Nat} (a1 : k ≤ m) (a2 : Goes z l X n C k) (a3 : k = m ∨ freL (degF l X (goneS z l X n C k) n) z = []) (b1 : j ≤ m) (b2 : Goes z l X n C j) (b3 : j = m ∨ freL (degF l X (goneS z l X n C j) n) z = []) : k = j := by
  rcases Nat.lt_trichotomy k j with h | h | h
  · rcases a3 with e | e
    · omega
    · exact absurd e (b2 k h)
  · exact h
  · rcases b3 with e | e
    · omega
    · exact absurd e (a2 j h)
/-- What PeelBy answers: k steps and the edges that are left. -/
def ByOwn (k : Nat) (F : Nat → Int) (n : Nat) (G : Nat → Int) (b : Bool) (w : World) (e : Ending) (w' : World) : Prop :=
  ∃ A c B d, e = .returned (.tuple #[.slice A k c, .slice B n d, .bool b]) ∧ Ow w.heap.size w'.heap.size 82 A (2 * k) (intV F) w' ∧ Ow w.heap.size w'.heap.size 3 B n (intV G) w' ∧ Apart (2 * k) A n B ∧ Below w.heap.size w w'
theorem ByOwn.row {k n : Nat} {F G : Nat → Int} {b : Bool} {w : World} (e : Ending) (w' : World) (h : ByOwn k F n G b w e w') : ∃ A c B d, e = .returned (.tuple #[.slice A k c, .slice B n d, .bool b]) ∧ GRow w' A (2 * k) (intV F) ∧ GRow w' B n (intV G) ∧ Below w.heap.size w w' := by
  obtain ⟨A, c, B, d, h1, h2, h3, _, h4⟩ := h
  exact ⟨A, c, B, d, h1, h2.rd.row (Nat.le_refl _), h3.rd.row (Nat.le_refl _), h4⟩
theorem by_none {F G : Nat → Int} {w : World} {e : Ending} {w' : World} (h : e = .returned (.tuple #[.slice none 0 0, .slice none 0 0, .bool false])) (hb : Below w.heap.size w w') : ByOwn 0 F 0 G false w e w' :=
  ⟨none, 0, none, 0, h, ow_zero _ _ _ _ _ _, ow_zero _ _ _ _ _ _, fun h => absurd h (by omega), hb⟩
def ByIs (z n : Nat) (l : Nat → Nat) (X : Nat → Nat → Int) (m : Nat) (C : Nat → Nat) (w : World) (e : Ending) (w' : World) : Prop :=
  ∃ k, k ≤ m ∧ Goes z l X n C k ∧ (k = m ∨ freL (degF l X (goneS z l X n C k) n) z = []) ∧ ByOwn k (stF (stE z l X n C) (stP z l X n C)) (leftL (goneS z l X n C k) n).length (lstV (leftL (goneS z l X n C k) n)) true w e w'
theorem by_own {w w' : World} {B k n : Nat} {SA FA : Option Addr} {sc fc : Nat} {E P : Nat → Nat} {G : Nat → Int} (h1 : w'.ownsRow B 82 2 (.slice SA k sc) k (stepsL E P k)) (h2 : w'.ownsRow B 3 1 (.slice FA n fc) n (vals (intV G) n)) (hB : w.heap.size ≤ B) (hb : Below w.heap.size w w') :
    ByOwn k (stF E P) n G true w (.returned (.tuple #[.slice SA k sc, .slice FA n fc, .bool true])) w' := by
  have a1 := steps_ow h1
  have a2 : Ow B w'.heap.size 3 FA n (intV G) w' := by
    rcases owned_vec h2 with h | ⟨g, hA, hg, ho⟩
    · subst h; exact ow_zero _ _ _ _ _ _
    · subst hA; exact ow_of_own (m := n) ho hg (Nat.le_refl _)
  exact ⟨SA, sc, FA, fc, rfl, a1.mono hB (Nat.le_refl _), a2.mono hB (Nat.le_refl _), apart_ty a1 a2 (by decide), hb⟩
theorem idx_row {w : World} {A : Option Addr} {m : Nat} {Y : Nat → Int} (h : IRow w A m Y) (hy : InAll m Y 0 99) : IRow w A m (idxV (fun j => (Y j).toNat)) := h.congr (fun j hj => by have := (hy j hj).1; show Y j = (((Y j).toNat : Nat) : Int); omega)
section
variable (z : Nat) (A : Option Addr) (n c : Nat) (l : Nat → Nat) (X : Nat → Nat → Int) (CA : Option Addr) (m cc : Nat) (Y : Nat → Int) (w : World)
set_option maxRecDepth 100000 in
set_option maxHeartbeats 4000000 in
theorem impl_PeelBy (hn : n + sumL l n ≤ 1048576) (hr : HRow w A n l X) (h : HyperOk z n l X) (hm : m ≤ 40) (hc : IRow w CA m Y) (hy : InAll m Y 0 99) :
    Calls Try.prog 36 #[.agg #[.int .i64 z, .slice A n c], .slice CA m cc] w (ByIs z n l X m (fun j => (Y j).toNat) w) := by
  obtain ⟨B, d, hr⟩ := hr
  have L0 := Lib.hid (LH.start (z := (z : Int)) (c := c) hr 26)
  have HG := Lib.hid h
  have HC := Lib.hid hc
  have HY := Lib.hid hy
  clear hr h hc hy
  go_enter Try.func36, Try.ntmps36
  go_wp2_with fail
  refine (impl_isHyper_is z A n c l X _ true hn ⟨B, d, L0.out.row⟩ (by simp only [true_iff]; exact HG.out)).mono ?_; rintro e w1 ⟨rfl, hb⟩
  have L1 := Lib.hid (L0.out.step hb)
  clear hb L0
  obtain ⟨hsz, b0, b1⟩ := L1.out.box
  have hlow := L1.out.below.size
  have d0 : decide ((40 : Int) < (m : Int)) = false := by simp; omega
  have d00 : decide (40 < m) = false := by simp; omega
  go_wp2_with fail
  go_loop [21] (fun i => ∃ k : Nat, k ≤ m ∧ i = .int .i64 k) (fun i => m - (intOf i).toNat)
  case atStart => exact ⟨0, Nat.zero_le _, rfl⟩
  case round =>
    obtain ⟨k, hk, rfl⟩ := hrel
    by_cases hlt : k < m
    · obtain ⟨b, off, rfl, _, hcc⟩ := (HC.out.b L1.out.below) (by omega)
      have hx := hcc k hlt
      obtain ⟨y0, y1⟩ := HY.out k hlt
      have q0 : decide (Y k < 0) = false := by simp; omega
      have q1 : decide ((99 : Int) < Y k) = false := by simp; omega
      clear hcc
      go_wp2_with fail
      go_round
      case rel => exact ⟨k + 1, by omega, by go_num⟩
      case measure => simp [intOf]; omega
    · obtain rfl : k = m := by omega
      go_wp2_with fail
      refine (impl_peelBy z A n c B l d X CA k cc (fun j => (Y j).toNat) _ L1.out.row HG.out (by omega) (idx_row (HC.out.b L1.out.below) HY.out)).mono ?_; rintro e w2 ⟨j, SA, sc, FA, fc, rfl, h1, h2, h3, h4, h5, hb⟩
      have HB := Lib.hid (L1.out.step hb).below
      have H := Lib.hid (show ByIs z n l X k (fun j => (Y j).toNat) w _ w2 from ⟨j, h1, h2, h3, by_own h4 h5 hlow HB.out⟩)
      clear h1 h2 h3 h4 h5 hb
      go_wp2_with fail
      refine bodyPost_ret (v := .tuple #[.slice SA j sc, .slice FA _ fc, .bool true]) (by simp [results, Try.results36, go_sem]; rfl) rfl ?_
      exact H.out
set_option maxRecDepth 100000 in
set_option maxHeartbeats 4000000 in
theorem spec_PeelBy (hn : n + sumL l n ≤ 1048576) (hr : HRow w A n l X) (h : HyperOk z n l X) (hm : m ≤ 40) (hc : IRow w CA m Y) (hy : InAll m Y 0 99) :
    Calls Try.prog 34 #[.agg #[.int .i64 z, .slice A n c], .slice CA m cc] w (ByIs z n l X m (fun j => (Y j).toNat) w) := by
  obtain ⟨B, d, hr⟩ := hr
  have L0 := Lib.hid (LH.start (z := (z : Int)) (c := c) hr 26)
  have HG := Lib.hid h
  have HC := Lib.hid hc
  have HY := Lib.hid hy
  clear hr h hc hy
  go_enter Try.func34, Try.ntmps34
  go_wp2_with fail
  refine (spec_peGood_is z A n c l X _ true hn ⟨B, d, L0.out.row⟩ (by simp only [true_iff]; exact HG.out)).mono ?_; rintro e w1 ⟨rfl, hb⟩
  have L1 := Lib.hid (L0.out.step hb)
  clear hb L0
  have d0 : decide ((40 : Int) < (m : Int)) = false := by simp; omega
  have d00 : decide (40 < m) = false := by simp; omega
  go_wp2_with fail
  refine (spec_l1AllG CA m cc Y 0 99 _ (by omega) (HC.out.b L1.out.below)).mono ?_; rintro e w2 ⟨b, rfl, hb, q, rfl⟩
  obtain rfl : b = true := hb.2 HY.out
  have L2 := Lib.hid (L1.out.step (below_drewN (Below.refl _ _) q))
  clear hb L1
  obtain ⟨hsz, b0, b1⟩ := L2.out.box
  have hlow := L2.out.below.size
  generalize w1.drewN q = w2 at *
  go_wp2_with fail
  refine (spec_pePeelBy z A n c B l d X CA m cc (fun j => (Y j).toNat) _ L2.out.row HG.out (by omega) (idx_row (HC.out.b L2.out.below) HY.out)).mono ?_; rintro e w3 ⟨j, SA, sc, FA, fc, rfl, h1, h2, h3, h4, h5, hb⟩
  have HB := Lib.hid (L2.out.step hb).below
  have H := Lib.hid (show ByIs z n l X m (fun j => (Y j).toNat) w _ w3 from ⟨j, h1, h2, h3, by_own h4 h5 hlow HB.out⟩)
  clear h1 h2 h3 h4 h5 hb
  go_wp2_with fail
  refine bodyPost_ret (v := .tuple #[.slice SA j sc, .slice FA _ fc, .bool true]) (by simp [results, Try.results34, go_sem]; rfl) rfl ?_
  exact H.out
end
section
variable (z : Int) (A : Option Addr) (n c : Nat) (l : Nat → Nat) (X : Nat → Nat → Int) (CA : Option Addr) (m cc : Nat) (Y : Nat → Int) (w : World)
set_option maxRecDepth 100000 in
set_option maxHeartbeats 4000000 in
theorem impl_PeelBy_no (hn : n + sumL l n ≤ 1048576) (hr : HRow w A n l X) (hc : IRow w CA m Y) (h : ¬ (HyperOk z n l X ∧ m ≤ 40 ∧ InAll m Y 0 99)) :
    Calls Try.prog 36 #[.agg #[.int .i64 z, .slice A n c], .slice CA m cc] w fun e w' => e = .returned (.tuple #[.slice none 0 0, .slice none 0 0, .bool false]) ∧ Below w.heap.size w w' := by
  obtain ⟨B, d, hr⟩ := hr
  have L0 := Lib.hid (LH.start (z := z) (c := c) hr 26)
  have HC := Lib.hid hc
  have HN := Lib.hid h
  clear hr h hc
  by_cases hg : HyperOk z n l X
  rotate_left
  · have HG := Lib.hid hg
    clear hg
    go_enter Try.func36, Try.ntmps36
    go_wp2_with fail
    refine (impl_isHyper_is z A n c l X _ false hn ⟨B, d, L0.out.row⟩ (by simp only [Bool.false_eq_true, false_iff]; exact HG.out)).mono ?_; rintro e w1 ⟨rfl, hb⟩
    have L1 := Lib.hid (L0.out.step hb)
    clear hb L0
    go_wp2_with fail
    go_ret3
    exact ⟨rfl, L1.out.below⟩
  have HG := Lib.hid hg
  clear hg
  by_cases hm : m ≤ 40
  rotate_left
  · have d0 : decide ((40 : Int) < (m : Int)) = true := by simp; omega
    have d00 : decide (40 < m) = true := by simp; omega
    go_enter Try.func36, Try.ntmps36
    go_wp2_with fail
    refine (impl_isHyper_is z A n c l X _ true hn ⟨B, d, L0.out.row⟩ (by simp only [true_iff]; exact HG.out)).mono ?_; rintro e w1 ⟨rfl, hb⟩
    have L1 := Lib.hid (L0.out.step hb)
    clear hb L0
    go_wp2_with fail
    go_ret3
    exact ⟨rfl, L1.out.below⟩
  have HB := Lib.hid (show ¬ InAll m Y 0 99 from fun hh => HN.out ⟨HG.out, hm, hh⟩)
  have d0 : decide ((40 : Int) < (m : Int)) = false := by simp; omega
  have d00 : decide (40 < m) = false := by simp; omega
  go_enter Try.func36, Try.ntmps36
  go_wp2_with fail
  refine (impl_isHyper_is z A n c l X _ true hn ⟨B, d, L0.out.row⟩ (by simp only [true_iff]; exact HG.out)).mono ?_; rintro e w1 ⟨rfl, hb⟩
  have L1 := Lib.hid (L0.out.step hb)
  clear hb L0
  go_wp2_with fail
  go_loop [21] (fun i => ∃ k : Nat, k ≤ m ∧ i = .int .i64 k ∧ Hid (InAll k Y 0 99)) (fun i => m - (intOf i).toNat)
  case atStart => exact ⟨0, Nat.zero_le _, rfl, Lib.hid (fun i hi => absurd hi (by omega))⟩
  case round =>
    obtain ⟨k, hk, rfl, HI⟩ := hrel
    by_cases hlt : k < m
    · obtain ⟨b, off, rfl, _, hcc⟩ := (HC.out.b L1.out.below) (by omega)
      have hx := hcc k hlt
      clear hcc
      by_cases y0 : Y k < 0
      · have q0 : decide (Y k < 0) = true := by simpa using y0
        go_wp2_with fail
        go_ret3
        exact ⟨rfl, L1.out.below⟩
      · have q0 : decide (Y k < 0) = false := by simpa using y0
        by_cases y1 : 99 < Y k
        · have q1 : decide ((99 : Int) < Y k) = true := by simpa using y1
          go_wp2_with fail
          go_ret3
          exact ⟨rfl, L1.out.below⟩
        · have q1 : decide ((99 : Int) < Y k) = false := by simpa using y1
          go_wp2_with fail
          go_round
          case rel => exact ⟨k + 1, by omega, by go_num, Lib.hid (fun i hi => by
            by_cases e : i = k
            · subst e; omega
            · exact HI.out i (by omega))⟩
          case measure => simp [intOf]; omega
    · obtain rfl : k = m := by omega
      exact absurd HI.out HB.out
set_option maxRecDepth 100000 in
set_option maxHeartbeats 4000000 in
theorem spec_PeelBy_no (hn : n + sumL l n ≤ 1048576) (hr : HRow w A n l X) (hc : IRow w CA m Y) (h : ¬ (HyperOk z n l X ∧ m ≤ 40 ∧ InAll m Y 0 99)) :
    Calls Try.prog 34 #[.agg #[.int .i64 z, .slice A n c], .slice CA m cc] w fun e w' => e = .returned (.tuple #[.slice none 0 0, .slice none 0 0, .bool false]) ∧ Below w.heap.size w w' := by
  obtain ⟨B, d, hr⟩ := hr
  have L0 := Lib.hid (LH.start (z := z) (c := c) hr 26)
  have HC := Lib.hid hc
  have HN := Lib.hid h
  clear hr h hc
  by_cases hg : HyperOk z n l X
  rotate_left
  · have HG := Lib.hid hg
    clear hg
    go_enter Try.func34, Try.ntmps34
    go_wp2_with fail
    refine (spec_peGood_is z A n c l X _ false hn ⟨B, d, L0.out.row⟩ (by simp only [Bool.false_eq_true, false_iff]; exact HG.out)).mono ?_; rintro e w1 ⟨rfl, hb⟩
    have L1 := Lib.hid (L0.out.step hb)
    clear hb L0
    go_wp2_with fail
    go_ret3
    exact ⟨rfl, L1.out.below⟩
  have HG := Lib.hid hg
  clear hg
  by_cases hm : m ≤ 40
  rotate_left
  · have d0 : decide ((40 : Int) < (m : Int)) = true := by simp; omega
    have d00 : decide (40 < m) = true := by simp; omega
    go_enter Try.func34, Try.ntmps34
    go_wp2_with fail
    refine (spec_peGood_is z A n c l X _ true hn ⟨B, d, L0.out.row⟩ (by simp only [true_iff]; exact HG.out)).mono ?_; rintro e w1 ⟨rfl, hb⟩
    have L1 := Lib.hid (L0.out.step hb)
    clear hb L0
    go_wp2_with fail
    go_ret3
    exact ⟨rfl, L1.out.below⟩
  have HB := Lib.hid (show ¬ InAll m Y 0 99 from fun hh => HN.out ⟨HG.out, hm, hh⟩)
  have d0 : decide ((40 : Int) < (m : Int)) = false := by simp; omega
  have d00 : decide (40 < m) = false := by simp; omega
  go_enter Try.func34, Try.ntmps34
  go_wp2_with fail
  refine (spec_peGood_is z A n c l X _ true hn ⟨B, d, L0.out.row⟩ (by simp only [true_iff]; exact HG.out)).mono ?_; rintro e w1 ⟨rfl, hb⟩
  have L1 := Lib.hid (L0.out.step hb)
  clear hb L0
  go_wp2_with fail
  refine (spec_l1AllG CA m cc Y 0 99 _ (by omega) (HC.out.b L1.out.below)).mono ?_; rintro e w2 ⟨b, rfl, hb, q, rfl⟩
  obtain rfl : b = false := by
    cases b
    · rfl
    · exact absurd (hb.1 rfl) HB.out
  have L2 := Lib.hid (L1.out.step (below_drewN (Below.refl _ _) q))
  clear hb L1
  go_wp2_with fail
  go_ret3
  exact ⟨rfl, L2.out.below⟩
end
end Go.Proofs.Ytfhanighnckbhaa
