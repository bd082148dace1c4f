/- EdgesAt: both sides. -/
import Derived.Test.YtdmdafifgaenhaaCont
import Derived.Deep.DeepCutAuto
namespace Go.Proofs.Ytdmdafifgaenhaa
open Go.RowKit

set_option maxRecDepth 100000 in
set_option maxHeartbeats 4000000 in
theorem impl_edgesAt (z : Nat) (A : Option Addr) (n c : Nat) (l : Nat → Nat) (X : Nat → Nat → Int) (p : Nat) (w : World) (hn : n + sumL l n ≤ 1048576) (hr : HRow w A n l X) (h : HyperOk z n l X) (hp : p < z) :
    Calls Try.prog 39 #[.agg #[.int .i64 z, .slice A n c], .int .i64 p] w (IntsOwn (atL l X p n).length (lstV (atL l X p n)) true w) := by
  obtain ⟨B, d, hr⟩ := hr
  have L0 := Lib.hid (LH.start (z := (z : Int)) (c := c) hr 27)
  have HR0 := Lib.hid hr
  have HG := Lib.hid h
  clear hr h
  have hn40 := HG.out.2.2.1
  have hz72 : z ≤ 72 := by have := HG.out.2.1; omega
  have d0 : decide ((p : Int) < 0) = false := by simp
  have d1 : decide ((z : Int) ≤ (p : Int)) = false := by simp; omega
  have d2 : decide (z ≤ p) = false := by simp; omega
  go_enter Try.func39, Try.ntmps39
  go_wp2_with fail
  refine (impl_isHyper_is z A n c l X _ true hn ⟨B, d, L0.out.row⟩ (by simp only [true_iff]; exact HG.out)).mono ?_; rintro e w1 ⟨rfl, hb⟩
  have L1 := Lib.hid (L0.out.step hb)
  clear hb L0
  obtain ⟨hsz, b0, b1⟩ := L1.out.box
  go_wp2_with fail
  go_loopw [6, 25] (fun v i wr => ∃ (q : Nat) (A1 : Option Addr) (k1 : Nat), q ≤ n ∧ i = .int .i64 q ∧ v = .slice A1 (atL l X p q).length k1 ∧ Hid (wr.ownsRow (w.heap.size + 1) 3 1 (.slice A1 (atL l X p q).length k1) (atL l X p q).length (vals (intV (lstV (atL l X p q))) (atL l X p q).length)) ∧ Hid (LH w w.heap.size z A n c B l d X wr)) (fun _ i _ => n - (intOf i).toNat)
  case atStart => exact ⟨0, none, 0, Nat.zero_le _, rfl, rfl, Lib.hid (World.ownsRow_nil _ _ _ _), by first | exact L1 | exact Lib.hid L1.out.drew | exact Lib.hid (L1.out.drewN _)⟩
  case round =>
    obtain ⟨q, A1, k1, hq, rfl, rfl, HO, HL⟩ := hrel
    clear b0 b1 hsz
    obtain ⟨hsz, b0, b1⟩ := HL.out.box
    have hlen := HL.out.below.size
    have hal := atL_len l X p q
    by_cases hlt : q < n
    · obtain ⟨bk, off, rfl, hbl, hc⟩ := HL.out.row.1 (by omega)
      have hcq := hc q hlt
      unfold sliceV at hcq
      have HX := Lib.hid (HL.out.row.2 q hlt)
      have hl3 : l q ≤ 1048576 := by have := HG.out.three q hlt; omega
      clear hc
      have HS := Lib.hid (cntE_pos (X := X q) (p := (p : Int)) (l q))
      by_cases hc : 0 < cntE (X q) p (l q)
      · have HA := Lib.hid (show atL l X p (q + 1) = atL l X p q ++ [q] by rw [atL, if_pos hc])
        have HP := Lib.hid (push_lst (x := q) HO.out)
        have HV := Lib.hid (show intV (lstV (atL l X p q ++ [q])) (atL l X p q).length = .int .i64 (q : Int) by unfold intV; rw [lstV_new])
        have HE := Lib.hid (HS.out.1 hc)
        clear hc HS
        go_wp2_with fail
        refine (contains_is (B q) (l q) (d q) (X q) p wr hl3 HX.out).mono ?_; rintro e w2 ⟨b, rfl, hbb, rfl⟩; have hb1 := hbb.2 HE.out; clear hbb; subst hb1
        go_upto_region 8 with fail
        go_wp2_with (at_builtin; refine wpList_push rfl _ _ 39 rfl (w.heap.size + 1) 3 (.int .i64 0) 8 Try.underlying39 infoI rfl A1 (atL l X p q).length k1 (intV (lstV (atL l X p q ++ [q]))) (.int .i64 (q : Int)) _ rfl HP.out rfl HV.out rfl (by omega) (by omega) (by omega) ?_)
        intro A' c' w5 hown' hb5
        have L5 := Lib.hid (HL.out.low hb5 HR0.out (by omega) (by omega))
        have hlen1 : (atL l X p q).length + 1 = (atL l X p (q + 1)).length := by rw [HA.out]; simp
        rw [← HA.out] at hown'
        have HO5 := Lib.hid hown'
        clear hown' hb5 HO HL HP
        go_wp2_with fail
        go_roundw
        case rel => exact ⟨q + 1, A', c', by omega, by go_num, by rw [← hlen1], by rw [← hlen1]; exact HO5, L5⟩
        case measure => simp [intOf]; omega
      · have HA := Lib.hid (show atL l X p (q + 1) = atL l X p q by rw [atL, if_neg hc])
        have HE := Lib.hid (show ¬ ∃ j, j < l q ∧ X q j = p from fun h => hc (HS.out.2 h))
        clear hc HS
        go_wp2_with fail
        refine (contains_is (B q) (l q) (d q) (X q) p wr hl3 HX.out).mono ?_; rintro e w2 ⟨b, rfl, hbb, rfl⟩
        obtain rfl : b = false := by
          cases b with
          | false => rfl
          | true => exact absurd (hbb.1 rfl) HE.out
        clear hbb
        go_wp2_with fail
        go_roundw
        case rel => exact ⟨q + 1, A1, k1, by omega, by go_num, by rw [HA.out], by rw [HA.out]; exact HO, HL⟩
        case measure => simp [intOf]; omega
    · obtain rfl : q = n := by omega
      go_wp2_with fail
      go_ret2
      exact ⟨A1, k1, rfl, (ow_of_owned HO.out).mono (by omega) (Nat.le_refl _), HL.out.below⟩


set_option maxRecDepth 100000 in
set_option maxHeartbeats 2000000 in
theorem impl_edgesAt_no (z : Int) (A : Option Addr) (n c : Nat) (l : Nat → Nat) (X : Nat → Nat → Int) (p : Int) (w : World) (hn : n + sumL l n ≤ 1048576) (hr : HRow w A n l X) (h : ¬ (HyperOk z n l X ∧ 0 ≤ p ∧ p < z)) :
    Calls Try.prog 39 #[.agg #[.int .i64 z, .slice A n c], .int .i64 p] w (IntsOwn 0 (fun _ => 0) false w) := by
  obtain ⟨B, d, hr⟩ := hr
  have L0 := Lib.hid (LH.start (z := z) (c := c) hr 27)
  by_cases hg : HyperOk z n l X
  · have HG := Lib.hid hg
    have HC := Lib.hid (show ¬ (0 ≤ p ∧ p < z) from fun hh => h ⟨hg, hh⟩)
    have hz72 : 1 ≤ z ∧ z ≤ 72 := ⟨hg.1, hg.2.1⟩
    clear hr h hg
    by_cases h0 : p < 0
    · have d0 : decide (p < 0) = true := by simpa using h0
      go_enter Try.func39, Try.ntmps39
      go_wp2_with fail
      refine (impl_isHyper_is z A n c l X _ true hn ⟨B, d, L0.out.row⟩ (by simp only [true_iff]; exact HG.out)).mono ?_; rintro e w1 ⟨rfl, hb⟩
      have L1 := Lib.hid (L0.out.step hb)
      clear hb L0
      obtain ⟨hsz, b0, b1⟩ := L1.out.box
      go_wp2_with fail
      go_ret2
      exact intsOwn_none _ _ _ _ rfl L1.out.below
    · have d0 : decide (p < 0) = false := by simpa using h0
      have d1 : decide (z ≤ p) = true := by have := HC.out; simp; omega
      go_enter Try.func39, Try.ntmps39
      go_wp2_with fail
      refine (impl_isHyper_is z A n c l X _ true hn ⟨B, d, L0.out.row⟩ (by simp only [true_iff]; exact HG.out)).mono ?_; rintro e w1 ⟨rfl, hb⟩
      have L1 := Lib.hid (L0.out.step hb)
      clear hb L0
      obtain ⟨hsz, b0, b1⟩ := L1.out.box
      go_wp2_with fail
      go_ret2
      exact intsOwn_none _ _ _ _ rfl L1.out.below
  · have HG := Lib.hid hg
    clear hr h hg
    go_enter Try.func39, Try.ntmps39
    go_wp2_with fail
    refine (impl_isHyper_is z A n c l X _ false hn ⟨B, d, L0.out.row⟩ (by simp only [Bool.false_eq_true, false_iff]; exact HG.out)).mono ?_; rintro e w1 ⟨rfl, hb⟩
    have L1 := Lib.hid (L0.out.step hb)
    clear hb L0
    obtain ⟨hsz, b0, b1⟩ := L1.out.box
    go_wp2_with fail
    go_ret2
    exact intsOwn_none _ _ _ _ rfl L1.out.below


set_option maxRecDepth 100000 in
set_option maxHeartbeats 4000000 in
theorem spec_edgesAt (z : Nat) (A : Option Addr) (n c : Nat) (l : Nat → Nat) (X : Nat → Nat → Int) (p : Nat) (w : World) (hn : n + sumL l n ≤ 1048576) (hr : HRow w A n l X) (h : HyperOk z n l X) (hp : p < z) :
    Calls Try.prog 38 #[.agg #[.int .i64 z, .slice A n c], .int .i64 p] w (IntsOwn (atL l X p n).length (lstV (atL l X p n)) true w) := by
  obtain ⟨B, d, hr⟩ := hr
  have L0 := Lib.hid (LH.start (z := (z : Int)) (c := c) hr 27)
  have HR0 := Lib.hid hr
  have HG := Lib.hid h
  clear hr h
  have hn40 := HG.out.2.2.1
  have hz72 : z ≤ 72 := by have := HG.out.2.1; omega
  have d0 : decide ((p : Int) < 0) = false := by simp
  have d1 : decide ((z : Int) ≤ (p : Int)) = false := by simp; omega
  have d2 : decide (z ≤ p) = false := by simp; omega
  go_enter Try.func38, Try.ntmps38
  go_wp2_with fail
  refine (spec_peGood_is z A n c l X _ true hn ⟨B, d, L0.out.row⟩ (by simp only [true_iff]; exact HG.out)).mono ?_; rintro e w1 ⟨rfl, hb⟩
  have L1 := Lib.hid (L0.out.step hb)
  clear hb L0
  obtain ⟨hsz, b0, b1⟩ := L1.out.box
  go_wp2_with (go_at_call 88; refine (l1In_yes _ _ _ _ (show (0 : Int) ≤ (p : Int) by omega) (show (p : Int) ≤ (z : Int) - 1 by omega)).mono ?_; rintro e w' ⟨rfl, rfl⟩)
  go_loopw [6, 23] (fun v i wr => ∃ (q : Nat) (A1 : Option Addr) (k1 : Nat), q ≤ n ∧ i = .int .i64 q ∧ v = .slice A1 (atL l X p q).length k1 ∧ Hid (wr.ownsRow (w.heap.size + 1) 3 1 (.slice A1 (atL l X p q).length k1) (atL l X p q).length (vals (intV (lstV (atL l X p q))) (atL l X p q).length)) ∧ Hid (LH w w.heap.size z A n c B l d X wr)) (fun _ i _ => n - (intOf i).toNat)
  case atStart => exact ⟨0, none, 0, Nat.zero_le _, rfl, rfl, Lib.hid (World.ownsRow_nil _ _ _ _), by first | exact L1 | exact Lib.hid L1.out.drew | exact Lib.hid (L1.out.drewN _)⟩
  case round =>
    obtain ⟨q, A1, k1, hq, rfl, rfl, HO, HL⟩ := hrel
    clear b0 b1 hsz
    obtain ⟨hsz, b0, b1⟩ := HL.out.box
    have hlen := HL.out.below.size
    have hal := atL_len l X p q
    by_cases hlt : q < n
    · obtain ⟨bk, off, rfl, hbl, hc⟩ := HL.out.row.1 (by omega)
      have hcq := hc q hlt
      unfold sliceV at hcq
      have HX := Lib.hid (HL.out.row.2 q hlt)
      have hl3 : l q ≤ 1048576 := by have := HG.out.three q hlt; omega
      clear hc
      have HS := Lib.hid (cntE_pos (X := X q) (p := (p : Int)) (l q))
      by_cases hc : 0 < cntE (X q) p (l q)
      · have HA := Lib.hid (show atL l X p (q + 1) = atL l X p q ++ [q] by rw [atL, if_pos hc])
        have HP := Lib.hid (push_lst (x := q) HO.out)
        have HV := Lib.hid (show intV (lstV (atL l X p q ++ [q])) (atL l X p q).length = .int .i64 (q : Int) by unfold intV; rw [lstV_new])
        have HE := Lib.hid (HS.out.1 hc)
        clear hc HS
        go_wp2_with fail
        refine (spec_l1Has (B q) (l q) (d q) (X q) p wr hl3 HX.out).mono ?_; rintro e w2 ⟨b, rfl, hbb, rfl⟩; have hb1 := hbb.2 HE.out; clear hbb; subst hb1
        go_upto_region 8 with fail
        go_wp2_with (at_builtin; refine wpList_push rfl _ _ 39 rfl (w.heap.size + 1) 3 (.int .i64 0) 8 Try.underlying39 infoI rfl A1 (atL l X p q).length k1 (intV (lstV (atL l X p q ++ [q]))) (.int .i64 (q : Int)) _ rfl HP.out rfl HV.out rfl (by omega) (by omega) (by omega) ?_)
        intro A' c' w5 hown' hb5
        have L5 := Lib.hid (HL.out.low hb5 HR0.out (by omega) (by omega))
        have hlen1 : (atL l X p q).length + 1 = (atL l X p (q + 1)).length := by rw [HA.out]; simp
        rw [← HA.out] at hown'
        have HO5 := Lib.hid hown'
        clear hown' hb5 HO HL HP
        go_wp2_with fail
        go_roundw
        case rel => exact ⟨q + 1, A', c', by omega, by go_num, by rw [← hlen1], by rw [← hlen1]; exact HO5, L5⟩
        case measure => simp [intOf]; omega
      · have HA := Lib.hid (show atL l X p (q + 1) = atL l X p q by rw [atL, if_neg hc])
        have HE := Lib.hid (show ¬ ∃ j, j < l q ∧ X q j = p from fun h => hc (HS.out.2 h))
        clear hc HS
        go_wp2_with fail
        refine (spec_l1Has (B q) (l q) (d q) (X q) p wr hl3 HX.out).mono ?_; rintro e w2 ⟨b, rfl, hbb, rfl⟩
        obtain rfl : b = false := by
          cases b with
          | false => rfl
          | true => exact absurd (hbb.1 rfl) HE.out
        clear hbb
        go_wp2_with fail
        go_roundw
        case rel => exact ⟨q + 1, A1, k1, by omega, by go_num, by rw [HA.out], by rw [HA.out]; exact HO, HL⟩
        case measure => simp [intOf]; omega
    · obtain rfl : q = n := by omega
      go_wp2_with fail
      go_ret2
      exact ⟨A1, k1, rfl, (ow_of_owned HO.out).mono (by omega) (Nat.le_refl _), HL.out.below⟩


set_option maxRecDepth 100000 in
set_option maxHeartbeats 2000000 in
theorem spec_edgesAt_no (z : Int) (A : Option Addr) (n c : Nat) (l : Nat → Nat) (X : Nat → Nat → Int) (p : Int) (w : World) (hn : n + sumL l n ≤ 1048576) (hr : HRow w A n l X) (h : ¬ (HyperOk z n l X ∧ 0 ≤ p ∧ p < z)) :
    Calls Try.prog 38 #[.agg #[.int .i64 z, .slice A n c], .int .i64 p] w (IntsOwn 0 (fun _ => 0) false w) := by
  obtain ⟨B, d, hr⟩ := hr
  have L0 := Lib.hid (LH.start (z := z) (c := c) hr 27)
  by_cases hg : HyperOk z n l X
  · have HG := Lib.hid hg
    have HC := Lib.hid (show ¬ (0 ≤ p ∧ p < z) from fun hh => h ⟨hg, hh⟩)
    have hz72 : 1 ≤ z ∧ z ≤ 72 := ⟨hg.1, hg.2.1⟩
    clear hr h hg
    have HC2 := Lib.hid (show ¬ (0 ≤ p ∧ p ≤ z - 1) from fun hh => HC.out ⟨hh.1, by omega⟩)
    have e1 : IntKind.i64.wrap (z - 1) = z - 1 := IntWalk.i64_in _ (by omega)
    go_enter Try.func38, Try.ntmps38
    go_wp2_with fail
    refine (spec_peGood_is z A n c l X _ true hn ⟨B, d, L0.out.row⟩ (by simp only [true_iff]; exact HG.out)).mono ?_; rintro e w1 ⟨rfl, hb⟩
    have L1 := Lib.hid (L0.out.step hb)
    clear hb L0
    obtain ⟨hsz, b0, b1⟩ := L1.out.box
    go_wp2_with (go_at_call 88; refine (l1In_no _ _ _ _ HC2.out).mono ?_; rintro e w' ⟨rfl, rfl⟩)
    go_ret2
    exact intsOwn_none _ _ _ _ rfl L1.out.below
  · have HG := Lib.hid hg
    clear hr h hg
    go_enter Try.func38, Try.ntmps38
    go_wp2_with fail
    refine (spec_peGood_is z A n c l X _ false hn ⟨B, d, L0.out.row⟩ (by simp only [Bool.false_eq_true, false_iff]; exact HG.out)).mono ?_; rintro e w1 ⟨rfl, hb⟩
    have L1 := Lib.hid (L0.out.step hb)
    clear hb L0
    obtain ⟨hsz, b0, b1⟩ := L1.out.box
    go_wp2_with fail
    go_ret2
    exact intsOwn_none _ _ _ _ rfl L1.out.below

end Go.Proofs.Ytdmdafifgaenhaa
