/- IsCore: the other cases. -/
import Derived.Test.YtdmdafifgaenhaaCoreI
namespace Go.Proofs.Ytdmdafifgaenhaa
open Go.RowKit

set_option maxRecDepth 100000 in
set_option maxHeartbeats 2000000 in
theorem impl_isCore_no (z : Int) (A : Option Addr) (n c : Nat) (l : Nat → Nat) (X : Nat → Nat → Int) (v : Value) (w : World) (hn : n + sumL l n ≤ 1048576) (hr : HRow w A n l X) (h : ¬ HyperOk z n l X) :
    Calls Try.prog 66 #[.agg #[.int .i64 z, .slice A n c], v] w fun e w' => e = .returned (.tuple #[.bool false, .bool false]) ∧ Below w.heap.size w w' := by
  obtain ⟨B, d, hr⟩ := hr
  have L0 := Lib.hid (LH.start (z := z) (c := c) hr 27)
  have HG := Lib.hid h
  clear hr h
  go_enter Try.func66, Try.ntmps66
  go_wp2_with fail
  refine (impl_isHyper_is z A n c l X _ false hn ⟨B, d, L0.out.row⟩ (by simp only [Bool.false_eq_true, false_iff]; exact HG.out)).mono ?_; rintro e w1 ⟨rfl, hb⟩
  have L1 := Lib.hid (L0.out.step hb)
  clear hb L0
  go_wp2_with fail
  go_ret2
  exact ⟨rfl, L1.out.below⟩

set_option maxRecDepth 100000 in
set_option maxHeartbeats 2000000 in
theorem spec_isCore_no (z : Int) (A : Option Addr) (n c : Nat) (l : Nat → Nat) (X : Nat → Nat → Int) (v : Value) (w : World) (hn : n + sumL l n ≤ 1048576) (hr : HRow w A n l X) (h : ¬ HyperOk z n l X) :
    Calls Try.prog 65 #[.agg #[.int .i64 z, .slice A n c], v] w fun e w' => e = .returned (.tuple #[.bool false, .bool false]) ∧ Below w.heap.size w w' := by
  obtain ⟨B, d, hr⟩ := hr
  have L0 := Lib.hid (LH.start (z := z) (c := c) hr 27)
  have HG := Lib.hid h
  clear hr h
  go_enter Try.func65, Try.ntmps65
  go_wp2_with fail
  refine (spec_peGood_is z A n c l X _ false hn ⟨B, d, L0.out.row⟩ (by simp only [Bool.false_eq_true, false_iff]; exact HG.out)).mono ?_; rintro e w1 ⟨rfl, hb⟩
  have L1 := Lib.hid (L0.out.step hb)
  clear hb L0
  go_wp2_with fail
  go_ret2
  exact ⟨rfl, L1.out.below⟩


set_option maxRecDepth 100000 in
set_option maxHeartbeats 2000000 in
theorem impl_isCore_bad (z : Nat) (A : Option Addr) (n c : Nat) (l : Nat → Nat) (X : Nat → Nat → Int) (EA : Option Addr) (m ec : Nat) (Y : Nat → Int) (w : World) (hn : n + sumL l n ≤ 1048576) (hm : m ≤ 1048576) (hr : HRow w A n l X) (he : IRow w EA m Y) (h : HyperOk z n l X) (hE : ¬ (0 < m ∧ RisT ((n : Int) - 1) m Y)) :
    Calls Try.prog 66 #[.agg #[.int .i64 z, .slice A n c], .slice EA m ec] w fun e w' => e = .returned (.tuple #[.bool false, .bool true]) ∧ Below w.heap.size w w' := by
  obtain ⟨B, d, hr⟩ := hr
  have L0 := Lib.hid (LH.start (z := (z : Int)) (c := c) hr 27)
  have HG := Lib.hid h
  have HEr := Lib.hid he
  have hn40 := h.2.2.1
  clear hr h he
  by_cases h0 : m = 0
  · have d0 : ((m : Int) == 0) = true := by simp; omega
    have H0 := Lib.hid h0
    clear h0
    go_enter Try.func66, Try.ntmps66
    go_wp2_with fail
    refine (impl_isHyper_is z A n c l X _ true hn ⟨B, d, L0.out.row⟩ (by simp only [true_iff]; exact HG.out)).mono ?_; rintro e w1 ⟨rfl, hb⟩
    have L1 := Lib.hid (L0.out.step hb)
    clear hb L0
    obtain ⟨hsz, b0, b1⟩ := L1.out.box
    go_wp2_with fail
    go_ret2
    exact ⟨rfl, L1.out.below⟩
  · have d0 : ((m : Int) == 0) = false := by simp; omega
    have HE := Lib.hid (show ¬ RisT ((n : Int) - 1) m Y from fun hr => hE ⟨by omega, hr⟩)
    clear hE
    go_enter Try.func66, Try.ntmps66
    go_wp2_with fail
    refine (impl_isHyper_is z A n c l X _ true hn ⟨B, d, L0.out.row⟩ (by simp only [true_iff]; exact HG.out)).mono ?_; rintro e w1 ⟨rfl, hb⟩
    have L1 := Lib.hid (L0.out.step hb)
    clear hb L0
    obtain ⟨hsz, b0, b1⟩ := L1.out.box
    have HC := Lib.hid (impl_isIncreasingBelow EA m ec Y ((n : Int) - 1) w1 hm (HEr.out.b L1.out.below))
    rw [show (n : Int) - 1 + 1 = (n : Int) by omega] at HC
    go_wp2_with fail
    refine HC.out.mono ?_; rintro e w2 ⟨b, rfl, hbb, k, rfl⟩
    obtain rfl : b = false := by
      cases b with
      | false => rfl
      | true => exact absurd (hbb.1 rfl) HE.out
    have L2 := Lib.hid (L1.out.drewN k)
    clear hbb
    go_wp2_with fail
    go_ret2
    exact ⟨rfl, L2.out.below⟩


set_option maxRecDepth 100000 in
set_option maxHeartbeats 2000000 in
theorem spec_isCore_bad (z : Nat) (A : Option Addr) (n c : Nat) (l : Nat → Nat) (X : Nat → Nat → Int) (EA : Option Addr) (m ec : Nat) (Y : Nat → Int) (w : World) (hn : n + sumL l n ≤ 1048576) (hm : m ≤ 1048576) (hr : HRow w A n l X) (he : IRow w EA m Y) (h : HyperOk z n l X) (hE : ¬ (0 < m ∧ RisT ((n : Int) - 1) m Y)) :
    Calls Try.prog 65 #[.agg #[.int .i64 z, .slice A n c], .slice EA m ec] w fun e w' => e = .returned (.tuple #[.bool false, .bool true]) ∧ Below w.heap.size w w' := by
  obtain ⟨B, d, hr⟩ := hr
  have L0 := Lib.hid (LH.start (z := (z : Int)) (c := c) hr 27)
  have HG := Lib.hid h
  have HEr := Lib.hid he
  have hn40 := h.2.2.1
  clear hr h he
  by_cases h0 : m = 0
  · have d0 : ((m : Int) == 0) = true := by simp; omega
    have H0 := Lib.hid h0
    clear h0
    go_enter Try.func65, Try.ntmps65
    go_wp2_with fail
    refine (spec_peGood_is z A n c l X _ true hn ⟨B, d, L0.out.row⟩ (by simp only [true_iff]; exact HG.out)).mono ?_; rintro e w1 ⟨rfl, hb⟩
    have L1 := Lib.hid (L0.out.step hb)
    clear hb L0
    obtain ⟨hsz, b0, b1⟩ := L1.out.box
    go_wp2_with fail
    go_ret2
    exact ⟨rfl, L1.out.below⟩
  · have d0 : ((m : Int) == 0) = false := by simp; omega
    have HE := Lib.hid (show ¬ RisT ((n : Int) - 1) m Y from fun hr => hE ⟨by omega, hr⟩)
    clear hE
    go_enter Try.func65, Try.ntmps65
    go_wp2_with fail
    refine (spec_peGood_is z A n c l X _ true hn ⟨B, d, L0.out.row⟩ (by simp only [true_iff]; exact HG.out)).mono ?_; rintro e w1 ⟨rfl, hb⟩
    have L1 := Lib.hid (L0.out.step hb)
    clear hb L0
    obtain ⟨hsz, b0, b1⟩ := L1.out.box
    go_wp2_with fail
    refine (spec_l1RisT EA m ec Y ((n : Int) - 1) w1 hm (HEr.out.b L1.out.below)).mono ?_; rintro e w2 ⟨b, rfl, hbb, k, rfl⟩
    obtain rfl : b = false := by
      cases b with
      | false => rfl
      | true => exact absurd (hbb.1 rfl) HE.out
    have L2 := Lib.hid (L1.out.drewN k)
    clear hbb
    go_wp2_with fail
    go_ret2
    exact ⟨rfl, L2.out.below⟩

end Go.Proofs.Ytdmdafifgaenhaa
