/- IsHyper: both sides, whatever the argument. -/
import Derived.Test.YtdmdafifgaenhaaEdge
namespace Go.Proofs.Ytdmdafifgaenhaa
open Go.RowKit

theorem len_le {l : Nat → Nat} {n i : Nat} (h : n + sumL l n ≤ 1048576) (hi : i < n) : l i ≤ 1048576 := by have := sumL_at l hi; omega
theorem good_hyper (z : Int) (A : Option Addr) (n c : Nat) (l : Nat → Nat) (X : Nat → Nat → Int) (w : World) (hn : n + sumL l n ≤ 1048576) (hr : HRow w A n l X) :
    Calls Try.prog 23 #[.agg #[.int .i64 z, .slice A n c]] w (BoolIs (HyperOk z n l X) w) ∧ Calls Try.prog 76 #[.agg #[.int .i64 z, .slice A n c]] w (BoolIs (HyperOk z n l X) w) := by
  obtain ⟨B, d, hr⟩ := hr
  exact ⟨impl_isHyper z A n c B l d X w (by omega) (fun i hi => len_le hn hi) hr, spec_peGood z A n c B l d X w (by omega) (fun i hi => len_le hn hi) hr⟩
theorem impl_isHyper_is (z : Int) (A : Option Addr) (n c : Nat) (l : Nat → Nat) (X : Nat → Nat → Int) (w : World) (b : Bool) (hn : n + sumL l n ≤ 1048576) (hr : HRow w A n l X) (hb : b = true ↔ HyperOk z n l X) :
    Calls Try.prog 23 #[.agg #[.int .i64 z, .slice A n c]] w fun e w' => e = .returned (.bool b) ∧ Below w.heap.size w w' :=
  (good_hyper z A n c l X w hn hr).1.mono fun e w' ⟨b', he, hb', hw⟩ => ⟨by rw [he, show b' = b from Bool.eq_iff_iff.2 (hb'.trans hb.symm)], hw⟩
theorem spec_peGood_is (z : Int) (A : Option Addr) (n c : Nat) (l : Nat → Nat) (X : Nat → Nat → Int) (w : World) (b : Bool) (hn : n + sumL l n ≤ 1048576) (hr : HRow w A n l X) (hb : b = true ↔ HyperOk z n l X) :
    Calls Try.prog 76 #[.agg #[.int .i64 z, .slice A n c]] w fun e w' => e = .returned (.bool b) ∧ Below w.heap.size w w' :=
  (good_hyper z A n c l X w hn hr).2.mono fun e w' ⟨b', he, hb', hw⟩ => ⟨by rw [he, show b' = b from Bool.eq_iff_iff.2 (hb'.trans hb.symm)], hw⟩
set_option maxRecDepth 100000 in
set_option maxHeartbeats 400000 in
theorem spec_isHyper_is (z : Int) (A : Option Addr) (n c : Nat) (l : Nat → Nat) (X : Nat → Nat → Int) (w : World) (b : Bool) (hn : n + sumL l n ≤ 1048576) (hr : HRow w A n l X) (hb : b = true ↔ HyperOk z n l X) :
    Calls Try.prog 21 #[.agg #[.int .i64 z, .slice A n c]] w fun e w' => e = .returned (.bool b) ∧ Below w.heap.size w w' := by
  have HR := Lib.hid (hr.al (.cells #[.int .i64 z, .slice A n c] 27))
  have FB := Lib.hid ((Below.refl w.heap.size w).alloc (Nat.le_refl _) (.cells #[.int .i64 z, .slice A n c] 27))
  have HBb := Lib.hid hb
  clear hr hb
  go_enter Try.func21, Try.ntmps21
  go_wp2_with fail
  refine (spec_peGood_is z A n c l X _ b hn HR.out HBb.out).mono ?_; rintro e w1 ⟨rfl, hb⟩
  have HB := Lib.hid (FB.out.trans (hb.mono FB.out.size))
  clear hb
  go_wp2_with fail
  go_ret
  exact ⟨rfl, HB.out⟩
end Go.Proofs.Ytdmdafifgaenhaa
