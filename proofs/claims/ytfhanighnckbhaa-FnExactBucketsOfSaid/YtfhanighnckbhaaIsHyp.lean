/- IsHyper: both sides, whatever the argument. -/
import Derived.Test.YtfhanighnckbhaaEdge
namespace Go.Proofs.Ytfhanighnckbhaa
open Go.RowKit

theorem len_le {l : Nat → Nat} {n i : Nat} (h : n + sumL l n ≤ 1048576) (hi : i < n) : l i ≤ 1048576 := by have := sumL_at l hi; omega
theorem good_hyper (z : Int) (A : Option Addr) (n c : Nat) (l : Nat → Nat) (X : Nat → Nat → Int) (w : World) (hn : n + sumL l n ≤ 1048576) (hr : HRow w A n l X) :
    Calls Try.prog 64 #[.agg #[.int .i64 z, .slice A n c]] w (BoolIs (HyperOk z n l X) w) ∧ Calls Try.prog 61 #[.agg #[.int .i64 z, .slice A n c]] w (BoolIs (HyperOk z n l X) w) := by
  obtain ⟨B, d, hr⟩ := hr
  exact ⟨impl_isHyper z A n c B l d X w (by omega) (fun i hi => len_le hn hi) hr, spec_peGood z A n c B l d X w (by omega) (fun i hi => len_le hn hi) hr⟩
theorem impl_isHyper_is (z : Int) (A : Option Addr) (n c : Nat) (l : Nat → Nat) (X : Nat → Nat → Int) (w : World) (b : Bool) (hn : n + sumL l n ≤ 1048576) (hr : HRow w A n l X) (hb : b = true ↔ HyperOk z n l X) :
    Calls Try.prog 64 #[.agg #[.int .i64 z, .slice A n c]] w fun e w' => e = .returned (.bool b) ∧ Below w.heap.size w w' :=
  (good_hyper z A n c l X w hn hr).1.mono fun e w' ⟨b', he, hb', hw⟩ => ⟨by rw [he, show b' = b from Bool.eq_iff_iff.2 (hb'.trans hb.symm)], hw⟩
theorem spec_peGood_is (z : Int) (A : Option Addr) (n c : Nat) (l : Nat → Nat) (X : Nat → Nat → Int) (w : World) (b : Bool) (hn : n + sumL l n ≤ 1048576) (hr : HRow w A n l X) (hb : b = true ↔ HyperOk z n l X) :
    Calls Try.prog 61 #[.agg #[.int .i64 z, .slice A n c]] w fun e w' => e = .returned (.bool b) ∧ Below w.heap.size w w' :=
  (good_hyper z A n c l X w hn hr).2.mono fun e w' ⟨b', he, hb', hw⟩ => ⟨by rw [he, show b' = b from Bool.eq_iff_iff.2 (hb'.trans hb.symm)], hw⟩
end Go.Proofs.Ytfhanighnckbhaa
