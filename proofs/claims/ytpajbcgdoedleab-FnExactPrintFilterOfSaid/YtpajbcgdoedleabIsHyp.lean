/- IsHyper: both sides, whatever the argument. -/
import Derived.Test.YtpajbcgdoedleabEdge
namespace Go.Proofs.Ytpajbcgdoedleab
open Go.RowKit

theorem len_le {l : Nat → Nat} {n i : Nat} (h : n + sumL l n ≤ 1048576) (hi : i < n) : l i ≤ 1048576 := by have := sumL_at l hi; omega
theorem impl_isHyper_is (z : Int) (A : Option Addr) (n c : Nat) (l : Nat → Nat) (X : Nat → Nat → Int) (w : World) (b : Bool) (hn : n + sumL l n ≤ 1048576) (hr : HRow w A n l X) (hb : b = true ↔ HyperOk z n l X) :
    Calls Try.prog 133 #[.agg #[.int .i64 z, .slice A n c]] w fun e w' => e = .returned (.bool b) ∧ Below w.heap.size w w' :=
  let ⟨B, d, hr'⟩ := hr
  (impl_isHyper z A n c B l d X w (by omega) (fun i hi => len_le hn hi) hr').mono fun e w' ⟨b', he, hb', hw⟩ => ⟨by rw [he, show b' = b from Bool.eq_iff_iff.2 (hb'.trans hb.symm)], hw⟩
end Go.Proofs.Ytpajbcgdoedleab
