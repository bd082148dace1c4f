/- IsCore: both sides. -/
import Derived.Test.YtpajbcgdoedleabFre
import Derived.Test.YtpajbcgdoedleabObjSS
namespace Go.Proofs.Ytpajbcgdoedleab
open Go.RowKit

theorem degN_comp (E : Nat → Nat) (l : Nat → Nat) (X : Nat → Nat → Int) (p : Int) : ∀ k, degN (fun i => i) (fun t => l (E t)) (fun t => X (E t)) p k = degN E l X p k
  | 0 => rfl
  | k + 1 => by rw [degN, degN, degN_comp E l X p k]
theorem dgF_comp (E : Nat → Nat) (l : Nat → Nat) (X : Nat → Nat → Int) (m p : Nat) : dgF (fun i => i) (fun t => l (E t)) (fun t => X (E t)) m 0 p = dgF E l X m 0 p := by
  rw [dgF_end, dgF_end, degN_comp]
theorem risT_count {h : Int} {m : Nat} {Y : Nat → Int} (hr : RisT h m Y) : ∀ i, i < m → (i : Int) ≤ Y i
  | 0, hi => by have := (hr 0 hi).1; omega
  | i + 1, hi => by
    have h1 := risT_count hr i (by omega)
    have h2 := (hr (i + 1) hi).2.2 (by omega)
    rw [Nat.add_sub_cancel] at h2
    push_cast; omega
theorem risT_le {n m : Nat} {Y : Nat → Int} (hr : RisT ((n : Int) - 1) m Y) : m ≤ n := by
  rcases Nat.eq_zero_or_pos m with h | h
  · omega
  · have h1 := risT_count hr (m - 1) (by omega)
    have h2 := (hr (m - 1) (by omega)).2.1
    omega
end Go.Proofs.Ytpajbcgdoedleab
