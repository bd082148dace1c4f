/- FromGaps: both sides; numbers that have codes. -/
import Derived.Test.YthaipemgndahfaaGaps
namespace Go.Proofs.Ythaipemgndahfaa
open Go.RowKit

def sumI (X : Nat → Int) : Nat → Int
  | 0 => -1
  | k + 1 => sumI X k + X k
def InAll (n : Nat) (X : Nat → Int) (lo hi : Int) : Prop := ∀ i, i < n → lo ≤ X i ∧ X i ≤ hi
def FromOk (n : Nat) (X : Nat → Int) : Prop := InAll n X 1 100000 ∧ sumI X n ≤ 99999
def fromF (X : Nat → Int) (i : Nat) : Int := sumI X (i + 1)
theorem sum_up {X : Nat → Int} {n : Nat} (h : InAll n X 1 100000) : ∀ k j, k + j ≤ n → sumI X k + j ≤ sumI X (k + j) ∧ sumI X (k + j) ≤ sumI X k + 100000 * j
  | _, 0, _ => by simp
  | k, j + 1, hj => by
    have h1 := sum_up h k j (by omega)
    have h2 := h (k + j) (by omega)
    rw [show k + (j + 1) = (k + j) + 1 by omega, sumI]
    omega
theorem sum_bd {X : Nat → Int} {n k : Nat} (h : InAll n X 1 100000) (hk : k ≤ n) (hn : n ≤ 60) : -1 ≤ sumI X k ∧ sumI X k ≤ 6000000 := by
  have := sum_up h 0 k (by omega)
  rw [Nat.zero_add] at this
  have e : sumI X 0 = -1 := rfl
  omega
theorem fromOk_step {X : Nat → Int} {q : Nat} (h : FromOk q X) (h1 : 1 ≤ X q) (h2 : sumI X q + X q ≤ 99999) (h0 : -1 ≤ sumI X q) : FromOk (q + 1) X :=
  ⟨fun i hi => by
    by_cases e : i = q
    · subst e; omega
    · exact h.1 i (by omega), h2⟩
theorem fromOk_not {X : Nat → Int} {q n : Nat} (hq : q < n) (h : ¬ (1 ≤ X q ∧ sumI X q + X q ≤ 99999)) : ¬ FromOk n X := fun hf => h ⟨(hf.1 q hq).1, by
  have h1 := sum_up hf.1 (q + 1) (n - (q + 1)) (by omega)
  rw [show q + 1 + (n - (q + 1)) = n by omega, sumI] at h1
  have := hf.2
  omega⟩

end Go.Proofs.Ythaipemgndahfaa
