/- Degrees: both sides. -/
import Derived.Test.YtockhjdhihehlaaEdge
namespace Go.Proofs.Ytockhjdhihehlaa
open Go.RowKit

/-- How many of the first k numbers are p. -/
def cntE (X : Nat → Int) (p : Int) : Nat → Nat
  | 0 => 0
  | k + 1 => cntE X p k + (if X k = p then 1 else 0)
/-- How many of the first k edges, taken by E, have p. -/
def degN (E : Nat → Nat) (l : Nat → Nat) (X : Nat → Nat → Int) (p : Int) : Nat → Nat
  | 0 => 0
  | k + 1 => degN E l X p k + cntE (X (E k)) p (l (E k))
theorem cntE_le (X : Nat → Int) (p : Int) : ∀ k, cntE X p k ≤ k
  | 0 => Nat.le_refl _
  | k + 1 => by have := cntE_le X p k; unfold cntE; split <;> omega
theorem degN_le {E : Nat → Nat} {l : Nat → Nat} {X : Nat → Nat → Int} {p : Int} : ∀ k, (∀ i, i < k → l (E i) = 3) → degN E l X p k ≤ 3 * k
  | 0, _ => Nat.le_refl _
  | k + 1, h => by
    have h1 := degN_le (E := E) (l := l) (X := X) (p := p) k (fun i hi => h i (by omega))
    have h2 := cntE_le (X (E k)) p (l (E k))
    have h3 := h k (by omega)
    unfold degN; omega
theorem risT_in {h : Int} {n : Nat} {X : Nat → Int} (hr : RisT h n X) {i : Nat} (hi : i < n) : 0 ≤ X i ∧ X i ≤ h := ⟨(hr i hi).1, (hr i hi).2.1⟩
/-- Degrees at a point of the two loops. -/
def dgF (E : Nat → Nat) (l : Nat → Nat) (X : Nat → Nat → Int) (k j : Nat) (p : Nat) : Int := ((degN E l X p k + cntE (X (E k)) p j : Nat) : Int)
theorem dgF_step {E : Nat → Nat} {l : Nat → Nat} {X : Nat → Nat → Int} {k j x : Nat} (hx : X (E k) j = (x : Int)) (p : Nat) : (if p = x then dgF E l X k j x + 1 else dgF E l X k j p) = dgF E l X k (j + 1) p := by
  unfold dgF
  rw [cntE]
  by_cases e : p = x
  · subst e
    rw [if_pos rfl, if_pos hx]; push_cast; omega
  · rw [if_neg e, if_neg (by rw [hx]; omega)]; simp
theorem dgF_next {E : Nat → Nat} {l : Nat → Nat} {X : Nat → Nat → Int} (k : Nat) (p : Nat) : dgF E l X k (l (E k)) p = dgF E l X (k + 1) 0 p := by
  unfold dgF; rw [degN]; simp [cntE]
theorem dgF_end {E : Nat → Nat} {l : Nat → Nat} {X : Nat → Nat → Int} (k : Nat) (p : Nat) : dgF E l X k 0 p = ((degN E l X p k : Nat) : Int) := by unfold dgF; simp [cntE]

end Go.Proofs.Ytockhjdhihehlaa
