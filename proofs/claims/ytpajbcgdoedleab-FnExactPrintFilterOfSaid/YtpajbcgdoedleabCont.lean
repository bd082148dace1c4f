/- slices.Contains, slices.Clone of ints; lists of numbers as rows. -/
import Derived.Test.YtpajbcgdoedleabHypDeg
import Derived.Test.YtpajbcgdoedleabColl
import Derived.Test.YtpajbcgdoedleabContI
import Derived.Test.YtpajbcgdoedleabApp
namespace Go.Proofs.Ytpajbcgdoedleab
open Go.RowKit

/-- A list of numbers as a row. -/
def lstV (L : List Nat) (t : Nat) : Int := ((L.getD t 0 : Nat) : Int)
theorem lstV_old (L : List Nat) (x t : Nat) (h : t < L.length) : lstV (L ++ [x]) t = lstV L t := by
  unfold lstV
  rw [List.getD_eq_getElem?_getD, List.getD_eq_getElem?_getD, List.getElem?_append_left h]
theorem lstV_new (L : List Nat) (x : Nat) : lstV (L ++ [x]) L.length = (x : Int) := by
  unfold lstV
  rw [List.getD_eq_getElem?_getD, List.getElem?_append_right (Nat.le_refl _)]; simp
theorem cntE_pos {X : Nat → Int} {p : Int} : ∀ k, 0 < cntE X p k ↔ ∃ j, j < k ∧ X j = p
  | 0 => by simp [cntE]
  | k + 1 => by
    have ih := cntE_pos (X := X) (p := p) k
    rw [cntE]
    constructor
    · intro h
      by_cases e : X k = p
      · exact ⟨k, by omega, e⟩
      · rw [if_neg e] at h
        obtain ⟨j, hj, hx⟩ := ih.1 h
        exact ⟨j, by omega, hx⟩
    · rintro ⟨j, hj, hx⟩
      by_cases e : j = k
      · subst e; rw [if_pos hx]; omega
      · have := ih.2 ⟨j, by omega, hx⟩; omega
/-- The indices below k of the rows that have p. -/
def atL (l : Nat → Nat) (X : Nat → Nat → Int) (p : Int) : Nat → List Nat
  | 0 => []
  | k + 1 => if 0 < cntE (X k) p (l k) then atL l X p k ++ [k] else atL l X p k
theorem atL_len (l : Nat → Nat) (X : Nat → Nat → Int) (p : Int) : ∀ k, (atL l X p k).length ≤ k
  | 0 => Nat.le_refl _
  | k + 1 => by
    have := atL_len l X p k
    rw [atL]; split
    · simp; omega
    · omega
theorem push_lst {w : World} {B : Nat} {A : Option Addr} {k1 x : Nat} {L : List Nat} (h : w.ownsRow B 3 1 (.slice A L.length k1) L.length (vals (intV (lstV L)) L.length)) :
    w.ownsRow B 3 1 (.slice A L.length k1) L.length (vals (intV (lstV (L ++ [x]))) L.length) := by
  rwa [vals_congr (F := intV (lstV (L ++ [x]))) (G := intV (lstV L)) (fun i hi => by unfold intV; rw [lstV_old L x i hi])]
end Go.Proofs.Ytpajbcgdoedleab
