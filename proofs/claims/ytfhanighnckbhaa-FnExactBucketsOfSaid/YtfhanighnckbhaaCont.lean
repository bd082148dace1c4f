/- slices.Contains, slices.Clone of ints; lists of numbers as rows. -/
import Derived.Test.YtfhanighnckbhaaHypDeg
import Derived.Test.YtfhanighnckbhaaColl
import Derived.Test.YtfhanighnckbhaaApp
namespace Go.Proofs.Ytfhanighnckbhaa
open Go.RowKit

theorem seek_from {X : Nat → Int} {x : Int} : ∀ (m a : Nat), 0 ≤ seekI (seek X x a m) ↔ ∃ i, a ≤ i ∧ i < a + m ∧ X i = x
  | 0, a => by simp [seek, seekI]; intros; omega
  | m + 1, a => by
    rw [seek]
    by_cases h : X a = x
    · rw [if_pos h]; simp only [seekI]; exact ⟨fun _ => ⟨a, Nat.le_refl _, by omega, h⟩, fun _ => by omega⟩
    · rw [if_neg h, seek_from m (a + 1)]
      constructor
      · rintro ⟨i, h1, h2, h3⟩; exact ⟨i, by omega, by omega, h3⟩
      · rintro ⟨i, h1, h2, h3⟩
        by_cases e : i = a
        · subst e; exact absurd h3 h
        · exact ⟨i, by omega, by omega, h3⟩
theorem seek_some {X : Nat → Int} {x : Int} {m : Nat} : 0 ≤ seekI (seek X x 0 m) ↔ ∃ i, i < m ∧ X i = x := by
  rw [seek_from]
  constructor
  · rintro ⟨i, _, h2, h3⟩; exact ⟨i, by omega, h3⟩
  · rintro ⟨i, h2, h3⟩; exact ⟨i, by omega, by omega, h3⟩
set_option maxHeartbeats 400000 in
theorem contains_is (A : Option Addr) (n c : Nat) (X : Nat → Int) (x : Int) (w : World) (hn : n ≤ 1048576) (hr : IRow w A n X) : Calls Try.prog 104 #[.slice A n c, .int .i64 x] w (HasIs n X x w) := by
  have HR := Lib.hid hr
  have HS := Lib.hid (seek_some (X := X) (x := x) (m := n))
  clear hr
  go_enter Try.func104, Try.ntmps104
  go_wp2_with fail
  refine (index_is A n c X x _ hn HR.out).mono ?_; rintro e w1 ⟨rfl, rfl⟩
  generalize seekI (seek X x 0 n) = v at *
  go_wp2_with fail
  go_ret
  exact ⟨_, rfl, by simp only [decide_eq_true_eq]; exact HS.out, rfl⟩

/-- A list of numbers as a row. -/
def lstV (L : List Nat) (t : Nat) : Int := ((L.getD t 0 : Nat) : Int)
theorem lstV_old (L : List Nat) (x t : Nat) (h : t < L.length) : lstV (L ++ [x]) t = lstV L t := by
  unfold lstV
  rw [List.getD_eq_getElem?_getD, List.getD_eq_getElem?_getD, List.getElem?_append_left h]
theorem lstV_new (L : List Nat) (x : Nat) : lstV (L ++ [x]) L.length = (x : Int) := by
  unfold lstV
  rw [List.getD_eq_getElem?_getD, List.getElem?_append_right (Nat.le_refl _)]; simp
theorem cntE_pos {X : Nat → Int} {p : Int} : ∀ k, 0 < cntE X p k ↔ ∃ j, j < k ∧ X j = p
  | 0 => by simp [cntE]
  | k + 1 => by
    have ih := cntE_pos (X := X) (p := p) k
    rw [cntE]
    constructor
    · intro h
      by_cases e : X k = p
      · exact ⟨k, by omega, e⟩
      · rw [if_neg e] at h
        obtain ⟨j, hj, hx⟩ := ih.1 h
        exact ⟨j, by omega, hx⟩
    · rintro ⟨j, hj, hx⟩
      by_cases e : j = k
      · subst e; rw [if_pos hx]; omega
      · have := ih.2 ⟨j, by omega, hx⟩; omega
/-- The indices below k of the rows that have p. -/
def atL (l : Nat → Nat) (X : Nat → Nat → Int) (p : Int) : Nat → List Nat
  | 0 => []
  | k + 1 => if 0 < cntE (X k) p (l k) then atL l X p k ++ [k] else atL l X p k
theorem atL_len (l : Nat → Nat) (X : Nat → Nat → Int) (p : Int) : ∀ k, (atL l X p k).length ≤ k
  | 0 => Nat.le_refl _
  | k + 1 => by
    have := atL_len l X p k
    rw [atL]; split
    · simp; omega
    · omega
theorem push_lst {w : World} {B : Nat} {A : Option Addr} {k1 x : Nat} {L : List Nat} (h : w.ownsRow B 3 1 (.slice A L.length k1) L.length (vals (intV (lstV L)) L.length)) :
    w.ownsRow B 3 1 (.slice A L.length k1) L.length (vals (intV (lstV (L ++ [x]))) L.length) := by
  rwa [vals_congr (F := intV (lstV (L ++ [x]))) (G := intV (lstV L)) (fun i hi => by unfold intV; rw [lstV_old L x i hi])]
end Go.Proofs.Ytfhanighnckbhaa
