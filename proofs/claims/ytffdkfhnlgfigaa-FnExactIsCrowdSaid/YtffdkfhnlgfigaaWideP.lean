/- The different cells of some pairs: the model's list of them (for IsCrowd; not finished). -/
import Derived.Test.YtffdkfhnlgfigaaPlcM
import Derived.Test.YtffdkfhnlgfigaaPutL
namespace Go.Proofs.Ytffdkfhnlgfigaa
open Go.RowKit

def RisQ (X : Nat → Int) (n : Nat) : Prop := ∀ i j, i < j → j < n → X i < X j
theorem ris_pos {X : Nat → Int} {x : Int} : ∀ n, RisQ X n → ∃ k, k ≤ n ∧ (∀ i, i < k → X i < x) ∧ (k < n → x ≤ X k)
  | 0, _ => ⟨0, Nat.le_refl _, fun i h => absurd h (by omega), fun h => absurd h (by omega)⟩
  | n + 1, h => by
    obtain ⟨k, h1, h2, h3⟩ := ris_pos (x := x) n (fun i j a b => h i j a (by omega))
    by_cases hk : k < n
    · exact ⟨k, by omega, h2, fun _ => h3 hk⟩
    · obtain rfl : k = n := by omega
      by_cases hx : X k < x
      · exact ⟨k + 1, by omega, fun i hi => by
          by_cases e : i = k
          · subst e; exact hx
          · exact h2 i (by omega), fun h => absurd h (by omega)⟩
      · exact ⟨k, by omega, h2, fun _ => by omega⟩
/-- A list into which a number went: rising, with the number and the old ones. -/
def PutQ (X : Nat → Int) (n : Nat) (x : Int) (Y : Nat → Int) (m : Nat) : Prop := RisQ Y m ∧ m ≤ n + 1 ∧ ∀ v, (∃ i, i < m ∧ Y i = v) ↔ (v = x ∨ ∃ i, i < n ∧ X i = v)
theorem put_has {X : Nat → Int} {n k : Nat} {x : Int} (h : RisQ X n) (hk : k < n) (hx : X k = x) : PutQ X n x X n :=
  ⟨h, by omega, fun v => ⟨fun h => .inr h, fun h => by
    rcases h with rfl | h
    · exact ⟨k, hk, hx⟩
    · exact h⟩⟩
theorem put_new {X : Nat → Int} {n k : Nat} {x : Int} (h : RisQ X n) (hk : k ≤ n) (h1 : ∀ i, i < k → X i < x) (h2 : k < n → x < X k) : PutQ X n x (insV X k x) (n + 1) := by
  have hge : ∀ i, k ≤ i → i < n → x < X i := fun i a b => by
    by_cases e : i = k
    · subst e; exact h2 b
    · have := h k i (by omega) b; have := h2 (by omega); omega
  refine ⟨fun i j hij hj => ?_, Nat.le_refl _, fun v => ⟨?_, ?_⟩⟩
  · unfold insV
    by_cases a : i < k
    · rw [if_pos a]
      by_cases b : j < k
      · rw [if_pos b]; exact h i j hij (by omega)
      · rw [if_neg b]
        by_cases c : j = k
        · rw [if_pos c]; exact h1 i a
        · rw [if_neg c]; exact h i (j - 1) (by omega) (by omega)
    · rw [if_neg a, if_neg (show ¬ j < k by omega), if_neg (show ¬ j = k by omega)]
      by_cases b : i = k
      · rw [if_pos b]; exact hge (j - 1) (by omega) (by omega)
      · rw [if_neg b]; exact h (i - 1) (j - 1) (by omega) (by omega)
  · rintro ⟨i, hi, rfl⟩
    unfold insV
    by_cases a : i < k
    · rw [if_pos a]; exact .inr ⟨i, by omega, rfl⟩
    · rw [if_neg a]
      by_cases b : i = k
      · rw [if_pos b]; exact .inl rfl
      · rw [if_neg b]; exact .inr ⟨i - 1, by omega, rfl⟩
  · rintro (rfl | ⟨i, hi, rfl⟩)
    · exact ⟨k, by omega, by unfold insV; rw [if_neg (by omega), if_pos rfl]⟩
    · by_cases a : i < k
      · exact ⟨i, by omega, by unfold insV; rw [if_pos a]⟩
      · exact ⟨i + 1, by omega, by unfold insV; rw [if_neg (by omega), if_neg (by omega), Nat.add_sub_cancel]⟩
theorem spec_l1Put_any (A : Option Addr) (n c : Nat) (X : Nat → Int) (x : Int) (w : World) (hn : n ≤ 4096) (hnc : n ≤ c) (hr : IRow w A n X) (h : RisQ X n) :
    Calls Try.prog 78 #[.slice A n c, .int .i64 x] w fun e w' => ∃ A' m c' Y, e = .returned (.slice A' m c') ∧ m ≤ c' ∧ PutQ X n x Y m ∧ IRow w' A' m Y ∧ Below w.heap.size w w' := by
  obtain ⟨k, h1, h2, h3⟩ := ris_pos (x := x) n h
  by_cases hx : k < n ∧ X k = x
  · exact (spec_l1Put_has A n c X x k w hn hr hx.1 h2 hx.2).mono fun e w' ⟨he, hw⟩ => ⟨A, n, c, X, he, hnc, put_has h hx.1 hx.2, by rw [← hw]; exact hr, by rw [← hw]; exact Below.refl _ _⟩
  · have h4 : k < n → x < X k := fun hk => by have := h3 hk; have : X k ≠ x := fun e => hx ⟨hk, e⟩; omega
    exact (spec_l1Put_new A n c X x k w hn hnc hr h1 h2 h4).mono fun e w' ⟨A', c', he, ho, hb⟩ => ⟨A', n + 1, c', insV X k x, he, by
      obtain ⟨_, _, e2, hc2, _⟩ := owned_slice ho
      injection e2 with _ _ e2
      omega, put_new h h1 h2 h4, (owned_vec ho).row, hb⟩
end Go.Proofs.Ytffdkfhnlgfigaa
