/- slices.Contains of ints. -/
import Derived.Test.YtffdkfhnlgfigaaColl
import Derived.Test.YtffdkfhnlgfigaaHas
namespace Go.Proofs.Ytffdkfhnlgfigaa
open Go.RowKit

theorem seek_from {X : Nat → Int} {x : Int} : ∀ (m a : Nat), 0 ≤ seekI (seek X x a m) ↔ ∃ i, a ≤ i ∧ i < a + m ∧ X i = x
  | 0, a => by simp [seek, seekI]; intros; omega
  | m + 1, a => by
    rw [seek]
    by_cases h : X a = x
    · rw [if_pos h]; simp only [seekI]; exact ⟨fun _ => ⟨a, Nat.le_refl _, by omega, h⟩, fun _ => by omega⟩
    · rw [if_neg h, seek_from m (a + 1)]
      constructor
      · rintro ⟨i, h1, h2, h3⟩; exact ⟨i, by omega, by omega, h3⟩
      · rintro ⟨i, h1, h2, h3⟩
        by_cases e : i = a
        · subst e; exact absurd h3 h
        · exact ⟨i, by omega, by omega, h3⟩
theorem seek_some {X : Nat → Int} {x : Int} {m : Nat} : 0 ≤ seekI (seek X x 0 m) ↔ ∃ i, i < m ∧ X i = x := by
  rw [seek_from]
  constructor
  · rintro ⟨i, _, h2, h3⟩; exact ⟨i, by omega, h3⟩
  · rintro ⟨i, h2, h3⟩; exact ⟨i, by omega, by omega, h3⟩
end Go.Proofs.Ytffdkfhnlgfigaa
