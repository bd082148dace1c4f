/- Placements: the program's answer. -/
import Derived.Test.YtffdkfhnlgfigaaPlcK
import Derived.Shelf.Abstract
namespace Go.Proofs.Ytffdkfhnlgfigaa
open Go.RowKit

def DifQ (F : Nat → Int) (n : Nat) : Prop := ∀ a b, a < b → b < n → F b ≠ F a
theorem plP_iff {V : Nat → Nat → Int} {n m : Nat} {F : Nat → Int} (h : ∀ i k, ∃ p : Nat, V i k = (p : Int) ∧ p < 64) : PlP V n F m ↔ EqP (fun i => setN (V i) 2) n F m ∧ DifQ F m := by
  have hb : ∀ i, (∃ k, k < 2 ∧ V i k = F i) ↔ hasB (setN (V i) 2) (F i) = true := fun i => by
    unfold hasB
    by_cases h0 : 0 ≤ F i
    · rw [decide_eq_true h0, Bool.true_and, setN_bit (fun k _ => h i k) _ 2 (Nat.le_refl _), Int.toNat_of_nonneg h0]
    · rw [decide_eq_false h0, Bool.false_and]
      simp only [Bool.false_eq_true, iff_false]
      rintro ⟨k, _, hk⟩
      obtain ⟨p, hp, _⟩ := h i k
      omega
  constructor
  · rintro ⟨rfl, h1, h2⟩
    exact ⟨⟨rfl, fun i hi => (hb i).1 (h1 i hi)⟩, fun a b hab hbn he => h2 b hbn a hab he.symm⟩
  · rintro ⟨⟨rfl, h1⟩, h2⟩
    exact ⟨rfl, fun i hi => (hb i).2 (h1 i hi), fun i hi j hj he => h2 j i hj hi he.symm⟩
end Go.Proofs.Ytffdkfhnlgfigaa
