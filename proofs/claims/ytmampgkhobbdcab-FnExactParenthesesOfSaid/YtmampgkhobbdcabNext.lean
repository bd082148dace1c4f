/- NextBit: the program's and the model's. -/
import Derived.Test.YtmampgkhobbdcabRead
namespace Go.Proofs.Ytmampgkhobbdcab
open Go.RowKit

/-- k is the first bit from a on, below z, that is on or off as told. -/
def Found (W : Nat → Nat) (on : Bool) (z : Int) (a k : Nat) : Prop := a ≤ k ∧ (k : Int) < z ∧ bitN W k = on ∧ ∀ j, a ≤ j → j < k → bitN W j = !on
def NoneFrom (W : Nat → Nat) (on : Bool) (z : Int) (a : Nat) : Prop := ∀ j, a ≤ j → (j : Int) < z → bitN W j = !on
theorem found_or (W : Nat → Nat) (on : Bool) (z : Int) : ∀ (d a : Nat), z ≤ a + d → (∃ k, Found W on z a k) ∨ NoneFrom W on z a
  | 0, a, h => .inr fun j hj hz => by omega
  | d + 1, a, h => by
    by_cases hz : (a : Int) < z
    · by_cases hb : bitN W a = on
      · exact .inl ⟨a, Nat.le_refl _, hz, hb, fun j h1 h2 => by omega⟩
      · rcases found_or W on z d (a + 1) (by omega) with ⟨k, h1, h2, h3, h4⟩ | hn
        · refine .inl ⟨k, by omega, h2, h3, fun j hj hk => ?_⟩
          by_cases e : j = a
          · subst e; revert hb; cases bitN W j <;> cases on <;> simp
          · exact h4 j (by omega) hk
        · refine .inr fun j hj hk => ?_
          by_cases e : j = a
          · subst e; revert hb; cases bitN W j <;> cases on <;> simp
          · exact hn j (by omega) hk
    · exact .inr fun j hj hk => by omega
theorem beq_yes {a b : Bool} (h : a = b) : (a == b) = true := by simp [h]
theorem beq_no {a b : Bool} (h : a = !b) : (a == b) = false := by subst h; cases b <;> rfl

end Go.Proofs.Ytmampgkhobbdcab
