/- Which tables are valid: both sides, whatever the argument. -/
import Derived.Test.YthaipemgndahfaaBx1
import Derived.Test.YthaipemgndahfaaQuietC
namespace Go.Proofs.Ythaipemgndahfaa
open Go.RowKit

def TaV (z0 z1 z2 : Int) (n : Nat) (X : Nat → Int) : Prop := (0 ≤ z0 ∧ z0 ≤ 9999) ∧ (1 ≤ z1 ∧ z1 ≤ 24) ∧ (1 ≤ z2 ∧ z2 ≤ 8) ∧ (n : Int) = 3 * z1 ∧ InAll n X 0 (2 ^ z2.toNat - 1)
theorem ris_val {P : Program} {f : FuncId} {args : Array Value} {w : World} {b : Bool} {Q : Prop} (hb : b = true ↔ Q) (h : Calls P f args w (RisIs Q w)) : Calls P f args w fun e w' => e = .returned (.bool b) ∧ Below w.heap.size w w' :=
  h.mono fun e w' ⟨b', he, hb', k, hk⟩ => ⟨by rw [he, show b' = b by cases b <;> cases b' <;> simp_all], hk ▸ below_drewN (Below.refl _ _) k⟩
theorem bool_val {P : Program} {f : FuncId} {args : Array Value} {w : World} {b : Bool} {Q : Prop} (hb : b = true ↔ Q) (h : Calls P f args w (BoolIs Q w)) : Calls P f args w fun e w' => e = .returned (.bool b) ∧ Below w.heap.size w w' :=
  h.mono fun e w' ⟨b', he, hb', hw⟩ => ⟨by rw [he, show b' = b by cases b <;> cases b' <;> simp_all], hw⟩
theorem bool_of (Q : Prop) : ∃ b : Bool, b = true ↔ Q := by
  by_cases h : Q
  · exact ⟨true, by simp [h]⟩
  · exact ⟨false, by simp [h]⟩
section
variable {z0 z1 z2 : Int} {A : Option Addr} {n c : Nat} {X : Nat → Int} {w : World}
end
end Go.Proofs.Ythaipemgndahfaa
