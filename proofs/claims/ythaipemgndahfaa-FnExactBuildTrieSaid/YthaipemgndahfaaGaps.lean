/- GapsOf, FromGaps: both sides. -/
import Derived.Test.YthaipemgndahfaaGen
import Derived.Test.YthaipemgndahfaaObj
import Derived.Test.YthaipemgndahfaaKeys
namespace Go.Proofs.Ythaipemgndahfaa
open Go.RowKit

def Rising (n : Nat) (X : Nat → Int) : Prop := ∀ i, i < n → 0 ≤ X i ∧ X i ≤ 99999 ∧ (0 < i → X (i - 1) < X i)
def lastI (X : Nat → Int) (i : Nat) : Int := if i = 0 then -1 else X (i - 1)
def gapF (X : Nat → Int) (i : Nat) : Int := X i - lastI X i
theorem last_zero (X : Nat → Int) : lastI X 0 = -1 := rfl
theorem last_succ (X : Nat → Int) (i : Nat) : lastI X (i + 1) = X i := rfl
/-- A list of ints as answer, and a word whether it is one. -/
def IntsOwn (n : Nat) (X : Nat → Int) (b : Bool) (w : World) (e : Ending) (w' : World) : Prop :=
  ∃ A c, e = .returned (.tuple #[.slice A n c, .bool b]) ∧ Ow w.heap.size w'.heap.size 3 A n (intV X) w' ∧ Below w.heap.size w w'
theorem intsOwn_none (w : World) (X : Nat → Int) (e : Ending) (w' : World) (h : e = .returned (.tuple #[.slice none 0 0, .bool false])) (hb : Below w.heap.size w w') : IntsOwn 0 X false w e w' :=
  ⟨none, 0, h, ow_zero _ _ _ _ _ _, hb⟩
theorem ow_of_owned {w : World} {B n c : Nat} {A : Option Addr} {X : Nat → Int} (h : w.ownsRow B 3 1 (.slice A n c) n (vals (intV X) n)) : Ow B w.heap.size 3 A n (intV X) w := by
  rcases owned_vec h with rfl | ⟨g, rfl, hg, ho⟩
  · exact ow_zero _ _ _ _ _ _
  · exact ow_of_own ho hg (Nat.le_refl n)

def RisIs (p : Prop) (w : World) (e : Ending) (w' : World) : Prop := ∃ b : Bool, e = .returned (.bool b) ∧ (b = true ↔ p) ∧ ∃ k, w' = w.drewN k
theorem RisIs.two {f : FuncId} {args : Array Value} {w : World} {p : Prop} (h : Calls Try.prog f args w (RisIs p w)) :
    (p → Calls Try.prog f args w fun e w' => e = .returned (.bool true) ∧ Below w.heap.size w w') ∧ (¬ p → Calls Try.prog f args w fun e w' => e = .returned (.bool false) ∧ Below w.heap.size w w') := by
  constructor
  · intro hp
    refine h.mono ?_; rintro e w' ⟨b, rfl, hb, k, rfl⟩
    rw [hb.2 hp]; exact ⟨rfl, below_drewN (Below.refl _ _) _⟩
  · intro hp
    refine h.mono ?_; rintro e w' ⟨b, rfl, hb, k, rfl⟩
    rw [Bool.eq_false_iff.2 (fun e => hp (hb.1 e))]; exact ⟨rfl, below_drewN (Below.refl _ _) _⟩

theorem rising_snoc {q : Nat} {X : Nat → Int} (h : Rising q X) (h0 : lastI X q < X q) (h1 : X q ≤ 99999) (hl : -1 ≤ lastI X q) : Rising (q + 1) X := fun i hi => by
  by_cases e : i = q
  · subst e
    refine ⟨by omega, h1, fun hp => ?_⟩
    unfold lastI at h0; rw [if_neg (by omega)] at h0; exact h0
  · exact h i (by omega)
theorem rising_last {q : Nat} {X : Nat → Int} (h : Rising q X) : -1 ≤ lastI X q ∧ lastI X q ≤ 99999 := by
  unfold lastI
  split
  · omega
  · have := h (q - 1) (by omega); omega
theorem rising_not {q n : Nat} {X : Nat → Int} (hq : q < n) (h : ¬ (lastI X q < X q ∧ X q ≤ 99999)) : ¬ Rising n X := fun hr => h (by
  have h1 := hr q hq
  unfold lastI
  split
  · omega
  · exact ⟨h1.2.2 (by omega), h1.2.1⟩)

end Go.Proofs.Ythaipemgndahfaa
