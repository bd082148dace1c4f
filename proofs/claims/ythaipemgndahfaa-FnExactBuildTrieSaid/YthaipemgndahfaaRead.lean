/- ReadField and BitAt: the program's and the model's. -/
import Derived.Test.YthaipemgndahfaaBits1
namespace Go.Proofs.Ythaipemgndahfaa
open Go.RowKit

def Room (z : Int) (n : Nat) (X : Nat → Int) (a width : Int) : Prop := Good z n X ∧ 0 ≤ width ∧ width ≤ 24 ∧ 0 ≤ a ∧ a ≤ z - width
def BoolIs (p : Prop) (w : World) (e : Ending) (w' : World) : Prop := ∃ b : Bool, e = .returned (.bool b) ∧ (b = true ↔ p) ∧ Below w.heap.size w w'
theorem BoolIs.two {f : FuncId} {args : Array Value} {w : World} {p : Prop} (h : Calls Try.prog f args w (BoolIs p w)) :
    (p → Calls Try.prog f args w fun e w' => e = .returned (.bool true) ∧ Below w.heap.size w w') ∧ (¬ p → Calls Try.prog f args w fun e w' => e = .returned (.bool false) ∧ Below w.heap.size w w') :=
  ⟨fun hg => h.mono fun _ _ ⟨_, he, hb, hw⟩ => ⟨by rw [he, hb.2 hg], hw⟩,
   fun hg => h.mono fun _ _ ⟨b, he, hb, hw⟩ => ⟨by rw [he]; cases b; rfl; exact absurd (hb.1 rfl) hg, hw⟩⟩

theorem room_one {z : Int} {n : Nat} {X : Nat → Int} {i : Int} : Room z n X i 1 ↔ Good z n X ∧ 0 ≤ i ∧ i ≤ z - 1 := by
  constructor
  · intro h; exact ⟨h.1, h.2.2.2.1, h.2.2.2.2⟩
  · intro h; exact ⟨h.1, by omega, by omega, h.2.1, h.2.2⟩

end Go.Proofs.Ythaipemgndahfaa
