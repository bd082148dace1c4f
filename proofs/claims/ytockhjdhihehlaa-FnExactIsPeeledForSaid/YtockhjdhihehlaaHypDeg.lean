/- HyperDegrees: both sides. -/
import Derived.Test.YtockhjdhihehlaaDegM
import Derived.BigQuiet
namespace Go.Proofs.Ytockhjdhihehlaa
open Go.RowKit

theorem HyperOk.three {z : Int} {n : Nat} {l : Nat → Nat} {X : Nat → Nat → Int} (h : HyperOk z n l X) : ∀ i, i < n → l i = 3 := fun i hi => (h.2.2.2 i hi).1
theorem HyperOk.inn {z : Int} {n : Nat} {l : Nat → Nat} {X : Nat → Nat → Int} (h : HyperOk z n l X) : ∀ i, i < n → ∀ j, j < l i → 0 ≤ X i j ∧ X i j < z := fun i hi j hj => by
  have := risT_in (h.2.2.2 i hi).2 hj; omega
def allE (t : Nat) : Nat := t
theorem intsOwn_row {n : Nat} {X : Nat → Int} {b : Bool} {w : World} (e : Ending) (w' : World) (h : IntsOwn n X b w e w') : ∃ A c, e = .returned (.tuple #[.slice A n c, .bool b]) ∧ GRow w' A n (intV X) ∧ Below w.heap.size w w' := by
  obtain ⟨A, c, h1, h2, h3⟩ := h
  exact ⟨A, c, h1, h2.rd.row (Nat.le_refl _), h3⟩
theorem HyperOk.nat {z : Int} {n : Nat} {l : Nat → Nat} {X : Nat → Nat → Int} (h : HyperOk z n l X) : ∃ k : Nat, z = k := ⟨z.toNat, by have := h.1; omega⟩
end Go.Proofs.Ytockhjdhihehlaa
