/- A struct with one slice of ints in a box. -/
import Derived.Test.YthaipemgndahfaaIdxF
namespace Go.Proofs.Ythaipemgndahfaa
open Go.RowKit

/-- A struct with one slice of ints in a box. -/
structure BX1 (w : World) (b : Nat) (cs : Array Value) (t : TypeId) (A : Option Addr) (n : Nat) (X : Nat → Int) (wi : World) : Prop where
  below : Below w.heap.size w wi
  box : NBX w.heap.size b cs t wi
  row : IRow wi A n X
section
variable {w wi wj : World} {b n : Nat} {cs : Array Value} {t : TypeId} {A : Option Addr} {X : Nat → Int}
theorem BX1.step (h : BX1 w b cs t A n X wi) (hb : Below wi.heap.size wi wj) : BX1 w b cs t A n X wj := ⟨h.below.trans (hb.mono h.below.size), h.box.b hb, h.row.b hb⟩
theorem BX1.drewN (h : BX1 w b cs t A n X wi) (k : Nat) : BX1 w b cs t A n X (wi.drewN k) := h.step (below_drewN (Below.refl _ _) _)
theorem BX1.drew (h : BX1 w b cs t A n X wi) : BX1 w b cs t A n X wi.drew := h.step (Below.drew (Below.refl _ _))
theorem BX1.start (h : IRow w A n X) : BX1 w w.heap.size cs t A n X (w.alloc (.cells cs t)) := ⟨(Below.refl _ _).alloc (Nat.le_refl _) _, nbx0 w _ _, h.b ((Below.refl _ _).alloc (Nat.le_refl _) _)⟩
end
theorem seedB_dec {s : Int} {b : Bool} (h : decide (0 ≤ s ∧ s ≤ 9999) = b) : seedB s 0 = b := by
  rw [← h]; unfold seedB; simp
end Go.Proofs.Ythaipemgndahfaa
