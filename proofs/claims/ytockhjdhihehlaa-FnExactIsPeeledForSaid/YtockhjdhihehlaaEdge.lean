/- Edges and Hypers: which are valid, both sides. -/
import Derived.Test.YtockhjdhihehlaaGaps
import Derived.Test.YtockhjdhihehlaaRowSS
import Derived.Test.YtockhjdhihehlaaHas
import Derived.Deep.RegionHeld3
namespace Go.Proofs.Ytockhjdhihehlaa
open Go.RowKit

def RisT (h : Int) (n : Nat) (X : Nat → Int) : Prop := ∀ i, i < n → 0 ≤ X i ∧ X i ≤ h ∧ (0 < i → X (i - 1) < X i)
theorem risT_snoc {h : Int} {q : Nat} {X : Nat → Int} (hr : RisT h q X) (h0 : lastI X q < X q) (h1 : X q ≤ h) (hl : -1 ≤ lastI X q) : RisT h (q + 1) X := fun i hi => by
  by_cases e : i = q
  · subst e
    refine ⟨by omega, h1, fun hp => ?_⟩
    unfold lastI at h0; rw [if_neg (by omega)] at h0; exact h0
  · exact hr i (by omega)
theorem risT_last {h : Int} {q : Nat} {X : Nat → Int} (hr : RisT h q X) : -1 ≤ lastI X q := by
  unfold lastI
  split
  · omega
  · have := (hr (q - 1) (by omega)).1; omega
theorem risT_not {h : Int} {q n : Nat} {X : Nat → Int} (hq : q < n) (hc : ¬ (lastI X q < X q ∧ X q ≤ h)) : ¬ RisT h n X := fun hr => hc ⟨by
  unfold lastI
  split
  · have := (hr q hq).1; omega
  · exact (hr q hq).2.2 (by omega), (hr q hq).2.1⟩
def EdgeOk (p : Int) (l : Nat) (X : Nat → Int) : Prop := l = 3 ∧ RisT (p - 1) l X
def HyperOk (z : Int) (n : Nat) (l : Nat → Nat) (X : Nat → Nat → Int) : Prop := 1 ≤ z ∧ z ≤ 72 ∧ n ≤ 40 ∧ ∀ i, i < n → EdgeOk z (l i) (X i)

/-- A boxed Hyper and its rows. -/
structure LH (w : World) (b : Nat) (z : Int) (A : Option Addr) (n c : Nat) (B : Nat → Option Addr) (l d : Nat → Nat) (X : Nat → Nat → Int) (wi : World) : Prop where
  below : Below w.heap.size w wi
  row : HR wi A n B l d X
  box : Box wi b z A n c
section
variable {w wi wj : World} {b : Nat} {z : Int} {A : Option Addr} {n c : Nat} {B : Nat → Option Addr} {l d : Nat → Nat} {X : Nat → Nat → Int}
theorem LH.start (hr : HR w A n B l d X) (t : TypeId) : LH w w.heap.size z A n c B l d X (w.alloc (.cells #[.int .i64 z, .slice A n c] t)) :=
  ⟨(Below.refl _ _).alloc (Nat.le_refl _) _, hr.b ((Below.refl _ _).alloc (Nat.le_refl _) _), Box.new _ _ _ _ _ _⟩
theorem LH.step (h : LH w b z A n c B l d X wi) (hb : Below wi.heap.size wi wj) : LH w b z A n c B l d X wj :=
  ⟨h.below.trans (hb.mono h.below.size), h.row.b hb, h.box.b hb⟩
theorem LH.put {B' g o : Nat} (h : LH w b z A n c B l d X wi) (hr : HR w A n B l d X) (hw : w.heap.size ≤ B') (hb : b < B') (hg : B' ≤ g) (v : Value) : LH w b z A n c B l d X (wi.setCell ⟨g, o, none⟩ v) := by
  have h2 : Below B' wi (wi.setCell ⟨g, o, none⟩ v) := below_setAt (Below.refl _ _) hg v
  have h3 := h.below.trans (h2.mono hw)
  exact ⟨h3, hr.b h3, Nat.lt_of_lt_of_le h.box.1 h2.size, (h2.cell (p := ⟨b, 0, none⟩) hb).trans h.box.2.1, (h2.cell (p := ⟨b, 1, none⟩) hb).trans h.box.2.2⟩
theorem LH.low {B' : Nat} (h : LH w b z A n c B l d X wi) (hb : Below B' wi wj) (hr : HR w A n B l d X) (hw : w.heap.size ≤ B') (hB : b < B') : LH w b z A n c B l d X wj :=
  have h3 := h.below.trans (hb.mono hw)
  ⟨h3, hr.b h3, Nat.lt_of_lt_of_le h.box.1 hb.size, (hb.cell (p := ⟨b, 0, none⟩) hB).trans h.box.2.1, (hb.cell (p := ⟨b, 1, none⟩) hB).trans h.box.2.2⟩
theorem LH.drew (h : LH w b z A n c B l d X wi) : LH w b z A n c B l d X wi.drew := h.step (Below.drew (Below.refl _ _))
theorem LH.drewN (h : LH w b z A n c B l d X wi) (k : Nat) : LH w b z A n c B l d X (wi.drewN k) := h.step (below_drewN (Below.refl _ _) k)
end

end Go.Proofs.Ytockhjdhihehlaa
