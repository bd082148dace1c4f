/- A boxed Ranked that a law goes on with. -/
import Derived.Test.YtbflgbmobbbebaaGenD
namespace Go.Proofs.Ytbflgbmobbbebaa
open Go.RowKit

/-- A Ranked, boxed at qr. -/
structure BR (qr : Nat) (z : Int) (A1 : Option Addr) (n c1 : Nat) (X : Nat → Int) (A2 : Option Addr) (s c2 : Nat) (Y : Nat → Int) (A3 : Option Addr) (m c3 : Nat) (Z : Nat → Int) (wi : World) : Prop where
  rows : RkR A1 n X A2 s Y A3 m Z wi
  box : NBX qr qr (rkC z A1 n c1 A2 s c2 A3 m c3) 29 wi
section
variable {wi wj : World} {qr : Nat} {z : Int} {A1 A2 A3 : Option Addr} {m n c1 s c2 c3 : Nat} {X Y Z : Nat → Int}
theorem BR.step (h : BR qr z A1 n c1 X A2 s c2 Y A3 m c3 Z wi) (hb : Below wi.heap.size wi wj) : BR qr z A1 n c1 X A2 s c2 Y A3 m c3 Z wj := ⟨h.rows.b hb, h.box.b hb⟩
theorem BR.al (h : BR qr z A1 n c1 X A2 s c2 Y A3 m c3 Z wi) (o : Obj) : BR qr z A1 n c1 X A2 s c2 Y A3 m c3 Z (wi.alloc o) := h.step ((Below.refl _ _).alloc (Nat.le_refl _) o)
theorem BR.start (h : RkR A1 n X A2 s Y A3 m Z wi) : BR wi.heap.size z A1 n c1 X A2 s c2 Y A3 m c3 Z (wi.alloc (.cells (rkC z A1 n c1 A2 s c2 A3 m c3) 29)) := ⟨h.al _, nbx0 _ _ _⟩
theorem BR.cells (h : BR qr z A1 n c1 X A2 s c2 Y A3 m c3 Z wi) : wi.cell? ⟨qr, 0, none⟩ = some (.int .i64 z) ∧ wi.cell? ⟨qr, 1, none⟩ = some (.slice A1 n c1) ∧ wi.cell? ⟨qr, 2, none⟩ = some (.slice A2 s c2) ∧ wi.cell? ⟨qr, 3, none⟩ = some (.slice A3 m c3) :=
  ⟨h.box.cell 0 _ rfl, h.box.cell 1 _ rfl, h.box.cell 2 _ rfl, h.box.cell 3 _ rfl⟩
theorem rkr_in {w : World} (h : RkIn w z A1 n X A2 s Y A3 m Z wi) : RkR A1 n X A2 s Y A3 m Z wi :=
  ⟨by have := h.2.2.1; omega, by have := h.2.2.2.1; omega, by have := h.2.2.2.2.1; omega, irow (h.2.2.2.2.2.1.rd.row (Nat.le_refl _)), irow (h.2.2.2.2.2.2.1.rd.row (Nat.le_refl _)), irow (h.2.2.2.2.2.2.2.rd.row (Nat.le_refl _))⟩
end
end Go.Proofs.Ytbflgbmobbbebaa
