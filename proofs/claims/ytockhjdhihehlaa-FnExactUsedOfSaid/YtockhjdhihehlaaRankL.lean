/- A Ranked as an argument: its rows, its box. -/
import Derived.Test.YtockhjdhihehlaaRankS
import Derived.Test.YtockhjdhihehlaaSameI
import Derived.Test.YtockhjdhihehlaaObjTch
namespace Go.Proofs.Ytockhjdhihehlaa
open Go.RowKit

/-- The cells of a Ranked. -/
abbrev rkC (z : Int) (A1 : Option Addr) (n c1 : Nat) (A2 : Option Addr) (s c2 : Nat) (A3 : Option Addr) (m c3 : Nat) : Array Value := #[.int .i64 z, .slice A1 n c1, .slice A2 s c2, .slice A3 m c3]
/-- Its rows read as X, Y, Z. -/
structure RkR (A1 : Option Addr) (n : Nat) (X : Nat → Int) (A2 : Option Addr) (s : Nat) (Y : Nat → Int) (A3 : Option Addr) (m : Nat) (Z : Nat → Int) (w : World) : Prop where
  n1 : n ≤ 1048576
  n2 : s ≤ 1048576
  n3 : m ≤ 1048576
  r1 : IRow w A1 n X
  r2 : IRow w A2 s Y
  r3 : IRow w A3 m Z
/-- What a call that has a Ranked keeps: what was there is as it was, its rows read as they did, its box b holds it. -/
structure RL (w : World) (b : Nat) (z : Int) (A1 : Option Addr) (n c1 : Nat) (X : Nat → Int) (A2 : Option Addr) (s c2 : Nat) (Y : Nat → Int) (A3 : Option Addr) (m c3 : Nat) (Z : Nat → Int) (wi : World) : Prop where
  below : Below w.heap.size w wi
  rows : RkR A1 n X A2 s Y A3 m Z wi
  box : NBX b b (rkC z A1 n c1 A2 s c2 A3 m c3) 60 wi
section
variable {z : Int} {A1 A2 A3 : Option Addr} {n c1 s c2 m c3 q : Nat} {X Y Z : Nat → Int} {w wi wj : World}
theorem RkR.b (h : RkR A1 n X A2 s Y A3 m Z wi) (hb : Below wi.heap.size wi wj) : RkR A1 n X A2 s Y A3 m Z wj := ⟨h.n1, h.n2, h.n3, h.r1.b hb, h.r2.b hb, h.r3.b hb⟩
theorem RkR.al (h : RkR A1 n X A2 s Y A3 m Z wi) (o : Obj) : RkR A1 n X A2 s Y A3 m Z (wi.alloc o) := h.b ((Below.refl _ _).alloc (Nat.le_refl _) o)
theorem RL.start (h : RkR A1 n X A2 s Y A3 m Z w) : RL w w.heap.size z A1 n c1 X A2 s c2 Y A3 m c3 Z (w.alloc (.cells (rkC z A1 n c1 A2 s c2 A3 m c3) 60)) :=
  ⟨(Below.refl _ _).alloc (Nat.le_refl _) _, h.al _, nbx0 _ _ _⟩
theorem RL.step (h : RL w q z A1 n c1 X A2 s c2 Y A3 m c3 Z wi) (hb : Below wi.heap.size wi wj) : RL w q z A1 n c1 X A2 s c2 Y A3 m c3 Z wj :=
  ⟨h.below.trans (hb.mono h.below.size), h.rows.b hb, h.box.b hb⟩
theorem RL.drew (h : RL w q z A1 n c1 X A2 s c2 Y A3 m c3 Z wi) : RL w q z A1 n c1 X A2 s c2 Y A3 m c3 Z wi.drew := h.step (Below.drew (Below.refl _ _))
theorem RL.cells (h : RL w q z A1 n c1 X A2 s c2 Y A3 m c3 Z wi) : q < wi.heap.size ∧ wi.cell? ⟨q, 0, none⟩ = some (.int .i64 z) ∧ wi.cell? ⟨q, 1, none⟩ = some (.slice A1 n c1) ∧ wi.cell? ⟨q, 2, none⟩ = some (.slice A2 s c2) ∧ wi.cell? ⟨q, 3, none⟩ = some (.slice A3 m c3) :=
  ⟨h.box.lt, h.box.cell 0 _ rfl, h.box.cell 1 _ rfl, h.box.cell 2 _ rfl, h.box.cell 3 _ rfl⟩
end
end Go.Proofs.Ytockhjdhihehlaa
