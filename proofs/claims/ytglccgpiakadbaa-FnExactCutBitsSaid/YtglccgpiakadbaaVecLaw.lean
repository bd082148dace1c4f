/- What a law over one bit vector keeps from call to call, when the answer is a bit vector too. -/
import Derived.Test.YtglccgpiakadbaaGrow
import Derived.Deep.RegionHeld3
namespace Go.Proofs.Ytglccgpiakadbaa
open Go.RowKit

theorem Box.far {w w' : World} {b g : Nat} {z : Int} {A : Option Addr} {n c : Nat} (h : Box w b z A n c) (hr : w.grownBy w' (some g)) (hne : b ≠ g) : Box w' b z A n c :=
  have hb := hr.block b h.1 (fun e => hne (by injection e))
  ⟨Nat.lt_of_lt_of_le h.1 hr.size, (World.cell?_of_block (a := ⟨b, 0, none⟩) hb).trans h.2.1, (World.cell?_of_block (a := ⟨b, 1, none⟩) hb).trans h.2.2⟩

structure VS (w w1 : World) (ba b0 bx b1 B gx : Nat) (z zr : Int) (A A1 A2 : Option Addr) (n c m k1 k2 : Nat) (Y : Nat → Int) (wi : World) : Prop where
  below : Below w.heap.size w wi
  below1 : Below w1.heap.size w1 wi
  boxa : Box wi ba z A n c
  box0 : Box wi b0 zr A1 m k1
  boxx : Box wi bx z (some ⟨gx, 0, none⟩) n n
  box1 : Box wi b1 zr A2 m k2
  own : OVec wi B A2 m Y
section
variable {w w1 wi wj : World} {ba b0 bx b1 B gx : Nat} {z zr : Int} {A A1 A2 : Option Addr} {n c m k1 k2 : Nat} {Y Y' : Nat → Int}
theorem VS.b (h : VS w w1 ba b0 bx b1 B gx z zr A A1 A2 n c m k1 k2 Y wi) (hb : Below wi.heap.size wi wj) : VS w w1 ba b0 bx b1 B gx z zr A A1 A2 n c m k1 k2 Y wj :=
  ⟨h.below.trans (hb.mono h.below.size), h.below1.trans (hb.mono h.below1.size), h.boxa.b hb, h.box0.b hb, h.boxx.b hb, h.box1.b hb, h.own.b hb⟩
theorem VS.mark (h : VS w w1 ba b0 bx b1 B gx z zr A A1 A2 n c m k1 k2 Y wi) (hw : w.heap.size ≤ B) (h1 : w1.heap.size ≤ B) (ho : OVec wj B A2 m Y') (hb : Below B wi wj) (hr : Rest A2 wi wj)
    (na : A2 ≠ some ⟨ba, 0, none⟩) (n0 : A2 ≠ some ⟨b0, 0, none⟩) (nx : A2 ≠ some ⟨bx, 0, none⟩) (n1 : A2 ≠ some ⟨b1, 0, none⟩) : VS w w1 ba b0 bx b1 B gx z zr A A1 A2 n c m k1 k2 Y' wj :=
  ⟨h.below.trans (hb.mono hw), h.below1.trans (hb.mono h1), h.boxa.rest hr na, h.box0.rest hr n0, h.boxx.rest hr nx, h.box1.rest hr n1, ho⟩
theorem VS.markx (h : VS w w1 ba b0 bx b1 B gx z zr A A1 A2 n c m k1 k2 Y wi) (hg : wi.grownBy wj (some gx)) (hw : w.heap.size ≤ gx) (h1 : w1.heap.size ≤ gx) (hB : gx < B)
    (na : ba ≠ gx) (n0 : b0 ≠ gx) (nx : bx ≠ gx) (n1 : b1 ≠ gx) : VS w w1 ba b0 bx b1 B gx z zr A A1 A2 n c m k1 k2 Y wj :=
  ⟨h.below.trans (below_of_grown hg h.below.size hw), h.below1.trans (below_of_grown hg h.below1.size h1), h.boxa.far hg na, h.box0.far hg n0, h.boxx.far hg nx, h.box1.far hg n1, h.own.grown hg hB⟩
end
end Go.Proofs.Ytglccgpiakadbaa
