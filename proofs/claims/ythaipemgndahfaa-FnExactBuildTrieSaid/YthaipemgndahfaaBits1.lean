/- Single bits and fields: the program's and the model's. -/
import Derived.Test.YthaipemgndahfaaGood
import Derived.Test.YthaipemgndahfaaBitmath
import Derived.Deep.RegionHeld3
namespace Go.Proofs.Ythaipemgndahfaa
open Go.RowKit

/-- The slice reads as words of sixteen bits. -/
def WRow (w : World) (A : Option Addr) (n : Nat) (W : Nat → Nat) : Prop := IRow w A n (fun i => (W i : Int)) ∧ ∀ i, i < n → W i < 65536

theorem good_row {z : Int} {n : Nat} {X : Nat → Int} {w : World} {A : Option Addr} (hg : Good z n X) (hr : IRow w A n X) : WRow w A n (fun i => (X i).toNat) :=
  ⟨hr.congr (fun i hi => by have := (hg.2.2.2 i hi).1; show _ = (((X i).toNat : Nat) : Int); omega), fun i hi => by have := hg.2.2.2 i hi; have := cap_le z i; show (X i).toNat < _; omega⟩
theorem WRow.b {w w' : World} {A : Option Addr} {n : Nat} {W : Nat → Nat} (h : WRow w A n W) (hb : Below w.heap.size w w') : WRow w' A n W := ⟨h.1.b hb, h.2⟩

end Go.Proofs.Ythaipemgndahfaa
