/- slices.IndexFunc and ContainsFunc of ints with a closure that keeps a fact on the world; areBelow, hasEdges. -/
import Derived.Test.YthaipemgndahfaaFromG
import Derived.Test.YthaipemgndahfaaObjTch
import Derived.Test.YthaipemgndahfaaHash
import Derived.Deep.RegionHeld3
import Derived.Shelf.Abstract
namespace Go.Proofs.Ythaipemgndahfaa
open Go.RowKit

theorem quiet_ris {P : Program} {f : FuncId} {args : Array Value} {w : World} {n : Nat} {b : Bool} {Q : Prop} (h : Calls P f args (w.drewN n) (RisIs Q (w.drewN n))) (hb : b = true ↔ Q) : Calls P f args (w.drewN n) fun e w' => e = .returned (.bool b) ∧ ∃ m, w' = w.drewN m :=
  h.mono fun _ _ ⟨b', he, hb', k, hk⟩ => ⟨by rw [he, show b' = b from Bool.eq_iff_iff.2 (hb'.trans hb.symm)], n + k, by rw [hk, World.drewN_drewN]⟩
theorem l1In_of {n lo hi : Int} {b : Bool} (h : decide (lo ≤ n ∧ n ≤ hi) = b) (w : World) : Calls Try.prog 40 #[.int .i64 n, .int .i64 lo, .int .i64 hi] w fun e w' => e = .returned (.bool b) ∧ w = w' := h ▸ l1In_any n lo hi w

/-! areBelow -/
structure LimB (w : World) (b : Nat) (lim : Int) (A : Option Addr) (n : Nat) (X : Nat → Int) (wi : World) : Prop where
  below : Below w.heap.size w wi
  box : NBX w.heap.size b #[.int .i64 lim] 3 wi
  row : IRow wi A n X
theorem LimB.step {w wi wj : World} {b : Nat} {lim : Int} {A : Option Addr} {n : Nat} {X : Nat → Int} (h : LimB w b lim A n X wi) (hb : Below wi.heap.size wi wj) : LimB w b lim A n X wj := ⟨h.below.trans (hb.mono h.below.size), h.box.b hb, h.row.b hb⟩
/-- hasEdges. -/
def heB (s g : Int) : Bool := seedB s 0 && decide (1 ≤ g ∧ g ≤ 24)
end Go.Proofs.Ythaipemgndahfaa
