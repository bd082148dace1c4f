/- Contracts of the laws' small functions on bit vectors. -/
import Derived.Test.YthaipemgndahfaaLawFns
import Derived.Handy
namespace Go.Proofs.Ythaipemgndahfaa
open Go.RowKit

theorem bcell {W w1 : World} (hb : Below W.heap.size W w1) : (∀ b o, b < W.heap.size → w1.cell? ⟨b, o, none⟩ = W.cell? ⟨b, o, none⟩) ∧ (∀ b o, b < W.heap.size → w1.frozen? ⟨b, o, none⟩ = W.frozen? ⟨b, o, none⟩) :=
  ⟨fun b o h => hb.cell (p := ⟨b, o, none⟩) h, fun b o h => hb.frozen (p := ⟨b, o, none⟩) h⟩

/-- The box of a bit vector that was handed over by value: block b holds z and the slice. -/
def Box (w : World) (b : Nat) (z : Int) (A : Option Addr) (n c : Nat) : Prop :=
  b < w.heap.size ∧ w.cell? ⟨b, 0, none⟩ = some (.int .i64 z) ∧ w.cell? ⟨b, 1, none⟩ = some (.slice A n c)
theorem Box.b {w w' : World} {b : Nat} {z : Int} {A : Option Addr} {n c : Nat} (h : Box w b z A n c) (hb : Below w.heap.size w w') : Box w' b z A n c :=
  ⟨Nat.lt_of_lt_of_le h.1 hb.size, (hb.cell (p := ⟨b, 0, none⟩) h.1).trans h.2.1, (hb.cell (p := ⟨b, 1, none⟩) h.1).trans h.2.2⟩
theorem Box.new (w : World) (z : Int) (A : Option Addr) (n c : Nat) (t : TypeId) : Box (w.alloc (.cells #[.int .i64 z, .slice A n c] t)) w.heap.size z A n c :=
  ⟨by simp, by simp [go_sem], by simp [go_sem]⟩

def NewVec (w : World) (z : Int) (n : Nat) (X : Nat → Int) (e : Ending) (w' : World) : Prop :=
  ∃ g, e = .returned (.agg #[.int .i64 z, .slice (some ⟨g, 0, none⟩) n n]) ∧ w.heap.size ≤ g ∧ ORow w' g n X ∧ Below w.heap.size w w'

set_option maxHeartbeats 400000 in
theorem eqBits_yes (z y : Int) (A B : Option Addr) (n c d : Nat) (X Y : Nat → Int) (w : World) (hn : n ≤ 1048576) (hx : IRow w A n X) (hy : IRow w B n Y) (he : ∀ i, i < n → X i = Y i) (hz : z = y) :
    Calls Try.prog 62 #[.agg #[.int .i64 z, .slice A n c], .agg #[.int .i64 y, .slice B n d]] w (SameRow w true) := by
  subst hz
  have HX := Lib.hid hx
  have HY := Lib.hid hy
  have HE := Lib.hid he
  clear hx hy he
  go_enter Try.func62, Try.ntmps62
  go_wp2_with fail
  have HA : Below w.heap.size w ((w.alloc (Obj.cells #[Value.int IntKind.i64 z, Value.slice A n c] 51)).alloc (Obj.cells #[Value.int IntKind.i64 z, Value.slice B n d] 51)) :=
    ((Below.refl _ _).alloc (Nat.le_refl _) _).alloc (by simp) _
  refine (eqIntS_yes _ _ _ _ _ X Y _ hn (HX.out.b HA) (HY.out.b HA) HE.out).mono ?_
  rintro e w1 ⟨rfl, hb⟩
  have HB := Lib.hid (HA.trans (hb.mono (by simp; omega)))
  clear HA hb
  go_wp2_with fail
  go_ret
  exact ⟨rfl, HB.out⟩

theorem grown_left {w w1 : World} {o : Obj} {r : Option Nat} (h : (w.alloc o).grownBy w1 r) : w.grownBy w1 r :=
  ⟨h.os, h.tape, h.output, by have := h.size; simp at this; omega, fun k hk hne => (h.block k (by simp; omega) hne).trans (Below.heap_alloc w o k hk)⟩

set_option maxHeartbeats 400000 in
theorem markBits_any (z : Int) (g n c : Nat) (X : Nat → Int) (k0 : Int) (w : World) (hn : n ≤ 1048576) (hx : ORow w g n X) (h0 : 0 ≤ k0) (h1 : k0 ≤ 16777216) :
    Calls Try.prog 63 #[.agg #[.int .i64 z, .slice (some ⟨g, 0, none⟩) n c], .int .i64 k0] w fun e w' => e = .returned (.int .i64 (k0 + n)) ∧ ORow w' g n (fun i => k0 + i) ∧ w.grownBy w' (some g) := by
  have HX := Lib.hid hx
  clear hx
  go_enter Try.func63, Try.ntmps63
  go_wp2_with fail
  refine (markIntS_any _ _ _ X _ _ hn (HX.out.alloc _) h0 h1).mono ?_
  rintro e w1 ⟨rfl, ho, hg⟩
  have HO := Lib.hid ho
  have HG := Lib.hid hg
  clear ho hg
  go_wp2_with fail
  go_ret
  exact ⟨rfl, HO.out, grown_left HG.out⟩

set_option maxHeartbeats 400000 in
theorem heldBits_yes (z : Int) (A : Option Addr) (n c : Nat) (X : Nat → Int) (k0 : Int) (w : World) (hn : n ≤ 1048576) (hx : IRow w A n X) (h0 : 0 ≤ k0) (h1 : k0 ≤ 16777216) (he : ∀ i : Nat, i < n → X i = k0 + i) :
    Calls Try.prog 64 #[.agg #[.int .i64 z, .slice A n c], .int .i64 k0] w fun e w' => e = .returned (.int .i64 (k0 + n)) ∧ Below w.heap.size w w' := by
  have HX := Lib.hid hx
  have HE := Lib.hid he
  clear hx he
  have h2 : ¬ (k0 + n < 0) := by omega
  go_enter Try.func64, Try.ntmps64
  go_wp2_with fail
  refine (heldIntS_yes _ _ _ X _ _ hn (HX.out.b ((Below.refl _ _).alloc (Nat.le_refl _) _)) h0 h1 HE.out).mono ?_
  rintro e w1 ⟨rfl, hb⟩
  have HB := Lib.hid hb
  clear hb
  go_wp2_with fail
  go_ret
  exact ⟨rfl, ((Below.refl _ _).alloc (Nat.le_refl _) _).trans (HB.out.mono (by simp))⟩
end Go.Proofs.Ythaipemgndahfaa
