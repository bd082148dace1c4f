/- PutField and PutBit: the program's and the model's. -/
import Derived.Test.YthaipemgndahfaaLists
namespace Go.Proofs.Ythaipemgndahfaa
open Go.RowKit

def PutOk (z : Int) (n : Nat) (X : Nat → Int) (a width v : Int) : Prop := Room z n X a width ∧ 0 ≤ v ∧ v < 2 ^ width.toNat
def putF (z : Nat) (X : Nat → Int) (a width v : Nat) (i : Nat) : Bool := decide (i < z) && (if a ≤ i ∧ i < a + width then v.testBit (i - a) else bitN (fun i => (X i).toNat) i)

/-- What stands ready for the answer: its box, not frozen; what was there is as it was. -/
structure RB (w : World) (b : Nat) (wi : World) : Prop where
  below : Below w.heap.size w wi
  box : Box wi b 0 none 0 0
  free : wi.frozen? ⟨b, 0, none⟩ = false ∧ wi.frozen? ⟨b, 1, none⟩ = false
theorem RB.b {w wi wj : World} {b : Nat} (h : RB w b wi) (hb : Below wi.heap.size wi wj) : RB w b wj :=
  ⟨h.below.trans (hb.mono h.below.size), h.box.b hb, free_below h.free h.box.1 hb⟩
theorem RB.low {w wi wj : World} {b B : Nat} (h : RB w b wi) (hb : Below B wi wj) (hw : w.heap.size ≤ B) (hB : b < B) : RB w b wj :=
  ⟨h.below.trans (hb.mono hw), ⟨Nat.lt_of_lt_of_le h.box.1 hb.size, (hb.cell (p := ⟨b, 0, none⟩) hB).trans h.box.2.1, (hb.cell (p := ⟨b, 1, none⟩) hB).trans h.box.2.2⟩,
   ⟨(hb.frozen (p := ⟨b, 0, none⟩) hB).trans h.free.1, (hb.frozen (p := ⟨b, 1, none⟩) hB).trans h.free.2⟩⟩
theorem RB.start (w : World) (o : Obj) (t : TypeId) : RB w (w.heap.size + 1) ((w.alloc o).alloc (.cells #[.int .i64 0, .slice none 0 0] t)) := by
  have h := Box.new (w.alloc o) 0 none 0 0 t
  have f := free_new (w.alloc o) #[.int .i64 0, .slice none 0 0] t
  simp only [World.size_alloc] at h f
  exact ⟨((Below.refl _ _).alloc (Nat.le_refl _) _).alloc (by simp) _, h, f⟩

theorem good_high {z : Int} {n : Nat} {X : Nat → Int} (hg : Good z n X) {i : Nat} (h1 : z ≤ i) (h2 : i < 16 * n) : bitN (fun i => (X i).toNat) i = false := by
  have hz := hg.1
  have h := hg.2.2.2 (i / 16) (by omega)
  unfold bitN
  apply Nat.testBit_lt_two_pow
  have e : cap z (i / 16) = ((2 ^ (min 16 (z.toNat - 16 * (i / 16))) : Nat) : Int) := by unfold cap; push_cast; rfl
  have h3 : (X (i / 16)).toNat < 2 ^ (min 16 (z.toNat - 16 * (i / 16))) := by rw [e] at h; omega
  exact Nat.lt_of_lt_of_le h3 (Nat.pow_le_pow_right (by omega) (by omega))

theorem setField_none (a v : Int) (w : World) : Calls Try.prog 78 #[.slice none 0 0, .int .i64 a, .int .i64 0, .int .i64 v] w fun e w' => e = .returned (.tuple #[]) ∧ w = w' := by
  go_enter Try.func78, Try.ntmps78
  go_wp2_with fail
  refine wp_loop_rounds 1 ?_
  rw [rounds_succ]
  go_wp2_with fail
  go_end0
  exact ⟨rfl, rfl⟩

/-- setField on a vector of the call's own. -/
theorem setField_own (A : Option Addr) (m B : Nat) (W : Nat → Nat) (a width v : Nat) (w : World) (hm : m ≤ 256) (ho : OVec w B A m (fun i => (W i : Int))) (hW : ∀ i, i < m → W i < 65536) (ha : a + width ≤ 16 * m) (hw : width ≤ 24) (hv : v < 16777216) (hB : B ≤ w.heap.size) :
    Calls Try.prog 78 #[.slice A m m, .int .i64 a, .int .i64 width, .int .i64 v] w fun e w' => e = .returned (.tuple #[]) ∧ (∃ W1, PutSt W m a v (a + width) W1 ∧ OVec w' B A m (fun i => (W1 i : Int))) ∧ Below B w w' := by
  rcases ho with ⟨rfl, rfl⟩ | ⟨g, rfl, hg, ho⟩
  · obtain rfl : width = 0 := by omega
    exact (setField_none _ _ w).mono fun e w' ⟨he, hw⟩ => ⟨he, ⟨W, PutSt.start W _ _ _ (fun i hi => by omega), .inl ⟨rfl, rfl⟩⟩, by subst hw; exact Below.refl _ _⟩
  · exact (impl_setField g m W a width v w hm ho hW ha hw hv).mono fun e w' ⟨he, ⟨W1, h1, h2⟩, hgr⟩ => ⟨he, ⟨W1, h1, .inr ⟨g, rfl, hg, h2⟩⟩, below_of_grown hgr hB hg⟩

end Go.Proofs.Ythaipemgndahfaa
