/- XorBits: the program's and the model's. -/
import Derived.Test.YtockhjdhihehlaaGen
import Derived.Test.YtockhjdhihehlaaPutF
namespace Go.Proofs.Ytockhjdhihehlaa
open Go.RowKit

/-- What a function of two vectors keeps from call to call: both arguments' boxes and rows. -/
structure TS (w : World) (b0 b1 : Nat) (z : Int) (A : Option Addr) (n c : Nat) (X : Nat → Int) (y : Int) (B : Option Addr) (m d : Nat) (Y : Nat → Int) (wi : World) : Prop where
  below : Below w.heap.size w wi
  row0 : IRow wi A n X
  row1 : IRow wi B m Y
  box0 : Box wi b0 z A n c
  box1 : Box wi b1 y B m d
section
variable {w wi wj : World} {b0 b1 : Nat} {z y : Int} {A B : Option Addr} {n c m d : Nat} {X Y : Nat → Int}
theorem TS.step (h : TS w b0 b1 z A n c X y B m d Y wi) (hb : Below wi.heap.size wi wj) : TS w b0 b1 z A n c X y B m d Y wj :=
  ⟨h.below.trans (hb.mono h.below.size), h.row0.b hb, h.row1.b hb, h.box0.b hb, h.box1.b hb⟩
theorem TS.low (h : TS w b0 b1 z A n c X y B m d Y wi) {L : Nat} (hb : Below L wi wj) (hr : IRow w A n X) (hs : IRow w B m Y) (hw : w.heap.size ≤ L) (h0 : b0 < L) (h1 : b1 < L) : TS w b0 b1 z A n c X y B m d Y wj :=
  ⟨h.below.trans (hb.mono hw), hr.below (h.below.trans (hb.mono hw)) (Nat.le_refl _), hs.below (h.below.trans (hb.mono hw)) (Nat.le_refl _),
   ⟨Nat.lt_of_lt_of_le h.box0.1 hb.size, (hb.cell (p := ⟨b0, 0, none⟩) h0).trans h.box0.2.1, (hb.cell (p := ⟨b0, 1, none⟩) h0).trans h.box0.2.2⟩,
   ⟨Nat.lt_of_lt_of_le h.box1.1 hb.size, (hb.cell (p := ⟨b1, 0, none⟩) h1).trans h.box1.2.1, (hb.cell (p := ⟨b1, 1, none⟩) h1).trans h.box1.2.2⟩⟩
theorem TS.start (hr : IRow w A n X) (hs : IRow w B m Y) (t : TypeId) : TS w w.heap.size (w.heap.size + 1) z A n c X y B m d Y ((w.alloc (.cells #[.int .i64 z, .slice A n c] t)).alloc (.cells #[.int .i64 y, .slice B m d] t)) := by
  have h0 : Below w.heap.size w (w.alloc (.cells #[.int .i64 z, .slice A n c] t)) := (Below.refl _ _).alloc (Nat.le_refl _) _
  have h1 : Below (w.alloc (.cells #[.int .i64 z, .slice A n c] t)).heap.size (w.alloc (.cells #[.int .i64 z, .slice A n c] t)) ((w.alloc (.cells #[.int .i64 z, .slice A n c] t)).alloc (.cells #[.int .i64 y, .slice B m d] t)) := (Below.refl _ _).alloc (Nat.le_refl _) _
  have h2 := Box.new (w.alloc (.cells #[.int .i64 z, .slice A n c] t)) y B m d t
  simp only [World.size_alloc] at h2
  exact ⟨h0.trans (h1.mono h0.size), (hr.b h0).b h1, (hs.b h0).b h1, (Box.new w z A n c t).b h1, h2⟩
end

def xorF (X Y : Nat → Int) (z : Nat) (i : Nat) : Bool := decide (i < z) && (bitN (fun i => (X i).toNat) i != bitN (fun i => (Y i).toNat) i)

theorem TS.res (w : World) (oa ob : Obj) (t : TypeId) : RB w (w.heap.size + 2) (((w.alloc oa).alloc ob).alloc (.cells #[.int .i64 0, .slice none 0 0] t)) := by
  have h := Box.new ((w.alloc oa).alloc ob) 0 none 0 0 t
  have f := free_new ((w.alloc oa).alloc ob) #[.int .i64 0, .slice none 0 0] t
  simp only [World.size_alloc] at h f
  exact ⟨(((Below.refl _ _).alloc (Nat.le_refl _) _).alloc (by simp) _).alloc (by simp; omega) _, h, f⟩

theorem xor_w (x y : Nat) (hx : x < 65536) (hy : y < 65536) : bits .xor .i64 (x : Int) (y : Int) = ((x ^^^ y : Nat) : Int) := i64_xor_nat x y (by omega) (by omega)
theorem xor_words {z n : Nat} {X Y : Nat → Int} (hg : Good z n X) (hh : Good z n Y) {k : Nat} (hk : k < n) : (X k).toNat ^^^ (Y k).toNat = wordsOf (xorF X Y z) k := by
  have e1 : ∀ i, i < 16 * n → bitN (fun k => (X k).toNat ^^^ (Y k).toNat) i = (bitN (fun i => (X i).toNat) i != bitN (fun i => (Y i).toNat) i) := fun i _ => by
    unfold bitN; rw [Nat.testBit_xor]
  refine words_eq (W := fun k => (X k).toNat ^^^ (Y k).toNat) (m := n) (f := xorF X Y z) (fun i hi => ?_) (fun i hi => ?_) k hk
  · have h1 := hg.2.2.2 i hi; have h2 := hh.2.2.2 i hi; have h3 := cap_le z i
    exact Nat.xor_lt_two_pow (n := 16) (by omega) (by omega)
  · rw [e1 i hi]; unfold xorF
    by_cases c : i < z
    · simp [c]
    · rw [good_high hg (by omega) hi, good_high hh (by omega) hi]; simp [c]

theorem BS.step {w wi wj : World} {b0 b1 g z m k : Nat} {F : Nat → Bool} (h : BS w b0 b1 g z m k F wi) (hb : Below wi.heap.size wi wj) : BS w b0 b1 g z m k F wj :=
  ⟨h.below.trans (hb.mono h.below.size), h.box.b hb, h.rbox.b hb, free_below h.free h.rbox.1 hb, let ⟨W1, h1, h2, h3⟩ := h.words; ⟨W1, h1, h2, h3.b hb⟩⟩

end Go.Proofs.Ytockhjdhihehlaa
