/- AddTables: both sides. -/
import Derived.Test.YtijlpbcgkecinabTaW
import Derived.Test.YtijlpbcgkecinabClo
import Derived.Test.YtijlpbcgkecinabPush
import Derived.Deep.DeepCutAuto
namespace Go.Proofs.Ytijlpbcgkecinab
open Go.RowKit

/-- Two boxed structs with a row of ints each, and the answer's box. -/
structure U2 (w : World) (ca cb cr : Array Value) (t : TypeId) (A : Option Addr) (n : Nat) (X : Nat → Int) (B : Option Addr) (m : Nat) (Y : Nat → Int) (wi : World) : Prop where
  below : Below w.heap.size w wi
  ba : NBX w.heap.size w.heap.size ca t wi
  bb : NBX w.heap.size (w.heap.size + 1) cb t wi
  res : NBX w.heap.size (w.heap.size + 2) cr t wi
  ra : IRow wi A n X
  rb : IRow wi B m Y
section
variable {w wi wj : World} {ca cb cr : Array Value} {t : TypeId} {A B : Option Addr} {n m : Nat} {X Y : Nat → Int}
theorem U2.step (h : U2 w ca cb cr t A n X B m Y wi) (hb : Below wi.heap.size wi wj) : U2 w ca cb cr t A n X B m Y wj :=
  ⟨h.below.trans (hb.mono h.below.size), h.ba.b hb, h.bb.b hb, h.res.b hb, h.ra.b hb, h.rb.b hb⟩
theorem U2.al (h : U2 w ca cb cr t A n X B m Y wi) (o : Obj) : U2 w ca cb cr t A n X B m Y (wi.alloc o) := h.step ((Below.refl _ _).alloc (Nat.le_refl _) o)
theorem U2.low (h : U2 w ca cb cr t A n X B m Y wi) {L : Nat} (hb : Below L wi wj) (ha : IRow w A n X) (hr : IRow w B m Y) (hL : w.heap.size + 3 ≤ L) : U2 w ca cb cr t A n X B m Y wj := by
  have hbl := h.below.trans (hb.mono (show w.heap.size ≤ L by omega))
  exact ⟨hbl, ⟨(hb.block _ (by omega)).trans h.ba.blk, h.ba.ge⟩, ⟨(hb.block _ (by omega)).trans h.bb.blk, h.bb.ge⟩, ⟨(hb.block _ (by omega)).trans h.res.blk, h.res.ge⟩, ha.b hbl, hr.b hbl⟩
theorem U2.start (ha : IRow w A n X) (hr : IRow w B m Y) : U2 w ca cb cr t A n X B m Y (((w.alloc (.cells ca t)).alloc (.cells cb t)).alloc (.cells cr t)) := by
  have h0 := (Below.refl w.heap.size w).alloc (Nat.le_refl _) (.cells ca t)
  have h1 := (Below.refl (w.alloc (.cells ca t)).heap.size _).alloc (Nat.le_refl _) (.cells cb t)
  have h2 := (Below.refl ((w.alloc (.cells ca t)).alloc (.cells cb t)).heap.size _).alloc (Nat.le_refl _) (.cells cr t)
  have n1 := nbx0 (w.alloc (.cells ca t)) cb t
  have n2 := nbx0 ((w.alloc (.cells ca t)).alloc (.cells cb t)) cr t
  simp only [World.size_alloc] at n1 n2
  exact ⟨(h0.trans (h1.mono (by simp))).trans (h2.mono (by simp; omega)), ((nbx0 w _ _).b h1).b h2, (NBX.mk n1.blk (by omega) : NBX w.heap.size (w.heap.size + 1) cb t _).b h2, ⟨n2.blk, by omega⟩, ((ha.b h0).b h1).b h2, ((hr.b h0).b h1).b h2⟩
end
theorem vec_pos {w : World} {B n c : Nat} {A : Option Addr} {F : Nat → Value} (h : w.ownsRow B 3 1 (.slice A n c) n (vals F n)) (h0 : 0 < n) : ∃ g, A = some ⟨g, 0, none⟩ ∧ B ≤ g ∧ GOwn w 3 g n F := by
  rcases owned_vec h with e | h
  · omega
  · exact h
theorem own_setA {w : World} {B : Nat} {e : TypeId} {A : Option Addr} {k c : Nat} {xs : List Value} (h : w.ownsRow B e 1 (.slice A k c) k xs) {b o : Nat} (hb : b < B) (v : Value) : (w.setCell ⟨b, o, none⟩ v).ownsRow B e 1 (.slice A k c) k xs :=
  h.kept (grown_setCell (World.grownBy.refl w _) o v) (by
    by_cases e : (Value.slice A k c).ownBlock = none
    · exact .inl e
    · refine .inr (fun e2 => ?_)
      have := (h.lt b e2).1
      omega)
theorem ow_setA {w : World} {lo hi b o n : Nat} {t : TypeId} {A : Option Addr} {F : Nat → Value} (h : Ow lo hi t A n F w) (hb : b < lo) (v : Value) : Ow lo hi t A n F (w.setCell ⟨b, o, none⟩ v) := fun h0 => by
  obtain ⟨g, off, c, h1, h2, h3, h4, h5⟩ := h h0
  exact ⟨g, off, c, h1, h2, h3, (Go.Deep.blk_setCell_other _ _ _ _ (by show g ≠ b; omega)).trans h4, h5⟩
/-- A Table with cells of one's own beside a word. -/
def TaOwn (z0 z1 z2 : Int) (n : Nat) (X : Nat → Int) (b : Bool) (w : World) (e : Ending) (w' : World) : Prop :=
  ∃ A c, e = .returned (.tuple #[.agg #[.int .i64 z0, .int .i64 z1, .int .i64 z2, .slice A n c], .bool b]) ∧ Ow w.heap.size w'.heap.size 3 A n (intV X) w' ∧ Below w.heap.size w w'
def adX (X Y : Nat → Int) (i : Nat) : Int := (((X i).toNat ^^^ (Y i).toNat : Nat) : Int)
theorem adX_is {X Y : Nat → Int} {n i : Nat} (hx : InAll n X 0 255) (hy : InAll n Y 0 255) (hi : i < n) : bits .xor .i64 (X i) (Y i) = adX X Y i := by
  have h1 := hx i hi
  have h2 := hy i hi
  obtain ⟨a, ha⟩ := Int.eq_ofNat_of_zero_le h1.1
  obtain ⟨b, hb⟩ := Int.eq_ofNat_of_zero_le h2.1
  unfold adX
  rw [ha, hb, Int.toNat_natCast, Int.toNat_natCast]
  exact i64_xor_nat a b (by omega) (by omega)
def AdOk (z0 z1 z2 : Int) (n : Nat) (X : Nat → Int) (y0 y1 y2 : Int) (m : Nat) (Y : Nat → Int) : Prop := TaV z0 z1 z2 n X ∧ TaV y0 y1 y2 m Y ∧ z0 = y0 ∧ z1 = y1 ∧ z2 = y2
section
variable {w : World} {z0 z1 z2 y0 y1 y2 : Int} {A B : Option Addr} {n c m d : Nat} {X Y : Nat → Int}

set_option maxRecDepth 100000 in
set_option maxHeartbeats 4000000 in
theorem impl_addTables_no (hn : n ≤ 1048576) (hm : m ≤ 1048576) (hra : IRow w A n X) (hrb : IRow w B m Y) (hno : ¬ AdOk z0 z1 z2 n X y0 y1 y2 m Y) :
    Calls Try.prog 18 #[.agg #[.int .i64 z0, .int .i64 z1, .int .i64 z2, .slice A n c], .agg #[.int .i64 y0, .int .i64 y1, .int .i64 y2, .slice B m d]] w (TaOwn 0 0 0 0 (fun _ => 0) false w) := by
  have S0 := Lib.hid (U2.start (ca := #[.int .i64 z0, .int .i64 z1, .int .i64 z2, .slice A n c]) (cb := #[.int .i64 y0, .int .i64 y1, .int .i64 y2, .slice B m d]) (cr := #[.int .i64 0, .int .i64 0, .int .i64 0, .slice none 0 0]) (t := 27) hra hrb)
  clear hra hrb
  by_cases h1 : TaV z0 z1 z2 n X
  rotate_left
  · have x0 := S0.out.ba.cell 0 _ rfl
    have x1 := S0.out.ba.cell 1 _ rfl
    have x2 := S0.out.ba.cell 2 _ rfl
    have x3 := S0.out.ba.cell 3 _ rfl
    have v0 := S0.out.bb.cell 0 _ rfl
    have v1 := S0.out.bb.cell 1 _ rfl
    have v2 := S0.out.bb.cell 2 _ rfl
    have v3 := S0.out.bb.cell 3 _ rfl
    have r0 := S0.out.res.cell 0 _ rfl
    have r1 := S0.out.res.cell 1 _ rfl
    have r2 := S0.out.res.cell 2 _ rfl
    have r3 := S0.out.res.cell 3 _ rfl
    have g0 := S0.out.res.free 0
    have g1 := S0.out.res.free 1
    have g2 := S0.out.res.free 2
    have g3 := S0.out.res.free 3
    go_enter Try.func18, Try.ntmps18
    go_wp2_with fail
    refine (impl_isTable (b := false) (by simp [h1]) hn S0.out.ra).mono ?_; rintro e1 w1 ⟨rfl, hw⟩
    have S1 := Lib.hid (S0.out.step hw)
    clear x0 x1 x2 x3 v0 v1 v2 v3 r0 r1 r2 r3 g0 g1 g2 g3 hw
    have x0 := S1.out.ba.cell 0 _ rfl
    have x1 := S1.out.ba.cell 1 _ rfl
    have x2 := S1.out.ba.cell 2 _ rfl
    have x3 := S1.out.ba.cell 3 _ rfl
    have v0 := S1.out.bb.cell 0 _ rfl
    have v1 := S1.out.bb.cell 1 _ rfl
    have v2 := S1.out.bb.cell 2 _ rfl
    have v3 := S1.out.bb.cell 3 _ rfl
    have r0 := S1.out.res.cell 0 _ rfl
    have r1 := S1.out.res.cell 1 _ rfl
    have r2 := S1.out.res.cell 2 _ rfl
    have r3 := S1.out.res.cell 3 _ rfl
    have g0 := S1.out.res.free 0
    have g1 := S1.out.res.free 1
    have g2 := S1.out.res.free 2
    have g3 := S1.out.res.free 3
    go_wp2_with fail
    have N4 := Lib.hid ((((S1.out.res.set 0 (.int .i64 0)).set 1 (.int .i64 0)).set 2 (.int .i64 0)).set 3 (.slice none 0 0))
    have s0 := N4.out.cell 0 (.int .i64 0) (by simp)
    have s1 := N4.out.cell 1 (.int .i64 0) (by simp)
    have s2 := N4.out.cell 2 (.int .i64 0) (by simp)
    have s3 := N4.out.cell 3 (.slice none 0 0) (by simp)
    refine bodyPost_ret (v := .tuple #[.agg #[.int .i64 0, .int .i64 0, .int .i64 0, .slice none 0 0], .bool false]) (by simp [results, Try.results18, go_sem, s0, s1, s2, s3]) rfl ?_
    exact ⟨none, 0, rfl, ow_zero _ _ _ _ _ _, below_setAt (below_setAt (below_setAt (below_setAt S1.out.below (by omega) _) (by omega) _) (by omega) _) (by omega) _⟩
  by_cases h2 : TaV y0 y1 y2 m Y
  rotate_left
  · have x0 := S0.out.ba.cell 0 _ rfl
    have x1 := S0.out.ba.cell 1 _ rfl
    have x2 := S0.out.ba.cell 2 _ rfl
    have x3 := S0.out.ba.cell 3 _ rfl
    have v0 := S0.out.bb.cell 0 _ rfl
    have v1 := S0.out.bb.cell 1 _ rfl
    have v2 := S0.out.bb.cell 2 _ rfl
    have v3 := S0.out.bb.cell 3 _ rfl
    have r0 := S0.out.res.cell 0 _ rfl
    have r1 := S0.out.res.cell 1 _ rfl
    have r2 := S0.out.res.cell 2 _ rfl
    have r3 := S0.out.res.cell 3 _ rfl
    have g0 := S0.out.res.free 0
    have g1 := S0.out.res.free 1
    have g2 := S0.out.res.free 2
    have g3 := S0.out.res.free 3
    go_enter Try.func18, Try.ntmps18
    go_wp2_with fail
    refine (impl_isTable (b := true) (by simp [h1]) hn S0.out.ra).mono ?_; rintro e1 w1 ⟨rfl, hw⟩
    have S1 := Lib.hid (S0.out.step hw)
    clear x0 x1 x2 x3 v0 v1 v2 v3 r0 r1 r2 r3 g0 g1 g2 g3 hw
    have x0 := S1.out.ba.cell 0 _ rfl
    have x1 := S1.out.ba.cell 1 _ rfl
    have x2 := S1.out.ba.cell 2 _ rfl
    have x3 := S1.out.ba.cell 3 _ rfl
    have v0 := S1.out.bb.cell 0 _ rfl
    have v1 := S1.out.bb.cell 1 _ rfl
    have v2 := S1.out.bb.cell 2 _ rfl
    have v3 := S1.out.bb.cell 3 _ rfl
    have r0 := S1.out.res.cell 0 _ rfl
    have r1 := S1.out.res.cell 1 _ rfl
    have r2 := S1.out.res.cell 2 _ rfl
    have r3 := S1.out.res.cell 3 _ rfl
    have g0 := S1.out.res.free 0
    have g1 := S1.out.res.free 1
    have g2 := S1.out.res.free 2
    have g3 := S1.out.res.free 3
    go_wp2_with fail
    refine (impl_isTable (b := false) (by simp [h2]) hm S1.out.rb).mono ?_; rintro e2 w2 ⟨rfl, hw⟩
    have S2 := Lib.hid (S1.out.step hw)
    clear x0 x1 x2 x3 v0 v1 v2 v3 r0 r1 r2 r3 g0 g1 g2 g3 hw
    have x0 := S2.out.ba.cell 0 _ rfl
    have x1 := S2.out.ba.cell 1 _ rfl
    have x2 := S2.out.ba.cell 2 _ rfl
    have x3 := S2.out.ba.cell 3 _ rfl
    have v0 := S2.out.bb.cell 0 _ rfl
    have v1 := S2.out.bb.cell 1 _ rfl
    have v2 := S2.out.bb.cell 2 _ rfl
    have v3 := S2.out.bb.cell 3 _ rfl
    have r0 := S2.out.res.cell 0 _ rfl
    have r1 := S2.out.res.cell 1 _ rfl
    have r2 := S2.out.res.cell 2 _ rfl
    have r3 := S2.out.res.cell 3 _ rfl
    have g0 := S2.out.res.free 0
    have g1 := S2.out.res.free 1
    have g2 := S2.out.res.free 2
    have g3 := S2.out.res.free 3
    go_wp2_with fail
    have N4 := Lib.hid ((((S2.out.res.set 0 (.int .i64 0)).set 1 (.int .i64 0)).set 2 (.int .i64 0)).set 3 (.slice none 0 0))
    have s0 := N4.out.cell 0 (.int .i64 0) (by simp)
    have s1 := N4.out.cell 1 (.int .i64 0) (by simp)
    have s2 := N4.out.cell 2 (.int .i64 0) (by simp)
    have s3 := N4.out.cell 3 (.slice none 0 0) (by simp)
    refine bodyPost_ret (v := .tuple #[.agg #[.int .i64 0, .int .i64 0, .int .i64 0, .slice none 0 0], .bool false]) (by simp [results, Try.results18, go_sem, s0, s1, s2, s3]) rfl ?_
    exact ⟨none, 0, rfl, ow_zero _ _ _ _ _ _, below_setAt (below_setAt (below_setAt (below_setAt S2.out.below (by omega) _) (by omega) _) (by omega) _) (by omega) _⟩
  by_cases q0 : z0 = y0
  rotate_left
  · have e0 : (z0 == y0) = false := by simpa using q0
    have e0' : (z0 != y0) = true := by simp [q0]
    have Q := Lib.hid q0
    clear q0
    have x0 := S0.out.ba.cell 0 _ rfl
    have x1 := S0.out.ba.cell 1 _ rfl
    have x2 := S0.out.ba.cell 2 _ rfl
    have x3 := S0.out.ba.cell 3 _ rfl
    have v0 := S0.out.bb.cell 0 _ rfl
    have v1 := S0.out.bb.cell 1 _ rfl
    have v2 := S0.out.bb.cell 2 _ rfl
    have v3 := S0.out.bb.cell 3 _ rfl
    have r0 := S0.out.res.cell 0 _ rfl
    have r1 := S0.out.res.cell 1 _ rfl
    have r2 := S0.out.res.cell 2 _ rfl
    have r3 := S0.out.res.cell 3 _ rfl
    have g0 := S0.out.res.free 0
    have g1 := S0.out.res.free 1
    have g2 := S0.out.res.free 2
    have g3 := S0.out.res.free 3
    go_enter Try.func18, Try.ntmps18
    go_wp2_with fail
    refine (impl_isTable (b := true) (by simp [h1]) hn S0.out.ra).mono ?_; rintro e1 w1 ⟨rfl, hw⟩
    have S1 := Lib.hid (S0.out.step hw)
    clear x0 x1 x2 x3 v0 v1 v2 v3 r0 r1 r2 r3 g0 g1 g2 g3 hw
    have x0 := S1.out.ba.cell 0 _ rfl
    have x1 := S1.out.ba.cell 1 _ rfl
    have x2 := S1.out.ba.cell 2 _ rfl
    have x3 := S1.out.ba.cell 3 _ rfl
    have v0 := S1.out.bb.cell 0 _ rfl
    have v1 := S1.out.bb.cell 1 _ rfl
    have v2 := S1.out.bb.cell 2 _ rfl
    have v3 := S1.out.bb.cell 3 _ rfl
    have r0 := S1.out.res.cell 0 _ rfl
    have r1 := S1.out.res.cell 1 _ rfl
    have r2 := S1.out.res.cell 2 _ rfl
    have r3 := S1.out.res.cell 3 _ rfl
    have g0 := S1.out.res.free 0
    have g1 := S1.out.res.free 1
    have g2 := S1.out.res.free 2
    have g3 := S1.out.res.free 3
    go_wp2_with fail
    refine (impl_isTable (b := true) (by simp [h2]) hm S1.out.rb).mono ?_; rintro e2 w2 ⟨rfl, hw⟩
    have S2 := Lib.hid (S1.out.step hw)
    clear x0 x1 x2 x3 v0 v1 v2 v3 r0 r1 r2 r3 g0 g1 g2 g3 hw
    have x0 := S2.out.ba.cell 0 _ rfl
    have x1 := S2.out.ba.cell 1 _ rfl
    have x2 := S2.out.ba.cell 2 _ rfl
    have x3 := S2.out.ba.cell 3 _ rfl
    have v0 := S2.out.bb.cell 0 _ rfl
    have v1 := S2.out.bb.cell 1 _ rfl
    have v2 := S2.out.bb.cell 2 _ rfl
    have v3 := S2.out.bb.cell 3 _ rfl
    have r0 := S2.out.res.cell 0 _ rfl
    have r1 := S2.out.res.cell 1 _ rfl
    have r2 := S2.out.res.cell 2 _ rfl
    have r3 := S2.out.res.cell 3 _ rfl
    have g0 := S2.out.res.free 0
    have g1 := S2.out.res.free 1
    have g2 := S2.out.res.free 2
    have g3 := S2.out.res.free 3
    go_wp2_with fail
    have N4 := Lib.hid ((((S2.out.res.set 0 (.int .i64 0)).set 1 (.int .i64 0)).set 2 (.int .i64 0)).set 3 (.slice none 0 0))
    have s0 := N4.out.cell 0 (.int .i64 0) (by simp)
    have s1 := N4.out.cell 1 (.int .i64 0) (by simp)
    have s2 := N4.out.cell 2 (.int .i64 0) (by simp)
    have s3 := N4.out.cell 3 (.slice none 0 0) (by simp)
    refine bodyPost_ret (v := .tuple #[.agg #[.int .i64 0, .int .i64 0, .int .i64 0, .slice none 0 0], .bool false]) (by simp [results, Try.results18, go_sem, s0, s1, s2, s3]) rfl ?_
    exact ⟨none, 0, rfl, ow_zero _ _ _ _ _ _, below_setAt (below_setAt (below_setAt (below_setAt S2.out.below (by omega) _) (by omega) _) (by omega) _) (by omega) _⟩
  subst q0
  by_cases q1 : z1 = y1
  rotate_left
  · have e1 : (z1 == y1) = false := by simpa using q1
    have e1' : (z1 != y1) = true := by simp [q1]
    have Q := Lib.hid q1
    clear q1
    have x0 := S0.out.ba.cell 0 _ rfl
    have x1 := S0.out.ba.cell 1 _ rfl
    have x2 := S0.out.ba.cell 2 _ rfl
    have x3 := S0.out.ba.cell 3 _ rfl
    have v0 := S0.out.bb.cell 0 _ rfl
    have v1 := S0.out.bb.cell 1 _ rfl
    have v2 := S0.out.bb.cell 2 _ rfl
    have v3 := S0.out.bb.cell 3 _ rfl
    have r0 := S0.out.res.cell 0 _ rfl
    have r1 := S0.out.res.cell 1 _ rfl
    have r2 := S0.out.res.cell 2 _ rfl
    have r3 := S0.out.res.cell 3 _ rfl
    have g0 := S0.out.res.free 0
    have g1 := S0.out.res.free 1
    have g2 := S0.out.res.free 2
    have g3 := S0.out.res.free 3
    go_enter Try.func18, Try.ntmps18
    go_wp2_with fail
    refine (impl_isTable (b := true) (by simp [h1]) hn S0.out.ra).mono ?_; rintro e1 w1 ⟨rfl, hw⟩
    have S1 := Lib.hid (S0.out.step hw)
    clear x0 x1 x2 x3 v0 v1 v2 v3 r0 r1 r2 r3 g0 g1 g2 g3 hw
    have x0 := S1.out.ba.cell 0 _ rfl
    have x1 := S1.out.ba.cell 1 _ rfl
    have x2 := S1.out.ba.cell 2 _ rfl
    have x3 := S1.out.ba.cell 3 _ rfl
    have v0 := S1.out.bb.cell 0 _ rfl
    have v1 := S1.out.bb.cell 1 _ rfl
    have v2 := S1.out.bb.cell 2 _ rfl
    have v3 := S1.out.bb.cell 3 _ rfl
    have r0 := S1.out.res.cell 0 _ rfl
    have r1 := S1.out.res.cell 1 _ rfl
    have r2 := S1.out.res.cell 2 _ rfl
    have r3 := S1.out.res.cell 3 _ rfl
    have g0 := S1.out.res.free 0
    have g1 := S1.out.res.free 1
    have g2 := S1.out.res.free 2
    have g3 := S1.out.res.free 3
    go_wp2_with fail
    refine (impl_isTable (b := true) (by simp [h2]) hm S1.out.rb).mono ?_; rintro e2 w2 ⟨rfl, hw⟩
    have S2 := Lib.hid (S1.out.step hw)
    clear x0 x1 x2 x3 v0 v1 v2 v3 r0 r1 r2 r3 g0 g1 g2 g3 hw
    have x0 := S2.out.ba.cell 0 _ rfl
    have x1 := S2.out.ba.cell 1 _ rfl
    have x2 := S2.out.ba.cell 2 _ rfl
    have x3 := S2.out.ba.cell 3 _ rfl
    have v0 := S2.out.bb.cell 0 _ rfl
    have v1 := S2.out.bb.cell 1 _ rfl
    have v2 := S2.out.bb.cell 2 _ rfl
    have v3 := S2.out.bb.cell 3 _ rfl
    have r0 := S2.out.res.cell 0 _ rfl
    have r1 := S2.out.res.cell 1 _ rfl
    have r2 := S2.out.res.cell 2 _ rfl
    have r3 := S2.out.res.cell 3 _ rfl
    have g0 := S2.out.res.free 0
    have g1 := S2.out.res.free 1
    have g2 := S2.out.res.free 2
    have g3 := S2.out.res.free 3
    go_wp2_with fail
    have N4 := Lib.hid ((((S2.out.res.set 0 (.int .i64 0)).set 1 (.int .i64 0)).set 2 (.int .i64 0)).set 3 (.slice none 0 0))
    have s0 := N4.out.cell 0 (.int .i64 0) (by simp)
    have s1 := N4.out.cell 1 (.int .i64 0) (by simp)
    have s2 := N4.out.cell 2 (.int .i64 0) (by simp)
    have s3 := N4.out.cell 3 (.slice none 0 0) (by simp)
    refine bodyPost_ret (v := .tuple #[.agg #[.int .i64 0, .int .i64 0, .int .i64 0, .slice none 0 0], .bool false]) (by simp [results, Try.results18, go_sem, s0, s1, s2, s3]) rfl ?_
    exact ⟨none, 0, rfl, ow_zero _ _ _ _ _ _, below_setAt (below_setAt (below_setAt (below_setAt S2.out.below (by omega) _) (by omega) _) (by omega) _) (by omega) _⟩
  subst q1
  by_cases q2 : z2 = y2
  rotate_left
  · have e2 : (z2 == y2) = false := by simpa using q2
    have e2' : (z2 != y2) = true := by simp [q2]
    have Q := Lib.hid q2
    clear q2
    have x0 := S0.out.ba.cell 0 _ rfl
    have x1 := S0.out.ba.cell 1 _ rfl
    have x2 := S0.out.ba.cell 2 _ rfl
    have x3 := S0.out.ba.cell 3 _ rfl
    have v0 := S0.out.bb.cell 0 _ rfl
    have v1 := S0.out.bb.cell 1 _ rfl
    have v2 := S0.out.bb.cell 2 _ rfl
    have v3 := S0.out.bb.cell 3 _ rfl
    have r0 := S0.out.res.cell 0 _ rfl
    have r1 := S0.out.res.cell 1 _ rfl
    have r2 := S0.out.res.cell 2 _ rfl
    have r3 := S0.out.res.cell 3 _ rfl
    have g0 := S0.out.res.free 0
    have g1 := S0.out.res.free 1
    have g2 := S0.out.res.free 2
    have g3 := S0.out.res.free 3
    go_enter Try.func18, Try.ntmps18
    go_wp2_with fail
    refine (impl_isTable (b := true) (by simp [h1]) hn S0.out.ra).mono ?_; rintro e1 w1 ⟨rfl, hw⟩
    have S1 := Lib.hid (S0.out.step hw)
    clear x0 x1 x2 x3 v0 v1 v2 v3 r0 r1 r2 r3 g0 g1 g2 g3 hw
    have x0 := S1.out.ba.cell 0 _ rfl
    have x1 := S1.out.ba.cell 1 _ rfl
    have x2 := S1.out.ba.cell 2 _ rfl
    have x3 := S1.out.ba.cell 3 _ rfl
    have v0 := S1.out.bb.cell 0 _ rfl
    have v1 := S1.out.bb.cell 1 _ rfl
    have v2 := S1.out.bb.cell 2 _ rfl
    have v3 := S1.out.bb.cell 3 _ rfl
    have r0 := S1.out.res.cell 0 _ rfl
    have r1 := S1.out.res.cell 1 _ rfl
    have r2 := S1.out.res.cell 2 _ rfl
    have r3 := S1.out.res.cell 3 _ rfl
    have g0 := S1.out.res.free 0
    have g1 := S1.out.res.free 1
    have g2 := S1.out.res.free 2
    have g3 := S1.out.res.free 3
    go_wp2_with fail
    refine (impl_isTable (b := true) (by simp [h2]) hm S1.out.rb).mono ?_; rintro e2 w2 ⟨rfl, hw⟩
    have S2 := Lib.hid (S1.out.step hw)
    clear x0 x1 x2 x3 v0 v1 v2 v3 r0 r1 r2 r3 g0 g1 g2 g3 hw
    have x0 := S2.out.ba.cell 0 _ rfl
    have x1 := S2.out.ba.cell 1 _ rfl
    have x2 := S2.out.ba.cell 2 _ rfl
    have x3 := S2.out.ba.cell 3 _ rfl
    have v0 := S2.out.bb.cell 0 _ rfl
    have v1 := S2.out.bb.cell 1 _ rfl
    have v2 := S2.out.bb.cell 2 _ rfl
    have v3 := S2.out.bb.cell 3 _ rfl
    have r0 := S2.out.res.cell 0 _ rfl
    have r1 := S2.out.res.cell 1 _ rfl
    have r2 := S2.out.res.cell 2 _ rfl
    have r3 := S2.out.res.cell 3 _ rfl
    have g0 := S2.out.res.free 0
    have g1 := S2.out.res.free 1
    have g2 := S2.out.res.free 2
    have g3 := S2.out.res.free 3
    go_wp2_with fail
    have N4 := Lib.hid ((((S2.out.res.set 0 (.int .i64 0)).set 1 (.int .i64 0)).set 2 (.int .i64 0)).set 3 (.slice none 0 0))
    have s0 := N4.out.cell 0 (.int .i64 0) (by simp)
    have s1 := N4.out.cell 1 (.int .i64 0) (by simp)
    have s2 := N4.out.cell 2 (.int .i64 0) (by simp)
    have s3 := N4.out.cell 3 (.slice none 0 0) (by simp)
    refine bodyPost_ret (v := .tuple #[.agg #[.int .i64 0, .int .i64 0, .int .i64 0, .slice none 0 0], .bool false]) (by simp [results, Try.results18, go_sem, s0, s1, s2, s3]) rfl ?_
    exact ⟨none, 0, rfl, ow_zero _ _ _ _ _ _, below_setAt (below_setAt (below_setAt (below_setAt S2.out.below (by omega) _) (by omega) _) (by omega) _) (by omega) _⟩
  subst q2
  exact absurd ⟨h1, h2, rfl, rfl, rfl⟩ hno
set_option maxRecDepth 100000 in
set_option maxHeartbeats 4000000 in
theorem spec_addTables_no (hn : n ≤ 1048576) (hm : m ≤ 1048576) (hra : IRow w A n X) (hrb : IRow w B m Y) (hno : ¬ AdOk z0 z1 z2 n X y0 y1 y2 m Y) :
    Calls Try.prog 17 #[.agg #[.int .i64 z0, .int .i64 z1, .int .i64 z2, .slice A n c], .agg #[.int .i64 y0, .int .i64 y1, .int .i64 y2, .slice B m d]] w (TaOwn 0 0 0 0 (fun _ => 0) false w) := by
  have S0 := Lib.hid (U2.start (ca := #[.int .i64 z0, .int .i64 z1, .int .i64 z2, .slice A n c]) (cb := #[.int .i64 y0, .int .i64 y1, .int .i64 y2, .slice B m d]) (cr := #[.int .i64 0, .int .i64 0, .int .i64 0, .slice none 0 0]) (t := 27) hra hrb)
  clear hra hrb
  by_cases h1 : TaV z0 z1 z2 n X
  rotate_left
  · have x0 := S0.out.ba.cell 0 _ rfl
    have x1 := S0.out.ba.cell 1 _ rfl
    have x2 := S0.out.ba.cell 2 _ rfl
    have x3 := S0.out.ba.cell 3 _ rfl
    have v0 := S0.out.bb.cell 0 _ rfl
    have v1 := S0.out.bb.cell 1 _ rfl
    have v2 := S0.out.bb.cell 2 _ rfl
    have v3 := S0.out.bb.cell 3 _ rfl
    have r0 := S0.out.res.cell 0 _ rfl
    have r1 := S0.out.res.cell 1 _ rfl
    have r2 := S0.out.res.cell 2 _ rfl
    have r3 := S0.out.res.cell 3 _ rfl
    have g0 := S0.out.res.free 0
    have g1 := S0.out.res.free 1
    have g2 := S0.out.res.free 2
    have g3 := S0.out.res.free 3
    go_enter Try.func17, Try.ntmps17
    go_wp2_with fail
    refine (spec_reTable (b := false) (by simp [h1]) hn S0.out.ra).mono ?_; rintro e1 w1 ⟨rfl, hw⟩
    have S1 := Lib.hid (S0.out.step hw)
    clear x0 x1 x2 x3 v0 v1 v2 v3 r0 r1 r2 r3 g0 g1 g2 g3 hw
    have x0 := S1.out.ba.cell 0 _ rfl
    have x1 := S1.out.ba.cell 1 _ rfl
    have x2 := S1.out.ba.cell 2 _ rfl
    have x3 := S1.out.ba.cell 3 _ rfl
    have v0 := S1.out.bb.cell 0 _ rfl
    have v1 := S1.out.bb.cell 1 _ rfl
    have v2 := S1.out.bb.cell 2 _ rfl
    have v3 := S1.out.bb.cell 3 _ rfl
    have r0 := S1.out.res.cell 0 _ rfl
    have r1 := S1.out.res.cell 1 _ rfl
    have r2 := S1.out.res.cell 2 _ rfl
    have r3 := S1.out.res.cell 3 _ rfl
    have g0 := S1.out.res.free 0
    have g1 := S1.out.res.free 1
    have g2 := S1.out.res.free 2
    have g3 := S1.out.res.free 3
    go_wp2_with fail
    have N4 := Lib.hid ((((S1.out.res.set 0 (.int .i64 0)).set 1 (.int .i64 0)).set 2 (.int .i64 0)).set 3 (.slice none 0 0))
    have s0 := N4.out.cell 0 (.int .i64 0) (by simp)
    have s1 := N4.out.cell 1 (.int .i64 0) (by simp)
    have s2 := N4.out.cell 2 (.int .i64 0) (by simp)
    have s3 := N4.out.cell 3 (.slice none 0 0) (by simp)
    refine bodyPost_ret (v := .tuple #[.agg #[.int .i64 0, .int .i64 0, .int .i64 0, .slice none 0 0], .bool false]) (by simp [results, Try.results17, go_sem, s0, s1, s2, s3]) rfl ?_
    exact ⟨none, 0, rfl, ow_zero _ _ _ _ _ _, below_setAt (below_setAt (below_setAt (below_setAt S1.out.below (by omega) _) (by omega) _) (by omega) _) (by omega) _⟩
  by_cases h2 : TaV y0 y1 y2 m Y
  rotate_left
  · have x0 := S0.out.ba.cell 0 _ rfl
    have x1 := S0.out.ba.cell 1 _ rfl
    have x2 := S0.out.ba.cell 2 _ rfl
    have x3 := S0.out.ba.cell 3 _ rfl
    have v0 := S0.out.bb.cell 0 _ rfl
    have v1 := S0.out.bb.cell 1 _ rfl
    have v2 := S0.out.bb.cell 2 _ rfl
    have v3 := S0.out.bb.cell 3 _ rfl
    have r0 := S0.out.res.cell 0 _ rfl
    have r1 := S0.out.res.cell 1 _ rfl
    have r2 := S0.out.res.cell 2 _ rfl
    have r3 := S0.out.res.cell 3 _ rfl
    have g0 := S0.out.res.free 0
    have g1 := S0.out.res.free 1
    have g2 := S0.out.res.free 2
    have g3 := S0.out.res.free 3
    go_enter Try.func17, Try.ntmps17
    go_wp2_with fail
    refine (spec_reTable (b := true) (by simp [h1]) hn S0.out.ra).mono ?_; rintro e1 w1 ⟨rfl, hw⟩
    have S1 := Lib.hid (S0.out.step hw)
    clear x0 x1 x2 x3 v0 v1 v2 v3 r0 r1 r2 r3 g0 g1 g2 g3 hw
    have x0 := S1.out.ba.cell 0 _ rfl
    have x1 := S1.out.ba.cell 1 _ rfl
    have x2 := S1.out.ba.cell 2 _ rfl
    have x3 := S1.out.ba.cell 3 _ rfl
    have v0 := S1.out.bb.cell 0 _ rfl
    have v1 := S1.out.bb.cell 1 _ rfl
    have v2 := S1.out.bb.cell 2 _ rfl
    have v3 := S1.out.bb.cell 3 _ rfl
    have r0 := S1.out.res.cell 0 _ rfl
    have r1 := S1.out.res.cell 1 _ rfl
    have r2 := S1.out.res.cell 2 _ rfl
    have r3 := S1.out.res.cell 3 _ rfl
    have g0 := S1.out.res.free 0
    have g1 := S1.out.res.free 1
    have g2 := S1.out.res.free 2
    have g3 := S1.out.res.free 3
    go_wp2_with fail
    refine (spec_reTable (b := false) (by simp [h2]) hm S1.out.rb).mono ?_; rintro e2 w2 ⟨rfl, hw⟩
    have S2 := Lib.hid (S1.out.step hw)
    clear x0 x1 x2 x3 v0 v1 v2 v3 r0 r1 r2 r3 g0 g1 g2 g3 hw
    have x0 := S2.out.ba.cell 0 _ rfl
    have x1 := S2.out.ba.cell 1 _ rfl
    have x2 := S2.out.ba.cell 2 _ rfl
    have x3 := S2.out.ba.cell 3 _ rfl
    have v0 := S2.out.bb.cell 0 _ rfl
    have v1 := S2.out.bb.cell 1 _ rfl
    have v2 := S2.out.bb.cell 2 _ rfl
    have v3 := S2.out.bb.cell 3 _ rfl
    have r0 := S2.out.res.cell 0 _ rfl
    have r1 := S2.out.res.cell 1 _ rfl
    have r2 := S2.out.res.cell 2 _ rfl
    have r3 := S2.out.res.cell 3 _ rfl
    have g0 := S2.out.res.free 0
    have g1 := S2.out.res.free 1
    have g2 := S2.out.res.free 2
    have g3 := S2.out.res.free 3
    go_wp2_with fail
    have N4 := Lib.hid ((((S2.out.res.set 0 (.int .i64 0)).set 1 (.int .i64 0)).set 2 (.int .i64 0)).set 3 (.slice none 0 0))
    have s0 := N4.out.cell 0 (.int .i64 0) (by simp)
    have s1 := N4.out.cell 1 (.int .i64 0) (by simp)
    have s2 := N4.out.cell 2 (.int .i64 0) (by simp)
    have s3 := N4.out.cell 3 (.slice none 0 0) (by simp)
    refine bodyPost_ret (v := .tuple #[.agg #[.int .i64 0, .int .i64 0, .int .i64 0, .slice none 0 0], .bool false]) (by simp [results, Try.results17, go_sem, s0, s1, s2, s3]) rfl ?_
    exact ⟨none, 0, rfl, ow_zero _ _ _ _ _ _, below_setAt (below_setAt (below_setAt (below_setAt S2.out.below (by omega) _) (by omega) _) (by omega) _) (by omega) _⟩
  by_cases q0 : z0 = y0
  rotate_left
  · have e0 : (z0 == y0) = false := by simpa using q0
    have e0' : (z0 != y0) = true := by simp [q0]
    have Q := Lib.hid q0
    clear q0
    have x0 := S0.out.ba.cell 0 _ rfl
    have x1 := S0.out.ba.cell 1 _ rfl
    have x2 := S0.out.ba.cell 2 _ rfl
    have x3 := S0.out.ba.cell 3 _ rfl
    have v0 := S0.out.bb.cell 0 _ rfl
    have v1 := S0.out.bb.cell 1 _ rfl
    have v2 := S0.out.bb.cell 2 _ rfl
    have v3 := S0.out.bb.cell 3 _ rfl
    have r0 := S0.out.res.cell 0 _ rfl
    have r1 := S0.out.res.cell 1 _ rfl
    have r2 := S0.out.res.cell 2 _ rfl
    have r3 := S0.out.res.cell 3 _ rfl
    have g0 := S0.out.res.free 0
    have g1 := S0.out.res.free 1
    have g2 := S0.out.res.free 2
    have g3 := S0.out.res.free 3
    go_enter Try.func17, Try.ntmps17
    go_wp2_with fail
    refine (spec_reTable (b := true) (by simp [h1]) hn S0.out.ra).mono ?_; rintro e1 w1 ⟨rfl, hw⟩
    have S1 := Lib.hid (S0.out.step hw)
    clear x0 x1 x2 x3 v0 v1 v2 v3 r0 r1 r2 r3 g0 g1 g2 g3 hw
    have x0 := S1.out.ba.cell 0 _ rfl
    have x1 := S1.out.ba.cell 1 _ rfl
    have x2 := S1.out.ba.cell 2 _ rfl
    have x3 := S1.out.ba.cell 3 _ rfl
    have v0 := S1.out.bb.cell 0 _ rfl
    have v1 := S1.out.bb.cell 1 _ rfl
    have v2 := S1.out.bb.cell 2 _ rfl
    have v3 := S1.out.bb.cell 3 _ rfl
    have r0 := S1.out.res.cell 0 _ rfl
    have r1 := S1.out.res.cell 1 _ rfl
    have r2 := S1.out.res.cell 2 _ rfl
    have r3 := S1.out.res.cell 3 _ rfl
    have g0 := S1.out.res.free 0
    have g1 := S1.out.res.free 1
    have g2 := S1.out.res.free 2
    have g3 := S1.out.res.free 3
    go_wp2_with fail
    refine (spec_reTable (b := true) (by simp [h2]) hm S1.out.rb).mono ?_; rintro e2 w2 ⟨rfl, hw⟩
    have S2 := Lib.hid (S1.out.step hw)
    clear x0 x1 x2 x3 v0 v1 v2 v3 r0 r1 r2 r3 g0 g1 g2 g3 hw
    have x0 := S2.out.ba.cell 0 _ rfl
    have x1 := S2.out.ba.cell 1 _ rfl
    have x2 := S2.out.ba.cell 2 _ rfl
    have x3 := S2.out.ba.cell 3 _ rfl
    have v0 := S2.out.bb.cell 0 _ rfl
    have v1 := S2.out.bb.cell 1 _ rfl
    have v2 := S2.out.bb.cell 2 _ rfl
    have v3 := S2.out.bb.cell 3 _ rfl
    have r0 := S2.out.res.cell 0 _ rfl
    have r1 := S2.out.res.cell 1 _ rfl
    have r2 := S2.out.res.cell 2 _ rfl
    have r3 := S2.out.res.cell 3 _ rfl
    have g0 := S2.out.res.free 0
    have g1 := S2.out.res.free 1
    have g2 := S2.out.res.free 2
    have g3 := S2.out.res.free 3
    go_wp2_with fail
    have N4 := Lib.hid ((((S2.out.res.set 0 (.int .i64 0)).set 1 (.int .i64 0)).set 2 (.int .i64 0)).set 3 (.slice none 0 0))
    have s0 := N4.out.cell 0 (.int .i64 0) (by simp)
    have s1 := N4.out.cell 1 (.int .i64 0) (by simp)
    have s2 := N4.out.cell 2 (.int .i64 0) (by simp)
    have s3 := N4.out.cell 3 (.slice none 0 0) (by simp)
    refine bodyPost_ret (v := .tuple #[.agg #[.int .i64 0, .int .i64 0, .int .i64 0, .slice none 0 0], .bool false]) (by simp [results, Try.results17, go_sem, s0, s1, s2, s3]) rfl ?_
    exact ⟨none, 0, rfl, ow_zero _ _ _ _ _ _, below_setAt (below_setAt (below_setAt (below_setAt S2.out.below (by omega) _) (by omega) _) (by omega) _) (by omega) _⟩
  subst q0
  by_cases q1 : z1 = y1
  rotate_left
  · have e1 : (z1 == y1) = false := by simpa using q1
    have e1' : (z1 != y1) = true := by simp [q1]
    have Q := Lib.hid q1
    clear q1
    have x0 := S0.out.ba.cell 0 _ rfl
    have x1 := S0.out.ba.cell 1 _ rfl
    have x2 := S0.out.ba.cell 2 _ rfl
    have x3 := S0.out.ba.cell 3 _ rfl
    have v0 := S0.out.bb.cell 0 _ rfl
    have v1 := S0.out.bb.cell 1 _ rfl
    have v2 := S0.out.bb.cell 2 _ rfl
    have v3 := S0.out.bb.cell 3 _ rfl
    have r0 := S0.out.res.cell 0 _ rfl
    have r1 := S0.out.res.cell 1 _ rfl
    have r2 := S0.out.res.cell 2 _ rfl
    have r3 := S0.out.res.cell 3 _ rfl
    have g0 := S0.out.res.free 0
    have g1 := S0.out.res.free 1
    have g2 := S0.out.res.free 2
    have g3 := S0.out.res.free 3
    go_enter Try.func17, Try.ntmps17
    go_wp2_with fail
    refine (spec_reTable (b := true) (by simp [h1]) hn S0.out.ra).mono ?_; rintro e1 w1 ⟨rfl, hw⟩
    have S1 := Lib.hid (S0.out.step hw)
    clear x0 x1 x2 x3 v0 v1 v2 v3 r0 r1 r2 r3 g0 g1 g2 g3 hw
    have x0 := S1.out.ba.cell 0 _ rfl
    have x1 := S1.out.ba.cell 1 _ rfl
    have x2 := S1.out.ba.cell 2 _ rfl
    have x3 := S1.out.ba.cell 3 _ rfl
    have v0 := S1.out.bb.cell 0 _ rfl
    have v1 := S1.out.bb.cell 1 _ rfl
    have v2 := S1.out.bb.cell 2 _ rfl
    have v3 := S1.out.bb.cell 3 _ rfl
    have r0 := S1.out.res.cell 0 _ rfl
    have r1 := S1.out.res.cell 1 _ rfl
    have r2 := S1.out.res.cell 2 _ rfl
    have r3 := S1.out.res.cell 3 _ rfl
    have g0 := S1.out.res.free 0
    have g1 := S1.out.res.free 1
    have g2 := S1.out.res.free 2
    have g3 := S1.out.res.free 3
    go_wp2_with fail
    refine (spec_reTable (b := true) (by simp [h2]) hm S1.out.rb).mono ?_; rintro e2 w2 ⟨rfl, hw⟩
    have S2 := Lib.hid (S1.out.step hw)
    clear x0 x1 x2 x3 v0 v1 v2 v3 r0 r1 r2 r3 g0 g1 g2 g3 hw
    have x0 := S2.out.ba.cell 0 _ rfl
    have x1 := S2.out.ba.cell 1 _ rfl
    have x2 := S2.out.ba.cell 2 _ rfl
    have x3 := S2.out.ba.cell 3 _ rfl
    have v0 := S2.out.bb.cell 0 _ rfl
    have v1 := S2.out.bb.cell 1 _ rfl
    have v2 := S2.out.bb.cell 2 _ rfl
    have v3 := S2.out.bb.cell 3 _ rfl
    have r0 := S2.out.res.cell 0 _ rfl
    have r1 := S2.out.res.cell 1 _ rfl
    have r2 := S2.out.res.cell 2 _ rfl
    have r3 := S2.out.res.cell 3 _ rfl
    have g0 := S2.out.res.free 0
    have g1 := S2.out.res.free 1
    have g2 := S2.out.res.free 2
    have g3 := S2.out.res.free 3
    go_wp2_with fail
    have N4 := Lib.hid ((((S2.out.res.set 0 (.int .i64 0)).set 1 (.int .i64 0)).set 2 (.int .i64 0)).set 3 (.slice none 0 0))
    have s0 := N4.out.cell 0 (.int .i64 0) (by simp)
    have s1 := N4.out.cell 1 (.int .i64 0) (by simp)
    have s2 := N4.out.cell 2 (.int .i64 0) (by simp)
    have s3 := N4.out.cell 3 (.slice none 0 0) (by simp)
    refine bodyPost_ret (v := .tuple #[.agg #[.int .i64 0, .int .i64 0, .int .i64 0, .slice none 0 0], .bool false]) (by simp [results, Try.results17, go_sem, s0, s1, s2, s3]) rfl ?_
    exact ⟨none, 0, rfl, ow_zero _ _ _ _ _ _, below_setAt (below_setAt (below_setAt (below_setAt S2.out.below (by omega) _) (by omega) _) (by omega) _) (by omega) _⟩
  subst q1
  by_cases q2 : z2 = y2
  rotate_left
  · have e2 : (z2 == y2) = false := by simpa using q2
    have e2' : (z2 != y2) = true := by simp [q2]
    have Q := Lib.hid q2
    clear q2
    have x0 := S0.out.ba.cell 0 _ rfl
    have x1 := S0.out.ba.cell 1 _ rfl
    have x2 := S0.out.ba.cell 2 _ rfl
    have x3 := S0.out.ba.cell 3 _ rfl
    have v0 := S0.out.bb.cell 0 _ rfl
    have v1 := S0.out.bb.cell 1 _ rfl
    have v2 := S0.out.bb.cell 2 _ rfl
    have v3 := S0.out.bb.cell 3 _ rfl
    have r0 := S0.out.res.cell 0 _ rfl
    have r1 := S0.out.res.cell 1 _ rfl
    have r2 := S0.out.res.cell 2 _ rfl
    have r3 := S0.out.res.cell 3 _ rfl
    have g0 := S0.out.res.free 0
    have g1 := S0.out.res.free 1
    have g2 := S0.out.res.free 2
    have g3 := S0.out.res.free 3
    go_enter Try.func17, Try.ntmps17
    go_wp2_with fail
    refine (spec_reTable (b := true) (by simp [h1]) hn S0.out.ra).mono ?_; rintro e1 w1 ⟨rfl, hw⟩
    have S1 := Lib.hid (S0.out.step hw)
    clear x0 x1 x2 x3 v0 v1 v2 v3 r0 r1 r2 r3 g0 g1 g2 g3 hw
    have x0 := S1.out.ba.cell 0 _ rfl
    have x1 := S1.out.ba.cell 1 _ rfl
    have x2 := S1.out.ba.cell 2 _ rfl
    have x3 := S1.out.ba.cell 3 _ rfl
    have v0 := S1.out.bb.cell 0 _ rfl
    have v1 := S1.out.bb.cell 1 _ rfl
    have v2 := S1.out.bb.cell 2 _ rfl
    have v3 := S1.out.bb.cell 3 _ rfl
    have r0 := S1.out.res.cell 0 _ rfl
    have r1 := S1.out.res.cell 1 _ rfl
    have r2 := S1.out.res.cell 2 _ rfl
    have r3 := S1.out.res.cell 3 _ rfl
    have g0 := S1.out.res.free 0
    have g1 := S1.out.res.free 1
    have g2 := S1.out.res.free 2
    have g3 := S1.out.res.free 3
    go_wp2_with fail
    refine (spec_reTable (b := true) (by simp [h2]) hm S1.out.rb).mono ?_; rintro e2 w2 ⟨rfl, hw⟩
    have S2 := Lib.hid (S1.out.step hw)
    clear x0 x1 x2 x3 v0 v1 v2 v3 r0 r1 r2 r3 g0 g1 g2 g3 hw
    have x0 := S2.out.ba.cell 0 _ rfl
    have x1 := S2.out.ba.cell 1 _ rfl
    have x2 := S2.out.ba.cell 2 _ rfl
    have x3 := S2.out.ba.cell 3 _ rfl
    have v0 := S2.out.bb.cell 0 _ rfl
    have v1 := S2.out.bb.cell 1 _ rfl
    have v2 := S2.out.bb.cell 2 _ rfl
    have v3 := S2.out.bb.cell 3 _ rfl
    have r0 := S2.out.res.cell 0 _ rfl
    have r1 := S2.out.res.cell 1 _ rfl
    have r2 := S2.out.res.cell 2 _ rfl
    have r3 := S2.out.res.cell 3 _ rfl
    have g0 := S2.out.res.free 0
    have g1 := S2.out.res.free 1
    have g2 := S2.out.res.free 2
    have g3 := S2.out.res.free 3
    go_wp2_with fail
    have N4 := Lib.hid ((((S2.out.res.set 0 (.int .i64 0)).set 1 (.int .i64 0)).set 2 (.int .i64 0)).set 3 (.slice none 0 0))
    have s0 := N4.out.cell 0 (.int .i64 0) (by simp)
    have s1 := N4.out.cell 1 (.int .i64 0) (by simp)
    have s2 := N4.out.cell 2 (.int .i64 0) (by simp)
    have s3 := N4.out.cell 3 (.slice none 0 0) (by simp)
    refine bodyPost_ret (v := .tuple #[.agg #[.int .i64 0, .int .i64 0, .int .i64 0, .slice none 0 0], .bool false]) (by simp [results, Try.results17, go_sem, s0, s1, s2, s3]) rfl ?_
    exact ⟨none, 0, rfl, ow_zero _ _ _ _ _ _, below_setAt (below_setAt (below_setAt (below_setAt S2.out.below (by omega) _) (by omega) _) (by omega) _) (by omega) _⟩
  subst q2
  exact absurd ⟨h1, h2, rfl, rfl, rfl⟩ hno
set_option maxRecDepth 100000 in
set_option maxHeartbeats 4000000 in
theorem impl_addTables (hra : IRow w A n X) (hrb : IRow w B n Y) (h1 : TaV z0 z1 z2 n X) (h2 : TaV z0 z1 z2 n Y) :
    Calls Try.prog 18 #[.agg #[.int .i64 z0, .int .i64 z1, .int .i64 z2, .slice A n c], .agg #[.int .i64 z0, .int .i64 z1, .int .i64 z2, .slice B n d]] w (TaOwn z0 z1 z2 n (adX X Y) true w) := by
  have S0 := Lib.hid (U2.start (ca := #[.int .i64 z0, .int .i64 z1, .int .i64 z2, .slice A n c]) (cb := #[.int .i64 z0, .int .i64 z1, .int .i64 z2, .slice B n d]) (cr := #[.int .i64 0, .int .i64 0, .int .i64 0, .slice none 0 0]) (t := 27) hra hrb)
  have hn3 : 0 < n := by have := h1.2.1; have := h1.2.2.2.1; omega
  have hn72 : n ≤ 72 := by have := h1.2.1; have := h1.2.2.2.1; omega
  have hn : n ≤ 1048576 := by omega
  have hm : n ≤ 1048576 := by omega
  have HXY := Lib.hid (fun i (hi : i < n) => adX_is h1.all h2.all hi)
  have HRA := Lib.hid hra
  have HRB := Lib.hid hrb
  clear hra hrb
  have x0 := S0.out.ba.cell 0 _ rfl
  have x1 := S0.out.ba.cell 1 _ rfl
  have x2 := S0.out.ba.cell 2 _ rfl
  have x3 := S0.out.ba.cell 3 _ rfl
  have v0 := S0.out.bb.cell 0 _ rfl
  have v1 := S0.out.bb.cell 1 _ rfl
  have v2 := S0.out.bb.cell 2 _ rfl
  have v3 := S0.out.bb.cell 3 _ rfl
  have r0 := S0.out.res.cell 0 _ rfl
  have r1 := S0.out.res.cell 1 _ rfl
  have r2 := S0.out.res.cell 2 _ rfl
  have r3 := S0.out.res.cell 3 _ rfl
  have g0 := S0.out.res.free 0
  have g1 := S0.out.res.free 1
  have g2 := S0.out.res.free 2
  have g3 := S0.out.res.free 3
  go_enter Try.func18, Try.ntmps18
  go_wp2_with fail
  refine (impl_isTable (b := true) (by simp [h1]) hn S0.out.ra).mono ?_; rintro e1 w1 ⟨rfl, hw⟩
  have S1 := Lib.hid (S0.out.step hw)
  clear x0 x1 x2 x3 v0 v1 v2 v3 r0 r1 r2 r3 g0 g1 g2 g3 hw
  have x0 := S1.out.ba.cell 0 _ rfl
  have x1 := S1.out.ba.cell 1 _ rfl
  have x2 := S1.out.ba.cell 2 _ rfl
  have x3 := S1.out.ba.cell 3 _ rfl
  have v0 := S1.out.bb.cell 0 _ rfl
  have v1 := S1.out.bb.cell 1 _ rfl
  have v2 := S1.out.bb.cell 2 _ rfl
  have v3 := S1.out.bb.cell 3 _ rfl
  have r0 := S1.out.res.cell 0 _ rfl
  have r1 := S1.out.res.cell 1 _ rfl
  have r2 := S1.out.res.cell 2 _ rfl
  have r3 := S1.out.res.cell 3 _ rfl
  have g0 := S1.out.res.free 0
  have g1 := S1.out.res.free 1
  have g2 := S1.out.res.free 2
  have g3 := S1.out.res.free 3
  go_wp2_with fail
  refine (impl_isTable (b := true) (by simp [h2]) hm S1.out.rb).mono ?_; rintro e2 w2 ⟨rfl, hw⟩
  have S2 := Lib.hid (S1.out.step hw)
  clear x0 x1 x2 x3 v0 v1 v2 v3 r0 r1 r2 r3 g0 g1 g2 g3 hw
  have x0 := S2.out.ba.cell 0 _ rfl
  have x1 := S2.out.ba.cell 1 _ rfl
  have x2 := S2.out.ba.cell 2 _ rfl
  have x3 := S2.out.ba.cell 3 _ rfl
  have v0 := S2.out.bb.cell 0 _ rfl
  have v1 := S2.out.bb.cell 1 _ rfl
  have v2 := S2.out.bb.cell 2 _ rfl
  have v3 := S2.out.bb.cell 3 _ rfl
  have r0 := S2.out.res.cell 0 _ rfl
  have r1 := S2.out.res.cell 1 _ rfl
  have r2 := S2.out.res.cell 2 _ rfl
  have r3 := S2.out.res.cell 3 _ rfl
  have g0 := S2.out.res.free 0
  have g1 := S2.out.res.free 1
  have g2 := S2.out.res.free 2
  have g3 := S2.out.res.free 3
  have hs2 := S2.out.res.lt
  go_upto_region 3 with fail
  have hcur : w2.heap.size ≤ w2.heap.size := Nat.le_refl _
  have HK := Lib.hid (fun (w' : World) (hb : Below w2.heap.size w2 w') => (show w'.cell? ⟨w.heap.size, 0, none⟩ = some (.int .i64 z0) ∧ w'.cell? ⟨w.heap.size, 1, none⟩ = some (.int .i64 z1) ∧ w'.cell? ⟨w.heap.size, 2, none⟩ = some (.int .i64 z2) ∧ w'.cell? ⟨w.heap.size, 3, none⟩ = some (.slice A n c) from ⟨(S2.out.step hb).ba.cell 0 _ rfl, (S2.out.step hb).ba.cell 1 _ rfl, (S2.out.step hb).ba.cell 2 _ rfl, (S2.out.step hb).ba.cell 3 _ rfl⟩))
  have SD := Lib.hid (S2.out.step (Below.drew (Below.refl _ _)))
  go_cut [6] (fun s6 wx => ∃ (q g cc : Nat), s6 = .pointer (some ⟨q, 0, none⟩) ∧ w2.heap.size ≤ q ∧ w2.heap.size ≤ g ∧ q ≠ g ∧ At q (q + 1) (BoxC q [.int .i64 z0, .int .i64 z1, .int .i64 z2, .slice (some ⟨g, 0, none⟩) n cc]) wx ∧ GOwn wx 3 g n (intV X) ∧ Below w2.heap.size w2 wx)
  case first =>
    go_region_held3 (fun w' => w'.cell? ⟨w.heap.size, 0, none⟩ = some (.int .i64 z0) ∧ w'.cell? ⟨w.heap.size, 1, none⟩ = some (.int .i64 z1) ∧ w'.cell? ⟨w.heap.size, 2, none⟩ = some (.int .i64 z2) ∧ w'.cell? ⟨w.heap.size, 3, none⟩ = some (.slice A n c))
      (first | (go_keep; done) | exact HK.out _ (below_setAt (below_setAt (below_setAt (below_setAt hq1 NB.ge _) NB.ge _) NB.ge _) NB.ge _) | exact HK.out _ (hq1.alloc hq1.size _) | exact HK.out _ hq1 | exact HK.out _ ((Below.refl _ _).alloc (Nat.le_refl _) _))
      (first
        | (go_at_call 51; (first | refine (clone_is A n c X _ (by omega) hn3 S2.out.ra).mono ?_ | refine (clone_is A n c X _ (by omega) hn3 SD.out.ra).mono ?_ | refine (clone_is A n c X _ (by omega) hn3 (S2.out.ra.al _)).mono ?_ | refine (clone_is A n c X _ (by omega) hn3 (GRow.alD (grow_of S2.out.ra) _)).mono ?_); rintro e w4 ⟨A', cc, rfl, ho, hb'⟩; obtain ⟨g, rfl, hg, hgo⟩ := vec_pos ho hn3; have hgs := hgo.lt; have hb := of_drew hb'; clear hb' ho; (first | (have hq1 : Below w2.heap.size w2 w4 := hb) | (have hq1 : Below w2.heap.size w2 w4 := below_al hb)); (first | (have NB := NBX.new hcur hb; have dd0 := NB.cell 0 _ rfl; have ff0 := NB.free 0; have dd1 := NB.cell 1 _ rfl; have ff1 := NB.free 1; have dd2 := NB.cell 2 _ rfl; have ff2 := NB.free 2; have dd3 := NB.cell 3 _ rfl; have ff3 := NB.free 3) | skip); clear hb))
    all_goals go_wp2_with fail
    all_goals go_meet
    all_goals first
      | exact ⟨_, _, _, rfl, NB.ge, by simp at hg; omega, by simp at hg; omega, ((((NB.set 0 _).set 1 _).set 2 _).set 3 _).box, (((hgo.setAt (by simp at hg; omega) _).setAt (by simp at hg; omega) _).setAt (by simp at hg; omega) _).setAt (by simp at hg; omega) _, below_setAt (below_setAt (below_setAt (below_setAt hq1 NB.ge _) NB.ge _) NB.ge _) NB.ge _⟩
      | exact ⟨_, _, _, rfl, hq1.size, by simp at hg; omega, by omega, boxed _ _ _, hgo.alloc _, hq1.alloc hq1.size _⟩
  case rest =>
  obtain ⟨q, g, cc, rfl, hq, hg, hqg, hbx, hgo, hbl⟩ := hcut
  have S3 := Lib.hid (S2.out.step hbl)
  have BX := Lib.hid hbx
  have HO := Lib.hid hgo
  clear hbx hgo hbl HK SD x0 x1 x2 x3 v0 v1 v2 v3 r0 r1 r2 r3 g0 g1 g2 g3
  have v3 := S3.out.bb.cell 3 _ rfl
  go_wp2_with fail
  go_loopw [52] (fun i wr => ∃ k : Nat, k ≤ n ∧ i = .int .i64 k ∧ Hid (GOwn wr 3 g n (intV fun i => if i < k then adX X Y i else X i)) ∧ Hid (At q (q + 1) (BoxC q [.int .i64 z0, .int .i64 z1, .int .i64 z2, .slice (some ⟨g, 0, none⟩) n cc]) wr) ∧ Hid (U2 w #[.int .i64 z0, .int .i64 z1, .int .i64 z2, .slice A n c] #[.int .i64 z0, .int .i64 z1, .int .i64 z2, .slice B n d] #[.int .i64 0, .int .i64 0, .int .i64 0, .slice none 0 0] 27 A n X B n Y wr)) (fun i _ => n - (intOf i).toNat)
  case atStart => exact ⟨0, Nat.zero_le _, rfl, Lib.hid (HO.out.congr (fun i _ => by simp [intV])), BX, S3⟩
  case round =>
    obtain ⟨k, hk, rfl, HO, BX, HS⟩ := hrel
    have b3 := BX.out.now 3 _ rfl
    have hgl := HO.out.lt
    by_cases hlt : k < n
    · have x0 := HO.out.cell hlt
      have f0 := HO.out.frozen k
      simp only [intV, Nat.lt_irrefl, if_false] at x0
      obtain ⟨b1, o1, rfl, hb1, hc⟩ := HS.out.rb (by omega)
      have y0 := hc k hlt
      have HV := Lib.hid (HXY.out k hlt)
      clear hc
      go_wp2_with fail
      rw [HV.out]
      go_roundw
      case rel =>
        refine ⟨k + 1, by omega, by go_num, Lib.hid ((HO.out.set k (.int .i64 (adX X Y k))).congr (fun j hj => ?_)), Lib.hid (BX.out.setD (by omega) _ _), Lib.hid (HS.out.low (below_setAt (Below.refl w2.heap.size _) hg _) HRA.out HRB.out (by omega))⟩
        dsimp only [intV]
        by_cases e0 : j = k
        · subst e0; rw [if_pos rfl, if_pos (by omega)]
        · rw [if_neg e0]
          by_cases e2 : j < k
          · rw [if_pos e2, if_pos (by omega)]
          · rw [if_neg e2, if_neg (by omega)]
      case measure => simp [intOf]; omega
    · obtain rfl : k = n := by omega
      have b0 := BX.out.now 0 _ rfl
      have b1 := BX.out.now 1 _ rfl
      have b2 := BX.out.now 2 _ rfl
      have r0 := HS.out.res.cell 0 _ rfl
      have r1 := HS.out.res.cell 1 _ rfl
      have r2 := HS.out.res.cell 2 _ rfl
      have r3 := HS.out.res.cell 3 _ rfl
      have g0 := HS.out.res.free 0
      have g1 := HS.out.res.free 1
      have g2 := HS.out.res.free 2
      have g3 := HS.out.res.free 3
      go_wp2_with fail
      have N4 := Lib.hid ((((HS.out.res.set 0 (.int .i64 z0)).set 1 (.int .i64 z1)).set 2 (.int .i64 z2)).set 3 (.slice (some ⟨g, 0, none⟩) k cc))
      have s0 := N4.out.cell 0 (.int .i64 z0) (by simp)
      have s1 := N4.out.cell 1 (.int .i64 z1) (by simp)
      have s2 := N4.out.cell 2 (.int .i64 z2) (by simp)
      have s3 := N4.out.cell 3 (.slice (some ⟨g, 0, none⟩) k cc) (by simp)
      refine bodyPost_ret (v := .tuple #[.agg #[.int .i64 z0, .int .i64 z1, .int .i64 z2, .slice (some ⟨g, 0, none⟩) k cc], .bool true]) (by simp [results, Try.results18, go_sem, s0, s1, s2, s3]) rfl ?_
      exact ⟨_, _, rfl, ow_setA (ow_setA (ow_setA (ow_setA ((ow_of_own (m := k) (HO.out.congr (G := intV (adX X Y)) (fun j hj => by dsimp only [intV]; rw [if_pos hj])) (show w.heap.size + 3 ≤ g by omega) (Nat.le_refl _))) (by omega) _) (by omega) _) (by omega) _) (by omega) _ |>.mono (by omega) (by simp), below_setAt (below_setAt (below_setAt (below_setAt HS.out.below (by omega) _) (by omega) _) (by omega) _) (by omega) _⟩

/-- A Table that the model makes: the arguments' boxes, its own box, its row. -/
structure PA (w : World) (bq : Nat) (ca cb cr : Array Value) (t : TypeId) (A : Option Addr) (n : Nat) (X : Nat → Int) (B : Option Addr) (m : Nat) (Y : Nat → Int) (z0 z1 z2 : Int) (F : Nat → Int) (q : Nat) (Ao : Option Addr) (co : Nat) (Ab : Option Addr) (qb cc : Nat) (wr : World) : Prop where
  u : U2 w ca cb cr t A n X B m Y wr
  box : NBX w.heap.size bq #[.int .i64 z0, .int .i64 z1, .int .i64 z2, .slice Ab qb cc] t wr
  own : wr.ownsRow (bq + 1) 3 1 (.slice Ao q co) q (vals (intV F) q)
  hq : w.heap.size + 3 ≤ bq
section
variable {w wr wj : World} {bq : Nat} {ca cb cr : Array Value} {t : TypeId} {A B : Option Addr} {n m : Nat} {X Y : Nat → Int} {z0 z1 z2 : Int} {F : Nat → Int} {q : Nat} {Ao : Option Addr} {co : Nat} {Ab : Option Addr} {qb cc : Nat}
theorem PA.b (h : PA w bq ca cb cr t A n X B m Y z0 z1 z2 F q Ao co Ab qb cc wr) (hb : Below wr.heap.size wr wj) : PA w bq ca cb cr t A n X B m Y z0 z1 z2 F q Ao co Ab qb cc wj := ⟨h.u.step hb, h.box.b hb, owned_b h.own hb, h.hq⟩
theorem PA.al (h : PA w bq ca cb cr t A n X B m Y z0 z1 z2 F q Ao co Ab qb cc wr) (o : Obj) : PA w bq ca cb cr t A n X B m Y z0 z1 z2 F q Ao co Ab qb cc (wr.alloc o) := h.b ((Below.refl _ _).alloc (Nat.le_refl _) o)
theorem PA.size (h : PA w bq ca cb cr t A n X B m Y z0 z1 z2 F q Ao co Ab qb cc wr) : bq + 1 ≤ wr.heap.size := h.box.lt
theorem PA.push (h : PA w bq ca cb cr t A n X B m Y z0 z1 z2 F q Ao co Ab qb cc wr) {A' : Option Addr} {c' : Nat} (ho : wj.ownsRow (bq + 1) 3 1 (.slice A' (q + 1) c') (q + 1) (vals (intV F) (q + 1))) (hg : wr.grownBy wj (Value.slice Ao q co).ownBlock) (ha : IRow w A n X) (hb : IRow w B m Y) : PA w bq ca cb cr t A n X B m Y z0 z1 z2 F (q + 1) A' c' Ab qb cc wj :=
  ⟨h.u.low (below_ownG h.own hg h.size) ha hb (by have := h.hq; omega), nbx_grownG h.box h.own hg (by omega), ho, h.hq⟩
theorem PA.store (h : PA w bq ca cb cr t A n X B m Y z0 z1 z2 F q Ao co Ab qb cc wr) (ha : IRow w A n X) (hb : IRow w B m Y) : PA w bq ca cb cr t A n X B m Y z0 z1 z2 F q Ao co Ao q co (wr.setCell ⟨bq, 3, none⟩ (.slice Ao q co)) :=
  ⟨h.u.low (below_setAt (Below.refl (w.heap.size + 3) wr) h.hq _) ha hb (Nat.le_refl _), by have := h.box.set 3 (.slice Ao q co); simpa using this, own_setA h.own (by omega) _, h.hq⟩
theorem PA.start (h : U2 w ca cb cr t A n X B m Y wr) : PA w wr.heap.size ca cb cr t A n X B m Y z0 z1 z2 F 0 none 0 none 0 0 (wr.alloc (.cells #[.int .i64 z0, .int .i64 z1, .int .i64 z2, .slice none 0 0] t)) :=
  ⟨h.al _, ⟨Go.Deep.blk_alloc_new _ _, by have := h.res.lt; omega⟩, World.ownsRow_nil _ _ _ _, by have := h.res.lt; omega⟩
end
set_option maxRecDepth 100000 in
set_option maxHeartbeats 4000000 in
theorem spec_addTables (hra : IRow w A n X) (hrb : IRow w B n Y) (h1 : TaV z0 z1 z2 n X) (h2 : TaV z0 z1 z2 n Y) :
    Calls Try.prog 17 #[.agg #[.int .i64 z0, .int .i64 z1, .int .i64 z2, .slice A n c], .agg #[.int .i64 z0, .int .i64 z1, .int .i64 z2, .slice B n d]] w (TaOwn z0 z1 z2 n (adX X Y) true w) := by
  have S0 := Lib.hid (U2.start (ca := #[.int .i64 z0, .int .i64 z1, .int .i64 z2, .slice A n c]) (cb := #[.int .i64 z0, .int .i64 z1, .int .i64 z2, .slice B n d]) (cr := #[.int .i64 0, .int .i64 0, .int .i64 0, .slice none 0 0]) (t := 27) hra hrb)
  have hn3 : 0 < n := by have := h1.2.1; have := h1.2.2.2.1; omega
  have hn72 : n ≤ 72 := by have := h1.2.1; have := h1.2.2.2.1; omega
  have hn : n ≤ 1048576 := by omega
  have hm : n ≤ 1048576 := by omega
  have HXY := Lib.hid (fun i (hi : i < n) => adX_is h1.all h2.all hi)
  have HRA := Lib.hid hra
  have HRB := Lib.hid hrb
  clear hra hrb
  have x0 := S0.out.ba.cell 0 _ rfl
  have x1 := S0.out.ba.cell 1 _ rfl
  have x2 := S0.out.ba.cell 2 _ rfl
  have x3 := S0.out.ba.cell 3 _ rfl
  have v0 := S0.out.bb.cell 0 _ rfl
  have v1 := S0.out.bb.cell 1 _ rfl
  have v2 := S0.out.bb.cell 2 _ rfl
  have v3 := S0.out.bb.cell 3 _ rfl
  have r0 := S0.out.res.cell 0 _ rfl
  have r1 := S0.out.res.cell 1 _ rfl
  have r2 := S0.out.res.cell 2 _ rfl
  have r3 := S0.out.res.cell 3 _ rfl
  have g0 := S0.out.res.free 0
  have g1 := S0.out.res.free 1
  have g2 := S0.out.res.free 2
  have g3 := S0.out.res.free 3
  go_enter Try.func17, Try.ntmps17
  go_wp2_with fail
  refine (spec_reTable (b := true) (by simp [h1]) hn S0.out.ra).mono ?_; rintro e1 w1 ⟨rfl, hw⟩
  have S1 := Lib.hid (S0.out.step hw)
  clear x0 x1 x2 x3 v0 v1 v2 v3 r0 r1 r2 r3 g0 g1 g2 g3 hw
  have x0 := S1.out.ba.cell 0 _ rfl
  have x1 := S1.out.ba.cell 1 _ rfl
  have x2 := S1.out.ba.cell 2 _ rfl
  have x3 := S1.out.ba.cell 3 _ rfl
  have v0 := S1.out.bb.cell 0 _ rfl
  have v1 := S1.out.bb.cell 1 _ rfl
  have v2 := S1.out.bb.cell 2 _ rfl
  have v3 := S1.out.bb.cell 3 _ rfl
  have r0 := S1.out.res.cell 0 _ rfl
  have r1 := S1.out.res.cell 1 _ rfl
  have r2 := S1.out.res.cell 2 _ rfl
  have r3 := S1.out.res.cell 3 _ rfl
  have g0 := S1.out.res.free 0
  have g1 := S1.out.res.free 1
  have g2 := S1.out.res.free 2
  have g3 := S1.out.res.free 3
  go_wp2_with fail
  refine (spec_reTable (b := true) (by simp [h2]) hm S1.out.rb).mono ?_; rintro e2 w2 ⟨rfl, hw⟩
  have S2 := Lib.hid (S1.out.step hw)
  clear x0 x1 x2 x3 v0 v1 v2 v3 r0 r1 r2 r3 g0 g1 g2 g3 hw
  have x0 := S2.out.ba.cell 0 _ rfl
  have x1 := S2.out.ba.cell 1 _ rfl
  have x2 := S2.out.ba.cell 2 _ rfl
  have x3 := S2.out.ba.cell 3 _ rfl
  have v0 := S2.out.bb.cell 0 _ rfl
  have v1 := S2.out.bb.cell 1 _ rfl
  have v2 := S2.out.bb.cell 2 _ rfl
  have v3 := S2.out.bb.cell 3 _ rfl
  have r0 := S2.out.res.cell 0 _ rfl
  have r1 := S2.out.res.cell 1 _ rfl
  have r2 := S2.out.res.cell 2 _ rfl
  have r3 := S2.out.res.cell 3 _ rfl
  have g0 := S2.out.res.free 0
  have g1 := S2.out.res.free 1
  have g2 := S2.out.res.free 2
  have g3 := S2.out.res.free 3
  have hs2 := S2.out.res.lt
  have P0 := Lib.hid (PA.start (z0 := z0) (z1 := z1) (z2 := z2) (F := adX X Y) S2.out)
  have p3 := P0.out.u.ba.cell 3 _ rfl
  go_wp2_with fail
  go_loopw [49] (fun i wr => ∃ (k : Nat) (A1 : Option Addr) (c1 : Nat), k ≤ n ∧ i = .int .i64 k ∧ Hid (PA w w2.heap.size #[.int .i64 z0, .int .i64 z1, .int .i64 z2, .slice A n c] #[.int .i64 z0, .int .i64 z1, .int .i64 z2, .slice B n d] #[.int .i64 0, .int .i64 0, .int .i64 0, .slice none 0 0] 27 A n X B n Y z0 z1 z2 (adX X Y) k A1 c1 A1 k c1 wr)) (fun i _ => n - (intOf i).toNat)
  case atStart => exact ⟨0, none, 0, Nat.zero_le _, rfl, P0⟩
  case round =>
    clear x0 x1 x2 x3 v0 v1 v2 v3 r0 r1 r2 r3 g0 g1 g2 g3 p3
    obtain ⟨k, A1, c1, hk, rfl, HP⟩ := hrel
    have hsz := HP.out.size
    have b3 := HP.out.box.cell 3 _ rfl
    have f3 := HP.out.box.free 3
    have v3 := HP.out.u.bb.cell 3 _ rfl
    by_cases hlt : k < n
    · obtain ⟨b1, o1, rfl, hb1, hc1⟩ := HP.out.u.ra (by omega)
      have x0 := hc1 k hlt
      obtain ⟨b2, o2, rfl, hb2, hc2⟩ := HP.out.u.rb (by omega)
      have y0 := hc2 k hlt
      have HV := Lib.hid (HXY.out k hlt)
      have HFV := Lib.hid (show intV (adX X Y) k = .int .i64 (bits .xor .i64 (X k) (Y k)) by rw [HV.out]; rfl)
      have R5 := Lib.hid ((HP.out.b (Below.drew (Below.refl _ _))).al (.cells #[.int .i64 (bits .xor .i64 (X k) (Y k))] 3))
      have k5 := R5.out.box.cell 3 _ rfl
      have RA := HP.out.al (.cells #[.int .i64 (bits .xor .i64 (X k) (Y k))] 3)
      have a3 := RA.box.cell 3 _ rfl
      have af3 := RA.box.free 3
      clear RA
      have CY := Lib.hid ((boxed wr.drew #[.int .i64 (bits .xor .i64 (X k) (Y k))] 3).now 0 _ rfl)
      clear hc1 hc2
      go_upto_region 7 with fail
      go_region_law? (first
          | (refine step_pushG rfl (.tmp 55) (.tmp 63) 22 3 (.int .i64 0) 8 Try.underlying22 infoI rfl rfl rfl rfl R5.out.own CY.out HFV.out rfl ?_ ?_ ?_ ?_; omega; omega; exact R5.out.size; intro A' c' w5 ho5 hg5; have R6 := Lib.hid (R5.out.push ho5 hg5 HRA.out HRB.out); have k6 := R6.out.box.cell 3 _ rfl; have f6 := R6.out.box.free 3; clear ho5 hg5))
      all_goals
          have HP2 := Lib.hid (R6.out.store HRA.out HRB.out)
          go_wp2_with fail
          go_roundw
          case rel => exact ⟨k + 1, A', c', by omega, by go_num, HP2⟩
          case measure => simp [intOf]; omega
    · obtain rfl : n = k := by omega
      have b0 := HP.out.box.cell 0 _ rfl
      have b1 := HP.out.box.cell 1 _ rfl
      have b2 := HP.out.box.cell 2 _ rfl
      have hqq := HP.out.hq
      have r0 := HP.out.u.res.cell 0 _ rfl
      have r1 := HP.out.u.res.cell 1 _ rfl
      have r2 := HP.out.u.res.cell 2 _ rfl
      have r3 := HP.out.u.res.cell 3 _ rfl
      have g0 := HP.out.u.res.free 0
      have g1 := HP.out.u.res.free 1
      have g2 := HP.out.u.res.free 2
      have g3 := HP.out.u.res.free 3
      go_wp2_with fail
      have N4 := Lib.hid ((((HP.out.u.res.set 0 (.int .i64 z0)).set 1 (.int .i64 z1)).set 2 (.int .i64 z2)).set 3 (.slice A1 n c1))
      have s0 := N4.out.cell 0 (.int .i64 z0) (by simp)
      have s1 := N4.out.cell 1 (.int .i64 z1) (by simp)
      have s2 := N4.out.cell 2 (.int .i64 z2) (by simp)
      have s3 := N4.out.cell 3 (.slice A1 n c1) (by simp)
      refine bodyPost_ret (v := .tuple #[.agg #[.int .i64 z0, .int .i64 z1, .int .i64 z2, .slice A1 n c1], .bool true]) (by simp [results, Try.results17, go_sem, s0, s1, s2, s3]) rfl ?_
      have HO4 := own_setA (own_setA (own_setA (own_setA HP.out.own (b := w.heap.size + 2) (o := 0) (by omega) (.int .i64 z0)) (b := w.heap.size + 2) (o := 1) (by omega) (.int .i64 z1)) (b := w.heap.size + 2) (o := 2) (by omega) (.int .i64 z2)) (b := w.heap.size + 2) (o := 3) (by omega) (.slice A1 n c1)
      refine ⟨A1, c1, rfl, ?_, below_setAt (below_setAt (below_setAt (below_setAt HP.out.u.below (by omega) _) (by omega) _) (by omega) _) (by omega) _⟩
      rcases owned_vec HO4 with e | ⟨gg, rfl, hg, ho⟩
      · rw [e]; exact ow_zero _ _ _ _ _ _
      · exact ow_of_own ho (by omega) (Nat.le_refl _)

end
end Go.Proofs.Ytijlpbcgkecinab
