/- Two filters: areAlike, CoversBloom: both sides. -/
import Derived.Test.YtpajbcgdoedleaaBlK
namespace Go.Proofs.Ytpajbcgdoedleaa
open Go.RowKit

/-- Two boxed structs with a row of ints each, and the answer's box. -/
structure U2b (w : World) (ca cb cr : Array Value) (t : TypeId) (A : Option Addr) (n : Nat) (X : Nat → Int) (B : Option Addr) (m : Nat) (Y : Nat → Int) (wi : World) : Prop where
  below : Below w.heap.size w wi
  ba : NBX w.heap.size w.heap.size ca t wi
  bb : NBX w.heap.size (w.heap.size + 1) cb t wi
  res : NBX w.heap.size (w.heap.size + 2) cr t wi
  ra : IRow wi A n X
  rb : IRow wi B m Y
section
variable {w wi wj : World} {ca cb cr : Array Value} {t : TypeId} {A B : Option Addr} {n m : Nat} {X Y : Nat → Int}
theorem U2b.step (h : U2b w ca cb cr t A n X B m Y wi) (hb : Below wi.heap.size wi wj) : U2b w ca cb cr t A n X B m Y wj :=
  ⟨h.below.trans (hb.mono h.below.size), h.ba.b hb, h.bb.b hb, h.res.b hb, h.ra.b hb, h.rb.b hb⟩
theorem U2b.al (h : U2b w ca cb cr t A n X B m Y wi) (o : Obj) : U2b w ca cb cr t A n X B m Y (wi.alloc o) := h.step ((Below.refl _ _).alloc (Nat.le_refl _) o)
theorem U2b.low (h : U2b w ca cb cr t A n X B m Y wi) {L : Nat} (hb : Below L wi wj) (ha : IRow w A n X) (hr : IRow w B m Y) (hL : w.heap.size + 3 ≤ L) : U2b w ca cb cr t A n X B m Y wj := by
  have hbl := h.below.trans (hb.mono (show w.heap.size ≤ L by omega))
  exact ⟨hbl, ⟨(hb.block _ (by omega)).trans h.ba.blk, h.ba.ge⟩, ⟨(hb.block _ (by omega)).trans h.bb.blk, h.bb.ge⟩, ⟨(hb.block _ (by omega)).trans h.res.blk, h.res.ge⟩, ha.b hbl, hr.b hbl⟩
theorem U2b.start (ha : IRow w A n X) (hr : IRow w B m Y) : U2b w ca cb cr t A n X B m Y (((w.alloc (.cells ca t)).alloc (.cells cb t)).alloc (.cells cr t)) := by
  have h0 := (Below.refl w.heap.size w).alloc (Nat.le_refl _) (.cells ca t)
  have h1 := (Below.refl (w.alloc (.cells ca t)).heap.size _).alloc (Nat.le_refl _) (.cells cb t)
  have h2 := (Below.refl ((w.alloc (.cells ca t)).alloc (.cells cb t)).heap.size _).alloc (Nat.le_refl _) (.cells cr t)
  have n1 := nbx0 (w.alloc (.cells ca t)) cb t
  have n2 := nbx0 ((w.alloc (.cells ca t)).alloc (.cells cb t)) cr t
  simp only [World.size_alloc] at n1 n2
  exact ⟨(h0.trans (h1.mono (by simp))).trans (h2.mono (by simp; omega)), ((nbx0 w _ _).b h1).b h2, (NBX.mk n1.blk (by omega) : NBX w.heap.size (w.heap.size + 1) cb t _).b h2, ⟨n2.blk, by omega⟩, ((ha.b h0).b h1).b h2, ((hr.b h0).b h1).b h2⟩
end
/-- Two boxed structs. -/
structure V2b (w : World) (ca cb : Array Value) (t : TypeId) (A : Option Addr) (n : Nat) (X : Nat → Int) (B : Option Addr) (m : Nat) (Y : Nat → Int) (wi : World) : Prop where
  below : Below w.heap.size w wi
  ba : NBX w.heap.size w.heap.size ca t wi
  bb : NBX w.heap.size (w.heap.size + 1) cb t wi
  ra : IRow wi A n X
  rb : IRow wi B m Y
section
variable {w wi wj : World} {ca cb : Array Value} {t : TypeId} {A B : Option Addr} {n m : Nat} {X Y : Nat → Int}
theorem V2b.step (h : V2b w ca cb t A n X B m Y wi) (hb : Below wi.heap.size wi wj) : V2b w ca cb t A n X B m Y wj :=
  ⟨h.below.trans (hb.mono h.below.size), h.ba.b hb, h.bb.b hb, h.ra.b hb, h.rb.b hb⟩
theorem V2b.start (ha : IRow w A n X) (hr : IRow w B m Y) : V2b w ca cb t A n X B m Y ((w.alloc (.cells ca t)).alloc (.cells cb t)) := by
  have h0 := (Below.refl w.heap.size w).alloc (Nat.le_refl _) (.cells ca t)
  have h1 := (Below.refl (w.alloc (.cells ca t)).heap.size _).alloc (Nat.le_refl _) (.cells cb t)
  have n1 := nbx0 (w.alloc (.cells ca t)) cb t
  simp only [World.size_alloc] at n1
  exact ⟨h0.trans (h1.mono (by simp)), (nbx0 w _ _).b h1, (NBX.mk n1.blk (by omega) : NBX w.heap.size (w.heap.size + 1) cb t _), (ha.b h0).b h1, (hr.b h0).b h1⟩
end
/-- Two valid filters of one kind. -/
def AlP (z0 z1 z2 : Int) (n : Nat) (X : Nat → Int) (y0 y1 y2 : Int) (m : Nat) (Y : Nat → Int) : Prop := BlV z0 z1 z2 n X ∧ BlV y0 y1 y2 m Y ∧ z0 = y0 ∧ z1 = y1 ∧ z2 = y2
section
variable {w : World} {z0 z1 z2 y0 y1 y2 : Int} {A B : Option Addr} {n c m d : Nat} {X Y : Nat → Int}
set_option maxRecDepth 100000 in
set_option maxHeartbeats 4000000 in
theorem spec_alike {b : Bool} (hb : b = true ↔ AlP z0 z1 z2 n X y0 y1 y2 m Y) (hn : n ≤ 1048576) (hm : m ≤ 1048576) (hra : IRow w A n X) (hrb : IRow w B m Y) :
    Calls Try.prog 71 #[.agg #[.int .i64 z0, .int .i64 z1, .int .i64 z2, .slice A n c], .agg #[.int .i64 y0, .int .i64 y1, .int .i64 y2, .slice B m d]] w fun e w' => e = .returned (.bool b) ∧ Below w.heap.size w w' := by
  have S0 := Lib.hid (V2b.start (ca := #[.int .i64 z0, .int .i64 z1, .int .i64 z2, .slice A n c]) (cb := #[.int .i64 y0, .int .i64 y1, .int .i64 y2, .slice B m d]) (t := 31) hra hrb)
  clear hra hrb
  have x0 := S0.out.ba.cell 0 _ rfl
  have v0 := S0.out.bb.cell 0 _ rfl
  have x1 := S0.out.ba.cell 1 _ rfl
  have v1 := S0.out.bb.cell 1 _ rfl
  have x2 := S0.out.ba.cell 2 _ rfl
  have v2 := S0.out.bb.cell 2 _ rfl
  have x3 := S0.out.ba.cell 3 _ rfl
  have v3 := S0.out.bb.cell 3 _ rfl
  by_cases h1 : BlV z0 z1 z2 n X
  rotate_left
  · obtain rfl : b = false := by
      cases b
      · rfl
      · exact absurd (hb.1 rfl).1 h1
    clear hb
    go_enter Try.func71, Try.ntmps71
    go_wp2_with fail
    refine (spec_fiGood (b := false) (by simp [h1]) hn S0.out.ra).mono ?_; rintro e w1 ⟨rfl, hw⟩
    have S1 := Lib.hid (S0.out.step hw)
    clear hw x0 x1 x2 x3 v0 v1 v2 v3 S0
    have x0 := S1.out.ba.cell 0 _ rfl
    have v0 := S1.out.bb.cell 0 _ rfl
    have x1 := S1.out.ba.cell 1 _ rfl
    have v1 := S1.out.bb.cell 1 _ rfl
    have x2 := S1.out.ba.cell 2 _ rfl
    have v2 := S1.out.bb.cell 2 _ rfl
    have x3 := S1.out.ba.cell 3 _ rfl
    have v3 := S1.out.bb.cell 3 _ rfl
    go_wp2_with fail
    go_ret
    exact ⟨rfl, S1.out.below⟩
  by_cases h2 : BlV y0 y1 y2 m Y
  rotate_left
  · obtain rfl : b = false := by
      cases b
      · rfl
      · exact absurd (hb.1 rfl).2.1 h2
    clear hb
    go_enter Try.func71, Try.ntmps71
    go_wp2_with fail
    refine (spec_fiGood (b := true) (by simp [h1]) hn S0.out.ra).mono ?_; rintro e w1 ⟨rfl, hw⟩
    have S1 := Lib.hid (S0.out.step hw)
    clear hw x0 x1 x2 x3 v0 v1 v2 v3 S0
    have x0 := S1.out.ba.cell 0 _ rfl
    have v0 := S1.out.bb.cell 0 _ rfl
    have x1 := S1.out.ba.cell 1 _ rfl
    have v1 := S1.out.bb.cell 1 _ rfl
    have x2 := S1.out.ba.cell 2 _ rfl
    have v2 := S1.out.bb.cell 2 _ rfl
    have x3 := S1.out.ba.cell 3 _ rfl
    have v3 := S1.out.bb.cell 3 _ rfl
    go_wp2_with fail
    refine (spec_fiGood (b := false) (by simp [h2]) hm S1.out.rb).mono ?_; rintro e w2 ⟨rfl, hw⟩
    have S2 := Lib.hid (S1.out.step hw)
    clear hw x0 x1 x2 x3 v0 v1 v2 v3 S1
    have x0 := S2.out.ba.cell 0 _ rfl
    have v0 := S2.out.bb.cell 0 _ rfl
    have x1 := S2.out.ba.cell 1 _ rfl
    have v1 := S2.out.bb.cell 1 _ rfl
    have x2 := S2.out.ba.cell 2 _ rfl
    have v2 := S2.out.bb.cell 2 _ rfl
    have x3 := S2.out.ba.cell 3 _ rfl
    have v3 := S2.out.bb.cell 3 _ rfl
    go_wp2_with fail
    go_ret
    exact ⟨rfl, S2.out.below⟩
  by_cases e0 : z0 = y0
  rotate_left
  · obtain rfl : b = false := by
      cases b
      · rfl
      · exact absurd (hb.1 rfl).2.2.1 e0
    have d0 : (z0 == y0) = false := by simpa using e0
    clear hb
    go_enter Try.func71, Try.ntmps71
    go_wp2_with fail
    refine (spec_fiGood (b := true) (by simp [h1]) hn S0.out.ra).mono ?_; rintro e w1 ⟨rfl, hw⟩
    have S1 := Lib.hid (S0.out.step hw)
    clear hw x0 x1 x2 x3 v0 v1 v2 v3 S0
    have x0 := S1.out.ba.cell 0 _ rfl
    have v0 := S1.out.bb.cell 0 _ rfl
    have x1 := S1.out.ba.cell 1 _ rfl
    have v1 := S1.out.bb.cell 1 _ rfl
    have x2 := S1.out.ba.cell 2 _ rfl
    have v2 := S1.out.bb.cell 2 _ rfl
    have x3 := S1.out.ba.cell 3 _ rfl
    have v3 := S1.out.bb.cell 3 _ rfl
    go_wp2_with fail
    refine (spec_fiGood (b := true) (by simp [h2]) hm S1.out.rb).mono ?_; rintro e w2 ⟨rfl, hw⟩
    have S2 := Lib.hid (S1.out.step hw)
    clear hw x0 x1 x2 x3 v0 v1 v2 v3 S1
    have x0 := S2.out.ba.cell 0 _ rfl
    have v0 := S2.out.bb.cell 0 _ rfl
    have x1 := S2.out.ba.cell 1 _ rfl
    have v1 := S2.out.bb.cell 1 _ rfl
    have x2 := S2.out.ba.cell 2 _ rfl
    have v2 := S2.out.bb.cell 2 _ rfl
    have x3 := S2.out.ba.cell 3 _ rfl
    have v3 := S2.out.bb.cell 3 _ rfl
    go_wp2_with fail
    go_ret
    exact ⟨rfl, S2.out.below⟩
  subst e0
  by_cases e1 : z1 = y1
  rotate_left
  · obtain rfl : b = false := by
      cases b
      · rfl
      · exact absurd (hb.1 rfl).2.2.2.1 e1
    have d1 : (z1 == y1) = false := by simpa using e1
    clear hb
    go_enter Try.func71, Try.ntmps71
    go_wp2_with fail
    refine (spec_fiGood (b := true) (by simp [h1]) hn S0.out.ra).mono ?_; rintro e w1 ⟨rfl, hw⟩
    have S1 := Lib.hid (S0.out.step hw)
    clear hw x0 x1 x2 x3 v0 v1 v2 v3 S0
    have x0 := S1.out.ba.cell 0 _ rfl
    have v0 := S1.out.bb.cell 0 _ rfl
    have x1 := S1.out.ba.cell 1 _ rfl
    have v1 := S1.out.bb.cell 1 _ rfl
    have x2 := S1.out.ba.cell 2 _ rfl
    have v2 := S1.out.bb.cell 2 _ rfl
    have x3 := S1.out.ba.cell 3 _ rfl
    have v3 := S1.out.bb.cell 3 _ rfl
    go_wp2_with fail
    refine (spec_fiGood (b := true) (by simp [h2]) hm S1.out.rb).mono ?_; rintro e w2 ⟨rfl, hw⟩
    have S2 := Lib.hid (S1.out.step hw)
    clear hw x0 x1 x2 x3 v0 v1 v2 v3 S1
    have x0 := S2.out.ba.cell 0 _ rfl
    have v0 := S2.out.bb.cell 0 _ rfl
    have x1 := S2.out.ba.cell 1 _ rfl
    have v1 := S2.out.bb.cell 1 _ rfl
    have x2 := S2.out.ba.cell 2 _ rfl
    have v2 := S2.out.bb.cell 2 _ rfl
    have x3 := S2.out.ba.cell 3 _ rfl
    have v3 := S2.out.bb.cell 3 _ rfl
    go_wp2_with fail
    go_ret
    exact ⟨rfl, S2.out.below⟩
  subst e1
  by_cases e2 : z2 = y2
  rotate_left
  · obtain rfl : b = false := by
      cases b
      · rfl
      · exact absurd (hb.1 rfl).2.2.2.2 e2
    have d2 : (z2 == y2) = false := by simpa using e2
    clear hb
    go_enter Try.func71, Try.ntmps71
    go_wp2_with fail
    refine (spec_fiGood (b := true) (by simp [h1]) hn S0.out.ra).mono ?_; rintro e w1 ⟨rfl, hw⟩
    have S1 := Lib.hid (S0.out.step hw)
    clear hw x0 x1 x2 x3 v0 v1 v2 v3 S0
    have x0 := S1.out.ba.cell 0 _ rfl
    have v0 := S1.out.bb.cell 0 _ rfl
    have x1 := S1.out.ba.cell 1 _ rfl
    have v1 := S1.out.bb.cell 1 _ rfl
    have x2 := S1.out.ba.cell 2 _ rfl
    have v2 := S1.out.bb.cell 2 _ rfl
    have x3 := S1.out.ba.cell 3 _ rfl
    have v3 := S1.out.bb.cell 3 _ rfl
    go_wp2_with fail
    refine (spec_fiGood (b := true) (by simp [h2]) hm S1.out.rb).mono ?_; rintro e w2 ⟨rfl, hw⟩
    have S2 := Lib.hid (S1.out.step hw)
    clear hw x0 x1 x2 x3 v0 v1 v2 v3 S1
    have x0 := S2.out.ba.cell 0 _ rfl
    have v0 := S2.out.bb.cell 0 _ rfl
    have x1 := S2.out.ba.cell 1 _ rfl
    have v1 := S2.out.bb.cell 1 _ rfl
    have x2 := S2.out.ba.cell 2 _ rfl
    have v2 := S2.out.bb.cell 2 _ rfl
    have x3 := S2.out.ba.cell 3 _ rfl
    have v3 := S2.out.bb.cell 3 _ rfl
    go_wp2_with fail
    go_ret
    exact ⟨rfl, S2.out.below⟩
  subst e2
  obtain rfl : b = true := hb.2 ⟨h1, h2, rfl, rfl, rfl⟩
  clear hb
  go_enter Try.func71, Try.ntmps71
  go_wp2_with fail
  refine (spec_fiGood (b := true) (by simp [h1]) hn S0.out.ra).mono ?_; rintro e w1 ⟨rfl, hw⟩
  have S1 := Lib.hid (S0.out.step hw)
  clear hw x0 x1 x2 x3 v0 v1 v2 v3 S0
  have x0 := S1.out.ba.cell 0 _ rfl
  have v0 := S1.out.bb.cell 0 _ rfl
  have x1 := S1.out.ba.cell 1 _ rfl
  have v1 := S1.out.bb.cell 1 _ rfl
  have x2 := S1.out.ba.cell 2 _ rfl
  have v2 := S1.out.bb.cell 2 _ rfl
  have x3 := S1.out.ba.cell 3 _ rfl
  have v3 := S1.out.bb.cell 3 _ rfl
  go_wp2_with fail
  refine (spec_fiGood (b := true) (by simp [h2]) hm S1.out.rb).mono ?_; rintro e w2 ⟨rfl, hw⟩
  have S2 := Lib.hid (S1.out.step hw)
  clear hw x0 x1 x2 x3 v0 v1 v2 v3 S1
  have x0 := S2.out.ba.cell 0 _ rfl
  have v0 := S2.out.bb.cell 0 _ rfl
  have x1 := S2.out.ba.cell 1 _ rfl
  have v1 := S2.out.bb.cell 1 _ rfl
  have x2 := S2.out.ba.cell 2 _ rfl
  have v2 := S2.out.bb.cell 2 _ rfl
  have x3 := S2.out.ba.cell 3 _ rfl
  have v3 := S2.out.bb.cell 3 _ rfl
  go_wp2_with fail
  go_ret
  exact ⟨rfl, S2.out.below⟩
set_option maxRecDepth 100000 in
set_option maxHeartbeats 4000000 in
theorem impl_alike {b : Bool} (hb : b = true ↔ AlP z0 z1 z2 n X y0 y1 y2 m Y) (hn : n ≤ 1048576) (hm : m ≤ 1048576) (hra : IRow w A n X) (hrb : IRow w B m Y) :
    Calls Try.prog 74 #[.agg #[.int .i64 z0, .int .i64 z1, .int .i64 z2, .slice A n c], .agg #[.int .i64 y0, .int .i64 y1, .int .i64 y2, .slice B m d]] w fun e w' => e = .returned (.bool b) ∧ Below w.heap.size w w' := by
  have S0 := Lib.hid (V2b.start (ca := #[.int .i64 z0, .int .i64 z1, .int .i64 z2, .slice A n c]) (cb := #[.int .i64 y0, .int .i64 y1, .int .i64 y2, .slice B m d]) (t := 31) hra hrb)
  clear hra hrb
  have x0 := S0.out.ba.cell 0 _ rfl
  have v0 := S0.out.bb.cell 0 _ rfl
  have x1 := S0.out.ba.cell 1 _ rfl
  have v1 := S0.out.bb.cell 1 _ rfl
  have x2 := S0.out.ba.cell 2 _ rfl
  have v2 := S0.out.bb.cell 2 _ rfl
  have x3 := S0.out.ba.cell 3 _ rfl
  have v3 := S0.out.bb.cell 3 _ rfl
  by_cases h1 : BlV z0 z1 z2 n X
  rotate_left
  · obtain rfl : b = false := by
      cases b
      · rfl
      · exact absurd (hb.1 rfl).1 h1
    clear hb
    go_enter Try.func74, Try.ntmps74
    go_wp2_with fail
    refine (impl_isBloom (b := false) (by simp [h1]) hn S0.out.ra).mono ?_; rintro e w1 ⟨rfl, hw⟩
    have S1 := Lib.hid (S0.out.step hw)
    clear hw x0 x1 x2 x3 v0 v1 v2 v3 S0
    have x0 := S1.out.ba.cell 0 _ rfl
    have v0 := S1.out.bb.cell 0 _ rfl
    have x1 := S1.out.ba.cell 1 _ rfl
    have v1 := S1.out.bb.cell 1 _ rfl
    have x2 := S1.out.ba.cell 2 _ rfl
    have v2 := S1.out.bb.cell 2 _ rfl
    have x3 := S1.out.ba.cell 3 _ rfl
    have v3 := S1.out.bb.cell 3 _ rfl
    go_wp2_with fail
    go_ret
    exact ⟨rfl, S1.out.below⟩
  by_cases h2 : BlV y0 y1 y2 m Y
  rotate_left
  · obtain rfl : b = false := by
      cases b
      · rfl
      · exact absurd (hb.1 rfl).2.1 h2
    clear hb
    go_enter Try.func74, Try.ntmps74
    go_wp2_with fail
    refine (impl_isBloom (b := true) (by simp [h1]) hn S0.out.ra).mono ?_; rintro e w1 ⟨rfl, hw⟩
    have S1 := Lib.hid (S0.out.step hw)
    clear hw x0 x1 x2 x3 v0 v1 v2 v3 S0
    have x0 := S1.out.ba.cell 0 _ rfl
    have v0 := S1.out.bb.cell 0 _ rfl
    have x1 := S1.out.ba.cell 1 _ rfl
    have v1 := S1.out.bb.cell 1 _ rfl
    have x2 := S1.out.ba.cell 2 _ rfl
    have v2 := S1.out.bb.cell 2 _ rfl
    have x3 := S1.out.ba.cell 3 _ rfl
    have v3 := S1.out.bb.cell 3 _ rfl
    go_wp2_with fail
    refine (impl_isBloom (b := false) (by simp [h2]) hm S1.out.rb).mono ?_; rintro e w2 ⟨rfl, hw⟩
    have S2 := Lib.hid (S1.out.step hw)
    clear hw x0 x1 x2 x3 v0 v1 v2 v3 S1
    have x0 := S2.out.ba.cell 0 _ rfl
    have v0 := S2.out.bb.cell 0 _ rfl
    have x1 := S2.out.ba.cell 1 _ rfl
    have v1 := S2.out.bb.cell 1 _ rfl
    have x2 := S2.out.ba.cell 2 _ rfl
    have v2 := S2.out.bb.cell 2 _ rfl
    have x3 := S2.out.ba.cell 3 _ rfl
    have v3 := S2.out.bb.cell 3 _ rfl
    go_wp2_with fail
    go_ret
    exact ⟨rfl, S2.out.below⟩
  by_cases e0 : z0 = y0
  rotate_left
  · obtain rfl : b = false := by
      cases b
      · rfl
      · exact absurd (hb.1 rfl).2.2.1 e0
    have d0 : (z0 == y0) = false := by simpa using e0
    clear hb
    go_enter Try.func74, Try.ntmps74
    go_wp2_with fail
    refine (impl_isBloom (b := true) (by simp [h1]) hn S0.out.ra).mono ?_; rintro e w1 ⟨rfl, hw⟩
    have S1 := Lib.hid (S0.out.step hw)
    clear hw x0 x1 x2 x3 v0 v1 v2 v3 S0
    have x0 := S1.out.ba.cell 0 _ rfl
    have v0 := S1.out.bb.cell 0 _ rfl
    have x1 := S1.out.ba.cell 1 _ rfl
    have v1 := S1.out.bb.cell 1 _ rfl
    have x2 := S1.out.ba.cell 2 _ rfl
    have v2 := S1.out.bb.cell 2 _ rfl
    have x3 := S1.out.ba.cell 3 _ rfl
    have v3 := S1.out.bb.cell 3 _ rfl
    go_wp2_with fail
    refine (impl_isBloom (b := true) (by simp [h2]) hm S1.out.rb).mono ?_; rintro e w2 ⟨rfl, hw⟩
    have S2 := Lib.hid (S1.out.step hw)
    clear hw x0 x1 x2 x3 v0 v1 v2 v3 S1
    have x0 := S2.out.ba.cell 0 _ rfl
    have v0 := S2.out.bb.cell 0 _ rfl
    have x1 := S2.out.ba.cell 1 _ rfl
    have v1 := S2.out.bb.cell 1 _ rfl
    have x2 := S2.out.ba.cell 2 _ rfl
    have v2 := S2.out.bb.cell 2 _ rfl
    have x3 := S2.out.ba.cell 3 _ rfl
    have v3 := S2.out.bb.cell 3 _ rfl
    go_wp2_with fail
    go_ret
    exact ⟨rfl, S2.out.below⟩
  subst e0
  by_cases e1 : z1 = y1
  rotate_left
  · obtain rfl : b = false := by
      cases b
      · rfl
      · exact absurd (hb.1 rfl).2.2.2.1 e1
    have d1 : (z1 == y1) = false := by simpa using e1
    clear hb
    go_enter Try.func74, Try.ntmps74
    go_wp2_with fail
    refine (impl_isBloom (b := true) (by simp [h1]) hn S0.out.ra).mono ?_; rintro e w1 ⟨rfl, hw⟩
    have S1 := Lib.hid (S0.out.step hw)
    clear hw x0 x1 x2 x3 v0 v1 v2 v3 S0
    have x0 := S1.out.ba.cell 0 _ rfl
    have v0 := S1.out.bb.cell 0 _ rfl
    have x1 := S1.out.ba.cell 1 _ rfl
    have v1 := S1.out.bb.cell 1 _ rfl
    have x2 := S1.out.ba.cell 2 _ rfl
    have v2 := S1.out.bb.cell 2 _ rfl
    have x3 := S1.out.ba.cell 3 _ rfl
    have v3 := S1.out.bb.cell 3 _ rfl
    go_wp2_with fail
    refine (impl_isBloom (b := true) (by simp [h2]) hm S1.out.rb).mono ?_; rintro e w2 ⟨rfl, hw⟩
    have S2 := Lib.hid (S1.out.step hw)
    clear hw x0 x1 x2 x3 v0 v1 v2 v3 S1
    have x0 := S2.out.ba.cell 0 _ rfl
    have v0 := S2.out.bb.cell 0 _ rfl
    have x1 := S2.out.ba.cell 1 _ rfl
    have v1 := S2.out.bb.cell 1 _ rfl
    have x2 := S2.out.ba.cell 2 _ rfl
    have v2 := S2.out.bb.cell 2 _ rfl
    have x3 := S2.out.ba.cell 3 _ rfl
    have v3 := S2.out.bb.cell 3 _ rfl
    go_wp2_with fail
    go_ret
    exact ⟨rfl, S2.out.below⟩
  subst e1
  by_cases e2 : z2 = y2
  rotate_left
  · obtain rfl : b = false := by
      cases b
      · rfl
      · exact absurd (hb.1 rfl).2.2.2.2 e2
    have d2 : (z2 == y2) = false := by simpa using e2
    clear hb
    go_enter Try.func74, Try.ntmps74
    go_wp2_with fail
    refine (impl_isBloom (b := true) (by simp [h1]) hn S0.out.ra).mono ?_; rintro e w1 ⟨rfl, hw⟩
    have S1 := Lib.hid (S0.out.step hw)
    clear hw x0 x1 x2 x3 v0 v1 v2 v3 S0
    have x0 := S1.out.ba.cell 0 _ rfl
    have v0 := S1.out.bb.cell 0 _ rfl
    have x1 := S1.out.ba.cell 1 _ rfl
    have v1 := S1.out.bb.cell 1 _ rfl
    have x2 := S1.out.ba.cell 2 _ rfl
    have v2 := S1.out.bb.cell 2 _ rfl
    have x3 := S1.out.ba.cell 3 _ rfl
    have v3 := S1.out.bb.cell 3 _ rfl
    go_wp2_with fail
    refine (impl_isBloom (b := true) (by simp [h2]) hm S1.out.rb).mono ?_; rintro e w2 ⟨rfl, hw⟩
    have S2 := Lib.hid (S1.out.step hw)
    clear hw x0 x1 x2 x3 v0 v1 v2 v3 S1
    have x0 := S2.out.ba.cell 0 _ rfl
    have v0 := S2.out.bb.cell 0 _ rfl
    have x1 := S2.out.ba.cell 1 _ rfl
    have v1 := S2.out.bb.cell 1 _ rfl
    have x2 := S2.out.ba.cell 2 _ rfl
    have v2 := S2.out.bb.cell 2 _ rfl
    have x3 := S2.out.ba.cell 3 _ rfl
    have v3 := S2.out.bb.cell 3 _ rfl
    go_wp2_with fail
    go_ret
    exact ⟨rfl, S2.out.below⟩
  subst e2
  obtain rfl : b = true := hb.2 ⟨h1, h2, rfl, rfl, rfl⟩
  clear hb
  go_enter Try.func74, Try.ntmps74
  go_wp2_with fail
  refine (impl_isBloom (b := true) (by simp [h1]) hn S0.out.ra).mono ?_; rintro e w1 ⟨rfl, hw⟩
  have S1 := Lib.hid (S0.out.step hw)
  clear hw x0 x1 x2 x3 v0 v1 v2 v3 S0
  have x0 := S1.out.ba.cell 0 _ rfl
  have v0 := S1.out.bb.cell 0 _ rfl
  have x1 := S1.out.ba.cell 1 _ rfl
  have v1 := S1.out.bb.cell 1 _ rfl
  have x2 := S1.out.ba.cell 2 _ rfl
  have v2 := S1.out.bb.cell 2 _ rfl
  have x3 := S1.out.ba.cell 3 _ rfl
  have v3 := S1.out.bb.cell 3 _ rfl
  go_wp2_with fail
  refine (impl_isBloom (b := true) (by simp [h2]) hm S1.out.rb).mono ?_; rintro e w2 ⟨rfl, hw⟩
  have S2 := Lib.hid (S1.out.step hw)
  clear hw x0 x1 x2 x3 v0 v1 v2 v3 S1
  have x0 := S2.out.ba.cell 0 _ rfl
  have v0 := S2.out.bb.cell 0 _ rfl
  have x1 := S2.out.ba.cell 1 _ rfl
  have v1 := S2.out.bb.cell 1 _ rfl
  have x2 := S2.out.ba.cell 2 _ rfl
  have v2 := S2.out.bb.cell 2 _ rfl
  have x3 := S2.out.ba.cell 3 _ rfl
  have v3 := S2.out.bb.cell 3 _ rfl
  go_wp2_with fail
  go_ret
  exact ⟨rfl, S2.out.below⟩
end
theorem bl_high {z n k : Nat} {X : Nat → Int} (hg : Good z n X) (hk : k < 16 * n) (hz : z ≤ k) : bitX X k = false := by
  have h1 := hg.2.2.2 (k / 16) (by omega)
  unfold bitX bitN
  refine Nat.testBit_lt_two_pow (Nat.lt_of_lt_of_le ?_ (Nat.pow_le_pow_right (n := 2) (i := min 16 ((z : Int).toNat - 16 * (k / 16))) (by omega) (by omega)))
  have h2 := h1.2
  unfold cap at h2
  have h3 : ((2 : Int) ^ (min 16 ((z : Int).toNat - 16 * (k / 16)))) = ((2 ^ (min 16 ((z : Int).toNat - 16 * (k / 16))) : Nat) : Int) := by push_cast; rfl
  rw [h3] at h2
  show (X (k / 16)).toNat < _
  omega
/-- Whether all bits of G below k are among F. -/
def CovP (F G : Nat → Bool) (k : Nat) : Prop := ∀ i, i < k → G i = true → F i = true
theorem cov_more {F G : Nat → Bool} {z n : Nat} {Y : Nat → Int} (hG : G = bitX Y) (hg : Good z n Y) : CovP F G (16 * n) ↔ CovP F G z := by
  have h3 : z ≤ 16 * n := by have := hg.2.2.1; omega
  constructor
  · exact fun h i hi => h i (by omega)
  · intro h i hi hGi
    by_cases e : i < z
    · exact h i e hGi
    · rw [hG, bl_high hg hi (by omega)] at hGi; cases hGi
/-- A word of which nothing is left when another one is taken away. -/
theorem andNot_zero (a b : Nat) (ha : a < 65536) (hb : b < 65536) : (bits .andNot .i64 (a : Int) (b : Int) = 0) ↔ ∀ j, j < 16 → a.testBit j = true → b.testBit j = true := by
  rw [i64_andNot_nat a b (by omega) (by omega)]
  have e1 : (((a ^^^ (a &&& b) : Nat) : Int) = 0) ↔ a ^^^ (a &&& b) = 0 := by omega
  rw [e1]
  constructor
  · intro h j _ hj
    have h2 : (a ^^^ (a &&& b)).testBit j = false := by rw [h]; simp
    rw [Nat.testBit_xor, Nat.testBit_and, hj] at h2
    simpa using h2
  · intro h
    apply Nat.eq_of_testBit_eq
    intro j
    rw [Nat.testBit_xor, Nat.testBit_and, Nat.zero_testBit]
    by_cases hj : j < 16
    · have := h j hj
      cases e : a.testBit j
      · simp
      · simp [this e]
    · have : a.testBit j = false := Nat.testBit_lt_two_pow (Nat.lt_of_lt_of_le ha (Nat.pow_le_pow_right (n := 2) (i := 16) (by omega) (by omega)))
      simp [this]
section
variable {w : World} {z0 z1 z2 y0 y1 y2 : Int} {p z : Nat} {A B : Option Addr} {n c m d : Nat} {X Y : Nat → Int}
set_option maxRecDepth 100000 in
set_option maxHeartbeats 4000000 in
theorem spec_covers_no (h : ¬ AlP z0 z1 z2 n X y0 y1 y2 m Y) (hn : n ≤ 1048576) (hm : m ≤ 1048576) (hra : IRow w A n X) (hrb : IRow w B m Y) :
    Calls Try.prog 40 #[.agg #[.int .i64 z0, .int .i64 z1, .int .i64 z2, .slice A n c], .agg #[.int .i64 y0, .int .i64 y1, .int .i64 y2, .slice B m d]] w fun e w' => e = .returned (.tuple #[.bool false, .bool false]) ∧ Below w.heap.size w w' := by
  have S0 := Lib.hid (V2b.start (ca := #[.int .i64 z0, .int .i64 z1, .int .i64 z2, .slice A n c]) (cb := #[.int .i64 y0, .int .i64 y1, .int .i64 y2, .slice B m d]) (t := 31) hra hrb)
  clear hra hrb
  have x0 := S0.out.ba.cell 0 _ rfl
  have v0 := S0.out.bb.cell 0 _ rfl
  have x1 := S0.out.ba.cell 1 _ rfl
  have v1 := S0.out.bb.cell 1 _ rfl
  have x2 := S0.out.ba.cell 2 _ rfl
  have v2 := S0.out.bb.cell 2 _ rfl
  have x3 := S0.out.ba.cell 3 _ rfl
  have v3 := S0.out.bb.cell 3 _ rfl
  go_enter Try.func40, Try.ntmps40
  go_wp2_with fail
  refine (spec_alike (b := false) (by simp [h]) hn hm S0.out.ra S0.out.rb).mono ?_; rintro e w1 ⟨rfl, hw⟩
  have S1 := Lib.hid (S0.out.step hw)
  clear hw x0 x1 x2 x3 v0 v1 v2 v3 S0
  go_wp2_with fail
  go_ret2
  exact ⟨rfl, S1.out.below⟩
set_option maxRecDepth 100000 in
set_option maxHeartbeats 4000000 in
theorem impl_covers_no (h : ¬ AlP z0 z1 z2 n X y0 y1 y2 m Y) (hn : n ≤ 1048576) (hm : m ≤ 1048576) (hra : IRow w A n X) (hrb : IRow w B m Y) :
    Calls Try.prog 41 #[.agg #[.int .i64 z0, .int .i64 z1, .int .i64 z2, .slice A n c], .agg #[.int .i64 y0, .int .i64 y1, .int .i64 y2, .slice B m d]] w fun e w' => e = .returned (.tuple #[.bool false, .bool false]) ∧ Below w.heap.size w w' := by
  have S0 := Lib.hid (V2b.start (ca := #[.int .i64 z0, .int .i64 z1, .int .i64 z2, .slice A n c]) (cb := #[.int .i64 y0, .int .i64 y1, .int .i64 y2, .slice B m d]) (t := 31) hra hrb)
  clear hra hrb
  have x0 := S0.out.ba.cell 0 _ rfl
  have v0 := S0.out.bb.cell 0 _ rfl
  have x1 := S0.out.ba.cell 1 _ rfl
  have v1 := S0.out.bb.cell 1 _ rfl
  have x2 := S0.out.ba.cell 2 _ rfl
  have v2 := S0.out.bb.cell 2 _ rfl
  have x3 := S0.out.ba.cell 3 _ rfl
  have v3 := S0.out.bb.cell 3 _ rfl
  go_enter Try.func41, Try.ntmps41
  go_wp2_with fail
  refine (impl_alike (b := false) (by simp [h]) hn hm S0.out.ra S0.out.rb).mono ?_; rintro e w1 ⟨rfl, hw⟩
  have S1 := Lib.hid (S0.out.step hw)
  clear hw x0 x1 x2 x3 v0 v1 v2 v3 S0
  go_wp2_with fail
  go_ret2
  exact ⟨rfl, S1.out.below⟩
set_option maxRecDepth 100000 in
set_option maxHeartbeats 4000000 in
theorem spec_covers {b : Bool} (h : fiB z0 p z = true) (hg : Good z n X) (hg2 : Good z n Y) (hb : b = true ↔ CovP (bitX X) (bitX Y) z) (hn : n ≤ 1048576) (hra : IRow w A n X) (hrb : IRow w B n Y) :
    Calls Try.prog 40 #[.agg #[.int .i64 z0, .int .i64 p, .int .i64 z, .slice A n c], .agg #[.int .i64 z0, .int .i64 p, .int .i64 z, .slice B n d]] w fun e w' => e = .returned (.tuple #[.bool b, .bool true]) ∧ Below w.heap.size w w' := by
  obtain ⟨h0, h1, h2⟩ := fiB_out h
  have S0 := Lib.hid (V2b.start (ca := #[.int .i64 z0, .int .i64 p, .int .i64 z, .slice A n c]) (cb := #[.int .i64 z0, .int .i64 p, .int .i64 z, .slice B n d]) (t := 31) hra hrb)
  clear hra hrb
  have HG := Lib.hid hg
  have HG2 := Lib.hid hg2
  have HB := Lib.hid hb
  have hzn : z ≤ 16 * n := by have := hg.2.2.1; omega
  have x0 := S0.out.ba.cell 0 _ rfl
  have v0 := S0.out.bb.cell 0 _ rfl
  have x1 := S0.out.ba.cell 1 _ rfl
  have v1 := S0.out.bb.cell 1 _ rfl
  have x2 := S0.out.ba.cell 2 _ rfl
  have v2 := S0.out.bb.cell 2 _ rfl
  have x3 := S0.out.ba.cell 3 _ rfl
  have v3 := S0.out.bb.cell 3 _ rfl
  have HAl := Lib.hid (show AlP z0 p z n X z0 p z n Y from ⟨⟨h, hg⟩, ⟨h, hg2⟩, rfl, rfl, rfl⟩)
  clear hg hg2 hb
  go_enter Try.func40, Try.ntmps40
  go_wp2_with fail
  refine (spec_alike (b := true) (by simp [HAl.out]) hn hn S0.out.ra S0.out.rb).mono ?_; rintro e w1 ⟨rfl, hw⟩
  have S1 := Lib.hid (S0.out.step hw)
  clear hw x0 x1 x2 x3 v0 v1 v2 v3 S0
  go_wp2_with fail
  go_loopw [6] (fun i wr => ∃ k : Nat, k ≤ z ∧ i = .int .i64 k ∧ Hid (CovP (bitX X) (bitX Y) k) ∧ Hid (Below w1.heap.size w1 wr)) (fun i _ => z - (intOf i).toNat)
  case atStart => exact ⟨0, Nat.zero_le _, rfl, Lib.hid (fun i hi => absurd hi (by omega)), Lib.hid (Below.refl _ _)⟩
  case round =>
    obtain ⟨k, hk, rfl, HC, HL⟩ := hrel
    have S2 := Lib.hid (S1.out.step HL.out)
    have x0 := S2.out.ba.cell 0 _ rfl
    have v0 := S2.out.bb.cell 0 _ rfl
    have x1 := S2.out.ba.cell 1 _ rfl
    have v1 := S2.out.bb.cell 1 _ rfl
    have x2 := S2.out.ba.cell 2 _ rfl
    have v2 := S2.out.bb.cell 2 _ rfl
    have x3 := S2.out.ba.cell 3 _ rfl
    have v3 := S2.out.bb.cell 3 _ rfl
    by_cases hlt : k < z
    · have RX := Lib.hid (wrow_good S2.out.ra HG.out)
      have RY := Lib.hid (wrow_good S2.out.rb HG2.out)
      go_wp2_with fail
      refine (spec_biAt z B n d _ k wr hn RY.out (by omega)).mono ?_; rintro e w2 ⟨rfl, hb2⟩
      have HL2 := Lib.hid (HL.out.trans (hb2.mono HL.out.size))
      have S3 := Lib.hid (S1.out.step HL2.out)
      clear x0 x1 x2 x3 v0 v1 v2 v3 hb2
      cases hG : bitN (fun i => (Y i).toNat) k with
      | false =>
        have HN := Lib.hid (show CovP (bitX X) (bitX Y) (k + 1) from fun i hi hGi => by
          by_cases e : i = k
          · subst e; unfold bitX at hGi; rw [hG] at hGi; cases hGi
          · exact HC.out i (by omega) hGi)
        clear hG
        go_wp2_with fail
        go_roundw
        case rel => exact ⟨k + 1, by omega, by go_num, HN, HL2⟩
        case measure => simp [intOf]; omega
      | true =>
        have RX3 := Lib.hid (wrow_good S3.out.ra HG.out)
        have HGk := Lib.hid hG
        clear hG
        have x0 := S3.out.ba.cell 0 _ rfl
        have v0 := S3.out.bb.cell 0 _ rfl
        have x1 := S3.out.ba.cell 1 _ rfl
        have v1 := S3.out.bb.cell 1 _ rfl
        have x2 := S3.out.ba.cell 2 _ rfl
        have v2 := S3.out.bb.cell 2 _ rfl
        have x3 := S3.out.ba.cell 3 _ rfl
        have v3 := S3.out.bb.cell 3 _ rfl
        go_wp2_with fail
        refine (spec_biAt z A n c _ k w2 hn RX3.out (by omega)).mono ?_; rintro e w3 ⟨rfl, hb3⟩
        have HL3 := Lib.hid (HL2.out.trans (hb3.mono HL2.out.size))
        clear x0 x1 x2 x3 v0 v1 v2 v3 hb3
        cases hF : bitN (fun i => (X i).toNat) k with
        | false =>
          obtain rfl : b = false := by
            cases b
            · rfl
            · have := HB.out.1 rfl k hlt HGk.out
              unfold bitX at this; rw [hF] at this; cases this
          clear hF
          go_wp2_with fail
          go_ret2
          exact ⟨rfl, (S1.out.step HL3.out).below⟩
        | true =>
          have HN := Lib.hid (show CovP (bitX X) (bitX Y) (k + 1) from fun i hi hGi => by
            by_cases e : i = k
            · subst e; exact hF
            · exact HC.out i (by omega) hGi)
          clear hF
          go_wp2_with fail
          go_roundw
          case rel => exact ⟨k + 1, by omega, by go_num, HN, HL3⟩
          case measure => simp [intOf]; omega
    · obtain rfl : k = z := by omega
      obtain rfl : b = true := HB.out.2 HC.out
      go_wp2_with fail
      go_ret2
      exact ⟨rfl, S2.out.below⟩
set_option maxRecDepth 100000 in
set_option maxHeartbeats 4000000 in
theorem impl_covers {b : Bool} (h : fiB z0 p z = true) (hg : Good z n X) (hg2 : Good z n Y) (hb : b = true ↔ CovP (bitX X) (bitX Y) z) (hn : n ≤ 1048576) (hra : IRow w A n X) (hrb : IRow w B n Y) :
    Calls Try.prog 41 #[.agg #[.int .i64 z0, .int .i64 p, .int .i64 z, .slice A n c], .agg #[.int .i64 z0, .int .i64 p, .int .i64 z, .slice B n d]] w fun e w' => e = .returned (.tuple #[.bool b, .bool true]) ∧ Below w.heap.size w w' := by
  obtain ⟨h0, h1, h2⟩ := fiB_out h
  have S0 := Lib.hid (V2b.start (ca := #[.int .i64 z0, .int .i64 p, .int .i64 z, .slice A n c]) (cb := #[.int .i64 z0, .int .i64 p, .int .i64 z, .slice B n d]) (t := 31) hra hrb)
  clear hra hrb
  have HG := Lib.hid hg
  have HG2 := Lib.hid hg2
  have HB := Lib.hid hb
  have hzn : z ≤ 16 * n := by have := hg.2.2.1; omega
  have x0 := S0.out.ba.cell 0 _ rfl
  have v0 := S0.out.bb.cell 0 _ rfl
  have x1 := S0.out.ba.cell 1 _ rfl
  have v1 := S0.out.bb.cell 1 _ rfl
  have x2 := S0.out.ba.cell 2 _ rfl
  have v2 := S0.out.bb.cell 2 _ rfl
  have x3 := S0.out.ba.cell 3 _ rfl
  have v3 := S0.out.bb.cell 3 _ rfl
  have HAl := Lib.hid (show AlP z0 p z n X z0 p z n Y from ⟨⟨h, hg⟩, ⟨h, hg2⟩, rfl, rfl, rfl⟩)
  clear hg hg2 hb
  go_enter Try.func41, Try.ntmps41
  go_wp2_with fail
  refine (impl_alike (b := true) (by simp [HAl.out]) hn hn S0.out.ra S0.out.rb).mono ?_; rintro e w1 ⟨rfl, hw⟩
  have S1 := Lib.hid (S0.out.step hw)
  clear hw x0 x1 x2 x3 v0 v1 v2 v3 S0
  have x0 := S1.out.ba.cell 0 _ rfl
  have v0 := S1.out.bb.cell 0 _ rfl
  have x1 := S1.out.ba.cell 1 _ rfl
  have v1 := S1.out.bb.cell 1 _ rfl
  have x2 := S1.out.ba.cell 2 _ rfl
  have v2 := S1.out.bb.cell 2 _ rfl
  have x3 := S1.out.ba.cell 3 _ rfl
  have v3 := S1.out.bb.cell 3 _ rfl
  go_wp2_with fail
  go_loop [16] (fun i => ∃ k : Nat, k ≤ n ∧ i = .int .i64 k ∧ Hid (CovP (bitX X) (bitX Y) (16 * k))) (fun i => n - (intOf i).toNat)
  case atStart => exact ⟨0, Nat.zero_le _, rfl, Lib.hid (fun i hi => absurd hi (by omega))⟩
  case round =>
    obtain ⟨k, hk, rfl, HC⟩ := hrel
    by_cases hlt : k < n
    · obtain ⟨ba, oa, hA, _, hca⟩ := S1.out.ra (by omega)
      obtain ⟨bb, ob, hB, _, hcb⟩ := S1.out.rb (by omega)
      have hx := hca k hlt
      have hy := hcb k hlt
      obtain ⟨ux, hux⟩ : ∃ u : Nat, X k = u := ⟨(X k).toNat, by have := good_nat HG.out k hlt; omega⟩
      obtain ⟨uy, huy⟩ : ∃ u : Nat, Y k = u := ⟨(Y k).toNat, by have := good_nat HG2.out k hlt; omega⟩
      have hbx : ux < 65536 := by have := good_nat HG.out k hlt; omega
      have hby : uy < 65536 := by have := good_nat HG2.out k hlt; omega
      have hz := andNot_zero uy ux hby hbx
      have HZ := Lib.hid (show bits .andNot .i64 (uy : Int) (ux : Int) = 0 ↔ ∀ i, 16 * k ≤ i → i < 16 * (k + 1) → bitX Y i = true → bitX X i = true by
        rw [hz]
        unfold bitX bitN
        constructor
        · intro h i h1 h2
          rw [show i / 16 = k by omega]
          dsimp only
          rw [hux, huy, Int.toNat_natCast, Int.toNat_natCast]
          exact h (i % 16) (by omega)
        · intro h j hj
          have := h (16 * k + j) (by omega) (by omega)
          rw [show (16 * k + j) / 16 = k by omega, show (16 * k + j) % 16 = j by omega] at this
          dsimp only at this
          rw [hux, huy, Int.toNat_natCast, Int.toNat_natCast] at this
          exact this)
      rw [hux] at hx
      rw [huy] at hy
      obtain ⟨V, hV⟩ : ∃ V, V = bits .andNot .i64 (uy : Int) (ux : Int) := ⟨_, rfl⟩
      rw [← hV] at HZ
      have HV := Lib.hid hV.symm
      clear hca hcb hux huy hz hV
      subst hA hB
      by_cases hv : V = 0
      · have HN := Lib.hid (show CovP (bitX X) (bitX Y) (16 * (k + 1)) from fun i hi hGi => by
          by_cases e : i < 16 * k
          · exact HC.out i e hGi
          · exact HZ.out.1 hv i (by omega) hi hGi)
        have hd : (bits .andNot .i64 (uy : Int) (ux : Int) != 0) = false := by rw [HV.out]; simp [hv]
        clear hv
        go_wp2_with fail
        go_round
        case rel => exact ⟨k + 1, by omega, by go_num, HN⟩
        case measure => simp [intOf]; omega
      · obtain rfl : b = false := by
          cases b
          · rfl
          · exact absurd (HZ.out.2 fun i _ hi => (cov_more rfl HG2.out).2 (HB.out.1 rfl) i (by omega)) hv
        have hd : (bits .andNot .i64 (uy : Int) (ux : Int) != 0) = true := by rw [HV.out]; simpa using hv
        clear hv
        go_wp2_with fail
        go_ret2
        exact ⟨rfl, S1.out.below⟩
    · obtain rfl : k = n := by omega
      obtain rfl : b = true := HB.out.2 ((cov_more rfl HG2.out).1 HC.out)
      go_wp2_with fail
      go_ret2
      exact ⟨rfl, S1.out.below⟩
end
end Go.Proofs.Ytpajbcgdoedleaa
