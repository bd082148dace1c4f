/- MergeSparse: both ways. -/
import Derived.Test.YtdkkflejpcgipaaMrgS
namespace Go.Proofs.Ytdkkflejpcgipaa
open Go.RowKit

/-- What a function that is handed two Sparses keeps. -/
structure DL (w : World) (z0 z1 z2 z3 : Int) (A1 : Option Addr) (n1 c1 : Nat) (X1 : Nat → Int) (z4 : Int) (A2 : Option Addr) (n2 c2 : Nat) (X2 : Nat → Int) (y0 y1 y2 y3 : Int) (B1 : Option Addr) (p1 d1 : Nat) (Y1 : Nat → Int) (y4 : Int) (B2 : Option Addr) (p2 d2 : Nat) (Y2 : Nat → Int) (wi : World) : Prop where
  below : Below w.heap.size w wi
  l1 : IRow wi A1 n1 X1
  h1 : IRow wi A2 n2 X2
  l2 : IRow wi B1 p1 Y1
  h2 : IRow wi B2 p2 Y2
  b1 : NBX w.heap.size w.heap.size (spC z0 z1 z2 z3 A1 n1 c1 z4 A2 n2 c2) 29 wi
  b2 : NBX w.heap.size (w.heap.size + 1) (spC y0 y1 y2 y3 B1 p1 d1 y4 B2 p2 d2) 29 wi
section
variable {w wi wj : World} {z0 z1 z2 z3 z4 y0 y1 y2 y3 y4 : Int} {A1 A2 B1 B2 : Option Addr} {n1 c1 n2 c2 p1 d1 p2 d2 : Nat} {X1 X2 Y1 Y2 : Nat → Int}
theorem nbx_two {w : World} (o : Obj) (cs : Array Value) (t : TypeId) : NBX w.heap.size (w.heap.size + 1) cs t ((w.alloc o).alloc (.cells cs t)) :=
  ⟨by have := Go.Deep.blk_alloc_new (w.alloc o) (.cells cs t); simpa using this, by omega⟩
theorem DL.start (h1 : IRow w A1 n1 X1) (h2 : IRow w A2 n2 X2) (h3 : IRow w B1 p1 Y1) (h4 : IRow w B2 p2 Y2) : DL w z0 z1 z2 z3 A1 n1 c1 X1 z4 A2 n2 c2 X2 y0 y1 y2 y3 B1 p1 d1 Y1 y4 B2 p2 d2 Y2 ((w.alloc (.cells (spC z0 z1 z2 z3 A1 n1 c1 z4 A2 n2 c2) 29)).alloc (.cells (spC y0 y1 y2 y3 B1 p1 d1 y4 B2 p2 d2) 29)) := by
  have hb := ((Below.refl w.heap.size w).alloc (Nat.le_refl _) (.cells (spC z0 z1 z2 z3 A1 n1 c1 z4 A2 n2 c2) 29)).alloc (by simp) (.cells (spC y0 y1 y2 y3 B1 p1 d1 y4 B2 p2 d2) 29)
  exact ⟨hb, h1.b hb, h2.b hb, h3.b hb, h4.b hb, NBX.b ⟨Go.Deep.blk_alloc_new _ _, Nat.le_refl _⟩ ((Below.refl _ _).alloc (Nat.le_refl _) _), nbx_two _ _ _⟩
theorem DL.step (h : DL w z0 z1 z2 z3 A1 n1 c1 X1 z4 A2 n2 c2 X2 y0 y1 y2 y3 B1 p1 d1 Y1 y4 B2 p2 d2 Y2 wi) (hb : Below wi.heap.size wi wj) : DL w z0 z1 z2 z3 A1 n1 c1 X1 z4 A2 n2 c2 X2 y0 y1 y2 y3 B1 p1 d1 Y1 y4 B2 p2 d2 Y2 wj := ⟨h.below.trans (hb.mono h.below.size), h.l1.b hb, h.h1.b hb, h.l2.b hb, h.h2.b hb, h.b1.b hb, h.b2.b hb⟩
theorem DL.drew (h : DL w z0 z1 z2 z3 A1 n1 c1 X1 z4 A2 n2 c2 X2 y0 y1 y2 y3 B1 p1 d1 Y1 y4 B2 p2 d2 Y2 wi) : DL w z0 z1 z2 z3 A1 n1 c1 X1 z4 A2 n2 c2 X2 y0 y1 y2 y3 B1 p1 d1 Y1 y4 B2 p2 d2 Y2 wi.drew := h.step (Below.drew (Below.refl _ _))
theorem DL.al (h : DL w z0 z1 z2 z3 A1 n1 c1 X1 z4 A2 n2 c2 X2 y0 y1 y2 y3 B1 p1 d1 Y1 y4 B2 p2 d2 Y2 wi) (o : Obj) : DL w z0 z1 z2 z3 A1 n1 c1 X1 z4 A2 n2 c2 X2 y0 y1 y2 y3 B1 p1 d1 Y1 y4 B2 p2 d2 Y2 (wi.alloc o) := h.step ((Below.refl _ _).alloc (Nat.le_refl _) _)
theorem DL.cells (h : DL w z0 z1 z2 z3 A1 n1 c1 X1 z4 A2 n2 c2 X2 y0 y1 y2 y3 B1 p1 d1 Y1 y4 B2 p2 d2 Y2 wi) : wi.cell? ⟨w.heap.size, 0, none⟩ = some (.int .i64 z0) ∧ wi.cell? ⟨w.heap.size, 1, none⟩ = some (.int .i64 z1) ∧ wi.cell? ⟨w.heap.size, 2, none⟩ = some (.int .i64 z2) ∧ wi.cell? ⟨w.heap.size, 3, none⟩ = some (.int .i64 z3) ∧ wi.cell? ⟨w.heap.size, 4, none⟩ = some (.slice A1 n1 c1) ∧ wi.cell? ⟨w.heap.size, 5, none⟩ = some (.int .i64 z4) ∧ wi.cell? ⟨w.heap.size, 6, none⟩ = some (.slice A2 n2 c2) ∧ wi.cell? ⟨w.heap.size + 1, 0, none⟩ = some (.int .i64 y0) ∧ wi.cell? ⟨w.heap.size + 1, 1, none⟩ = some (.int .i64 y1) ∧ wi.cell? ⟨w.heap.size + 1, 2, none⟩ = some (.int .i64 y2) ∧ wi.cell? ⟨w.heap.size + 1, 3, none⟩ = some (.int .i64 y3) ∧ wi.cell? ⟨w.heap.size + 1, 4, none⟩ = some (.slice B1 p1 d1) ∧ wi.cell? ⟨w.heap.size + 1, 5, none⟩ = some (.int .i64 y4) ∧ wi.cell? ⟨w.heap.size + 1, 6, none⟩ = some (.slice B2 p2 d2) :=
  ⟨h.b1.cell 0 _ rfl, h.b1.cell 1 _ rfl, h.b1.cell 2 _ rfl, h.b1.cell 3 _ rfl, h.b1.cell 4 _ rfl, h.b1.cell 5 _ rfl, h.b1.cell 6 _ rfl, h.b2.cell 0 _ rfl, h.b2.cell 1 _ rfl, h.b2.cell 2 _ rfl, h.b2.cell 3 _ rfl, h.b2.cell 4 _ rfl, h.b2.cell 5 _ rfl, h.b2.cell 6 _ rfl⟩
theorem DL.far (h : DL w z0 z1 z2 z3 A1 n1 c1 X1 z4 A2 n2 c2 X2 y0 y1 y2 y3 B1 p1 d1 Y1 y4 B2 p2 d2 Y2 wi) {l k : Nat} (ho : Only l k wi wj) (hl : w.heap.size + 1 < l) (h1 : IRow w A1 n1 X1) (h2 : IRow w A2 n2 X2) (h3 : IRow w B1 p1 Y1) (h4 : IRow w B2 p2 Y2) : DL w z0 z1 z2 z3 A1 n1 c1 X1 z4 A2 n2 c2 X2 y0 y1 y2 y3 B1 p1 d1 Y1 y4 B2 p2 d2 Y2 wj := by
  have hb : Below l wi wj ∨ True := .inr trivial
  clear hb
  have hB : Below w.heap.size wi wj := ho.below h.below.size (by omega)
  exact ⟨h.below.trans hB, (LRow.row ((LRow.of h1).b (h.below.trans hB)) (h.below.trans hB).size), (LRow.row ((LRow.of h2).b (h.below.trans hB)) (h.below.trans hB).size), (LRow.row ((LRow.of h3).b (h.below.trans hB)) (h.below.trans hB).size), (LRow.row ((LRow.of h4).b (h.below.trans hB)) (h.below.trans hB).size), h.b1.far ho (.inl (by omega)), h.b2.far ho (.inl (by omega))⟩
theorem DL.kept (h : DL w z0 z1 z2 z3 A1 n1 c1 X1 z4 A2 n2 c2 X2 y0 y1 y2 y3 B1 p1 d1 Y1 y4 B2 p2 d2 Y2 wi) (v0 v1 v2 v3 v4 v5 v6 : Value) : ((((((((wi).setCell ⟨w.heap.size + 1 + 1, 0, none⟩ v0).setCell ⟨w.heap.size + 1 + 1, 1, none⟩ v1).setCell ⟨w.heap.size + 1 + 1, 2, none⟩ v2).setCell ⟨w.heap.size + 1 + 1, 3, none⟩ v3).setCell ⟨w.heap.size + 1 + 1, 4, none⟩ v4).setCell ⟨w.heap.size + 1 + 1, 5, none⟩ v5).setCell ⟨w.heap.size + 1 + 1, 6, none⟩ v6).cell? ⟨w.heap.size, 0, none⟩ = some (.int .i64 z0) ∧ ((((((((wi).setCell ⟨w.heap.size + 1 + 1, 0, none⟩ v0).setCell ⟨w.heap.size + 1 + 1, 1, none⟩ v1).setCell ⟨w.heap.size + 1 + 1, 2, none⟩ v2).setCell ⟨w.heap.size + 1 + 1, 3, none⟩ v3).setCell ⟨w.heap.size + 1 + 1, 4, none⟩ v4).setCell ⟨w.heap.size + 1 + 1, 5, none⟩ v5).setCell ⟨w.heap.size + 1 + 1, 6, none⟩ v6).cell? ⟨w.heap.size, 1, none⟩ = some (.int .i64 z1) ∧ ((((((((wi).setCell ⟨w.heap.size + 1 + 1, 0, none⟩ v0).setCell ⟨w.heap.size + 1 + 1, 1, none⟩ v1).setCell ⟨w.heap.size + 1 + 1, 2, none⟩ v2).setCell ⟨w.heap.size + 1 + 1, 3, none⟩ v3).setCell ⟨w.heap.size + 1 + 1, 4, none⟩ v4).setCell ⟨w.heap.size + 1 + 1, 5, none⟩ v5).setCell ⟨w.heap.size + 1 + 1, 6, none⟩ v6).cell? ⟨w.heap.size, 2, none⟩ = some (.int .i64 z2) ∧ ((((((((wi).setCell ⟨w.heap.size + 1 + 1, 0, none⟩ v0).setCell ⟨w.heap.size + 1 + 1, 1, none⟩ v1).setCell ⟨w.heap.size + 1 + 1, 2, none⟩ v2).setCell ⟨w.heap.size + 1 + 1, 3, none⟩ v3).setCell ⟨w.heap.size + 1 + 1, 4, none⟩ v4).setCell ⟨w.heap.size + 1 + 1, 5, none⟩ v5).setCell ⟨w.heap.size + 1 + 1, 6, none⟩ v6).cell? ⟨w.heap.size, 3, none⟩ = some (.int .i64 z3) ∧ ((((((((wi).setCell ⟨w.heap.size + 1 + 1, 0, none⟩ v0).setCell ⟨w.heap.size + 1 + 1, 1, none⟩ v1).setCell ⟨w.heap.size + 1 + 1, 2, none⟩ v2).setCell ⟨w.heap.size + 1 + 1, 3, none⟩ v3).setCell ⟨w.heap.size + 1 + 1, 4, none⟩ v4).setCell ⟨w.heap.size + 1 + 1, 5, none⟩ v5).setCell ⟨w.heap.size + 1 + 1, 6, none⟩ v6).cell? ⟨w.heap.size, 4, none⟩ = some (.slice A1 n1 c1) ∧ ((((((((wi).setCell ⟨w.heap.size + 1 + 1, 0, none⟩ v0).setCell ⟨w.heap.size + 1 + 1, 1, none⟩ v1).setCell ⟨w.heap.size + 1 + 1, 2, none⟩ v2).setCell ⟨w.heap.size + 1 + 1, 3, none⟩ v3).setCell ⟨w.heap.size + 1 + 1, 4, none⟩ v4).setCell ⟨w.heap.size + 1 + 1, 5, none⟩ v5).setCell ⟨w.heap.size + 1 + 1, 6, none⟩ v6).cell? ⟨w.heap.size, 5, none⟩ = some (.int .i64 z4) ∧ ((((((((wi).setCell ⟨w.heap.size + 1 + 1, 0, none⟩ v0).setCell ⟨w.heap.size + 1 + 1, 1, none⟩ v1).setCell ⟨w.heap.size + 1 + 1, 2, none⟩ v2).setCell ⟨w.heap.size + 1 + 1, 3, none⟩ v3).setCell ⟨w.heap.size + 1 + 1, 4, none⟩ v4).setCell ⟨w.heap.size + 1 + 1, 5, none⟩ v5).setCell ⟨w.heap.size + 1 + 1, 6, none⟩ v6).cell? ⟨w.heap.size, 6, none⟩ = some (.slice A2 n2 c2) ∧ ((((((((wi).setCell ⟨w.heap.size + 1 + 1, 0, none⟩ v0).setCell ⟨w.heap.size + 1 + 1, 1, none⟩ v1).setCell ⟨w.heap.size + 1 + 1, 2, none⟩ v2).setCell ⟨w.heap.size + 1 + 1, 3, none⟩ v3).setCell ⟨w.heap.size + 1 + 1, 4, none⟩ v4).setCell ⟨w.heap.size + 1 + 1, 5, none⟩ v5).setCell ⟨w.heap.size + 1 + 1, 6, none⟩ v6).cell? ⟨w.heap.size + 1, 0, none⟩ = some (.int .i64 y0) ∧ ((((((((wi).setCell ⟨w.heap.size + 1 + 1, 0, none⟩ v0).setCell ⟨w.heap.size + 1 + 1, 1, none⟩ v1).setCell ⟨w.heap.size + 1 + 1, 2, none⟩ v2).setCell ⟨w.heap.size + 1 + 1, 3, none⟩ v3).setCell ⟨w.heap.size + 1 + 1, 4, none⟩ v4).setCell ⟨w.heap.size + 1 + 1, 5, none⟩ v5).setCell ⟨w.heap.size + 1 + 1, 6, none⟩ v6).cell? ⟨w.heap.size + 1, 1, none⟩ = some (.int .i64 y1) ∧ ((((((((wi).setCell ⟨w.heap.size + 1 + 1, 0, none⟩ v0).setCell ⟨w.heap.size + 1 + 1, 1, none⟩ v1).setCell ⟨w.heap.size + 1 + 1, 2, none⟩ v2).setCell ⟨w.heap.size + 1 + 1, 3, none⟩ v3).setCell ⟨w.heap.size + 1 + 1, 4, none⟩ v4).setCell ⟨w.heap.size + 1 + 1, 5, none⟩ v5).setCell ⟨w.heap.size + 1 + 1, 6, none⟩ v6).cell? ⟨w.heap.size + 1, 2, none⟩ = some (.int .i64 y2) ∧ ((((((((wi).setCell ⟨w.heap.size + 1 + 1, 0, none⟩ v0).setCell ⟨w.heap.size + 1 + 1, 1, none⟩ v1).setCell ⟨w.heap.size + 1 + 1, 2, none⟩ v2).setCell ⟨w.heap.size + 1 + 1, 3, none⟩ v3).setCell ⟨w.heap.size + 1 + 1, 4, none⟩ v4).setCell ⟨w.heap.size + 1 + 1, 5, none⟩ v5).setCell ⟨w.heap.size + 1 + 1, 6, none⟩ v6).cell? ⟨w.heap.size + 1, 3, none⟩ = some (.int .i64 y3) ∧ ((((((((wi).setCell ⟨w.heap.size + 1 + 1, 0, none⟩ v0).setCell ⟨w.heap.size + 1 + 1, 1, none⟩ v1).setCell ⟨w.heap.size + 1 + 1, 2, none⟩ v2).setCell ⟨w.heap.size + 1 + 1, 3, none⟩ v3).setCell ⟨w.heap.size + 1 + 1, 4, none⟩ v4).setCell ⟨w.heap.size + 1 + 1, 5, none⟩ v5).setCell ⟨w.heap.size + 1 + 1, 6, none⟩ v6).cell? ⟨w.heap.size + 1, 4, none⟩ = some (.slice B1 p1 d1) ∧ ((((((((wi).setCell ⟨w.heap.size + 1 + 1, 0, none⟩ v0).setCell ⟨w.heap.size + 1 + 1, 1, none⟩ v1).setCell ⟨w.heap.size + 1 + 1, 2, none⟩ v2).setCell ⟨w.heap.size + 1 + 1, 3, none⟩ v3).setCell ⟨w.heap.size + 1 + 1, 4, none⟩ v4).setCell ⟨w.heap.size + 1 + 1, 5, none⟩ v5).setCell ⟨w.heap.size + 1 + 1, 6, none⟩ v6).cell? ⟨w.heap.size + 1, 5, none⟩ = some (.int .i64 y4) ∧ ((((((((wi).setCell ⟨w.heap.size + 1 + 1, 0, none⟩ v0).setCell ⟨w.heap.size + 1 + 1, 1, none⟩ v1).setCell ⟨w.heap.size + 1 + 1, 2, none⟩ v2).setCell ⟨w.heap.size + 1 + 1, 3, none⟩ v3).setCell ⟨w.heap.size + 1 + 1, 4, none⟩ v4).setCell ⟨w.heap.size + 1 + 1, 5, none⟩ v5).setCell ⟨w.heap.size + 1 + 1, 6, none⟩ v6).cell? ⟨w.heap.size + 1, 6, none⟩ = some (.slice B2 p2 d2) := by
  have hon := fin7_only wi (w.heap.size + 1 + 1) v0 v1 v2 v3 v4 v5 v6
  unfold fin7 at hon
  have k1 := h.b1.far hon (.inl (by omega))
  have k2 := h.b2.far hon (.inl (by omega))
  exact ⟨k1.cell 0 _ rfl, k1.cell 1 _ rfl, k1.cell 2 _ rfl, k1.cell 3 _ rfl, k1.cell 4 _ rfl, k1.cell 5 _ rfl, k1.cell 6 _ rfl, k2.cell 0 _ rfl, k2.cell 1 _ rfl, k2.cell 2 _ rfl, k2.cell 3 _ rfl, k2.cell 4 _ rfl, k2.cell 5 _ rfl, k2.cell 6 _ rfl⟩
end
theorem SpN.srtN {c L w : Nat} {f : Nat → Nat} (h : SpN c L w f) : SrtN c (numI f) := fun i j hij hj => by unfold numI; have := h.mono hij hj; omega
section
variable (A1 : Option Addr) (n1 c1 : Nat) (X1 : Nat → Int) (A2 : Option Addr) (n2 c2 : Nat) (X2 : Nat → Int) (B1 : Option Addr) (p1 d1 : Nat) (Y1 : Nat → Int) (B2 : Option Addr) (p2 d2 : Nat) (Y2 : Nat → Int) (w : World) {z0 z1 z2 z3 z4 y0 y1 y2 y3 y4 : Int} {c L v c' L' v' : Nat} {f f' : Nat → Nat}
theorem nbx_three (w : World) (o o' : Obj) : NBX w.heap.size (w.heap.size + 1 + 1) (spC 0 0 0 0 none 0 0 0 none 0 0) 29 (((w.alloc o).alloc o').alloc (.cells (spC 0 0 0 0 none 0 0 0 none 0 0) 29)) :=
  ⟨by have := Go.Deep.blk_alloc_new ((w.alloc o).alloc o') (.cells (spC 0 0 0 0 none 0 0 0 none 0 0) 29); simpa using this, by omega⟩
set_option maxRecDepth 100000 in
set_option maxHeartbeats 4000000 in
theorem spec_merge_no1 (hn1 : n1 ≤ 1048576) (hn2 : n2 ≤ 1048576) (_hp1 : p1 ≤ 1048576) (_hp2 : p2 ≤ 1048576) (h1 : IRow w A1 n1 X1) (h2 : IRow w A2 n2 X2) (h3 : IRow w B1 p1 Y1) (h4 : IRow w B2 p2 Y2) (h : ¬ SpV z0 z1 z2 z3 n1 X1 z4 n2 X2) :
    Calls Try.prog 47 #[.agg (spC z0 z1 z2 z3 A1 n1 c1 z4 A2 n2 c2), .agg (spC y0 y1 y2 y3 B1 p1 d1 y4 B2 p2 d2)] w (SpOwn 0 0 0 0 0 (fun _ => 0) 0 0 (fun _ => 0) false w) := by
  have HVA := Lib.hid h
  clear h
  have T0 := Lib.hid ((DL.start (z0 := z0) (z1 := z1) (z2 := z2) (z3 := z3) (z4 := z4) (y0 := y0) (y1 := y1) (y2 := y2) (y3 := y3) (y4 := y4) (c1 := c1) (c2 := c2) (d1 := d1) (d2 := d2) h1 h2 h3 h4).al (.cells (spC 0 0 0 0 none 0 0 0 none 0 0) 29))
  have N0 := Lib.hid (nbx_three w (.cells (spC z0 z1 z2 z3 A1 n1 c1 z4 A2 n2 c2) 29) (.cells (spC y0 y1 y2 y3 B1 p1 d1 y4 B2 p2 d2) 29))
  clear h1 h2 h3 h4
  obtain ⟨q0, q1, q2, q3, q4, q5, q6, q7, q8, q9, q10, q11, q12, q13⟩ := T0.out.cells
  go_enter Try.func47, Try.ntmps47
  unfold spC
  go_wp2_with fail
  refine (good_no A1 n1 c1 X1 A2 n2 c2 X2 _ hn1 hn2 T0.out.l1 T0.out.h1 HVA.out).mono ?_; rintro e w1 ⟨rfl, hb⟩
  have T1 := Lib.hid (T0.out.step hb)
  have N1 := Lib.hid (N0.out.b hb)
  clear hb T0 N0 q0 q1 q2 q3 q4 q5 q6 q7 q8 q9 q10 q11 q12 q13
  obtain ⟨q0, q1, q2, q3, q4, q5, q6, q7, q8, q9, q10, q11, q12, q13⟩ := T1.out.cells
  have r0 := N1.out.cell 0 _ rfl
  have g0 := N1.out.free 0
  have r1 := N1.out.cell 1 _ rfl
  have g1 := N1.out.free 1
  have r2 := N1.out.cell 2 _ rfl
  have g2 := N1.out.free 2
  have r3 := N1.out.cell 3 _ rfl
  have g3 := N1.out.free 3
  have r4 := N1.out.cell 4 _ rfl
  have g4 := N1.out.free 4
  have r5 := N1.out.cell 5 _ rfl
  have g5 := N1.out.free 5
  have r6 := N1.out.cell 6 _ rfl
  have g6 := N1.out.free 6
  go_wp2_with fail
  change bodyPost _ _ _ _ _ (fin7 w1 (w.heap.size + 1 + 1) (.int .i64 0) (.int .i64 0) (.int .i64 0) (.int .i64 0) (.slice none 0 0) (.int .i64 0) (.slice none 0 0))
  have NF := fin7_box (v0 := .int .i64 0) (v1 := .int .i64 0) (v2 := .int .i64 0) (v3 := .int .i64 0) (v4 := .slice none 0 0) (v5 := .int .i64 0) (v6 := .slice none 0 0) N1.out
  have hon := fin7_only w1 (w.heap.size + 1 + 1) (.int .i64 0) (.int .i64 0) (.int .i64 0) (.int .i64 0) (.slice none 0 0) (.int .i64 0) (.slice none 0 0)
  clear r0 g0 r1 g1 r2 g2 r3 g3 r4 g4 r5 g5 r6 g6
  generalize fin7 w1 (w.heap.size + 1 + 1) (.int .i64 0) (.int .i64 0) (.int .i64 0) (.int .i64 0) (.slice none 0 0) (.int .i64 0) (.slice none 0 0) = wf at *
  have r0 := NF.cell 0 _ rfl
  have r1 := NF.cell 1 _ rfl
  have r2 := NF.cell 2 _ rfl
  have r3 := NF.cell 3 _ rfl
  have r4 := NF.cell 4 _ rfl
  have r5 := NF.cell 5 _ rfl
  have r6 := NF.cell 6 _ rfl
  refine bodyPost_ret (v := .tuple #[.agg #[.int .i64 0, .int .i64 0, .int .i64 0, .int .i64 0, .slice none 0 0, .int .i64 0, .slice none 0 0], .bool false]) (by simp [results, Try.results47, go_sem, r0, r1, r2, r3, r4, r5, r6]) rfl ?_
  exact spOwn_none rfl (T1.out.below.trans (hon.below T1.out.below.size (by omega)))

set_option maxRecDepth 100000 in
set_option maxHeartbeats 4000000 in
theorem spec_merge_no2 (hn1 : n1 ≤ 1048576) (hn2 : n2 ≤ 1048576) (hp1 : p1 ≤ 1048576) (hp2 : p2 ≤ 1048576) (h1 : IRow w A1 n1 X1) (h2 : IRow w A2 n2 X2) (h3 : IRow w B1 p1 Y1) (h4 : IRow w B2 p2 Y2) (h : SpV z0 z1 z2 z3 n1 X1 z4 n2 X2) (h' : ¬ SpV y0 y1 y2 y3 p1 Y1 y4 p2 Y2) :
    Calls Try.prog 47 #[.agg (spC z0 z1 z2 z3 A1 n1 c1 z4 A2 n2 c2), .agg (spC y0 y1 y2 y3 B1 p1 d1 y4 B2 p2 d2)] w (SpOwn 0 0 0 0 0 (fun _ => 0) 0 0 (fun _ => 0) false w) := by
  have HVA := Lib.hid h
  have HVB := Lib.hid h'
  clear h h'
  have T0 := Lib.hid ((DL.start (z0 := z0) (z1 := z1) (z2 := z2) (z3 := z3) (z4 := z4) (y0 := y0) (y1 := y1) (y2 := y2) (y3 := y3) (y4 := y4) (c1 := c1) (c2 := c2) (d1 := d1) (d2 := d2) h1 h2 h3 h4).al (.cells (spC 0 0 0 0 none 0 0 0 none 0 0) 29))
  have N0 := Lib.hid (nbx_three w (.cells (spC z0 z1 z2 z3 A1 n1 c1 z4 A2 n2 c2) 29) (.cells (spC y0 y1 y2 y3 B1 p1 d1 y4 B2 p2 d2) 29))
  clear h1 h2 h3 h4
  obtain ⟨q0, q1, q2, q3, q4, q5, q6, q7, q8, q9, q10, q11, q12, q13⟩ := T0.out.cells
  go_enter Try.func47, Try.ntmps47
  unfold spC
  go_wp2_with fail
  refine (good_yes A1 n1 c1 X1 A2 n2 c2 X2 _ hn1 hn2 T0.out.l1 T0.out.h1 HVA.out).mono ?_; rintro e w1 ⟨rfl, hb⟩
  have T1 := Lib.hid (T0.out.step hb)
  have N1 := Lib.hid (N0.out.b hb)
  clear hb T0 N0 q0 q1 q2 q3 q4 q5 q6 q7 q8 q9 q10 q11 q12 q13
  obtain ⟨q0, q1, q2, q3, q4, q5, q6, q7, q8, q9, q10, q11, q12, q13⟩ := T1.out.cells
  go_wp2_with fail
  refine (good_no B1 p1 d1 Y1 B2 p2 d2 Y2 _ hp1 hp2 T1.out.l2 T1.out.h2 HVB.out).mono ?_; rintro e w2 ⟨rfl, hb⟩
  have T2 := Lib.hid (T1.out.step hb)
  have N2 := Lib.hid (N1.out.b hb)
  clear hb T1 N1 q0 q1 q2 q3 q4 q5 q6 q7 q8 q9 q10 q11 q12 q13
  obtain ⟨q0, q1, q2, q3, q4, q5, q6, q7, q8, q9, q10, q11, q12, q13⟩ := T2.out.cells
  have r0 := N2.out.cell 0 _ rfl
  have g0 := N2.out.free 0
  have r1 := N2.out.cell 1 _ rfl
  have g1 := N2.out.free 1
  have r2 := N2.out.cell 2 _ rfl
  have g2 := N2.out.free 2
  have r3 := N2.out.cell 3 _ rfl
  have g3 := N2.out.free 3
  have r4 := N2.out.cell 4 _ rfl
  have g4 := N2.out.free 4
  have r5 := N2.out.cell 5 _ rfl
  have g5 := N2.out.free 5
  have r6 := N2.out.cell 6 _ rfl
  have g6 := N2.out.free 6
  go_wp2_with fail
  change bodyPost _ _ _ _ _ (fin7 w2 (w.heap.size + 1 + 1) (.int .i64 0) (.int .i64 0) (.int .i64 0) (.int .i64 0) (.slice none 0 0) (.int .i64 0) (.slice none 0 0))
  have NF := fin7_box (v0 := .int .i64 0) (v1 := .int .i64 0) (v2 := .int .i64 0) (v3 := .int .i64 0) (v4 := .slice none 0 0) (v5 := .int .i64 0) (v6 := .slice none 0 0) N2.out
  have hon := fin7_only w2 (w.heap.size + 1 + 1) (.int .i64 0) (.int .i64 0) (.int .i64 0) (.int .i64 0) (.slice none 0 0) (.int .i64 0) (.slice none 0 0)
  clear r0 g0 r1 g1 r2 g2 r3 g3 r4 g4 r5 g5 r6 g6
  generalize fin7 w2 (w.heap.size + 1 + 1) (.int .i64 0) (.int .i64 0) (.int .i64 0) (.int .i64 0) (.slice none 0 0) (.int .i64 0) (.slice none 0 0) = wf at *
  have r0 := NF.cell 0 _ rfl
  have r1 := NF.cell 1 _ rfl
  have r2 := NF.cell 2 _ rfl
  have r3 := NF.cell 3 _ rfl
  have r4 := NF.cell 4 _ rfl
  have r5 := NF.cell 5 _ rfl
  have r6 := NF.cell 6 _ rfl
  refine bodyPost_ret (v := .tuple #[.agg #[.int .i64 0, .int .i64 0, .int .i64 0, .int .i64 0, .slice none 0 0, .int .i64 0, .slice none 0 0], .bool false]) (by simp [results, Try.results47, go_sem, r0, r1, r2, r3, r4, r5, r6]) rfl ?_
  exact spOwn_none rfl (T2.out.below.trans (hon.below T2.out.below.size (by omega)))

set_option maxRecDepth 100000 in
set_option maxHeartbeats 4000000 in
theorem spec_merge_no3 (hn1 : n1 ≤ 1048576) (hn2 : n2 ≤ 1048576) (hp1 : p1 ≤ 1048576) (hp2 : p2 ≤ 1048576) (h1 : IRow w A1 n1 X1) (h2 : IRow w A2 n2 X2) (h3 : IRow w B1 p1 Y1) (h4 : IRow w B2 p2 Y2) (ha : SpIs z0 z1 z2 z3 n1 X1 z4 n2 X2 c L v f) (hb : SpIs y0 y1 y2 y3 p1 Y1 y4 p2 Y2 c' L' v' f') (hx : 60 < c + c') :
    Calls Try.prog 47 #[.agg (spC z0 z1 z2 z3 A1 n1 c1 z4 A2 n2 c2), .agg (spC y0 y1 y2 y3 B1 p1 d1 y4 B2 p2 d2)] w (SpOwn 0 0 0 0 0 (fun _ => 0) 0 0 (fun _ => 0) false w) := by
  have HIA := Lib.hid ha
  have HVA := Lib.hid (show SpV z0 z1 z2 z3 n1 X1 z4 n2 X2 from ⟨c, L, v, f, ha⟩)
  have hca := ha.num.hc
  have hLa := ha.num.hL
  have hLa1 := ha.num.h1
  have e0 := ha.ec
  have e1 := ha.eL
  subst e0 e1
  clear ha
  have HIB := Lib.hid hb
  have HVB := Lib.hid (show SpV y0 y1 y2 y3 p1 Y1 y4 p2 Y2 from ⟨c', L', v', f', hb⟩)
  have hcb := hb.num.hc
  have hLb := hb.num.hL
  have hLb1 := hb.num.h1
  have e0 := hb.ec
  have e1 := hb.eL
  subst e0 e1
  clear hb
  have dd : decide ((60 : Int) < (c : Int) + (c' : Int)) = true := by simp; omega
  have T0 := Lib.hid ((DL.start (z0 := c) (z1 := L) (z2 := z2) (z3 := z3) (z4 := z4) (y0 := c') (y1 := L') (y2 := y2) (y3 := y3) (y4 := y4) (c1 := c1) (c2 := c2) (d1 := d1) (d2 := d2) h1 h2 h3 h4).al (.cells (spC 0 0 0 0 none 0 0 0 none 0 0) 29))
  have N0 := Lib.hid (nbx_three w (.cells (spC c L z2 z3 A1 n1 c1 z4 A2 n2 c2) 29) (.cells (spC c' L' y2 y3 B1 p1 d1 y4 B2 p2 d2) 29))
  clear h1 h2 h3 h4
  obtain ⟨q0, q1, q2, q3, q4, q5, q6, q7, q8, q9, q10, q11, q12, q13⟩ := T0.out.cells
  go_enter Try.func47, Try.ntmps47
  unfold spC
  go_wp2_with fail
  refine (good_yes A1 n1 c1 X1 A2 n2 c2 X2 _ hn1 hn2 T0.out.l1 T0.out.h1 HVA.out).mono ?_; rintro e w1 ⟨rfl, hb⟩
  have T1 := Lib.hid (T0.out.step hb)
  have N1 := Lib.hid (N0.out.b hb)
  clear hb T0 N0 q0 q1 q2 q3 q4 q5 q6 q7 q8 q9 q10 q11 q12 q13
  obtain ⟨q0, q1, q2, q3, q4, q5, q6, q7, q8, q9, q10, q11, q12, q13⟩ := T1.out.cells
  go_wp2_with fail
  refine (good_yes B1 p1 d1 Y1 B2 p2 d2 Y2 _ hp1 hp2 T1.out.l2 T1.out.h2 HVB.out).mono ?_; rintro e w2 ⟨rfl, hb⟩
  have T2 := Lib.hid (T1.out.step hb)
  have N2 := Lib.hid (N1.out.b hb)
  clear hb T1 N1 q0 q1 q2 q3 q4 q5 q6 q7 q8 q9 q10 q11 q12 q13
  obtain ⟨q0, q1, q2, q3, q4, q5, q6, q7, q8, q9, q10, q11, q12, q13⟩ := T2.out.cells
  have r0 := N2.out.cell 0 _ rfl
  have g0 := N2.out.free 0
  have r1 := N2.out.cell 1 _ rfl
  have g1 := N2.out.free 1
  have r2 := N2.out.cell 2 _ rfl
  have g2 := N2.out.free 2
  have r3 := N2.out.cell 3 _ rfl
  have g3 := N2.out.free 3
  have r4 := N2.out.cell 4 _ rfl
  have g4 := N2.out.free 4
  have r5 := N2.out.cell 5 _ rfl
  have g5 := N2.out.free 5
  have r6 := N2.out.cell 6 _ rfl
  have g6 := N2.out.free 6
  go_wp2_with fail
  change bodyPost _ _ _ _ _ (fin7 w2 (w.heap.size + 1 + 1) (.int .i64 0) (.int .i64 0) (.int .i64 0) (.int .i64 0) (.slice none 0 0) (.int .i64 0) (.slice none 0 0))
  have NF := fin7_box (v0 := .int .i64 0) (v1 := .int .i64 0) (v2 := .int .i64 0) (v3 := .int .i64 0) (v4 := .slice none 0 0) (v5 := .int .i64 0) (v6 := .slice none 0 0) N2.out
  have hon := fin7_only w2 (w.heap.size + 1 + 1) (.int .i64 0) (.int .i64 0) (.int .i64 0) (.int .i64 0) (.slice none 0 0) (.int .i64 0) (.slice none 0 0)
  clear r0 g0 r1 g1 r2 g2 r3 g3 r4 g4 r5 g5 r6 g6
  generalize fin7 w2 (w.heap.size + 1 + 1) (.int .i64 0) (.int .i64 0) (.int .i64 0) (.int .i64 0) (.slice none 0 0) (.int .i64 0) (.slice none 0 0) = wf at *
  have r0 := NF.cell 0 _ rfl
  have r1 := NF.cell 1 _ rfl
  have r2 := NF.cell 2 _ rfl
  have r3 := NF.cell 3 _ rfl
  have r4 := NF.cell 4 _ rfl
  have r5 := NF.cell 5 _ rfl
  have r6 := NF.cell 6 _ rfl
  refine bodyPost_ret (v := .tuple #[.agg #[.int .i64 0, .int .i64 0, .int .i64 0, .int .i64 0, .slice none 0 0, .int .i64 0, .slice none 0 0], .bool false]) (by simp [results, Try.results47, go_sem, r0, r1, r2, r3, r4, r5, r6]) rfl ?_
  exact spOwn_none rfl (T2.out.below.trans (hon.below T2.out.below.size (by omega)))

set_option maxRecDepth 100000 in
set_option maxHeartbeats 4000000 in
theorem spec_merge_yes (x : Nat) (g : Nat → Nat) (M : Nat → Int) (nl nh : Nat) (hn1 : n1 ≤ 1048576) (hn2 : n2 ≤ 1048576) (hp1 : p1 ≤ 1048576) (hp2 : p2 ≤ 1048576) (h1 : IRow w A1 n1 X1) (h2 : IRow w A2 n2 X2) (h3 : IRow w B1 p1 Y1) (h4 : IRow w B2 p2 Y2) (ha : SpIs z0 z1 z2 z3 n1 X1 z4 n2 X2 c L v f) (hb : SpIs y0 y1 y2 y3 p1 Y1 y4 p2 Y2 c' L' v' f') (hM : MrgOf c (numI f) c' (numI f') M) (hg : ∀ i, i < c + c' → M i = numI g i) (hS : SpN (c + c') (max L L') x g) (hnl : nl = ((c + c') * x + 15) / 16) (hnh : nh = (hzN (c + c') (max L L') x + 15) / 16) :
    Calls Try.prog 47 #[.agg (spC z0 z1 z2 z3 A1 n1 c1 z4 A2 n2 c2), .agg (spC y0 y1 y2 y3 B1 p1 d1 y4 B2 p2 d2)] w (SpOwn ((c + c' : Nat) : Int) ((max L L' : Nat) : Int) x (((c + c') * x : Nat) : Int) nl (fun i => (wordsOf (lowB g x (c + c')) i : Int)) ((hzN (c + c') (max L L') x : Nat) : Int) nh (fun i => (wordsOf (highB g x (c + c')) i : Int)) true w) := by
  have HSN := Lib.hid hS
  have HNL := Lib.hid hnl
  have HNH := Lib.hid hnh
  have HG := Lib.hid hg
  have HMM := Lib.hid hM
  have hm60 := hS.hc
  clear hS hnl hnh hg hM
  obtain ⟨m, hm⟩ : ∃ m, m = c + c' := ⟨_, rfl⟩
  obtain ⟨Lm, hLm⟩ : ∃ Lm, Lm = max L L' := ⟨_, rfl⟩
  rw [← hm, ← hLm] at HSN
  rw [← hm, ← hLm] at HNH
  rw [← hm] at HNL
  rw [← hm] at HG
  rw [← hm, ← hLm]
  have hmx : max (L : Int) (L' : Int) = (Lm : Int) := by omega
  have HMI := Lib.hid hm
  have HMX := Lib.hid hmx
  obtain ⟨zl, hzl⟩ : ∃ zl, zl = m * x := ⟨_, rfl⟩
  obtain ⟨zh, hzh⟩ : ∃ zh, zh = hzN m Lm x := ⟨_, rfl⟩
  rw [← hzl, ← hzh]
  have HZL := Lib.hid hzl
  have HZH := Lib.hid hzh
  have hsum : decide ((60 : Int) < (c : Int) + (c' : Int)) = false := by simp; omega
  clear hm hLm hmx hzl hzh
  have hcall := fun (W : World) (A' : Option Addr) (k' : Nat) (h : IRow W A' m (numI g)) => spec_spOf A' m k' Lm x g W HSN.out h nl nh HNL.out HNH.out
  rw [← HZL.out, ← HZH.out] at hcall
  have HC := Lib.hid hcall
  clear hcall
  have HIA := Lib.hid ha
  have HVA := Lib.hid (show SpV z0 z1 z2 z3 n1 X1 z4 n2 X2 from ⟨c, L, v, f, ha⟩)
  have hca := ha.num.hc
  have hLa := ha.num.hL
  have hLa1 := ha.num.h1
  have e0 := ha.ec
  have e1 := ha.eL
  subst e0 e1
  clear ha
  have HIB := Lib.hid hb
  have HVB := Lib.hid (show SpV y0 y1 y2 y3 p1 Y1 y4 p2 Y2 from ⟨c', L', v', f', hb⟩)
  have hcb := hb.num.hc
  have hLb := hb.num.hL
  have hLb1 := hb.num.h1
  have e0 := hb.ec
  have e1 := hb.eL
  subst e0 e1
  clear hb
  have T0 := Lib.hid ((DL.start (z0 := c) (z1 := L) (z2 := z2) (z3 := z3) (z4 := z4) (y0 := c') (y1 := L') (y2 := y2) (y3 := y3) (y4 := y4) (c1 := c1) (c2 := c2) (d1 := d1) (d2 := d2) h1 h2 h3 h4).al (.cells (spC 0 0 0 0 none 0 0 0 none 0 0) 29))
  have N0 := Lib.hid (nbx_three w (.cells (spC c L z2 z3 A1 n1 c1 z4 A2 n2 c2) 29) (.cells (spC c' L' y2 y3 B1 p1 d1 y4 B2 p2 d2) 29))
  clear h1 h2 h3 h4
  obtain ⟨q0, q1, q2, q3, q4, q5, q6, q7, q8, q9, q10, q11, q12, q13⟩ := T0.out.cells
  go_enter Try.func47, Try.ntmps47
  unfold spC
  go_wp2_with fail
  refine (good_yes A1 n1 c1 X1 A2 n2 c2 X2 _ hn1 hn2 T0.out.l1 T0.out.h1 HVA.out).mono ?_; rintro e w1 ⟨rfl, hb⟩
  have T1 := Lib.hid (T0.out.step hb)
  have N1 := Lib.hid (N0.out.b hb)
  clear hb T0 N0 q0 q1 q2 q3 q4 q5 q6 q7 q8 q9 q10 q11 q12 q13
  obtain ⟨q0, q1, q2, q3, q4, q5, q6, q7, q8, q9, q10, q11, q12, q13⟩ := T1.out.cells
  go_wp2_with fail
  refine (good_yes B1 p1 d1 Y1 B2 p2 d2 Y2 _ hp1 hp2 T1.out.l2 T1.out.h2 HVB.out).mono ?_; rintro e w2 ⟨rfl, hb⟩
  have T2 := Lib.hid (T1.out.step hb)
  have N2 := Lib.hid (N1.out.b hb)
  clear hb T1 N1 q0 q1 q2 q3 q4 q5 q6 q7 q8 q9 q10 q11 q12 q13
  obtain ⟨q0, q1, q2, q3, q4, q5, q6, q7, q8, q9, q10, q11, q12, q13⟩ := T2.out.cells
  go_wp2_with fail
  have hmc := fun (W : World) (P3 : Option Addr) (k3 : Nat) (P4 : Option Addr) (k4 : Nat) (g1 : IRow W P3 c (numI f)) (g2 : IRow W P4 c' (numI f')) => spec_spMerge P3 c k3 (numI f) P4 c' k4 (numI f') W hca hcb g1 g2 HIA.out.num.srtN HIB.out.num.srtN M HMM.out
  rw [← HMI.out] at hmc
  have HMC := Lib.hid hmc
  clear hmc
  have TD := Lib.hid T2.out.drew
  have hl2 := N2.out.lt
  go_region_held3 (fun w' => w'.cell? ⟨w.heap.size, 0, none⟩ = some (.int .i64 c) ∧ w'.cell? ⟨w.heap.size, 1, none⟩ = some (.int .i64 L) ∧ w'.cell? ⟨w.heap.size, 2, none⟩ = some (.int .i64 z2) ∧ w'.cell? ⟨w.heap.size, 3, none⟩ = some (.int .i64 z3) ∧ w'.cell? ⟨w.heap.size, 4, none⟩ = some (.slice A1 n1 c1) ∧ w'.cell? ⟨w.heap.size, 5, none⟩ = some (.int .i64 z4) ∧ w'.cell? ⟨w.heap.size, 6, none⟩ = some (.slice A2 n2 c2) ∧ w'.cell? ⟨w.heap.size + 1, 0, none⟩ = some (.int .i64 c') ∧ w'.cell? ⟨w.heap.size + 1, 1, none⟩ = some (.int .i64 L') ∧ w'.cell? ⟨w.heap.size + 1, 2, none⟩ = some (.int .i64 y2) ∧ w'.cell? ⟨w.heap.size + 1, 3, none⟩ = some (.int .i64 y3) ∧ w'.cell? ⟨w.heap.size + 1, 4, none⟩ = some (.slice B1 p1 d1) ∧ w'.cell? ⟨w.heap.size + 1, 5, none⟩ = some (.int .i64 y4) ∧ w'.cell? ⟨w.heap.size + 1, 6, none⟩ = some (.slice B2 p2 d2))
    (first | (go_keep; done) | with_reducible exact T6.out.kept (.int .i64 m) (.int .i64 Lm) (.int .i64 x) (.int .i64 zl) (.slice E1 nl e1) (.int .i64 zh) (.slice E2 nh e2) | with_reducible exact T6.out.cells | with_reducible exact T5.out.cells | with_reducible exact T4.out.cells | with_reducible exact T3.out.cells)
    (first
      | (have hz := T5; clear hz; go_at_call 55; refine (HC.out _ _ _ HR5.out).mono ?_; rintro e w6 ⟨E1, e1, E2, e2, rfl, o1, o2, ap, hb⟩; unfold spC; have T6 := Lib.hid (T5.out.step hb); have N6 := Lib.hid (N5.out.b hb); have O1 := Lib.hid o1; have O2 := Lib.hid o2; have AP := Lib.hid ap; have r0 := N6.out.cell 0 _ rfl; have g0 := N6.out.free 0; have r1 := N6.out.cell 1 _ rfl; have g1 := N6.out.free 1; have r2 := N6.out.cell 2 _ rfl; have g2 := N6.out.free 2; have r3 := N6.out.cell 3 _ rfl; have g3 := N6.out.free 3; have r4 := N6.out.cell 4 _ rfl; have g4 := N6.out.free 4; have r5 := N6.out.cell 5 _ rfl; have g5 := N6.out.free 5; have r6 := N6.out.cell 6 _ rfl; have g6 := N6.out.free 6;  clear hb o1 o2 ap)
      | (go_at_call 74; refine (most_is _ _ _).mono ?_; rintro e w' ⟨rfl, rfl⟩; rw [HMX.out])
      | (have hz := T4; clear hz; go_at_call 73; refine (HMC.out _ _ _ _ _ HRA4.out HRB4.out).mono ?_; rintro e w5 ⟨E, k5, rfl, ho, hk5, hb⟩; have T5 := Lib.hid (T4.out.step hb); have N5 := Lib.hid (N4.out.b hb); have HR5 := Lib.hid (IRow.congr (show IRow w5 E m M from ho.rd.row (Nat.le_refl _)) HG.out); clear hb ho)
      | (have hz := T3; clear hz; go_at_call 65; refine (spList_valid B1 p1 d1 Y1 B2 p2 d2 Y2 _ c' L' y2 y3 y4 c' L' v' f' hp1 hp2 T3.out.l2 T3.out.h2 HIB.out).mono ?_; rintro e w4 ⟨P4, k4, rfl, ho, hk4, hb⟩; have T4 := Lib.hid (T3.out.step hb); have N4 := Lib.hid (N3.out.b hb); have HRA4 := Lib.hid (HRA3.out.b hb); have HRB4 := Lib.hid (show IRow w4 P4 c' (numI f') from ho.rd.row (Nat.le_refl _)); clear hb ho)
      | (go_at_call 65; (first | refine (spList_valid A1 n1 c1 X1 A2 n2 c2 X2 _ c L z2 z3 z4 c L v f hn1 hn2 TD.out.l1 TD.out.h1 HIA.out).mono ?_ | refine (spList_valid A1 n1 c1 X1 A2 n2 c2 X2 _ c L z2 z3 z4 c L v f hn1 hn2 T2.out.l1 T2.out.h1 HIA.out).mono ?_); rintro e w3 ⟨P3, k3, rfl, ho, hk3, hb'⟩; have hb : Below w2.heap.size w2 w3 := (by first | exact hb' | exact of_drew hb'); have T3 := Lib.hid (T2.out.step hb); have N3 := Lib.hid (N2.out.b hb); have HRA3 := Lib.hid (show IRow w3 P3 c (numI f) from ho.rd.row (Nat.le_refl _)); clear hb hb' ho))
  change Exit.then _ _ _ _ (fin7 w6 (w.heap.size + 1 + 1) (.int .i64 m) (.int .i64 Lm) (.int .i64 x) (.int .i64 zl) (.slice E1 nl e1) (.int .i64 zh) (.slice E2 nh e2))
  have NF := fin7_box (v0 := .int .i64 m) (v1 := .int .i64 Lm) (v2 := .int .i64 x) (v3 := .int .i64 zl) (v4 := .slice E1 nl e1) (v5 := .int .i64 zh) (v6 := .slice E2 nh e2) N6.out
  have hon := fin7_only w6 (w.heap.size + 1 + 1) (.int .i64 m) (.int .i64 Lm) (.int .i64 x) (.int .i64 zl) (.slice E1 nl e1) (.int .i64 zh) (.slice E2 nh e2)
  clear r0 g0 r1 g1 r2 g2 r3 g3 r4 g4 r5 g5 r6 g6
  generalize fin7 w6 (w.heap.size + 1 + 1) (.int .i64 m) (.int .i64 Lm) (.int .i64 x) (.int .i64 zl) (.slice E1 nl e1) (.int .i64 zh) (.slice E2 nh e2) = wf at *
  have r0 := NF.cell 0 _ rfl
  have r1 := NF.cell 1 _ rfl
  have r2 := NF.cell 2 _ rfl
  have r3 := NF.cell 3 _ rfl
  have r4 := NF.cell 4 _ rfl
  have r5 := NF.cell 5 _ rfl
  have r6 := NF.cell 6 _ rfl
  go_wp2_with fail
  refine bodyPost_ret (v := .tuple #[.agg #[.int .i64 m, .int .i64 Lm, .int .i64 x, .int .i64 zl, .slice E1 nl e1, .int .i64 zh, .slice E2 nh e2], .bool true]) (by simp [results, Try.results47, go_sem, r0, r1, r2, r3, r4, r5, r6]) rfl ?_
  have hn5 := N5.out.lt
  exact ⟨E1, e1, E2, e2, rfl, (O1.out.same hon (.inr (by omega)) (Nat.le_refl _)).mono (by omega) hon.size, (O2.out.same hon (.inr (by omega)) (Nat.le_refl _)).mono (by omega) hon.size, AP.out, T6.out.below.trans (hon.below T6.out.below.size (by omega))⟩

theorem SpAns.any {z0 z1 z2 z3 z4 : Int} {n1 n2 : Nat} {X1 X2 : Nat → Int} {w : World} (e : Ending) (w' : World) (ha : SpAns z0 z1 z2 z3 n1 X1 z4 n2 X2 w e w') : ∃ A n k b, e = .returned (.tuple #[.slice A n k, .bool b]) ∧ Below w.heap.size w w' := by
  obtain ⟨ha, hb⟩ := ha
  rcases ha with ⟨c', L', v', g, A, k, _, he, _⟩ | ⟨_, he⟩
  · exact ⟨A, _, k, true, he, hb⟩
  · exact ⟨none, 0, 0, false, he, hb⟩
set_option maxRecDepth 100000 in
set_option maxHeartbeats 4000000 in
theorem impl_merge_no1 (hn1 : n1 ≤ 1048576) (hn2 : n2 ≤ 1048576) (hp1 : p1 ≤ 1048576) (hp2 : p2 ≤ 1048576) (h1 : IRow w A1 n1 X1) (h2 : IRow w A2 n2 X2) (h3 : IRow w B1 p1 Y1) (h4 : IRow w B2 p2 Y2) (h : ¬ SpV z0 z1 z2 z3 n1 X1 z4 n2 X2) :
    Calls Try.prog 48 #[.agg (spC z0 z1 z2 z3 A1 n1 c1 z4 A2 n2 c2), .agg (spC y0 y1 y2 y3 B1 p1 d1 y4 B2 p2 d2)] w (SpOwn 0 0 0 0 0 (fun _ => 0) 0 0 (fun _ => 0) false w) := by
  have HVA := Lib.hid h
  clear h
  have T0 := Lib.hid ((DL.start (z0 := z0) (z1 := z1) (z2 := z2) (z3 := z3) (z4 := z4) (y0 := y0) (y1 := y1) (y2 := y2) (y3 := y3) (y4 := y4) (c1 := c1) (c2 := c2) (d1 := d1) (d2 := d2) h1 h2 h3 h4).al (.cells (spC 0 0 0 0 none 0 0 0 none 0 0) 29))
  have N0 := Lib.hid (nbx_three w (.cells (spC z0 z1 z2 z3 A1 n1 c1 z4 A2 n2 c2) 29) (.cells (spC y0 y1 y2 y3 B1 p1 d1 y4 B2 p2 d2) 29))
  clear h1 h2 h3 h4
  obtain ⟨q0, q1, q2, q3, q4, q5, q6, q7, q8, q9, q10, q11, q12, q13⟩ := T0.out.cells
  go_enter Try.func48, Try.ntmps48
  unfold spC
  go_wp2_with fail
  refine (impl_sparseList A1 n1 c1 X1 A2 n2 c2 X2 _ z0 z1 z2 z3 z4 hn1 hn2 T0.out.l1 T0.out.h1).mono ?_; rintro e w1 ha
  obtain ⟨rfl, hb⟩ := ha.not (h := HVA.out)
  clear ha
  have T1 := Lib.hid (T0.out.step hb)
  have N1 := Lib.hid (N0.out.b hb)
  clear hb T0 N0 q0 q1 q2 q3 q4 q5 q6 q7 q8 q9 q10 q11 q12 q13
  obtain ⟨q0, q1, q2, q3, q4, q5, q6, q7, q8, q9, q10, q11, q12, q13⟩ := T1.out.cells
  go_wp2_with fail
  refine (impl_sparseList B1 p1 d1 Y1 B2 p2 d2 Y2 _ y0 y1 y2 y3 y4 hp1 hp2 T1.out.l2 T1.out.h2).mono ?_; rintro e w2 ha
  obtain ⟨P2, m2, k2, bb, rfl, hb⟩ := ha.any
  clear ha
  have T2 := Lib.hid (T1.out.step hb)
  have N2 := Lib.hid (N1.out.b hb)
  clear hb T1 N1 q0 q1 q2 q3 q4 q5 q6 q7 q8 q9 q10 q11 q12 q13
  obtain ⟨q0, q1, q2, q3, q4, q5, q6, q7, q8, q9, q10, q11, q12, q13⟩ := T2.out.cells
  have r0 := N2.out.cell 0 _ rfl
  have g0 := N2.out.free 0
  have r1 := N2.out.cell 1 _ rfl
  have g1 := N2.out.free 1
  have r2 := N2.out.cell 2 _ rfl
  have g2 := N2.out.free 2
  have r3 := N2.out.cell 3 _ rfl
  have g3 := N2.out.free 3
  have r4 := N2.out.cell 4 _ rfl
  have g4 := N2.out.free 4
  have r5 := N2.out.cell 5 _ rfl
  have g5 := N2.out.free 5
  have r6 := N2.out.cell 6 _ rfl
  have g6 := N2.out.free 6
  go_wp2_with fail
  change bodyPost _ _ _ _ _ (fin7 w2 (w.heap.size + 1 + 1) (.int .i64 0) (.int .i64 0) (.int .i64 0) (.int .i64 0) (.slice none 0 0) (.int .i64 0) (.slice none 0 0))
  have NF := fin7_box (v0 := .int .i64 0) (v1 := .int .i64 0) (v2 := .int .i64 0) (v3 := .int .i64 0) (v4 := .slice none 0 0) (v5 := .int .i64 0) (v6 := .slice none 0 0) N2.out
  have hon := fin7_only w2 (w.heap.size + 1 + 1) (.int .i64 0) (.int .i64 0) (.int .i64 0) (.int .i64 0) (.slice none 0 0) (.int .i64 0) (.slice none 0 0)
  clear r0 g0 r1 g1 r2 g2 r3 g3 r4 g4 r5 g5 r6 g6
  generalize fin7 w2 (w.heap.size + 1 + 1) (.int .i64 0) (.int .i64 0) (.int .i64 0) (.int .i64 0) (.slice none 0 0) (.int .i64 0) (.slice none 0 0) = wf at *
  have r0 := NF.cell 0 _ rfl
  have r1 := NF.cell 1 _ rfl
  have r2 := NF.cell 2 _ rfl
  have r3 := NF.cell 3 _ rfl
  have r4 := NF.cell 4 _ rfl
  have r5 := NF.cell 5 _ rfl
  have r6 := NF.cell 6 _ rfl
  refine bodyPost_ret (v := .tuple #[.agg #[.int .i64 0, .int .i64 0, .int .i64 0, .int .i64 0, .slice none 0 0, .int .i64 0, .slice none 0 0], .bool false]) (by simp [results, Try.results48, go_sem, r0, r1, r2, r3, r4, r5, r6]) rfl ?_
  exact spOwn_none rfl (T2.out.below.trans (hon.below T2.out.below.size (by omega)))

set_option maxRecDepth 100000 in
set_option maxHeartbeats 4000000 in
theorem impl_merge_no2 (hn1 : n1 ≤ 1048576) (hn2 : n2 ≤ 1048576) (hp1 : p1 ≤ 1048576) (hp2 : p2 ≤ 1048576) (h1 : IRow w A1 n1 X1) (h2 : IRow w A2 n2 X2) (h3 : IRow w B1 p1 Y1) (h4 : IRow w B2 p2 Y2) (ha : SpIs z0 z1 z2 z3 n1 X1 z4 n2 X2 c L v f) (h' : ¬ SpV y0 y1 y2 y3 p1 Y1 y4 p2 Y2) :
    Calls Try.prog 48 #[.agg (spC z0 z1 z2 z3 A1 n1 c1 z4 A2 n2 c2), .agg (spC y0 y1 y2 y3 B1 p1 d1 y4 B2 p2 d2)] w (SpOwn 0 0 0 0 0 (fun _ => 0) 0 0 (fun _ => 0) false w) := by
  have HVB := Lib.hid h'
  clear h'
  have HIA := Lib.hid ha
  have HVA := Lib.hid (show SpV z0 z1 z2 z3 n1 X1 z4 n2 X2 from ⟨c, L, v, f, ha⟩)
  have hca := ha.num.hc
  have hLa := ha.num.hL
  have hLa1 := ha.num.h1
  have e0 := ha.ec
  have e1 := ha.eL
  subst e0 e1
  clear ha
  have T0 := Lib.hid ((DL.start (z0 := c) (z1 := L) (z2 := z2) (z3 := z3) (z4 := z4) (y0 := y0) (y1 := y1) (y2 := y2) (y3 := y3) (y4 := y4) (c1 := c1) (c2 := c2) (d1 := d1) (d2 := d2) h1 h2 h3 h4).al (.cells (spC 0 0 0 0 none 0 0 0 none 0 0) 29))
  have N0 := Lib.hid (nbx_three w (.cells (spC c L z2 z3 A1 n1 c1 z4 A2 n2 c2) 29) (.cells (spC y0 y1 y2 y3 B1 p1 d1 y4 B2 p2 d2) 29))
  clear h1 h2 h3 h4
  obtain ⟨q0, q1, q2, q3, q4, q5, q6, q7, q8, q9, q10, q11, q12, q13⟩ := T0.out.cells
  go_enter Try.func48, Try.ntmps48
  unfold spC
  go_wp2_with fail
  refine (impl_sparseList A1 n1 c1 X1 A2 n2 c2 X2 _ c L z2 z3 z4 hn1 hn2 T0.out.l1 T0.out.h1).mono ?_; rintro e w1 ha
  obtain ⟨P1, k1, rfl, ho, hk1, hb⟩ := ha.yes (h := HIA.out)
  have HRA1 := Lib.hid (show IRow w1 P1 c (numI f) from ho.rd.row (Nat.le_refl _))
  clear ha ho
  have T1 := Lib.hid (T0.out.step hb)
  have N1 := Lib.hid (N0.out.b hb)
  clear hb T0 N0 q0 q1 q2 q3 q4 q5 q6 q7 q8 q9 q10 q11 q12 q13
  obtain ⟨q0, q1, q2, q3, q4, q5, q6, q7, q8, q9, q10, q11, q12, q13⟩ := T1.out.cells
  go_wp2_with fail
  refine (impl_sparseList B1 p1 d1 Y1 B2 p2 d2 Y2 _ y0 y1 y2 y3 y4 hp1 hp2 T1.out.l2 T1.out.h2).mono ?_; rintro e w2 ha
  obtain ⟨rfl, hb⟩ := ha.not (h := HVB.out)
  clear ha
  have T2 := Lib.hid (T1.out.step hb)
  have N2 := Lib.hid (N1.out.b hb)
  clear hb T1 N1 q0 q1 q2 q3 q4 q5 q6 q7 q8 q9 q10 q11 q12 q13
  obtain ⟨q0, q1, q2, q3, q4, q5, q6, q7, q8, q9, q10, q11, q12, q13⟩ := T2.out.cells
  have r0 := N2.out.cell 0 _ rfl
  have g0 := N2.out.free 0
  have r1 := N2.out.cell 1 _ rfl
  have g1 := N2.out.free 1
  have r2 := N2.out.cell 2 _ rfl
  have g2 := N2.out.free 2
  have r3 := N2.out.cell 3 _ rfl
  have g3 := N2.out.free 3
  have r4 := N2.out.cell 4 _ rfl
  have g4 := N2.out.free 4
  have r5 := N2.out.cell 5 _ rfl
  have g5 := N2.out.free 5
  have r6 := N2.out.cell 6 _ rfl
  have g6 := N2.out.free 6
  go_wp2_with fail
  change bodyPost _ _ _ _ _ (fin7 w2 (w.heap.size + 1 + 1) (.int .i64 0) (.int .i64 0) (.int .i64 0) (.int .i64 0) (.slice none 0 0) (.int .i64 0) (.slice none 0 0))
  have NF := fin7_box (v0 := .int .i64 0) (v1 := .int .i64 0) (v2 := .int .i64 0) (v3 := .int .i64 0) (v4 := .slice none 0 0) (v5 := .int .i64 0) (v6 := .slice none 0 0) N2.out
  have hon := fin7_only w2 (w.heap.size + 1 + 1) (.int .i64 0) (.int .i64 0) (.int .i64 0) (.int .i64 0) (.slice none 0 0) (.int .i64 0) (.slice none 0 0)
  clear r0 g0 r1 g1 r2 g2 r3 g3 r4 g4 r5 g5 r6 g6
  generalize fin7 w2 (w.heap.size + 1 + 1) (.int .i64 0) (.int .i64 0) (.int .i64 0) (.int .i64 0) (.slice none 0 0) (.int .i64 0) (.slice none 0 0) = wf at *
  have r0 := NF.cell 0 _ rfl
  have r1 := NF.cell 1 _ rfl
  have r2 := NF.cell 2 _ rfl
  have r3 := NF.cell 3 _ rfl
  have r4 := NF.cell 4 _ rfl
  have r5 := NF.cell 5 _ rfl
  have r6 := NF.cell 6 _ rfl
  refine bodyPost_ret (v := .tuple #[.agg #[.int .i64 0, .int .i64 0, .int .i64 0, .int .i64 0, .slice none 0 0, .int .i64 0, .slice none 0 0], .bool false]) (by simp [results, Try.results48, go_sem, r0, r1, r2, r3, r4, r5, r6]) rfl ?_
  exact spOwn_none rfl (T2.out.below.trans (hon.below T2.out.below.size (by omega)))

set_option maxRecDepth 100000 in
set_option maxHeartbeats 4000000 in
theorem impl_merge_yes (x : Nat) (g : Nat → Nat) (M : Nat → Int) (nl nh : Nat) (hn1 : n1 ≤ 1048576) (hn2 : n2 ≤ 1048576) (hp1 : p1 ≤ 1048576) (hp2 : p2 ≤ 1048576) (h1 : IRow w A1 n1 X1) (h2 : IRow w A2 n2 X2) (h3 : IRow w B1 p1 Y1) (h4 : IRow w B2 p2 Y2) (ha : SpIs z0 z1 z2 z3 n1 X1 z4 n2 X2 c L v f) (hb : SpIs y0 y1 y2 y3 p1 Y1 y4 p2 Y2 c' L' v' f') (hM : MrgOf c (numI f) c' (numI f') M) (hg : ∀ i, i < c + c' → M i = numI g i) (hS : SpN (c + c') (max L L') x g) (hnl : nl = ((c + c') * x + 15) / 16) (hnh : nh = (hzN (c + c') (max L L') x + 15) / 16) :
    Calls Try.prog 48 #[.agg (spC z0 z1 z2 z3 A1 n1 c1 z4 A2 n2 c2), .agg (spC y0 y1 y2 y3 B1 p1 d1 y4 B2 p2 d2)] w (SpOwn ((c + c' : Nat) : Int) ((max L L' : Nat) : Int) x (((c + c') * x : Nat) : Int) nl (fun i => (wordsOf (lowB g x (c + c')) i : Int)) ((hzN (c + c') (max L L') x : Nat) : Int) nh (fun i => (wordsOf (highB g x (c + c')) i : Int)) true w) := by
  have HSN := Lib.hid hS
  have HNL := Lib.hid hnl
  have HNH := Lib.hid hnh
  have HG := Lib.hid hg
  have HMM := Lib.hid hM
  have hm60 := hS.hc
  clear hS hnl hnh hg hM
  obtain ⟨m, hm⟩ : ∃ m, m = c + c' := ⟨_, rfl⟩
  obtain ⟨Lm, hLm⟩ : ∃ Lm, Lm = max L L' := ⟨_, rfl⟩
  rw [← hm, ← hLm] at HSN
  rw [← hm, ← hLm] at HNH
  rw [← hm] at HNL
  rw [← hm] at HG
  rw [← hm, ← hLm]
  have hmx : max (L : Int) (L' : Int) = (Lm : Int) := by omega
  have HMI := Lib.hid hm
  have HMX := Lib.hid hmx
  obtain ⟨zl, hzl⟩ : ∃ zl, zl = m * x := ⟨_, rfl⟩
  obtain ⟨zh, hzh⟩ : ∃ zh, zh = hzN m Lm x := ⟨_, rfl⟩
  rw [← hzl, ← hzh]
  have HZL := Lib.hid hzl
  have HZH := Lib.hid hzh
  clear hm hLm hmx hzl hzh
  have hcall := fun (W : World) (A' : Option Addr) (k' : Nat) (h : IRow W A' m (numI g)) => impl_build_yes A' m k' Lm x g W HSN.out h nl nh HNL.out HNH.out
  rw [← HZL.out, ← HZH.out] at hcall
  have HC := Lib.hid hcall
  clear hcall
  have HIA := Lib.hid ha
  have HVA := Lib.hid (show SpV z0 z1 z2 z3 n1 X1 z4 n2 X2 from ⟨c, L, v, f, ha⟩)
  have hca := ha.num.hc
  have hLa := ha.num.hL
  have hLa1 := ha.num.h1
  have e0 := ha.ec
  have e1 := ha.eL
  subst e0 e1
  clear ha
  have HIB := Lib.hid hb
  have HVB := Lib.hid (show SpV y0 y1 y2 y3 p1 Y1 y4 p2 Y2 from ⟨c', L', v', f', hb⟩)
  have hcb := hb.num.hc
  have hLb := hb.num.hL
  have hLb1 := hb.num.h1
  have e0 := hb.ec
  have e1 := hb.eL
  subst e0 e1
  clear hb
  have T0 := Lib.hid ((DL.start (z0 := c) (z1 := L) (z2 := z2) (z3 := z3) (z4 := z4) (y0 := c') (y1 := L') (y2 := y2) (y3 := y3) (y4 := y4) (c1 := c1) (c2 := c2) (d1 := d1) (d2 := d2) h1 h2 h3 h4).al (.cells (spC 0 0 0 0 none 0 0 0 none 0 0) 29))
  have N0 := Lib.hid (nbx_three w (.cells (spC c L z2 z3 A1 n1 c1 z4 A2 n2 c2) 29) (.cells (spC c' L' y2 y3 B1 p1 d1 y4 B2 p2 d2) 29))
  clear h1 h2 h3 h4
  obtain ⟨q0, q1, q2, q3, q4, q5, q6, q7, q8, q9, q10, q11, q12, q13⟩ := T0.out.cells
  go_enter Try.func48, Try.ntmps48
  unfold spC
  go_wp2_with fail
  refine (impl_sparseList A1 n1 c1 X1 A2 n2 c2 X2 _ c L z2 z3 z4 hn1 hn2 T0.out.l1 T0.out.h1).mono ?_; rintro e w1 ha
  obtain ⟨P1, k1, rfl, ho, hk1, hb⟩ := ha.yes (h := HIA.out)
  have HRA1 := Lib.hid (show IRow w1 P1 c (numI f) from ho.rd.row (Nat.le_refl _))
  clear ha ho
  have T1 := Lib.hid (T0.out.step hb)
  have N1 := Lib.hid (N0.out.b hb)
  clear hb T0 N0 q0 q1 q2 q3 q4 q5 q6 q7 q8 q9 q10 q11 q12 q13
  obtain ⟨q0, q1, q2, q3, q4, q5, q6, q7, q8, q9, q10, q11, q12, q13⟩ := T1.out.cells
  go_wp2_with fail
  refine (impl_sparseList B1 p1 d1 Y1 B2 p2 d2 Y2 _ c' L' y2 y3 y4 hp1 hp2 T1.out.l2 T1.out.h2).mono ?_; rintro e w2 ha
  obtain ⟨P2, k2, rfl, ho, hk2, hb⟩ := ha.yes (h := HIB.out)
  have HRA2 := Lib.hid (HRA1.out.b hb)
  have HRB2 := Lib.hid (show IRow w2 P2 c' (numI f') from ho.rd.row (Nat.le_refl _))
  clear ha ho
  have T2 := Lib.hid (T1.out.step hb)
  have N2 := Lib.hid (N1.out.b hb)
  clear hb T1 N1 q0 q1 q2 q3 q4 q5 q6 q7 q8 q9 q10 q11 q12 q13
  obtain ⟨q0, q1, q2, q3, q4, q5, q6, q7, q8, q9, q10, q11, q12, q13⟩ := T2.out.cells
  go_wp2_with fail
  have hmc := fun (W : World) (P3 : Option Addr) (k3 : Nat) (P4 : Option Addr) (k4 : Nat) (g1 : IRow W P3 c (numI f)) (g2 : IRow W P4 c' (numI f')) (g3 : c ≤ k3) (g4 : c' ≤ k4) => impl_mergeSorted P3 c k3 (numI f) P4 c' k4 (numI f') W hca hcb g1 g2 g3 g4 HIA.out.num.srtN HIB.out.num.srtN M HMM.out
  rw [← HMI.out] at hmc
  have HMC := Lib.hid hmc
  clear hmc
  have TD := Lib.hid T2.out.drew
  have hl2 := N2.out.lt
  have hmx := HMX.out
  have HRA2D := Lib.hid (HRA2.out.b (Below.drew (Below.refl _ _)))
  have HRB2D := Lib.hid (HRB2.out.b (Below.drew (Below.refl _ _)))
  go_region_held3 (fun w' => w'.cell? ⟨w.heap.size, 0, none⟩ = some (.int .i64 c) ∧ w'.cell? ⟨w.heap.size, 1, none⟩ = some (.int .i64 L) ∧ w'.cell? ⟨w.heap.size, 2, none⟩ = some (.int .i64 z2) ∧ w'.cell? ⟨w.heap.size, 3, none⟩ = some (.int .i64 z3) ∧ w'.cell? ⟨w.heap.size, 4, none⟩ = some (.slice A1 n1 c1) ∧ w'.cell? ⟨w.heap.size, 5, none⟩ = some (.int .i64 z4) ∧ w'.cell? ⟨w.heap.size, 6, none⟩ = some (.slice A2 n2 c2) ∧ w'.cell? ⟨w.heap.size + 1, 0, none⟩ = some (.int .i64 c') ∧ w'.cell? ⟨w.heap.size + 1, 1, none⟩ = some (.int .i64 L') ∧ w'.cell? ⟨w.heap.size + 1, 2, none⟩ = some (.int .i64 y2) ∧ w'.cell? ⟨w.heap.size + 1, 3, none⟩ = some (.int .i64 y3) ∧ w'.cell? ⟨w.heap.size + 1, 4, none⟩ = some (.slice B1 p1 d1) ∧ w'.cell? ⟨w.heap.size + 1, 5, none⟩ = some (.int .i64 y4) ∧ w'.cell? ⟨w.heap.size + 1, 6, none⟩ = some (.slice B2 p2 d2))
    (first | (go_keep; done) | with_reducible exact T6.out.kept (.int .i64 m) (.int .i64 Lm) (.int .i64 x) (.int .i64 zl) (.slice E1 nl e1) (.int .i64 zh) (.slice E2 nh e2) | with_reducible exact T6.out.cells | with_reducible exact T5.out.cells)
    (first
      | (have hz := T5; clear hz; go_at_call 20; refine (HC.out _ _ _ HR5.out).mono ?_; rintro e w6 ⟨E1, e1, E2, e2, rfl, o1, o2, ap, hb⟩; unfold spC; have T6 := Lib.hid (T5.out.step hb); have N6 := Lib.hid (N5.out.b hb); have O1 := Lib.hid o1; have O2 := Lib.hid o2; have AP := Lib.hid ap; have r0 := N6.out.cell 0 _ rfl; have g0 := N6.out.free 0; have r1 := N6.out.cell 1 _ rfl; have g1 := N6.out.free 1; have r2 := N6.out.cell 2 _ rfl; have g2 := N6.out.free 2; have r3 := N6.out.cell 3 _ rfl; have g3 := N6.out.free 3; have r4 := N6.out.cell 4 _ rfl; have g4 := N6.out.free 4; have r5 := N6.out.cell 5 _ rfl; have g5 := N6.out.free 5; have r6 := N6.out.cell 6 _ rfl; have g6 := N6.out.free 6;  clear hb o1 o2 ap)
      | (go_at_call 75; (first | refine (HMC.out _ _ _ _ _ HRA2D.out HRB2D.out hk1 hk2).mono ?_ | refine (HMC.out _ _ _ _ _ HRA2.out HRB2.out hk1 hk2).mono ?_); rintro e w5 ⟨E, k5, rfl, ho, hk5, hb'⟩; have hb : Below w2.heap.size w2 w5 := (by first | exact hb' | exact of_drew hb'); have T5 := Lib.hid (T2.out.step hb); have N5 := Lib.hid (N2.out.b hb); have HR5 := Lib.hid (IRow.congr (show IRow w5 E m M from ho.rd.row (Nat.le_refl _)) HG.out); clear hb hb' ho))
  all_goals
    first | (change Exit.then _ _ _ _ (fin7 w6 (w.heap.size + 1 + 1) (.int .i64 m) (.int .i64 Lm) (.int .i64 x) (.int .i64 zl) (.slice E1 nl e1) (.int .i64 zh) (.slice E2 nh e2))) | (change bodyPost _ _ _ _ _ (fin7 w6 (w.heap.size + 1 + 1) (.int .i64 m) (.int .i64 Lm) (.int .i64 x) (.int .i64 zl) (.slice E1 nl e1) (.int .i64 zh) (.slice E2 nh e2)))
    have NF := fin7_box (v0 := .int .i64 m) (v1 := .int .i64 Lm) (v2 := .int .i64 x) (v3 := .int .i64 zl) (v4 := .slice E1 nl e1) (v5 := .int .i64 zh) (v6 := .slice E2 nh e2) N6.out
    have hon := fin7_only w6 (w.heap.size + 1 + 1) (.int .i64 m) (.int .i64 Lm) (.int .i64 x) (.int .i64 zl) (.slice E1 nl e1) (.int .i64 zh) (.slice E2 nh e2)
    clear r0 g0 r1 g1 r2 g2 r3 g3 r4 g4 r5 g5 r6 g6
    generalize fin7 w6 (w.heap.size + 1 + 1) (.int .i64 m) (.int .i64 Lm) (.int .i64 x) (.int .i64 zl) (.slice E1 nl e1) (.int .i64 zh) (.slice E2 nh e2) = wf at *
    have r0 := NF.cell 0 _ rfl
    have r1 := NF.cell 1 _ rfl
    have r2 := NF.cell 2 _ rfl
    have r3 := NF.cell 3 _ rfl
    have r4 := NF.cell 4 _ rfl
    have r5 := NF.cell 5 _ rfl
    have r6 := NF.cell 6 _ rfl
    try go_wp2_with fail
    refine bodyPost_ret (v := .tuple #[.agg #[.int .i64 m, .int .i64 Lm, .int .i64 x, .int .i64 zl, .slice E1 nl e1, .int .i64 zh, .slice E2 nh e2], .bool true]) (by simp [results, Try.results48, go_sem, r0, r1, r2, r3, r4, r5, r6]) rfl ?_
    have hn5 := N5.out.lt
    exact ⟨E1, e1, E2, e2, rfl, (O1.out.same hon (.inr (by omega)) (Nat.le_refl _)).mono (by omega) hon.size, (O2.out.same hon (.inr (by omega)) (Nat.le_refl _)).mono (by omega) hon.size, AP.out, T6.out.below.trans (hon.below T6.out.below.size (by omega))⟩

set_option maxRecDepth 100000 in
set_option maxHeartbeats 4000000 in
theorem impl_merge_no3 (M : Nat → Int) (hn1 : n1 ≤ 1048576) (hn2 : n2 ≤ 1048576) (hp1 : p1 ≤ 1048576) (hp2 : p2 ≤ 1048576) (h1 : IRow w A1 n1 X1) (h2 : IRow w A2 n2 X2) (h3 : IRow w B1 p1 Y1) (h4 : IRow w B2 p2 Y2) (ha : SpIs z0 z1 z2 z3 n1 X1 z4 n2 X2 c L v f) (hb : SpIs y0 y1 y2 y3 p1 Y1 y4 p2 Y2 c' L' v' f') (hM : MrgOf c (numI f) c' (numI f') M) (hx : 60 < c + c') :
    Calls Try.prog 48 #[.agg (spC z0 z1 z2 z3 A1 n1 c1 z4 A2 n2 c2), .agg (spC y0 y1 y2 y3 B1 p1 d1 y4 B2 p2 d2)] w (SpOwn 0 0 0 0 0 (fun _ => 0) 0 0 (fun _ => 0) false w) := by
  have HMM := Lib.hid hM
  obtain ⟨m, hm⟩ : ∃ m, m = c + c' := ⟨_, rfl⟩
  have hmx : max (L : Int) (L' : Int) = ((max L L' : Nat) : Int) := by omega
  obtain ⟨Lm, hLm⟩ : ∃ Lm, Lm = max L L' := ⟨_, rfl⟩
  rw [← hLm] at hmx
  have HMI := Lib.hid hm
  have HMX := Lib.hid hmx
  have HNO := Lib.hid (show ¬ SpOk m M (Lm : Int) from fun h => by have := h.1; omega)
  have hm2 : m ≤ 1048576 := by have := ha.num.hc; have := hb.num.hc; omega
  clear hm hLm hmx hM hx
  have HIA := Lib.hid ha
  have HVA := Lib.hid (show SpV z0 z1 z2 z3 n1 X1 z4 n2 X2 from ⟨c, L, v, f, ha⟩)
  have hca := ha.num.hc
  have hLa := ha.num.hL
  have hLa1 := ha.num.h1
  have e0 := ha.ec
  have e1 := ha.eL
  subst e0 e1
  clear ha
  have HIB := Lib.hid hb
  have HVB := Lib.hid (show SpV y0 y1 y2 y3 p1 Y1 y4 p2 Y2 from ⟨c', L', v', f', hb⟩)
  have hcb := hb.num.hc
  have hLb := hb.num.hL
  have hLb1 := hb.num.h1
  have e0 := hb.ec
  have e1 := hb.eL
  subst e0 e1
  clear hb
  have T0 := Lib.hid ((DL.start (z0 := c) (z1 := L) (z2 := z2) (z3 := z3) (z4 := z4) (y0 := c') (y1 := L') (y2 := y2) (y3 := y3) (y4 := y4) (c1 := c1) (c2 := c2) (d1 := d1) (d2 := d2) h1 h2 h3 h4).al (.cells (spC 0 0 0 0 none 0 0 0 none 0 0) 29))
  have N0 := Lib.hid (nbx_three w (.cells (spC c L z2 z3 A1 n1 c1 z4 A2 n2 c2) 29) (.cells (spC c' L' y2 y3 B1 p1 d1 y4 B2 p2 d2) 29))
  clear h1 h2 h3 h4
  obtain ⟨q0, q1, q2, q3, q4, q5, q6, q7, q8, q9, q10, q11, q12, q13⟩ := T0.out.cells
  go_enter Try.func48, Try.ntmps48
  unfold spC
  go_wp2_with fail
  refine (impl_sparseList A1 n1 c1 X1 A2 n2 c2 X2 _ c L z2 z3 z4 hn1 hn2 T0.out.l1 T0.out.h1).mono ?_; rintro e w1 ha
  obtain ⟨P1, k1, rfl, ho, hk1, hb⟩ := ha.yes (h := HIA.out)
  have HRA1 := Lib.hid (show IRow w1 P1 c (numI f) from ho.rd.row (Nat.le_refl _))
  clear ha ho
  have T1 := Lib.hid (T0.out.step hb)
  have N1 := Lib.hid (N0.out.b hb)
  clear hb T0 N0 q0 q1 q2 q3 q4 q5 q6 q7 q8 q9 q10 q11 q12 q13
  obtain ⟨q0, q1, q2, q3, q4, q5, q6, q7, q8, q9, q10, q11, q12, q13⟩ := T1.out.cells
  go_wp2_with fail
  refine (impl_sparseList B1 p1 d1 Y1 B2 p2 d2 Y2 _ c' L' y2 y3 y4 hp1 hp2 T1.out.l2 T1.out.h2).mono ?_; rintro e w2 ha
  obtain ⟨P2, k2, rfl, ho, hk2, hb⟩ := ha.yes (h := HIB.out)
  have HRA2 := Lib.hid (HRA1.out.b hb)
  have HRB2 := Lib.hid (show IRow w2 P2 c' (numI f') from ho.rd.row (Nat.le_refl _))
  clear ha ho
  have T2 := Lib.hid (T1.out.step hb)
  have N2 := Lib.hid (N1.out.b hb)
  clear hb T1 N1 q0 q1 q2 q3 q4 q5 q6 q7 q8 q9 q10 q11 q12 q13
  obtain ⟨q0, q1, q2, q3, q4, q5, q6, q7, q8, q9, q10, q11, q12, q13⟩ := T2.out.cells
  go_wp2_with fail
  have hmc := fun (W : World) (P3 : Option Addr) (k3 : Nat) (P4 : Option Addr) (k4 : Nat) (g1 : IRow W P3 c (numI f)) (g2 : IRow W P4 c' (numI f')) (g3 : c ≤ k3) (g4 : c' ≤ k4) => impl_mergeSorted P3 c k3 (numI f) P4 c' k4 (numI f') W hca hcb g1 g2 g3 g4 HIA.out.num.srtN HIB.out.num.srtN M HMM.out
  rw [← HMI.out] at hmc
  have HMC := Lib.hid hmc
  clear hmc
  have TD := Lib.hid T2.out.drew
  have hl2 := N2.out.lt
  have hmx := HMX.out
  have HRA2D := Lib.hid (HRA2.out.b (Below.drew (Below.refl _ _)))
  have HRB2D := Lib.hid (HRB2.out.b (Below.drew (Below.refl _ _)))
  go_region_held3 (fun w' => w'.cell? ⟨w.heap.size, 0, none⟩ = some (.int .i64 c) ∧ w'.cell? ⟨w.heap.size, 1, none⟩ = some (.int .i64 L) ∧ w'.cell? ⟨w.heap.size, 2, none⟩ = some (.int .i64 z2) ∧ w'.cell? ⟨w.heap.size, 3, none⟩ = some (.int .i64 z3) ∧ w'.cell? ⟨w.heap.size, 4, none⟩ = some (.slice A1 n1 c1) ∧ w'.cell? ⟨w.heap.size, 5, none⟩ = some (.int .i64 z4) ∧ w'.cell? ⟨w.heap.size, 6, none⟩ = some (.slice A2 n2 c2) ∧ w'.cell? ⟨w.heap.size + 1, 0, none⟩ = some (.int .i64 c') ∧ w'.cell? ⟨w.heap.size + 1, 1, none⟩ = some (.int .i64 L') ∧ w'.cell? ⟨w.heap.size + 1, 2, none⟩ = some (.int .i64 y2) ∧ w'.cell? ⟨w.heap.size + 1, 3, none⟩ = some (.int .i64 y3) ∧ w'.cell? ⟨w.heap.size + 1, 4, none⟩ = some (.slice B1 p1 d1) ∧ w'.cell? ⟨w.heap.size + 1, 5, none⟩ = some (.int .i64 y4) ∧ w'.cell? ⟨w.heap.size + 1, 6, none⟩ = some (.slice B2 p2 d2))
    (first | (go_keep; done) | with_reducible exact T6.out.kept (.int .i64 0) (.int .i64 0) (.int .i64 0) (.int .i64 0) (.slice E1 0 e1) (.int .i64 0) (.slice E2 0 e2) | with_reducible exact T6.out.cells | with_reducible exact T5.out.cells)
    (first
      | (have hz := T5; clear hz; go_at_call 20; refine (impl_build_no E m k5 M Lm _ hm2 HR5.out HNO.out).mono ?_; rintro e w6 ⟨E1, e1, E2, e2, rfl, o1, o2, ap, hb⟩; unfold spC; have T6 := Lib.hid (T5.out.step hb); have N6 := Lib.hid (N5.out.b hb); have O1 := Lib.hid o1; have O2 := Lib.hid o2; have AP := Lib.hid ap; have r0 := N6.out.cell 0 _ rfl; have g0 := N6.out.free 0; have r1 := N6.out.cell 1 _ rfl; have g1 := N6.out.free 1; have r2 := N6.out.cell 2 _ rfl; have g2 := N6.out.free 2; have r3 := N6.out.cell 3 _ rfl; have g3 := N6.out.free 3; have r4 := N6.out.cell 4 _ rfl; have g4 := N6.out.free 4; have r5 := N6.out.cell 5 _ rfl; have g5 := N6.out.free 5; have r6 := N6.out.cell 6 _ rfl; have g6 := N6.out.free 6;  clear hb o1 o2 ap)
      | (go_at_call 75; (first | refine (HMC.out _ _ _ _ _ HRA2D.out HRB2D.out hk1 hk2).mono ?_ | refine (HMC.out _ _ _ _ _ HRA2.out HRB2.out hk1 hk2).mono ?_); rintro e w5 ⟨E, k5, rfl, ho, hk5, hb'⟩; have hb : Below w2.heap.size w2 w5 := (by first | exact hb' | exact of_drew hb'); have T5 := Lib.hid (T2.out.step hb); have N5 := Lib.hid (N2.out.b hb); have HR5 := Lib.hid (show IRow w5 E m M from ho.rd.row (Nat.le_refl _)); clear hb hb' ho))
  all_goals
    first | (change Exit.then _ _ _ _ (fin7 w6 (w.heap.size + 1 + 1) (.int .i64 0) (.int .i64 0) (.int .i64 0) (.int .i64 0) (.slice E1 0 e1) (.int .i64 0) (.slice E2 0 e2))) | (change bodyPost _ _ _ _ _ (fin7 w6 (w.heap.size + 1 + 1) (.int .i64 0) (.int .i64 0) (.int .i64 0) (.int .i64 0) (.slice E1 0 e1) (.int .i64 0) (.slice E2 0 e2)))
    have NF := fin7_box (v0 := .int .i64 0) (v1 := .int .i64 0) (v2 := .int .i64 0) (v3 := .int .i64 0) (v4 := .slice E1 0 e1) (v5 := .int .i64 0) (v6 := .slice E2 0 e2) N6.out
    have hon := fin7_only w6 (w.heap.size + 1 + 1) (.int .i64 0) (.int .i64 0) (.int .i64 0) (.int .i64 0) (.slice E1 0 e1) (.int .i64 0) (.slice E2 0 e2)
    clear r0 g0 r1 g1 r2 g2 r3 g3 r4 g4 r5 g5 r6 g6
    generalize fin7 w6 (w.heap.size + 1 + 1) (.int .i64 0) (.int .i64 0) (.int .i64 0) (.int .i64 0) (.slice E1 0 e1) (.int .i64 0) (.slice E2 0 e2) = wf at *
    have r0 := NF.cell 0 _ rfl
    have r1 := NF.cell 1 _ rfl
    have r2 := NF.cell 2 _ rfl
    have r3 := NF.cell 3 _ rfl
    have r4 := NF.cell 4 _ rfl
    have r5 := NF.cell 5 _ rfl
    have r6 := NF.cell 6 _ rfl
    try go_wp2_with fail
    refine bodyPost_ret (v := .tuple #[.agg #[.int .i64 0, .int .i64 0, .int .i64 0, .int .i64 0, .slice E1 0 e1, .int .i64 0, .slice E2 0 e2], .bool false]) (by simp [results, Try.results48, go_sem, r0, r1, r2, r3, r4, r5, r6]) rfl ?_
    have hn5 := N5.out.lt
    exact ⟨E1, e1, E2, e2, rfl, (O1.out.same hon (.inr (by omega)) (Nat.le_refl _)).mono (by omega) hon.size, (O2.out.same hon (.inr (by omega)) (Nat.le_refl _)).mono (by omega) hon.size, AP.out, T6.out.below.trans (hon.below T6.out.below.size (by omega))⟩

end
end Go.Proofs.Ytdkkflejpcgipaa

