/- JoinRanked: both sides. -/
import Derived.Test.YtbflgbmobbbebaaBuildR
import Derived.Test.YtbflgbmobbbebaaWordsG
namespace Go.Proofs.Ytbflgbmobbbebaa
open Go.RowKit

/-- Two boxed Rankeds and the box of the answer. -/
structure TR (w : World) (z : Int) (A1 : Option Addr) (n c1 : Nat) (X : Nat → Int) (A2 : Option Addr) (s c2 : Nat) (Y : Nat → Int) (A3 : Option Addr) (m c3 : Nat) (Z : Nat → Int) (y : Int) (B1 : Option Addr) (n' d1 : Nat) (X' : Nat → Int) (B2 : Option Addr) (s' d2 : Nat) (Y' : Nat → Int) (B3 : Option Addr) (m' d3 : Nat) (Z' : Nat → Int) (wi : World) : Prop where
  below : Below w.heap.size w wi
  fst : RkR A1 n X A2 s Y A3 m Z wi
  snd : RkR B1 n' X' B2 s' Y' B3 m' Z' wi
  box1 : NBX w.heap.size w.heap.size (rkC z A1 n c1 A2 s c2 A3 m c3) 29 wi
  box2 : NBX (w.heap.size + 1) (w.heap.size + 1) (rkC y B1 n' d1 B2 s' d2 B3 m' d3) 29 wi
  res : NBX (w.heap.size + 2) (w.heap.size + 2) (rkC 0 none 0 0 none 0 0 none 0 0) 29 wi
section
variable {w wi wj : World} {z y : Int} {A1 A2 A3 B1 B2 B3 : Option Addr} {n c1 s c2 m c3 n' d1 s' d2 m' d3 : Nat} {X Y Z X' Y' Z' : Nat → Int}
theorem TR.step (h : TR w z A1 n c1 X A2 s c2 Y A3 m c3 Z y B1 n' d1 X' B2 s' d2 Y' B3 m' d3 Z' wi) (hb : Below wi.heap.size wi wj) : TR w z A1 n c1 X A2 s c2 Y A3 m c3 Z y B1 n' d1 X' B2 s' d2 Y' B3 m' d3 Z' wj :=
  ⟨h.below.trans (hb.mono h.below.size), h.fst.b hb, h.snd.b hb, h.box1.b hb, h.box2.b hb, h.res.b hb⟩
theorem TR.low {B : Nat} (h : TR w z A1 n c1 X A2 s c2 Y A3 m c3 Z y B1 n' d1 X' B2 s' d2 Y' B3 m' d3 Z' wi) (h1 : RkR A1 n X A2 s Y A3 m Z w) (h2 : RkR B1 n' X' B2 s' Y' B3 m' Z' w) (hB : w.heap.size + 3 ≤ B) (hb : Below B wi wj) : TR w z A1 n c1 X A2 s c2 Y A3 m c3 Z y B1 n' d1 X' B2 s' d2 Y' B3 m' d3 Z' wj := by
  have hw : Below w.heap.size w wj := h.below.trans (hb.mono (by omega))
  exact ⟨hw, h1.b hw, h2.b hw, ⟨(hb.block _ (by omega)).trans h.box1.blk, h.box1.ge⟩, ⟨(hb.block _ (by omega)).trans h.box2.blk, h.box2.ge⟩, ⟨(hb.block _ (by omega)).trans h.res.blk, h.res.ge⟩⟩
theorem TR.start (h1 : RkR A1 n X A2 s Y A3 m Z w) (h2 : RkR B1 n' X' B2 s' Y' B3 m' Z' w) : TR w z A1 n c1 X A2 s c2 Y A3 m c3 Z y B1 n' d1 X' B2 s' d2 Y' B3 m' d3 Z' (((w.alloc (.cells (rkC z A1 n c1 A2 s c2 A3 m c3) 29)).alloc (.cells (rkC y B1 n' d1 B2 s' d2 B3 m' d3) 29)).alloc (.cells (rkC 0 none 0 0 none 0 0 none 0 0) 29)) := by
  have e1 : (w.alloc (.cells (rkC z A1 n c1 A2 s c2 A3 m c3) 29)).heap.size = w.heap.size + 1 := by simp
  have e2 : ((w.alloc (.cells (rkC z A1 n c1 A2 s c2 A3 m c3) 29)).alloc (.cells (rkC y B1 n' d1 B2 s' d2 B3 m' d3) 29)).heap.size = w.heap.size + 2 := by simp
  have k1 := nbx0 (w.alloc (.cells (rkC z A1 n c1 A2 s c2 A3 m c3) 29)) (rkC y B1 n' d1 B2 s' d2 B3 m' d3) 29
  have k2 := nbx0 ((w.alloc (.cells (rkC z A1 n c1 A2 s c2 A3 m c3) 29)).alloc (.cells (rkC y B1 n' d1 B2 s' d2 B3 m' d3) 29)) (rkC 0 none 0 0 none 0 0 none 0 0) 29
  rw [e1] at k1
  rw [e2] at k2
  have b1 : ∀ (u : World) (o : Obj), Below u.heap.size u (u.alloc o) := fun u o => (Below.refl _ _).alloc (Nat.le_refl _) o
  exact ⟨((b1 _ _).trans ((b1 _ _).mono (by simp))).trans ((b1 _ _).mono (by simp; omega)), ((h1.al _).al _).al _, ((h2.al _).al _).al _, ((nbx0 _ _ _).b (b1 _ _)).b (b1 _ _), k1.b (b1 _ _), k2⟩
theorem TR.cells1 (h : TR w z A1 n c1 X A2 s c2 Y A3 m c3 Z y B1 n' d1 X' B2 s' d2 Y' B3 m' d3 Z' wi) : w.heap.size + 2 < wi.heap.size ∧ wi.cell? ⟨w.heap.size, 0, none⟩ = some (.int .i64 z) ∧ wi.cell? ⟨w.heap.size, 1, none⟩ = some (.slice A1 n c1) ∧ wi.cell? ⟨w.heap.size, 2, none⟩ = some (.slice A2 s c2) ∧ wi.cell? ⟨w.heap.size, 3, none⟩ = some (.slice A3 m c3) :=
  ⟨h.res.lt, h.box1.cell 0 _ rfl, h.box1.cell 1 _ rfl, h.box1.cell 2 _ rfl, h.box1.cell 3 _ rfl⟩
theorem TR.cells2 (h : TR w z A1 n c1 X A2 s c2 Y A3 m c3 Z y B1 n' d1 X' B2 s' d2 Y' B3 m' d3 Z' wi) : wi.cell? ⟨w.heap.size + 1, 0, none⟩ = some (.int .i64 y) ∧ wi.cell? ⟨w.heap.size + 1, 1, none⟩ = some (.slice B1 n' d1) ∧ wi.cell? ⟨w.heap.size + 1, 2, none⟩ = some (.slice B2 s' d2) ∧ wi.cell? ⟨w.heap.size + 1, 3, none⟩ = some (.slice B3 m' d3) :=
  ⟨h.box2.cell 0 _ rfl, h.box2.cell 1 _ rfl, h.box2.cell 2 _ rfl, h.box2.cell 3 _ rfl⟩
theorem TR.four (h : TR w z A1 n c1 X A2 s c2 Y A3 m c3 Z y B1 n' d1 X' B2 s' d2 Y' B3 m' d3 Z' wi) : wi.cell? ⟨w.heap.size, 0, none⟩ = some (.int .i64 z) ∧ wi.cell? ⟨w.heap.size, 1, none⟩ = some (.slice A1 n c1) ∧ wi.cell? ⟨w.heap.size + 1, 0, none⟩ = some (.int .i64 y) ∧ wi.cell? ⟨w.heap.size + 1, 1, none⟩ = some (.slice B1 n' d1) :=
  ⟨h.cells1.2.1, h.cells1.2.2.1, h.cells2.1, h.cells2.2.1⟩
theorem TR.kept (h : TR w z A1 n c1 X A2 s c2 Y A3 m c3 Z y B1 n' d1 X' B2 s' d2 Y' B3 m' d3 Z' wi) (u0 u1 u2 u3 : Value) : ((((wi.setCell ⟨w.heap.size + 1 + 1, 0, none⟩ u0).setCell ⟨w.heap.size + 1 + 1, 1, none⟩ u1).setCell ⟨w.heap.size + 1 + 1, 2, none⟩ u2).setCell ⟨w.heap.size + 1 + 1, 3, none⟩ u3).cell? ⟨w.heap.size, 0, none⟩ = some (.int .i64 z) ∧ ((((wi.setCell ⟨w.heap.size + 1 + 1, 0, none⟩ u0).setCell ⟨w.heap.size + 1 + 1, 1, none⟩ u1).setCell ⟨w.heap.size + 1 + 1, 2, none⟩ u2).setCell ⟨w.heap.size + 1 + 1, 3, none⟩ u3).cell? ⟨w.heap.size, 1, none⟩ = some (.slice A1 n c1) ∧ ((((wi.setCell ⟨w.heap.size + 1 + 1, 0, none⟩ u0).setCell ⟨w.heap.size + 1 + 1, 1, none⟩ u1).setCell ⟨w.heap.size + 1 + 1, 2, none⟩ u2).setCell ⟨w.heap.size + 1 + 1, 3, none⟩ u3).cell? ⟨w.heap.size + 1, 0, none⟩ = some (.int .i64 y) ∧ ((((wi.setCell ⟨w.heap.size + 1 + 1, 0, none⟩ u0).setCell ⟨w.heap.size + 1 + 1, 1, none⟩ u1).setCell ⟨w.heap.size + 1 + 1, 2, none⟩ u2).setCell ⟨w.heap.size + 1 + 1, 3, none⟩ u3).cell? ⟨w.heap.size + 1, 1, none⟩ = some (.slice B1 n' d1) := by
  have k1 := nbx_other (nbx_other (nbx_other (nbx_other h.box1 (r := w.heap.size + 1 + 1) (by omega) 0 u0) (r := w.heap.size + 1 + 1) (by omega) 1 u1) (r := w.heap.size + 1 + 1) (by omega) 2 u2) (r := w.heap.size + 1 + 1) (by omega) 3 u3
  have k2 := nbx_other (nbx_other (nbx_other (nbx_other h.box2 (r := w.heap.size + 1 + 1) (by omega) 0 u0) (r := w.heap.size + 1 + 1) (by omega) 1 u1) (r := w.heap.size + 1 + 1) (by omega) 2 u2) (r := w.heap.size + 1 + 1) (by omega) 3 u3
  exact ⟨k1.cell 0 _ rfl, k1.cell 1 _ rfl, k2.cell 0 _ rfl, k2.cell 1 _ rfl⟩
end
/-- The words of both vectors joined. -/
def joinX (X X' : Nat → Int) (z y : Nat) : Nat → Int := fun k => (wordsOf (joinF X X' z y) k : Int)
theorem joinX_good {X X' : Nat → Int} {z y : Nat} (h : z + y ≤ 4096) : Good ((z + y : Nat) : Int) ((z + y + 15) / 16) (joinX X X' z y) :=
  good_of_words h rfl (fun i hi => by unfold joinF; simp only [show ¬ i < z + y by omega, decide_false, Bool.false_and])

set_option maxRecDepth 100000 in
set_option maxHeartbeats 2000000 in
theorem impl_joinR_yes (z y : Nat) (A1 : Option Addr) (n c1 : Nat) (X : Nat → Int) (A2 : Option Addr) (s c2 : Nat) (Y : Nat → Int) (A3 : Option Addr) (m c3 : Nat) (Z : Nat → Int) (B1 : Option Addr) (n' d1 : Nat) (X' : Nat → Int) (B2 : Option Addr) (s' d2 : Nat) (Y' : Nat → Int) (B3 : Option Addr) (m' d3 : Nat) (Z' : Nat → Int) (w : World) (h1 : RkR A1 n X A2 s Y A3 m Z w) (h2 : RkR B1 n' X' B2 s' Y' B3 m' Z' w) (k1 : RankOk z n X s Y m Z) (k2 : RankOk y n' X' s' Y' m' Z') (hzy : z + y ≤ 4096) :
    Calls Try.prog 25 #[.agg #[.int .i64 z, .slice A1 n c1, .slice A2 s c2, .slice A3 m c3], .agg #[.int .i64 y, .slice B1 n' d1, .slice B2 s' d2, .slice B3 m' d3]] w (RkOwn ((z + y : Nat) : Int) ((z + y + 15) / 16) (joinX X X' z y) ((z + y + 63) / 64) (supI (wdR (joinX X X' z y))) ((z + y + 15) / 16) (blkI (wdR (joinX X X' z y))) true w) := by
  have T0 := Lib.hid (TR.start (z := z) (y := y) (c1 := c1) (c2 := c2) (c3 := c3) (d1 := d1) (d2 := d2) (d3 := d3) h1 h2)
  have hn1 := h1.n1
  have hn2 := h2.n1
  have K1 := Lib.hid k1
  have K2 := Lib.hid k2
  have JG := Lib.hid (joinX_good (X := X) (X' := X') hzy)
  have JB := Lib.hid (fun w1 hr1 hr2 => impl_join_yes z y (z + y) ((z + y + 15) / 16) A1 B1 n c1 n' d1 X X' w1 hn1 hn2 hr1 hr2 k1.1 k2.1 rfl hzy rfl)
  generalize hM : (z + y + 15) / 16 = M at *
  generalize hS : (z + y + 63) / 64 = S at *
  have HM := Lib.hid hM
  have HS := Lib.hid hS
  have hM2 : M ≤ 1048576 := by omega
  clear h1 h2 k1 k2 hM hS
  obtain ⟨hs0, b0, b1, b2, b3⟩ := T0.out.cells1
  obtain ⟨b4, b5, b6, b7⟩ := T0.out.cells2
  go_enter Try.func25, Try.ntmps25
  go_wp2_with fail
  refine ((BoolIs.two (impl_isRanked (z : Int) A1 n c1 X A2 s c2 Y A3 m c3 Z _ T0.out.fst)).1 K1.out).mono ?_; rintro e w1 ⟨rfl, hb⟩
  have T1 := Lib.hid (T0.out.step hb)
  clear hb b0 b1 b2 b3 b4 b5 b6 b7 T0
  obtain ⟨hs1, b0, b1, b2, b3⟩ := T1.out.cells1
  obtain ⟨b4, b5, b6, b7⟩ := T1.out.cells2
  go_wp2_with fail
  refine ((BoolIs.two (impl_isRanked (y : Int) B1 n' d1 X' B2 s' d2 Y' B3 m' d3 Z' _ T1.out.snd)).1 K2.out).mono ?_; rintro e w2 ⟨rfl, hb⟩
  have T2 := Lib.hid (T1.out.step hb)
  clear hb b0 b1 b2 b3 b4 b5 b6 b7 T1
  obtain ⟨hs2, b0, b1, b2, b3⟩ := T2.out.cells1
  obtain ⟨b4, b5, b6, b7⟩ := T2.out.cells2
  go_wp2_with fail
  refine (JB.out _ T2.out.fst.r1 T2.out.snd.r1).mono ?_; rintro e w3 ⟨J, jc, rfl, hj, hb⟩
  have HB3 := Lib.hid ((Below.refl w3.heap.size w3).alloc (Nat.le_refl _) (.cells #[.int .i64 ((z + y : Nat) : Int), .slice J M jc] 26))
  have T3 := Lib.hid ((T2.out.step hb).step HB3.out)
  have hs23 := hb.size
  have J3 := Lib.hid (IRow.b hj.row HB3.out)
  have N3 := Lib.hid (nbx0 w3 #[.int .i64 ((z + y : Nat) : Int), .slice J M jc] 26)
  clear hb hj b0 b1 b2 b3 b4 b5 b6 b7 T2 JB
  have c0 := N3.out.cell 0 _ rfl
  have c1 := N3.out.cell 1 _ rfl
  go_wp2_with fail
  refine (impl_build_yes (z + y) S J M jc (joinX X X' z y) _ hM2 J3.out JG.out HS.out.symm).mono ?_; rintro e w4 ⟨D1, e1, D2, e2, D3, e3, rfl, o1, o2, o3, p1, p2, p3, hb⟩
  have T4 := Lib.hid (T3.out.step hb)
  have O1 := Lib.hid (owned (o1.mono (lo' := w3.heap.size) (by simp) (Nat.le_refl _)))
  have O2 := Lib.hid (owned (o2.mono (lo' := w3.heap.size) (by simp) (Nat.le_refl _)))
  have O3 := Lib.hid (owned (o3.mono (lo' := w3.heap.size) (by simp) (Nat.le_refl _)))
  have AP := Lib.hid (And.intro p1 (And.intro p2 p3))
  have hs34 := hb.size
  simp only [World.size_alloc] at hs34
  clear hb o1 o2 o3 p1 p2 p3 T3 c0 c1
  have r0 := T4.out.res.cell 0 _ rfl
  have r1 := T4.out.res.cell 1 _ rfl
  have r2 := T4.out.res.cell 2 _ rfl
  have r3 := T4.out.res.cell 3 _ rfl
  have g0 := T4.out.res.free 0
  have g1 := T4.out.res.free 1
  have g2 := T4.out.res.free 2
  have g3 := T4.out.res.free 3
  go_wp2_with fail
  have N4 := Lib.hid ((((T4.out.res.set 0 (.int .i64 ((z : Int) + (y : Int)))).set 1 (.slice D1 M e1)).set 2 (.slice D2 S e2)).set 3 (.slice D3 M e3))
  clear r0 r1 r2 r3
  have r0 := N4.out.cell 0 (.int .i64 ((z : Int) + (y : Int))) (by simp)
  have r1 := N4.out.cell 1 (.slice D1 M e1) (by simp)
  have r2 := N4.out.cell 2 (.slice D2 S e2) (by simp)
  have r3 := N4.out.cell 3 (.slice D3 M e3) (by simp)
  refine bodyPost_ret (v := .tuple #[.agg #[.int .i64 ((z : Int) + (y : Int)), .slice D1 M e1, .slice D2 S e2, .slice D3 M e3], .bool true]) (by simp [results, Try.results25, go_sem, r0, r1, r2, r3]) rfl ?_
  have hbf := below_setAt (below_setAt (below_setAt (below_setAt T4.out.below (b := w.heap.size + 2) (o := 0) (by omega) (.int .i64 ((z : Int) + (y : Int)))) (b := w.heap.size + 2) (o := 1) (by omega) (.slice D1 M e1)) (b := w.heap.size + 2) (o := 2) (by omega) (.slice D2 S e2)) (b := w.heap.size + 2) (o := 3) (by omega) (.slice D3 M e3)
  have q1 := (((O1.out.setD (q := w.heap.size + 2) (.inr (by omega)) 0 (.int .i64 ((z : Int) + (y : Int)))).setD (q := w.heap.size + 2) (.inr (by omega)) 1 (.slice D1 M e1)).setD (q := w.heap.size + 2) (.inr (by omega)) 2 (.slice D2 S e2)).setD (q := w.heap.size + 2) (.inr (by omega)) 3 (.slice D3 M e3)
  have q2 := (((O2.out.setD (q := w.heap.size + 2) (.inr (by omega)) 0 (.int .i64 ((z : Int) + (y : Int)))).setD (q := w.heap.size + 2) (.inr (by omega)) 1 (.slice D1 M e1)).setD (q := w.heap.size + 2) (.inr (by omega)) 2 (.slice D2 S e2)).setD (q := w.heap.size + 2) (.inr (by omega)) 3 (.slice D3 M e3)
  have q3 := (((O3.out.setD (q := w.heap.size + 2) (.inr (by omega)) 0 (.int .i64 ((z : Int) + (y : Int)))).setD (q := w.heap.size + 2) (.inr (by omega)) 1 (.slice D1 M e1)).setD (q := w.heap.size + 2) (.inr (by omega)) 2 (.slice D2 S e2)).setD (q := w.heap.size + 2) (.inr (by omega)) 3 (.slice D3 M e3)
  exact ⟨D1, e1, D2, e2, D3, e3, rfl, q1.now.mono (by omega) q1.top, q2.now.mono (by omega) q2.top, q3.now.mono (by omega) q3.top, AP.out.1, AP.out.2.1, AP.out.2.2, hbf⟩

set_option maxRecDepth 100000 in
set_option maxHeartbeats 1000000 in
theorem impl_joinR_fst (z y : Int) (A1 : Option Addr) (n c1 : Nat) (X : Nat → Int) (A2 : Option Addr) (s c2 : Nat) (Y : Nat → Int) (A3 : Option Addr) (m c3 : Nat) (Z : Nat → Int) (B1 : Option Addr) (n' d1 : Nat) (X' : Nat → Int) (B2 : Option Addr) (s' d2 : Nat) (Y' : Nat → Int) (B3 : Option Addr) (m' d3 : Nat) (Z' : Nat → Int) (w : World) (h1 : RkR A1 n X A2 s Y A3 m Z w) (h2 : RkR B1 n' X' B2 s' Y' B3 m' Z' w) (k1 : ¬ RankOk z n X s Y m Z) :
    Calls Try.prog 25 #[.agg #[.int .i64 z, .slice A1 n c1, .slice A2 s c2, .slice A3 m c3], .agg #[.int .i64 y, .slice B1 n' d1, .slice B2 s' d2, .slice B3 m' d3]] w (RkOwn 0 0 (fun _ => 0) 0 (fun _ => 0) 0 (fun _ => 0) false w) := by
  have T0 := Lib.hid (TR.start (z := z) (y := y) (c1 := c1) (c2 := c2) (c3 := c3) (d1 := d1) (d2 := d2) (d3 := d3) h1 h2)
  have K1 := Lib.hid k1
  clear h1 h2 k1
  obtain ⟨hs_T0, b0, b1, b2, b3⟩ := T0.out.cells1
  obtain ⟨b4, b5, b6, b7⟩ := T0.out.cells2
  go_enter Try.func25, Try.ntmps25
  go_wp2_with fail
  refine ((BoolIs.two (impl_isRanked z A1 n c1 X A2 s c2 Y A3 m c3 Z _ T0.out.fst)).2 K1.out).mono ?_; rintro e w1 ⟨rfl, hb⟩
  have T1 := Lib.hid (T0.out.step hb)
  clear hb b0 b1 b2 b3 b4 b5 b6 b7
  have r0 := T1.out.res.cell 0 _ rfl
  have g0 := T1.out.res.free 0
  have r1 := T1.out.res.cell 1 _ rfl
  have g1 := T1.out.res.free 1
  have r2 := T1.out.res.cell 2 _ rfl
  have g2 := T1.out.res.free 2
  have r3 := T1.out.res.cell 3 _ rfl
  have g3 := T1.out.res.free 3
  go_wp2_with fail
  refine bodyPost_ret (v := .tuple #[.agg #[.int .i64 0, .slice none 0 0, .slice none 0 0, .slice none 0 0], .bool false]) (by simp [results, Try.results25, go_sem, r0, r1, r2, r3]) rfl ?_
  refine ⟨none, 0, none, 0, none, 0, rfl, ow_zero _ _ _ _ _ _, ow_zero _ _ _ _ _ _, ow_zero _ _ _ _ _ _, fun h => absurd h (by omega), fun h => absurd h (by omega), fun h => absurd h (by omega), ?_⟩
  first | exact T1.out.below | exact below_setAt (below_setAt (below_setAt (below_setAt T1.out.below (by omega) _) (by omega) _) (by omega) _) (by omega) _

set_option maxRecDepth 100000 in
set_option maxHeartbeats 1000000 in
theorem impl_joinR_snd (z y : Int) (A1 : Option Addr) (n c1 : Nat) (X : Nat → Int) (A2 : Option Addr) (s c2 : Nat) (Y : Nat → Int) (A3 : Option Addr) (m c3 : Nat) (Z : Nat → Int) (B1 : Option Addr) (n' d1 : Nat) (X' : Nat → Int) (B2 : Option Addr) (s' d2 : Nat) (Y' : Nat → Int) (B3 : Option Addr) (m' d3 : Nat) (Z' : Nat → Int) (w : World) (h1 : RkR A1 n X A2 s Y A3 m Z w) (h2 : RkR B1 n' X' B2 s' Y' B3 m' Z' w) (k1 : RankOk z n X s Y m Z) (k2 : ¬ RankOk y n' X' s' Y' m' Z') :
    Calls Try.prog 25 #[.agg #[.int .i64 z, .slice A1 n c1, .slice A2 s c2, .slice A3 m c3], .agg #[.int .i64 y, .slice B1 n' d1, .slice B2 s' d2, .slice B3 m' d3]] w (RkOwn 0 0 (fun _ => 0) 0 (fun _ => 0) 0 (fun _ => 0) false w) := by
  have T0 := Lib.hid (TR.start (z := z) (y := y) (c1 := c1) (c2 := c2) (c3 := c3) (d1 := d1) (d2 := d2) (d3 := d3) h1 h2)
  have K1 := Lib.hid k1
  have K2 := Lib.hid k2
  clear h1 h2 k1 k2
  obtain ⟨hs_T0, b0, b1, b2, b3⟩ := T0.out.cells1
  obtain ⟨b4, b5, b6, b7⟩ := T0.out.cells2
  go_enter Try.func25, Try.ntmps25
  go_wp2_with fail
  refine ((BoolIs.two (impl_isRanked z A1 n c1 X A2 s c2 Y A3 m c3 Z _ T0.out.fst)).1 K1.out).mono ?_; rintro e w1 ⟨rfl, hb⟩
  have T1 := Lib.hid (T0.out.step hb)
  clear hb b0 b1 b2 b3 b4 b5 b6 b7
  obtain ⟨hs_T1, b0, b1, b2, b3⟩ := T1.out.cells1
  obtain ⟨b4, b5, b6, b7⟩ := T1.out.cells2
  go_wp2_with fail
  refine ((BoolIs.two (impl_isRanked y B1 n' d1 X' B2 s' d2 Y' B3 m' d3 Z' _ T1.out.snd)).2 K2.out).mono ?_; rintro e w2 ⟨rfl, hb⟩
  have T2 := Lib.hid (T1.out.step hb)
  clear hb b0 b1 b2 b3 b4 b5 b6 b7
  have r0 := T2.out.res.cell 0 _ rfl
  have g0 := T2.out.res.free 0
  have r1 := T2.out.res.cell 1 _ rfl
  have g1 := T2.out.res.free 1
  have r2 := T2.out.res.cell 2 _ rfl
  have g2 := T2.out.res.free 2
  have r3 := T2.out.res.cell 3 _ rfl
  have g3 := T2.out.res.free 3
  go_wp2_with fail
  refine bodyPost_ret (v := .tuple #[.agg #[.int .i64 0, .slice none 0 0, .slice none 0 0, .slice none 0 0], .bool false]) (by simp [results, Try.results25, go_sem, r0, r1, r2, r3]) rfl ?_
  refine ⟨none, 0, none, 0, none, 0, rfl, ow_zero _ _ _ _ _ _, ow_zero _ _ _ _ _ _, ow_zero _ _ _ _ _ _, fun h => absurd h (by omega), fun h => absurd h (by omega), fun h => absurd h (by omega), ?_⟩
  first | exact T2.out.below | exact below_setAt (below_setAt (below_setAt (below_setAt T2.out.below (by omega) _) (by omega) _) (by omega) _) (by omega) _

set_option maxRecDepth 100000 in
set_option maxHeartbeats 1000000 in
theorem impl_joinR_sum (z y : Int) (A1 : Option Addr) (n c1 : Nat) (X : Nat → Int) (A2 : Option Addr) (s c2 : Nat) (Y : Nat → Int) (A3 : Option Addr) (m c3 : Nat) (Z : Nat → Int) (B1 : Option Addr) (n' d1 : Nat) (X' : Nat → Int) (B2 : Option Addr) (s' d2 : Nat) (Y' : Nat → Int) (B3 : Option Addr) (m' d3 : Nat) (Z' : Nat → Int) (w : World) (h1 : RkR A1 n X A2 s Y A3 m Z w) (h2 : RkR B1 n' X' B2 s' Y' B3 m' Z' w) (k1 : RankOk z n X s Y m Z) (k2 : RankOk y n' X' s' Y' m' Z') (hzy : ¬ z + y ≤ 4096) :
    Calls Try.prog 25 #[.agg #[.int .i64 z, .slice A1 n c1, .slice A2 s c2, .slice A3 m c3], .agg #[.int .i64 y, .slice B1 n' d1, .slice B2 s' d2, .slice B3 m' d3]] w (RkOwn 0 0 (fun _ => 0) 0 (fun _ => 0) 0 (fun _ => 0) false w) := by
  have T0 := Lib.hid (TR.start (z := z) (y := y) (c1 := c1) (c2 := c2) (c3 := c3) (d1 := d1) (d2 := d2) (d3 := d3) h1 h2)
  have hn1 := h1.n1
  have hn2 := h2.n1
  have K1 := Lib.hid k1
  have K2 := Lib.hid k2
  have dz : decide (4096 < z + y) = true := by simp; omega
  have z1 : 0 ≤ z ∧ z ≤ 4096 := ⟨k1.1.1, k1.1.2.1⟩
  have y1 : 0 ≤ y ∧ y ≤ 4096 := ⟨k2.1.1, k2.1.2.1⟩
  clear h1 h2 k1 k2
  obtain ⟨hs_T0, b0, b1, b2, b3⟩ := T0.out.cells1
  obtain ⟨b4, b5, b6, b7⟩ := T0.out.cells2
  go_enter Try.func25, Try.ntmps25
  go_wp2_with fail
  refine ((BoolIs.two (impl_isRanked z A1 n c1 X A2 s c2 Y A3 m c3 Z _ T0.out.fst)).1 K1.out).mono ?_; rintro e w1 ⟨rfl, hb⟩
  have T1 := Lib.hid (T0.out.step hb)
  clear hb b0 b1 b2 b3 b4 b5 b6 b7
  obtain ⟨hs_T1, b0, b1, b2, b3⟩ := T1.out.cells1
  obtain ⟨b4, b5, b6, b7⟩ := T1.out.cells2
  go_wp2_with fail
  refine ((BoolIs.two (impl_isRanked y B1 n' d1 X' B2 s' d2 Y' B3 m' d3 Z' _ T1.out.snd)).1 K2.out).mono ?_; rintro e w2 ⟨rfl, hb⟩
  have T2 := Lib.hid (T1.out.step hb)
  clear hb b0 b1 b2 b3 b4 b5 b6 b7
  obtain ⟨hs_T2, b0, b1, b2, b3⟩ := T2.out.cells1
  obtain ⟨b4, b5, b6, b7⟩ := T2.out.cells2
  go_wp2_with fail
  refine (impl_join_no z y A1 B1 n c1 n' d1 X X' _ hn1 hn2 T2.out.fst.r1 T2.out.snd.r1 (fun h => by have := h.2.2; omega)).mono ?_; rintro e w3 ⟨J, jc, rfl, hj, hb⟩
  have T3 := Lib.hid ((T2.out.step hb).step ((Below.refl w3.heap.size w3).alloc (Nat.le_refl _) (.cells #[.int .i64 0, .slice J 0 jc] 26)))
  clear hb hj b0 b1 b2 b3 b4 b5 b6 b7
  have r0 := T3.out.res.cell 0 _ rfl
  have g0 := T3.out.res.free 0
  have r1 := T3.out.res.cell 1 _ rfl
  have g1 := T3.out.res.free 1
  have r2 := T3.out.res.cell 2 _ rfl
  have g2 := T3.out.res.free 2
  have r3 := T3.out.res.cell 3 _ rfl
  have g3 := T3.out.res.free 3
  go_wp2_with fail
  refine bodyPost_ret (v := .tuple #[.agg #[.int .i64 0, .slice none 0 0, .slice none 0 0, .slice none 0 0], .bool false]) (by simp [results, Try.results25, go_sem, r0, r1, r2, r3]) rfl ?_
  refine ⟨none, 0, none, 0, none, 0, rfl, ow_zero _ _ _ _ _ _, ow_zero _ _ _ _ _ _, ow_zero _ _ _ _ _ _, fun h => absurd h (by omega), fun h => absurd h (by omega), fun h => absurd h (by omega), ?_⟩
  first | exact T3.out.below | exact below_setAt (below_setAt (below_setAt (below_setAt T3.out.below (by omega) _) (by omega) _) (by omega) _) (by omega) _

set_option maxRecDepth 100000 in
set_option maxHeartbeats 1000000 in
theorem spec_joinR_fst (z y : Int) (A1 : Option Addr) (n c1 : Nat) (X : Nat → Int) (A2 : Option Addr) (s c2 : Nat) (Y : Nat → Int) (A3 : Option Addr) (m c3 : Nat) (Z : Nat → Int) (B1 : Option Addr) (n' d1 : Nat) (X' : Nat → Int) (B2 : Option Addr) (s' d2 : Nat) (Y' : Nat → Int) (B3 : Option Addr) (m' d3 : Nat) (Z' : Nat → Int) (w : World) (h1 : RkR A1 n X A2 s Y A3 m Z w) (h2 : RkR B1 n' X' B2 s' Y' B3 m' Z' w) (k1 : ¬ RankOk z n X s Y m Z) :
    Calls Try.prog 26 #[.agg #[.int .i64 z, .slice A1 n c1, .slice A2 s c2, .slice A3 m c3], .agg #[.int .i64 y, .slice B1 n' d1, .slice B2 s' d2, .slice B3 m' d3]] w (RkVec 0 0 (fun _ => 0) 0 (fun _ => 0) 0 (fun _ => 0) false w) := by
  have T0 := Lib.hid (TR.start (z := z) (y := y) (c1 := c1) (c2 := c2) (c3 := c3) (d1 := d1) (d2 := d2) (d3 := d3) h1 h2)
  have K1 := Lib.hid k1
  clear h1 h2 k1
  obtain ⟨hs_T0, b0, b1, b2, b3⟩ := T0.out.cells1
  obtain ⟨b4, b5, b6, b7⟩ := T0.out.cells2
  go_enter Try.func26, Try.ntmps26
  go_wp2_with fail
  refine ((BoolIs.two (spec_raGood z A1 n c1 X A2 s c2 Y A3 m c3 Z _ T0.out.fst)).2 K1.out).mono ?_; rintro e w1 ⟨rfl, hb⟩
  have T1 := Lib.hid (T0.out.step hb)
  clear hb b0 b1 b2 b3 b4 b5 b6 b7
  have r0 := T1.out.res.cell 0 _ rfl
  have g0 := T1.out.res.free 0
  have r1 := T1.out.res.cell 1 _ rfl
  have g1 := T1.out.res.free 1
  have r2 := T1.out.res.cell 2 _ rfl
  have g2 := T1.out.res.free 2
  have r3 := T1.out.res.cell 3 _ rfl
  have g3 := T1.out.res.free 3
  go_wp2_with fail
  refine bodyPost_ret (v := .tuple #[.agg #[.int .i64 0, .slice none 0 0, .slice none 0 0, .slice none 0 0], .bool false]) (by simp [results, Try.results26, go_sem, r0, r1, r2, r3]) rfl ?_
  refine ⟨none, 0, none, 0, none, 0, rfl, ow_zero _ _ _ _ _ _, ow_zero _ _ _ _ _ _, ow_zero _ _ _ _ _ _, ?_⟩
  first | exact T1.out.below | exact below_setAt (below_setAt (below_setAt (below_setAt T1.out.below (by omega) _) (by omega) _) (by omega) _) (by omega) _

set_option maxRecDepth 100000 in
set_option maxHeartbeats 1000000 in
theorem spec_joinR_snd (z y : Int) (A1 : Option Addr) (n c1 : Nat) (X : Nat → Int) (A2 : Option Addr) (s c2 : Nat) (Y : Nat → Int) (A3 : Option Addr) (m c3 : Nat) (Z : Nat → Int) (B1 : Option Addr) (n' d1 : Nat) (X' : Nat → Int) (B2 : Option Addr) (s' d2 : Nat) (Y' : Nat → Int) (B3 : Option Addr) (m' d3 : Nat) (Z' : Nat → Int) (w : World) (h1 : RkR A1 n X A2 s Y A3 m Z w) (h2 : RkR B1 n' X' B2 s' Y' B3 m' Z' w) (k1 : RankOk z n X s Y m Z) (k2 : ¬ RankOk y n' X' s' Y' m' Z') :
    Calls Try.prog 26 #[.agg #[.int .i64 z, .slice A1 n c1, .slice A2 s c2, .slice A3 m c3], .agg #[.int .i64 y, .slice B1 n' d1, .slice B2 s' d2, .slice B3 m' d3]] w (RkVec 0 0 (fun _ => 0) 0 (fun _ => 0) 0 (fun _ => 0) false w) := by
  have T0 := Lib.hid (TR.start (z := z) (y := y) (c1 := c1) (c2 := c2) (c3 := c3) (d1 := d1) (d2 := d2) (d3 := d3) h1 h2)
  have K1 := Lib.hid k1
  have K2 := Lib.hid k2
  clear h1 h2 k1 k2
  obtain ⟨hs_T0, b0, b1, b2, b3⟩ := T0.out.cells1
  obtain ⟨b4, b5, b6, b7⟩ := T0.out.cells2
  go_enter Try.func26, Try.ntmps26
  go_wp2_with fail
  refine ((BoolIs.two (spec_raGood z A1 n c1 X A2 s c2 Y A3 m c3 Z _ T0.out.fst)).1 K1.out).mono ?_; rintro e w1 ⟨rfl, hb⟩
  have T1 := Lib.hid (T0.out.step hb)
  clear hb b0 b1 b2 b3 b4 b5 b6 b7
  obtain ⟨hs_T1, b0, b1, b2, b3⟩ := T1.out.cells1
  obtain ⟨b4, b5, b6, b7⟩ := T1.out.cells2
  go_wp2_with fail
  refine ((BoolIs.two (spec_raGood y B1 n' d1 X' B2 s' d2 Y' B3 m' d3 Z' _ T1.out.snd)).2 K2.out).mono ?_; rintro e w2 ⟨rfl, hb⟩
  have T2 := Lib.hid (T1.out.step hb)
  clear hb b0 b1 b2 b3 b4 b5 b6 b7
  have r0 := T2.out.res.cell 0 _ rfl
  have g0 := T2.out.res.free 0
  have r1 := T2.out.res.cell 1 _ rfl
  have g1 := T2.out.res.free 1
  have r2 := T2.out.res.cell 2 _ rfl
  have g2 := T2.out.res.free 2
  have r3 := T2.out.res.cell 3 _ rfl
  have g3 := T2.out.res.free 3
  go_wp2_with fail
  refine bodyPost_ret (v := .tuple #[.agg #[.int .i64 0, .slice none 0 0, .slice none 0 0, .slice none 0 0], .bool false]) (by simp [results, Try.results26, go_sem, r0, r1, r2, r3]) rfl ?_
  refine ⟨none, 0, none, 0, none, 0, rfl, ow_zero _ _ _ _ _ _, ow_zero _ _ _ _ _ _, ow_zero _ _ _ _ _ _, ?_⟩
  first | exact T2.out.below | exact below_setAt (below_setAt (below_setAt (below_setAt T2.out.below (by omega) _) (by omega) _) (by omega) _) (by omega) _

set_option maxRecDepth 100000 in
set_option maxHeartbeats 1000000 in
theorem spec_joinR_sum (z y : Int) (A1 : Option Addr) (n c1 : Nat) (X : Nat → Int) (A2 : Option Addr) (s c2 : Nat) (Y : Nat → Int) (A3 : Option Addr) (m c3 : Nat) (Z : Nat → Int) (B1 : Option Addr) (n' d1 : Nat) (X' : Nat → Int) (B2 : Option Addr) (s' d2 : Nat) (Y' : Nat → Int) (B3 : Option Addr) (m' d3 : Nat) (Z' : Nat → Int) (w : World) (h1 : RkR A1 n X A2 s Y A3 m Z w) (h2 : RkR B1 n' X' B2 s' Y' B3 m' Z' w) (k1 : RankOk z n X s Y m Z) (k2 : RankOk y n' X' s' Y' m' Z') (hzy : ¬ z + y ≤ 4096) :
    Calls Try.prog 26 #[.agg #[.int .i64 z, .slice A1 n c1, .slice A2 s c2, .slice A3 m c3], .agg #[.int .i64 y, .slice B1 n' d1, .slice B2 s' d2, .slice B3 m' d3]] w (RkVec 0 0 (fun _ => 0) 0 (fun _ => 0) 0 (fun _ => 0) false w) := by
  have T0 := Lib.hid (TR.start (z := z) (y := y) (c1 := c1) (c2 := c2) (c3 := c3) (d1 := d1) (d2 := d2) (d3 := d3) h1 h2)
  have hn1 := h1.n1
  have hn2 := h2.n1
  have K1 := Lib.hid k1
  have K2 := Lib.hid k2
  have dz : decide (4096 < z + y) = true := by simp; omega
  have z1 : 0 ≤ z ∧ z ≤ 4096 := ⟨k1.1.1, k1.1.2.1⟩
  have y1 : 0 ≤ y ∧ y ≤ 4096 := ⟨k2.1.1, k2.1.2.1⟩
  clear h1 h2 k1 k2
  obtain ⟨hs_T0, b0, b1, b2, b3⟩ := T0.out.cells1
  obtain ⟨b4, b5, b6, b7⟩ := T0.out.cells2
  go_enter Try.func26, Try.ntmps26
  go_wp2_with fail
  refine ((BoolIs.two (spec_raGood z A1 n c1 X A2 s c2 Y A3 m c3 Z _ T0.out.fst)).1 K1.out).mono ?_; rintro e w1 ⟨rfl, hb⟩
  have T1 := Lib.hid (T0.out.step hb)
  clear hb b0 b1 b2 b3 b4 b5 b6 b7
  obtain ⟨hs_T1, b0, b1, b2, b3⟩ := T1.out.cells1
  obtain ⟨b4, b5, b6, b7⟩ := T1.out.cells2
  go_wp2_with fail
  refine ((BoolIs.two (spec_raGood y B1 n' d1 X' B2 s' d2 Y' B3 m' d3 Z' _ T1.out.snd)).1 K2.out).mono ?_; rintro e w2 ⟨rfl, hb⟩
  have T2 := Lib.hid (T1.out.step hb)
  clear hb b0 b1 b2 b3 b4 b5 b6 b7
  obtain ⟨hs_T2, b0, b1, b2, b3⟩ := T2.out.cells1
  obtain ⟨b4, b5, b6, b7⟩ := T2.out.cells2
  have r0 := T2.out.res.cell 0 _ rfl
  have g0 := T2.out.res.free 0
  have r1 := T2.out.res.cell 1 _ rfl
  have g1 := T2.out.res.free 1
  have r2 := T2.out.res.cell 2 _ rfl
  have g2 := T2.out.res.free 2
  have r3 := T2.out.res.cell 3 _ rfl
  have g3 := T2.out.res.free 3
  go_wp2_with fail
  refine bodyPost_ret (v := .tuple #[.agg #[.int .i64 0, .slice none 0 0, .slice none 0 0, .slice none 0 0], .bool false]) (by simp [results, Try.results26, go_sem, r0, r1, r2, r3]) rfl ?_
  refine ⟨none, 0, none, 0, none, 0, rfl, ow_zero _ _ _ _ _ _, ow_zero _ _ _ _ _ _, ow_zero _ _ _ _ _ _, ?_⟩
  first | exact T2.out.below | exact below_setAt (below_setAt (below_setAt (below_setAt T2.out.below (by omega) _) (by omega) _) (by omega) _) (by omega) _

set_option maxRecDepth 100000 in
set_option maxHeartbeats 4000000 in
theorem spec_joinR_yes (z y : Nat) (A1 : Option Addr) (n c1 : Nat) (X : Nat → Int) (A2 : Option Addr) (s c2 : Nat) (Y : Nat → Int) (A3 : Option Addr) (m c3 : Nat) (Z : Nat → Int) (B1 : Option Addr) (n' d1 : Nat) (X' : Nat → Int) (B2 : Option Addr) (s' d2 : Nat) (Y' : Nat → Int) (B3 : Option Addr) (m' d3 : Nat) (Z' : Nat → Int) (w : World) (h1 : RkR A1 n X A2 s Y A3 m Z w) (h2 : RkR B1 n' X' B2 s' Y' B3 m' Z' w) (k1 : RankOk z n X s Y m Z) (k2 : RankOk y n' X' s' Y' m' Z') (hzy : z + y ≤ 4096) :
    Calls Try.prog 26 #[.agg #[.int .i64 z, .slice A1 n c1, .slice A2 s c2, .slice A3 m c3], .agg #[.int .i64 y, .slice B1 n' d1, .slice B2 s' d2, .slice B3 m' d3]] w (RkVec ((z + y : Nat) : Int) ((z + y + 15) / 16) (joinX X X' z y) ((z + y + 63) / 64) (supI (wdR (joinX X X' z y))) ((z + y + 15) / 16) (blkI (wdR (joinX X X' z y))) true w) := by
  have T0 := Lib.hid (TR.start (z := z) (y := y) (c1 := c1) (c2 := c2) (c3 := c3) (d1 := d1) (d2 := d2) (d3 := d3) h1 h2)
  have hn1 := h1.n1
  have hn2 := h2.n1
  have K1 := Lib.hid k1
  have K2 := Lib.hid k2
  have H1 := Lib.hid h1
  have H2 := Lib.hid h2
  have JG := Lib.hid (joinX_good (X := X) (X' := X') hzy)
  have hzn : z ≤ 16 * n := by have := k1.1.2.2.1; omega
  have hyn : y ≤ 16 * n' := by have := k2.1.2.2.1; omega
  have dz : decide ((4096 : Int) < (z : Int) + (y : Int)) = false := by simp; omega
  generalize hM : (z + y + 15) / 16 = M at *
  generalize hS : (z + y + 63) / 64 = S at *
  have HM := Lib.hid hM
  have HS := Lib.hid hS
  have hM2 : M ≤ 4096 := by omega
  clear h1 h2 k1 k2 hM hS
  obtain ⟨hs_T0, b0, b1, b2, b3⟩ := T0.out.cells1
  obtain ⟨b4, b5, b6, b7⟩ := T0.out.cells2
  go_enter Try.func26, Try.ntmps26
  go_wp2_with fail
  refine ((BoolIs.two (spec_raGood (z : Int) A1 n c1 X A2 s c2 Y A3 m c3 Z _ T0.out.fst)).1 K1.out).mono ?_; rintro e w1 ⟨rfl, hb⟩
  have T1 := Lib.hid (T0.out.step hb)
  clear hb b0 b1 b2 b3 b4 b5 b6 b7
  obtain ⟨hs_T1, b0, b1, b2, b3⟩ := T1.out.cells1
  obtain ⟨b4, b5, b6, b7⟩ := T1.out.cells2
  go_wp2_with fail
  refine ((BoolIs.two (spec_raGood (y : Int) B1 n' d1 X' B2 s' d2 Y' B3 m' d3 Z' _ T1.out.snd)).1 K2.out).mono ?_; rintro e w2 ⟨rfl, hb⟩
  have T2 := Lib.hid (T1.out.step hb)
  clear hb b0 b1 b2 b3 b4 b5 b6 b7
  obtain ⟨hs_T2, b0, b1, b2, b3⟩ := T2.out.cells1
  obtain ⟨b4, b5, b6, b7⟩ := T2.out.cells2
  have hlow : w.heap.size + 3 ≤ w2.heap.size := by omega
  go_wp2_with fail
  go_region_held3 (fun w' => w'.cell? ⟨w.heap.size, 0, none⟩ = some (.int .i64 z) ∧ w'.cell? ⟨w.heap.size, 1, none⟩ = some (.slice A1 n c1) ∧ w'.cell? ⟨w.heap.size + 1, 0, none⟩ = some (.int .i64 y) ∧ w'.cell? ⟨w.heap.size + 1, 1, none⟩ = some (.slice B1 n' d1))
    (first | (go_keep; done) | exact T10.out.kept (.int .i64 ((z : Int) + (y : Int))) (.slice D1 M e1) (.slice D2 S e2) (.slice D3 M e3) | with_reducible exact T10.out.four | with_reducible exact T9.out.four | with_reducible exact T8.out.four | with_reducible exact T7.out.four | with_reducible exact T6.out.four)
    (first
      | (have hz := HO9; clear hz; go_at_call 55; refine (spec_raOf (z + y) S (some ⟨g9, 0, none⟩) M M (joinX X X' z y) _ hM2 HO9.out.row JG.out HS.out.symm).mono ?_; rintro e w10 ⟨D1, e1, D2, e2, D3, e3, rfl, o1, o2, o3, hb10⟩; have T10 := Lib.hid (T9.out.step hb10); have O1 := Lib.hid (gvec_low o1 hs9); have O2 := Lib.hid (gvec_low o2 hs9); have O3 := Lib.hid (gvec_low o3 hs9); have r0 := T10.out.res.cell 0 _ rfl; have g0 := T10.out.res.free 0; have r1 := T10.out.res.cell 1 _ rfl; have g1 := T10.out.res.free 1; have r2 := T10.out.res.cell 2 _ rfl; have g2 := T10.out.res.free 2; have r3 := T10.out.res.cell 3 _ rfl; have g3 := T10.out.res.free 3; clear hb10 o1 o2 o3)
      | (have hz := HO8; clear hz; go_at_call 70; refine (spec_biSome _ (z + y) _ M _ _ hzy HM.out.symm (brow_cat HO8.out)).mono ?_; rintro e w9 ⟨g9, rfl, hg9, ho9, hb9⟩; have T9 := Lib.hid (T8.out.step hb9); have HO9 := Lib.hid (show ORow w9 g9 M (joinX X X' z y) from ho9.congr (fun i _ => rfl)); have hs9 := Nat.le_trans hs8 hb9.size; clear hb9 ho9)
      | (have hz := HO7; clear hz; refine step_append_vals rfl (.tmp 27) (.tmp 30) 80 rfl w2.heap.size 4 (.bool false) 1 Try.underlying80 infoB rfl rfl rfl HO6.out (GVec.row (owned_vec HO7.out)) (fun _ _ => rfl) ?_ ?_ ?_ ?_; omega; omega; exact hs7; intro A8 c8 w8 ho8 hb8; have HO8 := Lib.hid ho8; have T8 := Lib.hid (T7.out.low H1.out H2.out hlow hb8); have hs8 := Nat.le_trans hs7 hb8.size; clear ho8 hb8)
      | (have hz := HO6; clear hz; go_at_call 71; refine (spec_biList y n' d1 B1 (fun i => (X' i).toNat) _ hn2 ?_ hyn ?_).mono ?_; omega; exact good_row K2.out.1 T6.out.snd.r1; rintro e w7 ⟨A7, c7, rfl, ho7, hb7⟩; have HO7 := Lib.hid ho7; have T7 := Lib.hid (T6.out.step hb7); replace HO6 := Lib.hid (owned_b HO6.out hb7); have hs7 := Nat.le_trans hs6 hb7.size; clear ho7 hb7)
      | (go_at_call 71; refine (spec_biList z n c1 A1 (fun i => (X i).toNat) _ hn1 ?_ hzn ?_).mono ?_; omega; exact good_row K1.out.1 T2.out.fst.r1; rintro e w6 ⟨A6, c6, rfl, ho6, hb6'⟩; have hb6 := of_drew hb6'; have HO6 := Lib.hid (show w6.ownsRow w2.heap.size 4 1 (.slice A6 z c6) z (vals (fun i => .bool (bitN (fun i => (X i).toNat) i)) z) from ho6); have T6 := Lib.hid (T2.out.step hb6); have hs6 := hb6.size; clear hb6' hb6 ho6))
  go_wp2_with fail
  have N4 := Lib.hid ((((T10.out.res.set 0 (.int .i64 ((z : Int) + (y : Int)))).set 1 (.slice D1 M e1)).set 2 (.slice D2 S e2)).set 3 (.slice D3 M e3))
  clear r0 r1 r2 r3
  have r0 := N4.out.cell 0 (.int .i64 ((z : Int) + (y : Int))) (by simp)
  have r1 := N4.out.cell 1 (.slice D1 M e1) (by simp)
  have r2 := N4.out.cell 2 (.slice D2 S e2) (by simp)
  have r3 := N4.out.cell 3 (.slice D3 M e3) (by simp)
  refine bodyPost_ret (v := .tuple #[.agg #[.int .i64 ((z : Int) + (y : Int)), .slice D1 M e1, .slice D2 S e2, .slice D3 M e3], .bool true]) (by simp [results, Try.results26, go_sem, r0, r1, r2, r3]) rfl ?_
  have hbf := below_setAt (below_setAt (below_setAt (below_setAt T10.out.below (b := w.heap.size + 2) (o := 0) (by omega) (.int .i64 ((z : Int) + (y : Int)))) (b := w.heap.size + 2) (o := 1) (by omega) (.slice D1 M e1)) (b := w.heap.size + 2) (o := 2) (by omega) (.slice D2 S e2)) (b := w.heap.size + 2) (o := 3) (by omega) (.slice D3 M e3)
  have q1 := gvec_set (gvec_set (gvec_set (gvec_set O1.out (b := w.heap.size + 2) (o := 0) (by omega) (.int .i64 ((z : Int) + (y : Int)))) (b := w.heap.size + 2) (o := 1) (by omega) (.slice D1 M e1)) (b := w.heap.size + 2) (o := 2) (by omega) (.slice D2 S e2)) (b := w.heap.size + 2) (o := 3) (by omega) (.slice D3 M e3)
  have q2 := gvec_set (gvec_set (gvec_set (gvec_set O2.out (b := w.heap.size + 2) (o := 0) (by omega) (.int .i64 ((z : Int) + (y : Int)))) (b := w.heap.size + 2) (o := 1) (by omega) (.slice D1 M e1)) (b := w.heap.size + 2) (o := 2) (by omega) (.slice D2 S e2)) (b := w.heap.size + 2) (o := 3) (by omega) (.slice D3 M e3)
  have q3 := gvec_set (gvec_set (gvec_set (gvec_set O3.out (b := w.heap.size + 2) (o := 0) (by omega) (.int .i64 ((z : Int) + (y : Int)))) (b := w.heap.size + 2) (o := 1) (by omega) (.slice D1 M e1)) (b := w.heap.size + 2) (o := 2) (by omega) (.slice D2 S e2)) (b := w.heap.size + 2) (o := 3) (by omega) (.slice D3 M e3)
  exact ⟨D1, e1, D2, e2, D3, e3, rfl, ow_of_gvec (gvec_low q1 (by omega)), ow_of_gvec (gvec_low q2 (by omega)), ow_of_gvec (gvec_low q3 (by omega)), hbf⟩
end Go.Proofs.Ytbflgbmobbbebaa
