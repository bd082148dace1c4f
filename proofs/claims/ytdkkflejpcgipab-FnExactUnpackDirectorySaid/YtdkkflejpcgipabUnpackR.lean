/- UnpackDirectory: both sides. -/
import Derived.Test.YtdkkflejpcgipabEqB
import Derived.Test.YtdkkflejpcgipabPackC
import Derived.Test.YtdkkflejpcgipabBuildR
namespace Go.Proofs.Ytdkkflejpcgipab
open Go.RowKit

/-- Two boxed vectors and the box of the answer, a Ranked. -/
structure TU (w : World) (z : Int) (A : Option Addr) (n c : Nat) (X : Nat → Int) (y : Int) (B : Option Addr) (m d : Nat) (Y : Nat → Int) (wi : World) : Prop where
  below : Below w.heap.size w wi
  row0 : IRow wi A n X
  row1 : IRow wi B m Y
  box1 : NBX w.heap.size w.heap.size #[.int .i64 z, .slice A n c] 27 wi
  box2 : NBX (w.heap.size + 1) (w.heap.size + 1) #[.int .i64 y, .slice B m d] 27 wi
  res : NBX (w.heap.size + 2) (w.heap.size + 2) (rkC 0 none 0 0 none 0 0 none 0 0) 44 wi
section
variable {w wi wj : World} {z y : Int} {A B : Option Addr} {n c m d : Nat} {X Y : Nat → Int}
theorem TU.step (h : TU w z A n c X y B m d Y wi) (hb : Below wi.heap.size wi wj) : TU w z A n c X y B m d Y wj :=
  ⟨h.below.trans (hb.mono h.below.size), h.row0.b hb, h.row1.b hb, h.box1.b hb, h.box2.b hb, h.res.b hb⟩
theorem TU.al (h : TU w z A n c X y B m d Y wi) (o : Obj) : TU w z A n c X y B m d Y (wi.alloc o) := h.step ((Below.refl _ _).alloc (Nat.le_refl _) o)
theorem TU.start (h1 : IRow w A n X) (h2 : IRow w B m Y) : TU w z A n c X y B m d Y (((w.alloc (.cells #[.int .i64 z, .slice A n c] 27)).alloc (.cells #[.int .i64 y, .slice B m d] 27)).alloc (.cells (rkC 0 none 0 0 none 0 0 none 0 0) 44)) := by
  have e1 : (w.alloc (.cells #[.int .i64 z, .slice A n c] 27)).heap.size = w.heap.size + 1 := by simp
  have e2 : ((w.alloc (.cells #[.int .i64 z, .slice A n c] 27)).alloc (.cells #[.int .i64 y, .slice B m d] 27)).heap.size = w.heap.size + 2 := by simp
  have k1 := nbx0 (w.alloc (.cells #[.int .i64 z, .slice A n c] 27)) #[.int .i64 y, .slice B m d] 27
  have k2 := nbx0 ((w.alloc (.cells #[.int .i64 z, .slice A n c] 27)).alloc (.cells #[.int .i64 y, .slice B m d] 27)) (rkC 0 none 0 0 none 0 0 none 0 0) 44
  rw [e1] at k1
  rw [e2] at k2
  have b1 : ∀ (u : World) (o : Obj), Below u.heap.size u (u.alloc o) := fun u o => (Below.refl _ _).alloc (Nat.le_refl _) o
  exact ⟨((b1 _ _).trans ((b1 _ _).mono (by simp))).trans ((b1 _ _).mono (by simp; omega)), ((h1.b (b1 _ _)).b (b1 _ _)).b (b1 _ _), ((h2.b (b1 _ _)).b (b1 _ _)).b (b1 _ _), ((nbx0 _ _ _).b (b1 _ _)).b (b1 _ _), k1.b (b1 _ _), k2⟩
theorem TU.four (h : TU w z A n c X y B m d Y wi) : wi.cell? ⟨w.heap.size, 0, none⟩ = some (.int .i64 z) ∧ wi.cell? ⟨w.heap.size, 1, none⟩ = some (.slice A n c) ∧ wi.cell? ⟨w.heap.size + 1, 0, none⟩ = some (.int .i64 y) ∧ wi.cell? ⟨w.heap.size + 1, 1, none⟩ = some (.slice B m d) :=
  ⟨h.box1.cell 0 _ rfl, h.box1.cell 1 _ rfl, h.box2.cell 0 _ rfl, h.box2.cell 1 _ rfl⟩
end
/-- A fresh directory is valid. -/
theorem rankOk_new {z n s : Nat} {X : Nat → Int} (hg : Good z n X) (hs : s = (z + 63) / 64) : RankOk z n X s (supI (wdR X)) n (blkI (wdR X)) :=
  ⟨hg, ⟨by omega, fun _ _ => rfl⟩, by have := hg.2.2.1; omega, fun _ _ => rfl⟩
theorem pack_good {W : Nat → Nat} {s n : Nat} (h : 13 * s + 6 * n ≤ 4096) : Good ((13 * s + 6 * n : Nat) : Int) ((13 * s + 6 * n + 15) / 16) (packX W s n) := good_of_words h rfl (fun _ hi => pack_high hi)
theorem good_same {z : Int} {n m : Nat} {X Y : Nat → Int} (h : Good z n X) (e : SameI m Y n X) : Good z m Y := by
  obtain ⟨e1, e2⟩ := e
  subst e1
  exact ⟨h.1, h.2.1, h.2.2.1, fun i hi => by rw [e2 i hi]; exact h.2.2.2 i hi⟩

set_option maxHeartbeats 400000 in
theorem spec_biSame (z y : Int) (A B : Option Addr) (n c m d : Nat) (X Y : Nat → Int) (w : World) (hn : n ≤ 1048576) (hm : m ≤ 1048576) (h1 : IRow w A n X) (h2 : IRow w B m Y) :
    Calls Try.prog 58 #[.agg #[.int .i64 z, .slice A n c], .agg #[.int .i64 y, .slice B m d]] w (BoolIs (z = y ∧ SameI n X m Y) w) := by
  have hB := (((Below.refl w.heap.size w).alloc (Nat.le_refl _) (.cells #[.int .i64 z, .slice A n c] 27)).alloc (by simp) (.cells #[.int .i64 y, .slice B m d] 27))
  have HB := Lib.hid hB
  have R1 := Lib.hid (h1.b hB)
  have R2 := Lib.hid (h2.b hB)
  clear h1 h2 hB
  by_cases e : z = y
  · subst e
    go_enter Try.func58, Try.ntmps58
    go_wp2_with fail
    refine (spec_l1Same A B n c m d X Y _ hn hm R1.out R2.out).mono ?_; rintro e w1 ⟨b, rfl, hbi, hb⟩
    have BI := Lib.hid hbi
    have HB2 := Lib.hid (HB.out.trans (hb.mono HB.out.size))
    clear hb hbi
    go_wp2_with fail
    go_ret
    exact ⟨b, rfl, BI.out.trans (by simp), HB2.out⟩
  · have e2 : (z == y) = false := by simpa using e
    have HE := Lib.hid e
    clear e
    go_enter Try.func58, Try.ntmps58
    go_wp2_with fail
    go_ret
    exact ⟨false, rfl, by simp only [Bool.false_eq_true, false_iff]; exact fun h => HE.out h.1, HB.out⟩

section
variable (z y : Int) (A : Option Addr) (n c : Nat) (X : Nat → Int) (B : Option Addr) (m d : Nat) (Y : Nat → Int) (w : World)
set_option maxRecDepth 100000 in
set_option maxHeartbeats 1000000 in
theorem impl_unpack_bad (hn : n ≤ 1048576) (_hm : m ≤ 1048576) (h1 : IRow w A n X) (h2 : IRow w B m Y) (hg : ¬ Good z n X) :
    Calls Try.prog 38 #[.agg #[.int .i64 z, .slice A n c], .agg #[.int .i64 y, .slice B m d]] w (RkOwn 0 0 (fun _ => 0) 0 (fun _ => 0) 0 (fun _ => 0) false w) := by
  have T0 := Lib.hid (TU.start (z := z) (y := y) (c := c) (d := d) h1 h2)
  have HG := Lib.hid hg
  clear h1 h2 hg
  obtain ⟨b0, b1, b2, b3⟩ := T0.out.four
  go_enter Try.func38, Try.ntmps38
  go_wp2_with fail
  refine (impl_build_no z A n c X _ hn T0.out.row0 HG.out).mono ?_; rintro e w1 ⟨D1, e1, D2, e2, D3, e3, rfl, o1, o2, o3, p1, p2, p3, hb⟩
  have T1 := Lib.hid ((T0.out.step hb).al (.cells (rkC 0 D1 0 e1 D2 0 e2 D3 0 e3) 44))
  clear hb b0 b1 b2 b3 o1 o2 o3 p1 p2 p3
  have r0 := T1.out.res.cell 0 _ rfl
  have g0 := T1.out.res.free 0
  have r1 := T1.out.res.cell 1 _ rfl
  have g1 := T1.out.res.free 1
  have r2 := T1.out.res.cell 2 _ rfl
  have g2 := T1.out.res.free 2
  have r3 := T1.out.res.cell 3 _ rfl
  have g3 := T1.out.res.free 3
  go_wp2_with fail
  refine bodyPost_ret (v := .tuple #[.agg #[.int .i64 0, .slice none 0 0, .slice none 0 0, .slice none 0 0], .bool false]) (by simp [results, Try.results38, go_sem, r0, r1, r2, r3]) rfl ?_
  refine ⟨none, 0, none, 0, none, 0, rfl, ow_zero _ _ _ _ _ _, ow_zero _ _ _ _ _ _, ow_zero _ _ _ _ _ _, fun h => absurd h (by omega), fun h => absurd h (by omega), fun h => absurd h (by omega), ?_⟩
  first | exact T1.out.below | exact below_setAt (below_setAt (below_setAt (below_setAt T1.out.below (by omega) _) (by omega) _) (by omega) _) (by omega) _

end
section
variable (z : Nat) (y : Int) (A : Option Addr) (n c : Nat) (X : Nat → Int) (B : Option Addr) (m d : Nat) (Y : Nat → Int) (w : World)
set_option maxRecDepth 100000 in
set_option maxHeartbeats 2000000 in
theorem impl_unpack_size (hn : n ≤ 1048576) (hm : m ≤ 1048576) (h1 : IRow w A n X) (h2 : IRow w B m Y) (hg : Good z n X) (hyes : y ≠ ((13 * ((z + 63) / 64) + 6 * n : Nat) : Int)) :
    Calls Try.prog 38 #[.agg #[.int .i64 z, .slice A n c], .agg #[.int .i64 y, .slice B m d]] w (RkOwn 0 0 (fun _ => 0) 0 (fun _ => 0) 0 (fun _ => 0) false w) := by
  have T0 := Lib.hid (TU.start (z := (z : Int)) (y := y) (c := c) (d := d) h1 h2)
  have HG := Lib.hid hg
  obtain ⟨s, hs⟩ : ∃ s : Nat, s = (z + 63) / 64 := ⟨_, rfl⟩
  have hz1 : z ≤ 4096 := by have := hg.2.1; omega
  have hnz : n = (z + 15) / 16 := by have := hg.2.2.1; omega
  have hs2 : s ≤ 1048576 := by omega
  obtain ⟨D, hD⟩ : ∃ D : Nat, D = 13 * s + 6 * n := ⟨_, rfl⟩
  obtain ⟨M, hM⟩ : ∃ M : Nat, M = (D + 15) / 16 := ⟨_, rfl⟩
  have hM2 : M ≤ 1048576 := by omega
  rw [← hs, ← hD] at hyes
  have HY := Lib.hid hyes
  have HS := Lib.hid hs
  have HD := Lib.hid hD
  have HM := Lib.hid hM
  have RK := Lib.hid (rankOk_new hg hs)
  clear h1 h2 hg hs hD hM hnz hyes
  obtain ⟨b0, b1, b2, b3⟩ := T0.out.four
  go_enter Try.func38, Try.ntmps38
  go_wp2_with fail
  refine (impl_build_yes z s A n c X _ hn T0.out.row0 HG.out HS.out).mono ?_; rintro e w1 ⟨D1, e1, D2, e2, D3, e3, rfl, o1, o2, o3, p1, p2, p3, hb⟩
  have HB1 := Lib.hid ((Below.refl w1.heap.size w1).alloc (Nat.le_refl _) (.cells (rkC z D1 n e1 D2 s e2 D3 n e3) 44))
  have T1 := Lib.hid ((T0.out.step hb).step HB1.out)
  have hs01 := hb.size
  simp only [World.size_alloc] at hs01
  have O1 := Lib.hid ((owned (o1.mono (lo' := w.heap.size + 3) (by simp) (Nat.le_refl _))).b HB1.out)
  have O2 := Lib.hid ((owned (o2.mono (lo' := w.heap.size + 3) (by simp) (Nat.le_refl _))).b HB1.out)
  have O3 := Lib.hid ((owned (o3.mono (lo' := w.heap.size + 3) (by simp) (Nat.le_refl _))).b HB1.out)
  have N1 := Lib.hid (nbx0 w1 (rkC z D1 n e1 D2 s e2 D3 n e3) 44)
  have AP := Lib.hid (And.intro p1 (And.intro p2 p3))
  have RR := Lib.hid (show RkR D1 n X D2 s (supI (wdR X)) D3 n (blkI (wdR X)) (w1.alloc (.cells (rkC z D1 n e1 D2 s e2 D3 n e3) 44)) from ⟨hn, hs2, hn, irow O1.out.orow, irow O2.out.orow, irow O3.out.orow⟩)
  clear hb b0 b1 b2 b3 o1 o2 o3 p1 p2 p3 T0
  obtain ⟨b0, b1, b2, b3⟩ := T1.out.four
  have q0 := N1.out.cell 0 _ rfl
  have q1 := N1.out.cell 1 _ rfl
  have q2 := N1.out.cell 2 _ rfl
  have q3 := N1.out.cell 3 _ rfl
  go_wp2_with fail
  refine (impl_pack_yes z D M D1 n e1 X D2 s e2 (supI (wdR X)) D3 n e3 (blkI (wdR X)) _ RR.out RK.out HD.out HM.out).mono ?_; rintro e w2 ⟨K, kc, rfl, hk, hb⟩
  have HB2 := Lib.hid ((Below.refl w2.heap.size w2).alloc (Nat.le_refl _) (.cells #[.int .i64 D, .slice K M kc] 27))
  have T2 := Lib.hid ((T1.out.step hb).step HB2.out)
  have N2 := Lib.hid ((N1.out.b hb).b HB2.out)
  have P2 := Lib.hid (nbx0 w2 #[.int .i64 D, .slice K M kc] 27)
  have K2 := Lib.hid (IRow.b hk.row HB2.out)
  have OO1 := Lib.hid ((O1.out.b hb).b HB2.out)
  have OO2 := Lib.hid ((O2.out.b hb).b HB2.out)
  have OO3 := Lib.hid ((O3.out.b hb).b HB2.out)
  clear hb b0 b1 b2 b3 q0 q1 q2 q3 hk T1 N1 RR O1 O2 O3
  obtain ⟨b0, b1, b2, b3⟩ := T2.out.four
  have q0 := N2.out.cell 0 _ rfl
  have q1 := N2.out.cell 1 _ rfl
  have q2 := N2.out.cell 2 _ rfl
  have q3 := N2.out.cell 3 _ rfl
  have u0 := P2.out.cell 0 _ rfl
  have u1 := P2.out.cell 1 _ rfl
  go_wp2_with fail
  refine ((BoolIs.two (eqBits_impl y D B K m d M kc Y _ _ hm hM2 T2.out.row1 K2.out)).2 (fun h => HY.out h.1)).mono ?_; rintro e w3 ⟨rfl, hb⟩
  have T3 := Lib.hid (T2.out.step hb)
  clear hb b0 b1 b2 b3 q0 q1 q2 q3 u0 u1
  have r0 := T3.out.res.cell 0 _ rfl
  have g0 := T3.out.res.free 0
  have r1 := T3.out.res.cell 1 _ rfl
  have g1 := T3.out.res.free 1
  have r2 := T3.out.res.cell 2 _ rfl
  have g2 := T3.out.res.free 2
  have r3 := T3.out.res.cell 3 _ rfl
  have g3 := T3.out.res.free 3
  go_wp2_with fail
  refine bodyPost_ret (v := .tuple #[.agg #[.int .i64 0, .slice none 0 0, .slice none 0 0, .slice none 0 0], .bool false]) (by simp [results, Try.results38, go_sem, r0, r1, r2, r3]) rfl ?_
  refine ⟨none, 0, none, 0, none, 0, rfl, ow_zero _ _ _ _ _ _, ow_zero _ _ _ _ _ _, ow_zero _ _ _ _ _ _, fun h => absurd h (by omega), fun h => absurd h (by omega), fun h => absurd h (by omega), ?_⟩
  first | exact T3.out.below | exact below_setAt (below_setAt (below_setAt (below_setAt T3.out.below (by omega) _) (by omega) _) (by omega) _) (by omega) _

set_option maxRecDepth 100000 in
set_option maxHeartbeats 2000000 in
theorem impl_unpack_words (hn : n ≤ 1048576) (hm : m ≤ 1048576) (h1 : IRow w A n X) (h2 : IRow w B m Y) (hg : Good z n X) (hyd : y = ((13 * ((z + 63) / 64) + 6 * n : Nat) : Int)) (hyes : ¬ SameI m Y ((13 * ((z + 63) / 64) + 6 * n + 15) / 16) (packX (wdR X) ((z + 63) / 64) n)) :
    Calls Try.prog 38 #[.agg #[.int .i64 z, .slice A n c], .agg #[.int .i64 y, .slice B m d]] w (RkOwn 0 0 (fun _ => 0) 0 (fun _ => 0) 0 (fun _ => 0) false w) := by
  have T0 := Lib.hid (TU.start (z := (z : Int)) (y := y) (c := c) (d := d) h1 h2)
  have HG := Lib.hid hg
  obtain ⟨s, hs⟩ : ∃ s : Nat, s = (z + 63) / 64 := ⟨_, rfl⟩
  have hz1 : z ≤ 4096 := by have := hg.2.1; omega
  have hnz : n = (z + 15) / 16 := by have := hg.2.2.1; omega
  have hs2 : s ≤ 1048576 := by omega
  obtain ⟨D, hD⟩ : ∃ D : Nat, D = 13 * s + 6 * n := ⟨_, rfl⟩
  obtain ⟨M, hM⟩ : ∃ M : Nat, M = (D + 15) / 16 := ⟨_, rfl⟩
  have hM2 : M ≤ 1048576 := by omega
  rw [← hs, ← hD, ← hM] at hyes
  rw [← hs, ← hD] at hyd
  subst hyd
  have HY := Lib.hid hyes
  have HS := Lib.hid hs
  have HD := Lib.hid hD
  have HM := Lib.hid hM
  have RK := Lib.hid (rankOk_new hg hs)
  clear h1 h2 hg hs hD hM hnz hyes
  obtain ⟨b0, b1, b2, b3⟩ := T0.out.four
  go_enter Try.func38, Try.ntmps38
  go_wp2_with fail
  refine (impl_build_yes z s A n c X _ hn T0.out.row0 HG.out HS.out).mono ?_; rintro e w1 ⟨D1, e1, D2, e2, D3, e3, rfl, o1, o2, o3, p1, p2, p3, hb⟩
  have HB1 := Lib.hid ((Below.refl w1.heap.size w1).alloc (Nat.le_refl _) (.cells (rkC z D1 n e1 D2 s e2 D3 n e3) 44))
  have T1 := Lib.hid ((T0.out.step hb).step HB1.out)
  have hs01 := hb.size
  simp only [World.size_alloc] at hs01
  have O1 := Lib.hid ((owned (o1.mono (lo' := w.heap.size + 3) (by simp) (Nat.le_refl _))).b HB1.out)
  have O2 := Lib.hid ((owned (o2.mono (lo' := w.heap.size + 3) (by simp) (Nat.le_refl _))).b HB1.out)
  have O3 := Lib.hid ((owned (o3.mono (lo' := w.heap.size + 3) (by simp) (Nat.le_refl _))).b HB1.out)
  have N1 := Lib.hid (nbx0 w1 (rkC z D1 n e1 D2 s e2 D3 n e3) 44)
  have AP := Lib.hid (And.intro p1 (And.intro p2 p3))
  have RR := Lib.hid (show RkR D1 n X D2 s (supI (wdR X)) D3 n (blkI (wdR X)) (w1.alloc (.cells (rkC z D1 n e1 D2 s e2 D3 n e3) 44)) from ⟨hn, hs2, hn, irow O1.out.orow, irow O2.out.orow, irow O3.out.orow⟩)
  clear hb b0 b1 b2 b3 o1 o2 o3 p1 p2 p3 T0
  obtain ⟨b0, b1, b2, b3⟩ := T1.out.four
  have q0 := N1.out.cell 0 _ rfl
  have q1 := N1.out.cell 1 _ rfl
  have q2 := N1.out.cell 2 _ rfl
  have q3 := N1.out.cell 3 _ rfl
  go_wp2_with fail
  refine (impl_pack_yes z D M D1 n e1 X D2 s e2 (supI (wdR X)) D3 n e3 (blkI (wdR X)) _ RR.out RK.out HD.out HM.out).mono ?_; rintro e w2 ⟨K, kc, rfl, hk, hb⟩
  have HB2 := Lib.hid ((Below.refl w2.heap.size w2).alloc (Nat.le_refl _) (.cells #[.int .i64 D, .slice K M kc] 27))
  have T2 := Lib.hid ((T1.out.step hb).step HB2.out)
  have N2 := Lib.hid ((N1.out.b hb).b HB2.out)
  have P2 := Lib.hid (nbx0 w2 #[.int .i64 D, .slice K M kc] 27)
  have K2 := Lib.hid (IRow.b hk.row HB2.out)
  have OO1 := Lib.hid ((O1.out.b hb).b HB2.out)
  have OO2 := Lib.hid ((O2.out.b hb).b HB2.out)
  have OO3 := Lib.hid ((O3.out.b hb).b HB2.out)
  clear hb b0 b1 b2 b3 q0 q1 q2 q3 hk T1 N1 RR O1 O2 O3
  obtain ⟨b0, b1, b2, b3⟩ := T2.out.four
  have q0 := N2.out.cell 0 _ rfl
  have q1 := N2.out.cell 1 _ rfl
  have q2 := N2.out.cell 2 _ rfl
  have q3 := N2.out.cell 3 _ rfl
  have u0 := P2.out.cell 0 _ rfl
  have u1 := P2.out.cell 1 _ rfl
  go_wp2_with fail
  refine ((BoolIs.two (eqBits_impl D D B K m d M kc Y (packX (wdR X) s n) _ hm hM2 T2.out.row1 K2.out)).2 (fun h => HY.out h.2)).mono ?_; rintro e w3 ⟨rfl, hb⟩
  have T3 := Lib.hid (T2.out.step hb)
  clear hb b0 b1 b2 b3 q0 q1 q2 q3 u0 u1
  have r0 := T3.out.res.cell 0 _ rfl
  have g0 := T3.out.res.free 0
  have r1 := T3.out.res.cell 1 _ rfl
  have g1 := T3.out.res.free 1
  have r2 := T3.out.res.cell 2 _ rfl
  have g2 := T3.out.res.free 2
  have r3 := T3.out.res.cell 3 _ rfl
  have g3 := T3.out.res.free 3
  go_wp2_with fail
  refine bodyPost_ret (v := .tuple #[.agg #[.int .i64 0, .slice none 0 0, .slice none 0 0, .slice none 0 0], .bool false]) (by simp [results, Try.results38, go_sem, r0, r1, r2, r3]) rfl ?_
  refine ⟨none, 0, none, 0, none, 0, rfl, ow_zero _ _ _ _ _ _, ow_zero _ _ _ _ _ _, ow_zero _ _ _ _ _ _, fun h => absurd h (by omega), fun h => absurd h (by omega), fun h => absurd h (by omega), ?_⟩
  first | exact T3.out.below | exact below_setAt (below_setAt (below_setAt (below_setAt T3.out.below (by omega) _) (by omega) _) (by omega) _) (by omega) _

set_option maxRecDepth 100000 in
set_option maxHeartbeats 2000000 in
theorem impl_unpack_yes (hn : n ≤ 1048576) (hm : m ≤ 1048576) (h1 : IRow w A n X) (h2 : IRow w B m Y) (hg : Good z n X) (hyd : y = ((13 * ((z + 63) / 64) + 6 * n : Nat) : Int)) (hyes : SameI m Y ((13 * ((z + 63) / 64) + 6 * n + 15) / 16) (packX (wdR X) ((z + 63) / 64) n)) :
    Calls Try.prog 38 #[.agg #[.int .i64 z, .slice A n c], .agg #[.int .i64 y, .slice B m d]] w (RkOwn z n X ((z + 63) / 64) (supI (wdR X)) n (blkI (wdR X)) true w) := by
  have T0 := Lib.hid (TU.start (z := (z : Int)) (y := y) (c := c) (d := d) h1 h2)
  have HG := Lib.hid hg
  obtain ⟨s, hs⟩ : ∃ s : Nat, s = (z + 63) / 64 := ⟨_, rfl⟩
  have hz1 : z ≤ 4096 := by have := hg.2.1; omega
  have hnz : n = (z + 15) / 16 := by have := hg.2.2.1; omega
  have hs2 : s ≤ 1048576 := by omega
  obtain ⟨D, hD⟩ : ∃ D : Nat, D = 13 * s + 6 * n := ⟨_, rfl⟩
  obtain ⟨M, hM⟩ : ∃ M : Nat, M = (D + 15) / 16 := ⟨_, rfl⟩
  have hM2 : M ≤ 1048576 := by omega
  rw [← hs, ← hD, ← hM] at hyes
  rw [← hs, ← hD] at hyd
  rw [← hs]
  subst hyd
  have HY := Lib.hid hyes
  have HS := Lib.hid hs
  have HD := Lib.hid hD
  have HM := Lib.hid hM
  have RK := Lib.hid (rankOk_new hg hs)
  clear h1 h2 hg hs hD hM hnz hyes
  obtain ⟨b0, b1, b2, b3⟩ := T0.out.four
  go_enter Try.func38, Try.ntmps38
  go_wp2_with fail
  refine (impl_build_yes z s A n c X _ hn T0.out.row0 HG.out HS.out).mono ?_; rintro e w1 ⟨D1, e1, D2, e2, D3, e3, rfl, o1, o2, o3, p1, p2, p3, hb⟩
  have HB1 := Lib.hid ((Below.refl w1.heap.size w1).alloc (Nat.le_refl _) (.cells (rkC z D1 n e1 D2 s e2 D3 n e3) 44))
  have T1 := Lib.hid ((T0.out.step hb).step HB1.out)
  have hs01 := hb.size
  simp only [World.size_alloc] at hs01
  have O1 := Lib.hid ((owned (o1.mono (lo' := w.heap.size + 3) (by simp) (Nat.le_refl _))).b HB1.out)
  have O2 := Lib.hid ((owned (o2.mono (lo' := w.heap.size + 3) (by simp) (Nat.le_refl _))).b HB1.out)
  have O3 := Lib.hid ((owned (o3.mono (lo' := w.heap.size + 3) (by simp) (Nat.le_refl _))).b HB1.out)
  have N1 := Lib.hid (nbx0 w1 (rkC z D1 n e1 D2 s e2 D3 n e3) 44)
  have AP := Lib.hid (And.intro p1 (And.intro p2 p3))
  have RR := Lib.hid (show RkR D1 n X D2 s (supI (wdR X)) D3 n (blkI (wdR X)) (w1.alloc (.cells (rkC z D1 n e1 D2 s e2 D3 n e3) 44)) from ⟨hn, hs2, hn, irow O1.out.orow, irow O2.out.orow, irow O3.out.orow⟩)
  clear hb b0 b1 b2 b3 o1 o2 o3 p1 p2 p3 T0
  obtain ⟨b0, b1, b2, b3⟩ := T1.out.four
  have q0 := N1.out.cell 0 _ rfl
  have q1 := N1.out.cell 1 _ rfl
  have q2 := N1.out.cell 2 _ rfl
  have q3 := N1.out.cell 3 _ rfl
  go_wp2_with fail
  refine (impl_pack_yes z D M D1 n e1 X D2 s e2 (supI (wdR X)) D3 n e3 (blkI (wdR X)) _ RR.out RK.out HD.out HM.out).mono ?_; rintro e w2 ⟨K, kc, rfl, hk, hb⟩
  have HB2 := Lib.hid ((Below.refl w2.heap.size w2).alloc (Nat.le_refl _) (.cells #[.int .i64 D, .slice K M kc] 27))
  have T2 := Lib.hid ((T1.out.step hb).step HB2.out)
  have N2 := Lib.hid ((N1.out.b hb).b HB2.out)
  have P2 := Lib.hid (nbx0 w2 #[.int .i64 D, .slice K M kc] 27)
  have K2 := Lib.hid (IRow.b hk.row HB2.out)
  have OO1 := Lib.hid ((O1.out.b hb).b HB2.out)
  have OO2 := Lib.hid ((O2.out.b hb).b HB2.out)
  have OO3 := Lib.hid ((O3.out.b hb).b HB2.out)
  clear hb b0 b1 b2 b3 q0 q1 q2 q3 hk T1 N1 RR O1 O2 O3
  obtain ⟨b0, b1, b2, b3⟩ := T2.out.four
  have q0 := N2.out.cell 0 _ rfl
  have q1 := N2.out.cell 1 _ rfl
  have q2 := N2.out.cell 2 _ rfl
  have q3 := N2.out.cell 3 _ rfl
  have u0 := P2.out.cell 0 _ rfl
  have u1 := P2.out.cell 1 _ rfl
  go_wp2_with fail
  refine ((BoolIs.two (eqBits_impl D D B K m d M kc Y (packX (wdR X) s n) _ hm hM2 T2.out.row1 K2.out)).1 ⟨rfl, HY.out⟩).mono ?_; rintro e w3 ⟨rfl, hb⟩
  have T3 := Lib.hid (T2.out.step hb)
  have N3 := Lib.hid (N2.out.b hb)
  have O1 := Lib.hid (OO1.out.b hb)
  have O2 := Lib.hid (OO2.out.b hb)
  have O3 := Lib.hid (OO3.out.b hb)
  clear hb b0 b1 b2 b3 q0 q1 q2 q3 u0 u1
  have q0 := N3.out.cell 0 _ rfl
  have q1 := N3.out.cell 1 _ rfl
  have q2 := N3.out.cell 2 _ rfl
  have q3 := N3.out.cell 3 _ rfl
  have r0 := T3.out.res.cell 0 _ rfl
  have g0 := T3.out.res.free 0
  have r1 := T3.out.res.cell 1 _ rfl
  have g1 := T3.out.res.free 1
  have r2 := T3.out.res.cell 2 _ rfl
  have g2 := T3.out.res.free 2
  have r3 := T3.out.res.cell 3 _ rfl
  have g3 := T3.out.res.free 3
  go_wp2_with fail
  have N4 := Lib.hid ((((T3.out.res.set 0 (.int .i64 z)).set 1 (.slice D1 n e1)).set 2 (.slice D2 s e2)).set 3 (.slice D3 n e3))
  clear r0 r1 r2 r3
  have r0 := N4.out.cell 0 (.int .i64 z) (by simp)
  have r1 := N4.out.cell 1 (.slice D1 n e1) (by simp)
  have r2 := N4.out.cell 2 (.slice D2 s e2) (by simp)
  have r3 := N4.out.cell 3 (.slice D3 n e3) (by simp)
  refine bodyPost_ret (v := .tuple #[.agg #[.int .i64 z, .slice D1 n e1, .slice D2 s e2, .slice D3 n e3], .bool true]) (by simp [results, Try.results38, go_sem, r0, r1, r2, r3]) rfl ?_
  have hbf := below_setAt (below_setAt (below_setAt (below_setAt T3.out.below (b := w.heap.size + 2) (o := 0) (by omega) (.int .i64 z)) (b := w.heap.size + 2) (o := 1) (by omega) (.slice D1 n e1)) (b := w.heap.size + 2) (o := 2) (by omega) (.slice D2 s e2)) (b := w.heap.size + 2) (o := 3) (by omega) (.slice D3 n e3)
  have f1 := (((O1.out.setD (q := w.heap.size + 2) (.inr (by omega)) 0 (.int .i64 z)).setD (q := w.heap.size + 2) (.inr (by omega)) 1 (.slice D1 n e1)).setD (q := w.heap.size + 2) (.inr (by omega)) 2 (.slice D2 s e2)).setD (q := w.heap.size + 2) (.inr (by omega)) 3 (.slice D3 n e3)
  have f2 := (((O2.out.setD (q := w.heap.size + 2) (.inr (by omega)) 0 (.int .i64 z)).setD (q := w.heap.size + 2) (.inr (by omega)) 1 (.slice D1 n e1)).setD (q := w.heap.size + 2) (.inr (by omega)) 2 (.slice D2 s e2)).setD (q := w.heap.size + 2) (.inr (by omega)) 3 (.slice D3 n e3)
  have f3 := (((O3.out.setD (q := w.heap.size + 2) (.inr (by omega)) 0 (.int .i64 z)).setD (q := w.heap.size + 2) (.inr (by omega)) 1 (.slice D1 n e1)).setD (q := w.heap.size + 2) (.inr (by omega)) 2 (.slice D2 s e2)).setD (q := w.heap.size + 2) (.inr (by omega)) 3 (.slice D3 n e3)
  exact ⟨D1, e1, D2, e2, D3, e3, rfl, f1.now.mono (by omega) f1.top, f2.now.mono (by omega) f2.top, f3.now.mono (by omega) f3.top, AP.out.1, AP.out.2.1, AP.out.2.2, hbf⟩
end
end Go.Proofs.Ytdkkflejpcgipab
