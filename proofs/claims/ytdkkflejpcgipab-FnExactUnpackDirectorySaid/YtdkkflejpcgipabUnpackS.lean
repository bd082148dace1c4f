/- UnpackDirectory: the model's way. -/
import Derived.Test.YtdkkflejpcgipabUnpackR
namespace Go.Proofs.Ytdkkflejpcgipab
open Go.RowKit

section
variable (z y : Int) (A : Option Addr) (n c : Nat) (X : Nat → Int) (B : Option Addr) (m d : Nat) (Y : Nat → Int) (w : World)
set_option maxRecDepth 100000 in
set_option maxHeartbeats 1000000 in
theorem spec_unpack_bad (hn : n ≤ 1048576) (_hm : m ≤ 1048576) (h1 : IRow w A n X) (h2 : IRow w B m Y) (hg : ¬ Good z n X) :
    Calls Try.prog 37 #[.agg #[.int .i64 z, .slice A n c], .agg #[.int .i64 y, .slice B m d]] w (RkVec 0 0 (fun _ => 0) 0 (fun _ => 0) 0 (fun _ => 0) false w) := by
  have T0 := Lib.hid (TU.start (z := z) (y := y) (c := c) (d := d) h1 h2)
  have TD := Lib.hid (T0.out.step (Below.drew (Below.refl _ _)))
  have HG := Lib.hid hg
  clear h1 h2 hg
  obtain ⟨b0, b1, b2, b3⟩ := T0.out.four
  go_enter Try.func37, Try.ntmps37
  go_upto_region 1 with fail
  go_cut [21] (fun s21 wx => s21 = .bool true ∧ Hid (TU w z A n c X y B m d Y wx))
  case first =>
    go_region_with (first
      | (go_at_call 50; (first | refine (biGood_no hn T0.out.row0 HG.out).mono ?_ | refine (biGood_no hn TD.out.row0 HG.out).mono ?_); rintro e w1 ⟨rfl, hb'⟩; have hb := of_drew hb'; have T1 := Lib.hid (T0.out.step hb); obtain ⟨a10, a11, a12, a13⟩ := T1.out.four; clear hb hb'))
    all_goals go_wp2_with fail
    all_goals go_meet
    all_goals exact ⟨rfl, T1⟩
  case rest =>
  obtain ⟨rfl, T1⟩ := hcut
  clear b0 b1 b2 b3
  have r0 := T1.out.res.cell 0 _ rfl
  have g0 := T1.out.res.free 0
  have r1 := T1.out.res.cell 1 _ rfl
  have g1 := T1.out.res.free 1
  have r2 := T1.out.res.cell 2 _ rfl
  have g2 := T1.out.res.free 2
  have r3 := T1.out.res.cell 3 _ rfl
  have g3 := T1.out.res.free 3
  go_wp2_with fail
  refine bodyPost_ret (v := .tuple #[.agg #[.int .i64 0, .slice none 0 0, .slice none 0 0, .slice none 0 0], .bool false]) (by simp [results, Try.results37, go_sem, r0, r1, r2, r3]) rfl ?_
  refine ⟨none, 0, none, 0, none, 0, rfl, ow_zero _ _ _ _ _ _, ow_zero _ _ _ _ _ _, ow_zero _ _ _ _ _ _, ?_⟩
  first | exact T1.out.below | exact below_setAt (below_setAt (below_setAt (below_setAt T1.out.below (by omega) _) (by omega) _) (by omega) _) (by omega) _

set_option maxRecDepth 100000 in
set_option maxHeartbeats 1000000 in
theorem spec_unpack_bad2 (hn : n ≤ 1048576) (hm : m ≤ 1048576) (h1 : IRow w A n X) (h2 : IRow w B m Y) (hg : Good z n X) (hh : ¬ Good y m Y) :
    Calls Try.prog 37 #[.agg #[.int .i64 z, .slice A n c], .agg #[.int .i64 y, .slice B m d]] w (RkVec 0 0 (fun _ => 0) 0 (fun _ => 0) 0 (fun _ => 0) false w) := by
  have T0 := Lib.hid (TU.start (z := z) (y := y) (c := c) (d := d) h1 h2)
  have TD := Lib.hid (T0.out.step (Below.drew (Below.refl _ _)))
  have HG := Lib.hid hg
  have HH := Lib.hid hh
  clear h1 h2 hg hh
  obtain ⟨b0, b1, b2, b3⟩ := T0.out.four
  go_enter Try.func37, Try.ntmps37
  go_upto_region 1 with fail
  go_cut [21] (fun s21 wx => s21 = .bool true ∧ Hid (TU w z A n c X y B m d Y wx))
  case first =>
    go_region_with (first
      | (have hz := T1; clear hz; go_at_call 50; refine (biGood_no hm T1.out.row1 HH.out).mono ?_; rintro e w2 ⟨rfl, hb⟩; have T2 := Lib.hid (T1.out.step hb); obtain ⟨a20, a21, a22, a23⟩ := T2.out.four; clear hb)
      | (go_at_call 50; (first | refine (biGood_yes hn T0.out.row0 HG.out).mono ?_ | refine (biGood_yes hn TD.out.row0 HG.out).mono ?_); rintro e w1 ⟨rfl, hb'⟩; have hb := of_drew hb'; have T1 := Lib.hid (T0.out.step hb); obtain ⟨a10, a11, a12, a13⟩ := T1.out.four; clear hb hb'))
    all_goals go_wp2_with fail
    all_goals go_meet
    all_goals exact ⟨rfl, T2⟩
  case rest =>
  obtain ⟨rfl, T2⟩ := hcut
  clear b0 b1 b2 b3
  have r0 := T2.out.res.cell 0 _ rfl
  have g0 := T2.out.res.free 0
  have r1 := T2.out.res.cell 1 _ rfl
  have g1 := T2.out.res.free 1
  have r2 := T2.out.res.cell 2 _ rfl
  have g2 := T2.out.res.free 2
  have r3 := T2.out.res.cell 3 _ rfl
  have g3 := T2.out.res.free 3
  go_wp2_with fail
  refine bodyPost_ret (v := .tuple #[.agg #[.int .i64 0, .slice none 0 0, .slice none 0 0, .slice none 0 0], .bool false]) (by simp [results, Try.results37, go_sem, r0, r1, r2, r3]) rfl ?_
  refine ⟨none, 0, none, 0, none, 0, rfl, ow_zero _ _ _ _ _ _, ow_zero _ _ _ _ _ _, ow_zero _ _ _ _ _ _, ?_⟩
  first | exact T2.out.below | exact below_setAt (below_setAt (below_setAt (below_setAt T2.out.below (by omega) _) (by omega) _) (by omega) _) (by omega) _

end
section
variable (z : Nat) (y : Int) (A : Option Addr) (n c : Nat) (X : Nat → Int) (B : Option Addr) (m d : Nat) (Y : Nat → Int) (w : World)
set_option maxRecDepth 100000 in
set_option maxHeartbeats 4000000 in
theorem spec_unpack_no (hn : n ≤ 1048576) (hm : m ≤ 1048576) (h1 : IRow w A n X) (h2 : IRow w B m Y) (hg : Good z n X) (hh : Good y m Y) (hyes : ¬ (y = ((13 * ((z + 63) / 64) + 6 * n : Nat) : Int) ∧ SameI m Y ((13 * ((z + 63) / 64) + 6 * n + 15) / 16) (packX (wdR X) ((z + 63) / 64) n))) :
    Calls Try.prog 37 #[.agg #[.int .i64 z, .slice A n c], .agg #[.int .i64 y, .slice B m d]] w (RkVec 0 0 (fun _ => 0) 0 (fun _ => 0) 0 (fun _ => 0) false w) := by
  have T0 := Lib.hid (TU.start (z := (z : Int)) (y := y) (c := c) (d := d) h1 h2)
  have TD := Lib.hid (T0.out.step (Below.drew (Below.refl _ _)))
  have HG := Lib.hid hg
  have HH := Lib.hid hh
  obtain ⟨s, hs⟩ : ∃ s : Nat, s = (z + 63) / 64 := ⟨_, rfl⟩
  have hz1 : z ≤ 4096 := by have := hg.2.1; omega
  have hnz : n = (z + 15) / 16 := by have := hg.2.2.1; omega
  have hs2 : s ≤ 1048576 := by omega
  have hnn : n ≤ 4096 := by omega
  obtain ⟨D, hD⟩ : ∃ D : Nat, D = 13 * s + 6 * n := ⟨_, rfl⟩
  obtain ⟨M, hM⟩ : ∃ M : Nat, M = (D + 15) / 16 := ⟨_, rfl⟩
  have hM2 : M ≤ 1048576 := by omega
  rw [← hs, ← hD, ← hM] at hyes
  have HY := Lib.hid hyes
  have HS := Lib.hid hs
  have HD := Lib.hid hD
  have HM := Lib.hid hM
  have RK := Lib.hid (rankOk_new hg hs)
  clear h1 h2 hg hh hs hD hM hnz hyes
  obtain ⟨b0, b1, b2, b3⟩ := T0.out.four
  go_enter Try.func37, Try.ntmps37
  go_upto_region 1 with fail
  go_cut [21] (fun s21 wx => s21 = .bool true ∧ Hid (TU w z A n c X y B m d Y wx))
  case first =>
    go_region_with (first
      | (have hz := K4; clear hz; go_at_call 58; refine ((BoolIs.two (spec_biSame y D B (some ⟨g4, 0, none⟩) m d M M Y (packX (wdR X) s n) _ hm hM2 T4.out.row1 K4.out.row)).2 HY.out).mono ?_; rintro e w5 ⟨rfl, hb⟩; have T5 := Lib.hid (T4.out.step hb); obtain ⟨a50, a51, a52, a53⟩ := T5.out.four; clear hb)
      | (have hz := R3; clear hz; go_at_call 59; refine (spec_raPack z D M D1 n e1 X D2 s e2 (supI (wdR X)) D3 n e3 (blkI (wdR X)) _ R3.out RK.out HD.out HM.out).mono ?_; rintro e w4 ⟨g4, rfl, hg4, ho, hb⟩; have T4 := Lib.hid (T3.out.step hb); obtain ⟨a40, a41, a42, a43⟩ := T4.out.four; have K4 := Lib.hid (show ORow w4 g4 M (packX (wdR X) s n) from ho); clear hb ho)
      | (have hz := T2; clear hz; go_at_call 60; refine (spec_raOf z s A n c X _ hnn T2.out.row0 HG.out HS.out).mono ?_; rintro e w3 ⟨D1, e1, D2, e2, D3, e3, rfl, o1, o2, o3, hb⟩; have T3 := Lib.hid (T2.out.step hb); obtain ⟨a30, a31, a32, a33⟩ := T3.out.four; have R3 := Lib.hid (show RkR D1 n X D2 s (supI (wdR X)) D3 n (blkI (wdR X)) w3 from ⟨hn, hs2, hn, irow o1.row, irow o2.row, irow o3.row⟩); clear hb o1 o2 o3)
      | (have hz := T1; clear hz; go_at_call 50; refine (biGood_yes hm T1.out.row1 HH.out).mono ?_; rintro e w2 ⟨rfl, hb⟩; have T2 := Lib.hid (T1.out.step hb); obtain ⟨a20, a21, a22, a23⟩ := T2.out.four; clear hb)
      | (go_at_call 50; (first | refine (biGood_yes hn T0.out.row0 HG.out).mono ?_ | refine (biGood_yes hn TD.out.row0 HG.out).mono ?_); rintro e w1 ⟨rfl, hb'⟩; have hb := of_drew hb'; have T1 := Lib.hid (T0.out.step hb); obtain ⟨a10, a11, a12, a13⟩ := T1.out.four; clear hb hb'))
    all_goals go_wp2_with fail
    all_goals go_meet
    all_goals exact ⟨rfl, T5⟩
  case rest =>
  obtain ⟨rfl, T5⟩ := hcut
  clear b0 b1 b2 b3
  have r0 := T5.out.res.cell 0 _ rfl
  have g0 := T5.out.res.free 0
  have r1 := T5.out.res.cell 1 _ rfl
  have g1 := T5.out.res.free 1
  have r2 := T5.out.res.cell 2 _ rfl
  have g2 := T5.out.res.free 2
  have r3 := T5.out.res.cell 3 _ rfl
  have g3 := T5.out.res.free 3
  go_wp2_with fail
  refine bodyPost_ret (v := .tuple #[.agg #[.int .i64 0, .slice none 0 0, .slice none 0 0, .slice none 0 0], .bool false]) (by simp [results, Try.results37, go_sem, r0, r1, r2, r3]) rfl ?_
  refine ⟨none, 0, none, 0, none, 0, rfl, ow_zero _ _ _ _ _ _, ow_zero _ _ _ _ _ _, ow_zero _ _ _ _ _ _, ?_⟩
  first | exact T5.out.below | exact below_setAt (below_setAt (below_setAt (below_setAt T5.out.below (by omega) _) (by omega) _) (by omega) _) (by omega) _

set_option maxRecDepth 100000 in
set_option maxHeartbeats 4000000 in
theorem spec_unpack_yes (hn : n ≤ 1048576) (hm : m ≤ 1048576) (h1 : IRow w A n X) (h2 : IRow w B m Y) (hg : Good z n X) (hh : Good y m Y) (hyes : y = ((13 * ((z + 63) / 64) + 6 * n : Nat) : Int) ∧ SameI m Y ((13 * ((z + 63) / 64) + 6 * n + 15) / 16) (packX (wdR X) ((z + 63) / 64) n)) :
    Calls Try.prog 37 #[.agg #[.int .i64 z, .slice A n c], .agg #[.int .i64 y, .slice B m d]] w (RkVec z n X ((z + 63) / 64) (supI (wdR X)) n (blkI (wdR X)) true w) := by
  have T0 := Lib.hid (TU.start (z := (z : Int)) (y := y) (c := c) (d := d) h1 h2)
  have TD := Lib.hid (T0.out.step (Below.drew (Below.refl _ _)))
  have HG := Lib.hid hg
  have HH := Lib.hid hh
  obtain ⟨s, hs⟩ : ∃ s : Nat, s = (z + 63) / 64 := ⟨_, rfl⟩
  have hz1 : z ≤ 4096 := by have := hg.2.1; omega
  have hnz : n = (z + 15) / 16 := by have := hg.2.2.1; omega
  have hs2 : s ≤ 1048576 := by omega
  have hnn : n ≤ 4096 := by omega
  obtain ⟨D, hD⟩ : ∃ D : Nat, D = 13 * s + 6 * n := ⟨_, rfl⟩
  obtain ⟨M, hM⟩ : ∃ M : Nat, M = (D + 15) / 16 := ⟨_, rfl⟩
  have hM2 : M ≤ 1048576 := by omega
  rw [← hs, ← hD, ← hM] at hyes
  rw [← hs]
  have HY := Lib.hid hyes
  have HS := Lib.hid hs
  have HD := Lib.hid hD
  have HM := Lib.hid hM
  have RK := Lib.hid (rankOk_new hg hs)
  clear h1 h2 hg hh hs hD hM hnz hyes
  obtain ⟨b0, b1, b2, b3⟩ := T0.out.four
  go_enter Try.func37, Try.ntmps37
  go_upto_region 1 with fail
  go_cut [21] (fun s21 wx => s21 = .bool false ∧ Hid (TU w z A n c X y B m d Y wx))
  case first =>
    go_region_with (first
      | (have hz := K4; clear hz; go_at_call 58; refine ((BoolIs.two (spec_biSame y D B (some ⟨g4, 0, none⟩) m d M M Y (packX (wdR X) s n) _ hm hM2 T4.out.row1 K4.out.row)).1 HY.out).mono ?_; rintro e w5 ⟨rfl, hb⟩; have T5 := Lib.hid (T4.out.step hb); obtain ⟨a50, a51, a52, a53⟩ := T5.out.four; clear hb)
      | (have hz := R3; clear hz; go_at_call 59; refine (spec_raPack z D M D1 n e1 X D2 s e2 (supI (wdR X)) D3 n e3 (blkI (wdR X)) _ R3.out RK.out HD.out HM.out).mono ?_; rintro e w4 ⟨g4, rfl, hg4, ho, hb⟩; have T4 := Lib.hid (T3.out.step hb); obtain ⟨a40, a41, a42, a43⟩ := T4.out.four; have K4 := Lib.hid (show ORow w4 g4 M (packX (wdR X) s n) from ho); clear hb ho)
      | (have hz := T2; clear hz; go_at_call 60; refine (spec_raOf z s A n c X _ hnn T2.out.row0 HG.out HS.out).mono ?_; rintro e w3 ⟨D1, e1, D2, e2, D3, e3, rfl, o1, o2, o3, hb⟩; have T3 := Lib.hid (T2.out.step hb); obtain ⟨a30, a31, a32, a33⟩ := T3.out.four; have R3 := Lib.hid (show RkR D1 n X D2 s (supI (wdR X)) D3 n (blkI (wdR X)) w3 from ⟨hn, hs2, hn, irow o1.row, irow o2.row, irow o3.row⟩); clear hb o1 o2 o3)
      | (have hz := T1; clear hz; go_at_call 50; refine (biGood_yes hm T1.out.row1 HH.out).mono ?_; rintro e w2 ⟨rfl, hb⟩; have T2 := Lib.hid (T1.out.step hb); obtain ⟨a20, a21, a22, a23⟩ := T2.out.four; clear hb)
      | (go_at_call 50; (first | refine (biGood_yes hn T0.out.row0 HG.out).mono ?_ | refine (biGood_yes hn TD.out.row0 HG.out).mono ?_); rintro e w1 ⟨rfl, hb'⟩; have hb := of_drew hb'; have T1 := Lib.hid (T0.out.step hb); obtain ⟨a10, a11, a12, a13⟩ := T1.out.four; clear hb hb'))
    all_goals go_wp2_with fail
    all_goals go_meet
    all_goals exact ⟨rfl, T5⟩
  case rest =>
  obtain ⟨rfl, T5⟩ := hcut
  clear b0 b1 b2 b3
  obtain ⟨b0, b1, b2, b3⟩ := T5.out.four
  have hres := T5.out.res.lt
  go_wp2_with fail
  refine (spec_raOf z s A n c X _ hnn T5.out.row0 HG.out HS.out).mono ?_; rintro e w6 ⟨E1, f1, E2, f2, E3, f3, rfl, o1, o2, o3, hb⟩
  have T6 := Lib.hid (T5.out.step hb)
  have O1 := Lib.hid o1
  have O2 := Lib.hid o2
  have O3 := Lib.hid o3
  clear hb o1 o2 o3 b0 b1 b2 b3
  have r0 := T6.out.res.cell 0 _ rfl
  have g0 := T6.out.res.free 0
  have r1 := T6.out.res.cell 1 _ rfl
  have g1 := T6.out.res.free 1
  have r2 := T6.out.res.cell 2 _ rfl
  have g2 := T6.out.res.free 2
  have r3 := T6.out.res.cell 3 _ rfl
  have g3 := T6.out.res.free 3
  go_wp2_with fail
  have N4 := Lib.hid ((((T6.out.res.set 0 (.int .i64 z)).set 1 (.slice E1 n f1)).set 2 (.slice E2 s f2)).set 3 (.slice E3 n f3))
  clear r0 r1 r2 r3
  have r0 := N4.out.cell 0 (.int .i64 z) (by simp)
  have r1 := N4.out.cell 1 (.slice E1 n f1) (by simp)
  have r2 := N4.out.cell 2 (.slice E2 s f2) (by simp)
  have r3 := N4.out.cell 3 (.slice E3 n f3) (by simp)
  refine bodyPost_ret (v := .tuple #[.agg #[.int .i64 z, .slice E1 n f1, .slice E2 s f2, .slice E3 n f3], .bool true]) (by simp [results, Try.results37, go_sem, r0, r1, r2, r3]) rfl ?_
  have hbf := below_setAt (below_setAt (below_setAt (below_setAt T6.out.below (b := w.heap.size + 2) (o := 0) (by omega) (.int .i64 z)) (b := w.heap.size + 2) (o := 1) (by omega) (.slice E1 n f1)) (b := w.heap.size + 2) (o := 2) (by omega) (.slice E2 s f2)) (b := w.heap.size + 2) (o := 3) (by omega) (.slice E3 n f3)
  have v1 := gvec_set (gvec_set (gvec_set (gvec_set O1.out (b := w.heap.size + 2) (o := 0) (by omega) (.int .i64 z)) (b := w.heap.size + 2) (o := 1) (by omega) (.slice E1 n f1)) (b := w.heap.size + 2) (o := 2) (by omega) (.slice E2 s f2)) (b := w.heap.size + 2) (o := 3) (by omega) (.slice E3 n f3)
  have v2 := gvec_set (gvec_set (gvec_set (gvec_set O2.out (b := w.heap.size + 2) (o := 0) (by omega) (.int .i64 z)) (b := w.heap.size + 2) (o := 1) (by omega) (.slice E1 n f1)) (b := w.heap.size + 2) (o := 2) (by omega) (.slice E2 s f2)) (b := w.heap.size + 2) (o := 3) (by omega) (.slice E3 n f3)
  have v3 := gvec_set (gvec_set (gvec_set (gvec_set O3.out (b := w.heap.size + 2) (o := 0) (by omega) (.int .i64 z)) (b := w.heap.size + 2) (o := 1) (by omega) (.slice E1 n f1)) (b := w.heap.size + 2) (o := 2) (by omega) (.slice E2 s f2)) (b := w.heap.size + 2) (o := 3) (by omega) (.slice E3 n f3)
  exact ⟨E1, f1, E2, f2, E3, f3, rfl, ow_of_gvec (gvec_low v1 (by omega)), ow_of_gvec (gvec_low v2 (by omega)), ow_of_gvec (gvec_low v3 (by omega)), hbf⟩
end
end Go.Proofs.Ytdkkflejpcgipab
