/- Two Rankeds that a law draws. -/
import Derived.Test.YtbflgbmobbbebaaGenU
import Derived.Test.YtbflgbmobbbebaaBuildR
namespace Go.Proofs.Ytbflgbmobbbebaa
open Go.RowKit

theorem good_zero {N M : Nat} (h : N ≤ 4096) (hM : M = (N + 15) / 16) : Good N M (fun _ => 0) :=
  ⟨by omega, by omega, by omega, fun i hi => ⟨Int.le_refl _, by
    have : 0 < cap N i := by
      unfold cap
      exact Int.pow_pos (by decide)
    exact this⟩⟩

set_option maxRecDepth 100000 in
set_option maxHeartbeats 4000000 in
theorem draw_joinRanked (A : Option Addr) (n c : Nat) (D : Nat → Int) (w : World) (hn : n ≤ 1048576) (hr : GRow w A n (u8V D)) (hD : ∀ i, i < n → 0 ≤ D i ∧ D i < 256) :
    Calls Try.prog 24 #[.slice A n c] w fun e w' => ∃ (z : Int) (A1 : Option Addr) (m d1 : Nat) (X : Nat → Int) (A2 : Option Addr) (s d2 : Nat) (Y : Nat → Int) (A3 : Option Addr) (p d3 : Nat) (Z : Nat → Int) (y : Int) (B1 : Option Addr) (m' e1 : Nat) (X' : Nat → Int) (B2 : Option Addr) (s' e2 : Nat) (Y' : Nat → Int) (B3 : Option Addr) (p' e3 : Nat) (Z' : Nat → Int),
      e = .returned (.tuple #[.agg #[.int .i64 z, .slice A1 m d1, .slice A2 s d2, .slice A3 p d3], .agg #[.int .i64 y, .slice B1 m' e1, .slice B2 s' e2, .slice B3 p' e3]]) ∧ RkIn w z A1 m X A2 s Y A3 p Z w' ∧ RkIn w y B1 m' X' B2 s' Y' B3 p' Z' w' ∧ Below w.heap.size w w' := by
  have h0 := (CurS.start (w := (w.alloc (.cells (rkC 0 none 0 0 none 0 0 none 0 0) 29)).alloc (.cells (rkC 0 none 0 0 none 0 0 none 0 0) 29)) c ((hr.al _).al _) hD).still
  have hx := (NBX.mk0 w (rkC 0 none 0 0 none 0 0 none 0 0) 29).at1 (.cells (rkC 0 none 0 0 none 0 0 none 0 0) 29)
  have hy := NBX.mk0 (w.alloc (.cells (rkC 0 none 0 0 none 0 0 none 0 0) 29)) (rkC 0 none 0 0 none 0 0 none 0 0) 29
  simp only [World.size_alloc] at h0 hy
  have H0 := Lib.hid h0
  have X0 := Lib.hid (hx.at1 (.cells #[.slice A n c, .int .i64 0, .int .u64 0] 61))
  have Y0 := Lib.hid (hy.at1 (.cells #[.slice A n c, .int .i64 0, .int .u64 0] 61))
  have FB := Lib.hid ((((At.start w).alloc (.cells (rkC 0 none 0 0 none 0 0 none 0 0) 29)).alloc (.cells (rkC 0 none 0 0 none 0 0 none 0 0) 29)).alloc (.cells #[.slice A n c, .int .i64 0, .int .u64 0] 61))
  clear h0 hx hy hr hD
  go_enter Try.func24, Try.ntmps24
  go_wp2_with fail
  refine (cur_ranked H0.out.1 (by omega) hn).mono ?_; rintro e w1 ⟨z, A1, m, d1, X, A2, s, d2, Y, A3, p, d3, Z, q1, q2, q3, q4, q5, rfl, o1, o2, o3, hd⟩
  have hs1 := hd.2.size
  simp only [World.size_alloc] at hs1 o1 o2 o3
  have H1 := Lib.hid ((H0.out.trans hd).alloc (.cells (rkC z A1 m d1 A2 s d2 A3 p d3) 29))
  have X1 := Lib.hid ((X0.out.only hd.2 (by omega)).at1 (.cells (rkC z A1 m d1 A2 s d2 A3 p d3) 29))
  have Y1 := Lib.hid ((Y0.out.only hd.2 (by omega)).at1 (.cells (rkC z A1 m d1 A2 s d2 A3 p d3) 29))
  have F1 := Lib.hid ((FB.out.far hd.2 (.inl (by omega))).alloc (.cells (rkC z A1 m d1 A2 s d2 A3 p d3) 29))
  have O1 := Lib.hid ((owned o1).alloc (.cells (rkC z A1 m d1 A2 s d2 A3 p d3) 29))
  have O2 := Lib.hid ((owned o2).alloc (.cells (rkC z A1 m d1 A2 s d2 A3 p d3) 29))
  have O3 := Lib.hid ((owned o3).alloc (.cells (rkC z A1 m d1 A2 s d2 A3 p d3) 29))
  have Q1 := Lib.hid (NBX.mk0 w1 (rkC z A1 m d1 A2 s d2 A3 p d3) 29)
  clear hd o1 o2 o3 H0 X0 Y0 FB
  go_wp2_with fail
  refine (cur_one H1.out.1 (by omega) hn).mono ?_; rintro e w2 ⟨x, rfl, hd⟩
  have hs2 := hd.2.size
  simp only [World.size_alloc] at hs2
  have H2 := Lib.hid (H1.out.trans hd)
  have X2 := Lib.hid (X1.out.only hd.2 (by omega))
  have Y2 := Lib.hid (Y1.out.only hd.2 (by omega))
  have F2 := Lib.hid (F1.out.far hd.2 (.inl (by omega)))
  have P1 := Lib.hid (O1.out.far hd.2 (.inr (by omega)))
  have P2 := Lib.hid (O2.out.far hd.2 (.inr (by omega)))
  have P3 := Lib.hid (O3.out.far hd.2 (.inr (by omega)))
  have Q2 := Lib.hid (Q1.out.only hd.2 (by omega))
  clear hd H1 X1 Y1 F1 O1 O2 O3 Q1
  have c0 := Q2.out.cell 0 _ rfl
  have c1 := Q2.out.cell 1 _ rfl
  have c2 := Q2.out.cell 2 _ rfl
  have c3 := Q2.out.cell 3 _ rfl
  cases x
  · have H2D := Lib.hid H2.out.1.drew
    go_upto_region 6 with fail
    go_region_with (first
      | (go_at_call 60; (first | refine (cur_ranked (H2.out.1) (by omega) hn).mono ?_ | refine (cur_ranked H2D.out (by omega) hn).mono ?_); rintro e w3 ⟨y, B1, m', e1, X', B2, s', e2, Y', B3, p', e3, Z', u1, u2, u3, u4, u5, rfl, o1', o2', o3', hd'⟩; have hd := undrew hd'; have X3 := Lib.hid (X2.out.only hd.2 (by omega)); have Y3 := Lib.hid (Y2.out.only hd.2 (by omega)); have F3 := Lib.hid (F2.out.far hd.2 (.inl (by omega))); have R1 := Lib.hid (P1.out.far hd.2 (.inr (by omega))); have R2 := Lib.hid (P2.out.far hd.2 (.inr (by omega))); have R3 := Lib.hid (P3.out.far hd.2 (.inr (by omega))); have Q3 := Lib.hid (Q2.out.only hd.2 (by omega)); have T1 := Lib.hid (owned (o1'.mono (lo' := w2.heap.size) (Nat.le_refl _) (Nat.le_refl _))); have T2 := Lib.hid (owned (o2'.mono (lo' := w2.heap.size) (Nat.le_refl _) (Nat.le_refl _))); have T3 := Lib.hid (owned (o3'.mono (lo' := w2.heap.size) (Nat.le_refl _) (Nat.le_refl _))); have cc0 := Q3.out.cell 0 _ rfl; have cc1 := Q3.out.cell 1 _ rfl; have cc2 := Q3.out.cell 2 _ rfl; have cc3 := Q3.out.cell 3 _ rfl; have ee0 := X3.out.cell 0 _ rfl; have ef0 := X3.out.free 0; have gg0 := Y3.out.cell 0 _ rfl; have gf0 := Y3.out.free 0; have ee1 := X3.out.cell 1 _ rfl; have ef1 := X3.out.free 1; have gg1 := Y3.out.cell 1 _ rfl; have gf1 := Y3.out.free 1; have ee2 := X3.out.cell 2 _ rfl; have ef2 := X3.out.free 2; have gg2 := Y3.out.cell 2 _ rfl; have gf2 := Y3.out.free 2; have ee3 := X3.out.cell 3 _ rfl; have ef3 := X3.out.free 3; have gg3 := Y3.out.cell 3 _ rfl; have gf3 := Y3.out.free 3; clear hd hd' o1' o2' o3'))
    all_goals
      clear c0 c1 c2 c3
      go_wp2_with fail
      have N1 := Lib.hid (nbx_other (nbx_other (nbx_other (nbx_other ((((X3.out.set 0 (.int .i64 z)).set 1 (.slice A1 m d1)).set 2 (.slice A2 s d2)).set 3 (.slice A3 p d3)) (r := (w.heap.size + 1)) (by omega) 0 (.int .i64 y)) (r := (w.heap.size + 1)) (by omega) 1 (.slice B1 m' e1)) (r := (w.heap.size + 1)) (by omega) 2 (.slice B2 s' e2)) (r := (w.heap.size + 1)) (by omega) 3 (.slice B3 p' e3))
      have N2 := Lib.hid (((((nbx_other (nbx_other (nbx_other (nbx_other Y3.out (r := w.heap.size) (by omega) 0 (.int .i64 z)) (r := w.heap.size) (by omega) 1 (.slice A1 m d1)) (r := w.heap.size) (by omega) 2 (.slice A2 s d2)) (r := w.heap.size) (by omega) 3 (.slice A3 p d3)).set 0 (.int .i64 y)).set 1 (.slice B1 m' e1)).set 2 (.slice B2 s' e2)).set 3 (.slice B3 p' e3))
      try clear ee0 ee1 ee2 ee3 gg0 gg1 gg2 gg3
      have r0 := N1.out.cell 0 (.int .i64 z) (by simp)
      have r1 := N1.out.cell 1 (.slice A1 m d1) (by simp)
      have r2 := N1.out.cell 2 (.slice A2 s d2) (by simp)
      have r3 := N1.out.cell 3 (.slice A3 p d3) (by simp)
      have t0 := N2.out.cell 0 (.int .i64 y) (by simp)
      have t1 := N2.out.cell 1 (.slice B1 m' e1) (by simp)
      have t2 := N2.out.cell 2 (.slice B2 s' e2) (by simp)
      have t3 := N2.out.cell 3 (.slice B3 p' e3) (by simp)
      refine bodyPost_ret (v := .tuple #[.agg #[.int .i64 z, .slice A1 m d1, .slice A2 s d2, .slice A3 p d3], .agg #[.int .i64 y, .slice B1 m' e1, .slice B2 s' e2, .slice B3 p' e3]]) (by simp [results, Try.results24, go_sem, r0, r1, r2, r3, t0, t1, t2, t3]) rfl ?_
      have ka0 := ((((((((R1.out).setD (q := w.heap.size) (.inr (by omega)) 0 (.int .i64 z)).setD (q := w.heap.size) (.inr (by omega)) 1 (.slice A1 m d1)).setD (q := w.heap.size) (.inr (by omega)) 2 (.slice A2 s d2)).setD (q := w.heap.size) (.inr (by omega)) 3 (.slice A3 p d3)).setD (q := (w.heap.size + 1)) (.inr (by omega)) 0 (.int .i64 y)).setD (q := (w.heap.size + 1)) (.inr (by omega)) 1 (.slice B1 m' e1)).setD (q := (w.heap.size + 1)) (.inr (by omega)) 2 (.slice B2 s' e2)).setD (q := (w.heap.size + 1)) (.inr (by omega)) 3 (.slice B3 p' e3)
      have ka1 := ((((((((R2.out).setD (q := w.heap.size) (.inr (by omega)) 0 (.int .i64 z)).setD (q := w.heap.size) (.inr (by omega)) 1 (.slice A1 m d1)).setD (q := w.heap.size) (.inr (by omega)) 2 (.slice A2 s d2)).setD (q := w.heap.size) (.inr (by omega)) 3 (.slice A3 p d3)).setD (q := (w.heap.size + 1)) (.inr (by omega)) 0 (.int .i64 y)).setD (q := (w.heap.size + 1)) (.inr (by omega)) 1 (.slice B1 m' e1)).setD (q := (w.heap.size + 1)) (.inr (by omega)) 2 (.slice B2 s' e2)).setD (q := (w.heap.size + 1)) (.inr (by omega)) 3 (.slice B3 p' e3)
      have ka2 := ((((((((R3.out).setD (q := w.heap.size) (.inr (by omega)) 0 (.int .i64 z)).setD (q := w.heap.size) (.inr (by omega)) 1 (.slice A1 m d1)).setD (q := w.heap.size) (.inr (by omega)) 2 (.slice A2 s d2)).setD (q := w.heap.size) (.inr (by omega)) 3 (.slice A3 p d3)).setD (q := (w.heap.size + 1)) (.inr (by omega)) 0 (.int .i64 y)).setD (q := (w.heap.size + 1)) (.inr (by omega)) 1 (.slice B1 m' e1)).setD (q := (w.heap.size + 1)) (.inr (by omega)) 2 (.slice B2 s' e2)).setD (q := (w.heap.size + 1)) (.inr (by omega)) 3 (.slice B3 p' e3)
      have kb0 := ((((((((T1.out).setD (q := w.heap.size) (.inr (by omega)) 0 (.int .i64 z)).setD (q := w.heap.size) (.inr (by omega)) 1 (.slice A1 m d1)).setD (q := w.heap.size) (.inr (by omega)) 2 (.slice A2 s d2)).setD (q := w.heap.size) (.inr (by omega)) 3 (.slice A3 p d3)).setD (q := (w.heap.size + 1)) (.inr (by omega)) 0 (.int .i64 y)).setD (q := (w.heap.size + 1)) (.inr (by omega)) 1 (.slice B1 m' e1)).setD (q := (w.heap.size + 1)) (.inr (by omega)) 2 (.slice B2 s' e2)).setD (q := (w.heap.size + 1)) (.inr (by omega)) 3 (.slice B3 p' e3)
      have kb1 := ((((((((T2.out).setD (q := w.heap.size) (.inr (by omega)) 0 (.int .i64 z)).setD (q := w.heap.size) (.inr (by omega)) 1 (.slice A1 m d1)).setD (q := w.heap.size) (.inr (by omega)) 2 (.slice A2 s d2)).setD (q := w.heap.size) (.inr (by omega)) 3 (.slice A3 p d3)).setD (q := (w.heap.size + 1)) (.inr (by omega)) 0 (.int .i64 y)).setD (q := (w.heap.size + 1)) (.inr (by omega)) 1 (.slice B1 m' e1)).setD (q := (w.heap.size + 1)) (.inr (by omega)) 2 (.slice B2 s' e2)).setD (q := (w.heap.size + 1)) (.inr (by omega)) 3 (.slice B3 p' e3)
      have kb2 := ((((((((T3.out).setD (q := w.heap.size) (.inr (by omega)) 0 (.int .i64 z)).setD (q := w.heap.size) (.inr (by omega)) 1 (.slice A1 m d1)).setD (q := w.heap.size) (.inr (by omega)) 2 (.slice A2 s d2)).setD (q := w.heap.size) (.inr (by omega)) 3 (.slice A3 p d3)).setD (q := (w.heap.size + 1)) (.inr (by omega)) 0 (.int .i64 y)).setD (q := (w.heap.size + 1)) (.inr (by omega)) 1 (.slice B1 m' e1)).setD (q := (w.heap.size + 1)) (.inr (by omega)) 2 (.slice B2 s' e2)).setD (q := (w.heap.size + 1)) (.inr (by omega)) 3 (.slice B3 p' e3)
      exact ⟨z, A1, m, d1, X, A2, s, d2, Y, A3, p, d3, Z, y, B1, m', e1, X', B2, s', e2, Y', B3, p', e3, Z', rfl, ⟨by omega, by omega, by omega, by omega, by omega, ka0.now.mono (by omega) ka0.top, ka1.now.mono (by omega) ka1.top, ka2.now.mono (by omega) ka2.top⟩, ⟨by omega, by omega, by omega, by omega, by omega, kb0.now.mono (by omega) kb0.top, kb1.now.mono (by omega) kb1.top, kb2.now.mono (by omega) kb2.top⟩, below_setAt (below_setAt (below_setAt (below_setAt (below_setAt (below_setAt (below_setAt (below_setAt (F3.out.now) (b := w.heap.size) (o := 0) (by omega) (.int .i64 z)) (b := w.heap.size) (o := 1) (by omega) (.slice A1 m d1)) (b := w.heap.size) (o := 2) (by omega) (.slice A2 s d2)) (b := w.heap.size) (o := 3) (by omega) (.slice A3 p d3)) (b := (w.heap.size + 1)) (o := 0) (by omega) (.int .i64 y)) (b := (w.heap.size + 1)) (o := 1) (by omega) (.slice B1 m' e1)) (b := (w.heap.size + 1)) (o := 2) (by omega) (.slice B2 s' e2)) (b := (w.heap.size + 1)) (o := 3) (by omega) (.slice B3 p' e3)⟩
  · go_wp2_with fail
    refine (cur_pick H2.out.1 (by omega) hn).mono ?_; rintro e w3 ⟨t, t0, t1, rfl, hd⟩
    have ht3 : t < 3 := by omega
    have hs3 := hd.2.size
    have H3 := Lib.hid (H2.out.trans hd)
    have X3 := Lib.hid (X2.out.only hd.2 (by omega))
    have Y3 := Lib.hid (Y2.out.only hd.2 (by omega))
    have F3 := Lib.hid (F2.out.far hd.2 (.inl (by omega)))
    have Q3 := Lib.hid (Q2.out.only hd.2 (by omega))
    clear hd H2 X2 Y2 F2 P1 P2 P3 Q2 c0 c1 c2 c3 t1
    obtain ⟨N, hN⟩ : ∃ N : Nat, (N : Int) = 4096 - t := ⟨(4096 - t).toNat, by omega⟩
    have hN4 : N ≤ 4096 := by omega
    obtain ⟨M, hM⟩ : ∃ M : Nat, M = (N + 15) / 16 := ⟨_, rfl⟩
    obtain ⟨S, hS⟩ : ∃ S : Nat, S = (N + 63) / 64 := ⟨_, rfl⟩
    have hM2 : M ≤ 256 := by omega
    have hS2 : S ≤ 64 := by omega
    have hbn := spec_biNew N M w3 hN4 hM
    have hrf := fun (w4 : World) (g : Nat) (hg : IRow w4 (some ⟨g, 0, none⟩) M (fun _ => 0)) => spec_raOf N S (some ⟨g, 0, none⟩) M M (fun _ => 0) w4 (by omega) hg (good_zero hN4 hM) hS
    rw [hN] at hbn hrf
    have HBN := Lib.hid hbn
    have HRF := Lib.hid hrf
    clear hbn hrf hM hS hN
    go_wp2_with fail
    refine HBN.out.mono ?_; rintro e w4 ⟨g, rfl, hg, hz, hb⟩
    have hs4 := hb.size
    have H4 := Lib.hid (H3.out.lowB (by simp) (hb.mono H3.out.2.size))
    have X4 := Lib.hid (X3.out.b hb)
    have Y4 := Lib.hid (Y3.out.b hb)
    have F4 := Lib.hid (F3.out.b hb)
    have Q4 := Lib.hid (Q3.out.b hb)
    have Z4 := Lib.hid hz.row
    clear hb hz H3 X3 Y3 F3 Q3
    go_wp2_with fail
    refine (HRF.out _ g Z4.out).mono ?_; rintro e w5 ⟨A4, d4, A5, d5, A6, d6, rfl, v1, v2, v3, hb⟩
    have hs5 := hb.size
    have H5 := Lib.hid (H4.out.lowB (by simp) (hb.mono H4.out.2.size))
    have X5 := Lib.hid (X4.out.b hb)
    have Y5 := Lib.hid (Y4.out.b hb)
    have F5 := Lib.hid (F4.out.b hb)
    have Q5 := Lib.hid (Q4.out.b hb)
    have P51 := Lib.hid (owned (ow_of_gvec v1))
    have P52 := Lib.hid (owned (ow_of_gvec v2))
    have P53 := Lib.hid (owned (ow_of_gvec v3))
    clear hb v1 v2 v3 H4 X4 Y4 F4 Q4 Z4
    have c0 := Q5.out.cell 0 _ rfl
    have c1 := Q5.out.cell 1 _ rfl
    have c2 := Q5.out.cell 2 _ rfl
    have c3 := Q5.out.cell 3 _ rfl
    have f0 := Q5.out.free 0
    have f1 := Q5.out.free 1
    have f2 := Q5.out.free 2
    have f3 := Q5.out.free 3
    go_upto_region 5 with fail
    have H6 := Lib.hid ((((H5.out.set (r := w1.heap.size) (i := 0) (by first | omega | (simp; omega) | (simp; done)) (by first | omega | (simp; omega) | (simp; done)) (.int .i64 (4096 - t))).set (r := w1.heap.size) (i := 1) (by first | omega | (simp; omega) | (simp; done)) (by first | omega | (simp; omega) | (simp; done)) (.slice A4 M d4)).set (r := w1.heap.size) (i := 2) (by first | omega | (simp; omega) | (simp; done)) (by first | omega | (simp; omega) | (simp; done)) (.slice A5 S d5)).set (r := w1.heap.size) (i := 3) (by first | omega | (simp; omega) | (simp; done)) (by first | omega | (simp; omega) | (simp; done)) (.slice A6 M d6))
    have X6 := Lib.hid (nbx_other (nbx_other (nbx_other (nbx_other X5.out (r := w1.heap.size) (by omega) 0 (.int .i64 (4096 - t))) (r := w1.heap.size) (by omega) 1 (.slice A4 M d4)) (r := w1.heap.size) (by omega) 2 (.slice A5 S d5)) (r := w1.heap.size) (by omega) 3 (.slice A6 M d6))
    have Y6 := Lib.hid (nbx_other (nbx_other (nbx_other (nbx_other Y5.out (r := w1.heap.size) (by omega) 0 (.int .i64 (4096 - t))) (r := w1.heap.size) (by omega) 1 (.slice A4 M d4)) (r := w1.heap.size) (by omega) 2 (.slice A5 S d5)) (r := w1.heap.size) (by omega) 3 (.slice A6 M d6))
    have F6 := Lib.hid ((((F5.out.setD (q := w1.heap.size) (.inl (by omega)) 0 (.int .i64 (4096 - t))).setD (q := w1.heap.size) (.inl (by omega)) 1 (.slice A4 M d4)).setD (q := w1.heap.size) (.inl (by omega)) 2 (.slice A5 S d5)).setD (q := w1.heap.size) (.inl (by omega)) 3 (.slice A6 M d6))
    have Q6 := Lib.hid (show NBX w1.heap.size w1.heap.size (rkC (4096 - t) A4 M d4 A5 S d5 A6 M d6) 29 ((((w5.setCell ⟨w1.heap.size, 0, none⟩ (.int .i64 (4096 - t))).setCell ⟨w1.heap.size, 1, none⟩ (.slice A4 M d4)).setCell ⟨w1.heap.size, 2, none⟩ (.slice A5 S d5)).setCell ⟨w1.heap.size, 3, none⟩ (.slice A6 M d6)) from by simpa using ((((Q5.out.set 0 (.int .i64 (4096 - t))).set 1 (.slice A4 M d4)).set 2 (.slice A5 S d5)).set 3 (.slice A6 M d6)))
    have P61 := Lib.hid ((((P51.out.setD (q := w1.heap.size) (.inr (by omega)) 0 (.int .i64 (4096 - t))).setD (q := w1.heap.size) (.inr (by omega)) 1 (.slice A4 M d4)).setD (q := w1.heap.size) (.inr (by omega)) 2 (.slice A5 S d5)).setD (q := w1.heap.size) (.inr (by omega)) 3 (.slice A6 M d6))
    have P62 := Lib.hid ((((P52.out.setD (q := w1.heap.size) (.inr (by omega)) 0 (.int .i64 (4096 - t))).setD (q := w1.heap.size) (.inr (by omega)) 1 (.slice A4 M d4)).setD (q := w1.heap.size) (.inr (by omega)) 2 (.slice A5 S d5)).setD (q := w1.heap.size) (.inr (by omega)) 3 (.slice A6 M d6))
    have P63 := Lib.hid ((((P53.out.setD (q := w1.heap.size) (.inr (by omega)) 0 (.int .i64 (4096 - t))).setD (q := w1.heap.size) (.inr (by omega)) 1 (.slice A4 M d4)).setD (q := w1.heap.size) (.inr (by omega)) 2 (.slice A5 S d5)).setD (q := w1.heap.size) (.inr (by omega)) 3 (.slice A6 M d6))
    have hs6 : w5.heap.size = ((((w5.setCell ⟨w1.heap.size, 0, none⟩ (.int .i64 (4096 - t))).setCell ⟨w1.heap.size, 1, none⟩ (.slice A4 M d4)).setCell ⟨w1.heap.size, 2, none⟩ (.slice A5 S d5)).setCell ⟨w1.heap.size, 3, none⟩ (.slice A6 M d6)).heap.size := by simp
    clear H5 X5 Y5 F5 Q5 P51 P52 P53 c0 c1 c2 c3 f0 f1 f2 f3
    generalize ((((w5.setCell ⟨w1.heap.size, 0, none⟩ (.int .i64 (4096 - t))).setCell ⟨w1.heap.size, 1, none⟩ (.slice A4 M d4)).setCell ⟨w1.heap.size, 2, none⟩ (.slice A5 S d5)).setCell ⟨w1.heap.size, 3, none⟩ (.slice A6 M d6)) = w6 at *
    have H6D := Lib.hid H6.out.1.drew
    have c0 := Q6.out.cell 0 _ rfl
    have c1 := Q6.out.cell 1 _ rfl
    have c2 := Q6.out.cell 2 _ rfl
    have c3 := Q6.out.cell 3 _ rfl
    go_region_with (first
      | (have hz := W7; clear hz; go_at_call 55; refine (spec_raOf y Sb (some ⟨gb, 0, none⟩) mb mb Xb _ hmb4 W7.out HGB.out HSB.out).mono ?_; rintro e w8 ⟨B1, e1, B2, e2, B3, e3, rfl, v1, v2, v3, hb⟩; have X8 := Lib.hid (X7.out.b hb); have Y8 := Lib.hid (Y7.out.b hb); have F8 := Lib.hid (F7.out.b hb); have Q8 := Lib.hid (Q7.out.b hb); have P81 := Lib.hid (P71.out.b hb); have P82 := Lib.hid (P72.out.b hb); have P83 := Lib.hid (P73.out.b hb); have T1 := Lib.hid (owned (ow_of_gvec v1)); have T2 := Lib.hid (owned (ow_of_gvec v2)); have T3 := Lib.hid (owned (ow_of_gvec v3)); have cc0 := Q8.out.cell 0 _ rfl; have cc1 := Q8.out.cell 1 _ rfl; have cc2 := Q8.out.cell 2 _ rfl; have cc3 := Q8.out.cell 3 _ rfl; have ee0 := X8.out.cell 0 _ rfl; have ef0 := X8.out.free 0; have gg0 := Y8.out.cell 0 _ rfl; have gf0 := Y8.out.free 0; have ee1 := X8.out.cell 1 _ rfl; have ef1 := X8.out.free 1; have gg1 := Y8.out.cell 1 _ rfl; have gf1 := Y8.out.free 1; have ee2 := X8.out.cell 2 _ rfl; have ef2 := X8.out.free 2; have gg2 := Y8.out.cell 2 _ rfl; have gf2 := Y8.out.free 2; have ee3 := X8.out.cell 3 _ rfl; have ef3 := X8.out.free 3; have gg3 := Y8.out.cell 3 _ rfl; have gf3 := Y8.out.free 3; clear hb v1 v2 v3)
      | (go_at_call 50; (first | refine (cur_bitsG (most := 3) H6.out.1 (by omega) hn (by omega)).mono ?_ | refine (cur_bitsG (most := 3) H6D.out (by omega) hn (by omega)).mono ?_); rintro e w7 ⟨y, mb, gb, Xb, hy3, hmb, hgb, rfl, ho, hd'⟩; have hd := undrew hd'; have hs7 := hd.2.size; have X7 := Lib.hid (X6.out.only hd.2 (by omega)); have Y7 := Lib.hid (Y6.out.only hd.2 (by omega)); have F7 := Lib.hid (F6.out.far hd.2 (.inl (by omega))); have Q7 := Lib.hid (Q6.out.only hd.2 (by omega)); have P71 := Lib.hid (P61.out.far hd.2 (.inr (by omega))); have P72 := Lib.hid (P62.out.far hd.2 (.inr (by omega))); have P73 := Lib.hid (P63.out.far hd.2 (.inr (by omega))); have W7 := Lib.hid (irow (ho.rd.row (Nat.le_refl _))); have HGB := Lib.hid hgb; obtain ⟨Sb, hSb⟩ : ∃ Sb : Nat, Sb = (y + 63) / 64 := ⟨_, rfl⟩; have hSb2 : Sb ≤ 64 := (by omega); have hmb2 : mb ≤ 256 := (by omega); have hmb4 : mb ≤ 4096 := (by omega); have HSB := Lib.hid hSb; have cd0 := Q7.out.cell 0 _ rfl; have cd1 := Q7.out.cell 1 _ rfl; have cd2 := Q7.out.cell 2 _ rfl; have cd3 := Q7.out.cell 3 _ rfl; have ed0 := X7.out.cell 0 _ rfl; have eh0 := X7.out.free 0; have gd0 := Y7.out.cell 0 _ rfl; have gh0 := Y7.out.free 0; have ed1 := X7.out.cell 1 _ rfl; have eh1 := X7.out.free 1; have gd1 := Y7.out.cell 1 _ rfl; have gh1 := Y7.out.free 1; have ed2 := X7.out.cell 2 _ rfl; have eh2 := X7.out.free 2; have gd2 := Y7.out.cell 2 _ rfl; have gh2 := Y7.out.free 2; have ed3 := X7.out.cell 3 _ rfl; have eh3 := X7.out.free 3; have gd3 := Y7.out.cell 3 _ rfl; have gh3 := Y7.out.free 3; clear hd hd' ho hgb hmb hSb))
    all_goals
      clear c0 c1 c2 c3
      try clear cd0 cd1 cd2 cd3 ed0 ed1 ed2 ed3 gd0 gd1 gd2 gd3
      go_wp2_with fail
      have N1 := Lib.hid (nbx_other (nbx_other (nbx_other (nbx_other ((((X8.out.set 0 (.int .i64 (4096 - t))).set 1 (.slice A4 M d4)).set 2 (.slice A5 S d5)).set 3 (.slice A6 M d6)) (r := (w.heap.size + 1)) (by omega) 0 (.int .i64 y)) (r := (w.heap.size + 1)) (by omega) 1 (.slice B1 mb e1)) (r := (w.heap.size + 1)) (by omega) 2 (.slice B2 Sb e2)) (r := (w.heap.size + 1)) (by omega) 3 (.slice B3 mb e3))
      have N2 := Lib.hid (((((nbx_other (nbx_other (nbx_other (nbx_other Y8.out (r := w.heap.size) (by omega) 0 (.int .i64 (4096 - t))) (r := w.heap.size) (by omega) 1 (.slice A4 M d4)) (r := w.heap.size) (by omega) 2 (.slice A5 S d5)) (r := w.heap.size) (by omega) 3 (.slice A6 M d6)).set 0 (.int .i64 y)).set 1 (.slice B1 mb e1)).set 2 (.slice B2 Sb e2)).set 3 (.slice B3 mb e3))
      try clear ee0 ee1 ee2 ee3 gg0 gg1 gg2 gg3
      have r0 := N1.out.cell 0 (.int .i64 (4096 - t)) (by simp)
      have r1 := N1.out.cell 1 (.slice A4 M d4) (by simp)
      have r2 := N1.out.cell 2 (.slice A5 S d5) (by simp)
      have r3 := N1.out.cell 3 (.slice A6 M d6) (by simp)
      have t0 := N2.out.cell 0 (.int .i64 y) (by simp)
      have t1 := N2.out.cell 1 (.slice B1 mb e1) (by simp)
      have t2 := N2.out.cell 2 (.slice B2 Sb e2) (by simp)
      have t3 := N2.out.cell 3 (.slice B3 mb e3) (by simp)
      refine bodyPost_ret (v := .tuple #[.agg #[.int .i64 (4096 - t), .slice A4 M d4, .slice A5 S d5, .slice A6 M d6], .agg #[.int .i64 y, .slice B1 mb e1, .slice B2 Sb e2, .slice B3 mb e3]]) (by simp [results, Try.results24, go_sem, r0, r1, r2, r3, t0, t1, t2, t3]) rfl ?_
      have ka0 := ((((((((P81.out).setD (q := w.heap.size) (.inr (by omega)) 0 (.int .i64 (4096 - t))).setD (q := w.heap.size) (.inr (by omega)) 1 (.slice A4 M d4)).setD (q := w.heap.size) (.inr (by omega)) 2 (.slice A5 S d5)).setD (q := w.heap.size) (.inr (by omega)) 3 (.slice A6 M d6)).setD (q := (w.heap.size + 1)) (.inr (by omega)) 0 (.int .i64 y)).setD (q := (w.heap.size + 1)) (.inr (by omega)) 1 (.slice B1 mb e1)).setD (q := (w.heap.size + 1)) (.inr (by omega)) 2 (.slice B2 Sb e2)).setD (q := (w.heap.size + 1)) (.inr (by omega)) 3 (.slice B3 mb e3)
      have ka1 := ((((((((P82.out).setD (q := w.heap.size) (.inr (by omega)) 0 (.int .i64 (4096 - t))).setD (q := w.heap.size) (.inr (by omega)) 1 (.slice A4 M d4)).setD (q := w.heap.size) (.inr (by omega)) 2 (.slice A5 S d5)).setD (q := w.heap.size) (.inr (by omega)) 3 (.slice A6 M d6)).setD (q := (w.heap.size + 1)) (.inr (by omega)) 0 (.int .i64 y)).setD (q := (w.heap.size + 1)) (.inr (by omega)) 1 (.slice B1 mb e1)).setD (q := (w.heap.size + 1)) (.inr (by omega)) 2 (.slice B2 Sb e2)).setD (q := (w.heap.size + 1)) (.inr (by omega)) 3 (.slice B3 mb e3)
      have ka2 := ((((((((P83.out).setD (q := w.heap.size) (.inr (by omega)) 0 (.int .i64 (4096 - t))).setD (q := w.heap.size) (.inr (by omega)) 1 (.slice A4 M d4)).setD (q := w.heap.size) (.inr (by omega)) 2 (.slice A5 S d5)).setD (q := w.heap.size) (.inr (by omega)) 3 (.slice A6 M d6)).setD (q := (w.heap.size + 1)) (.inr (by omega)) 0 (.int .i64 y)).setD (q := (w.heap.size + 1)) (.inr (by omega)) 1 (.slice B1 mb e1)).setD (q := (w.heap.size + 1)) (.inr (by omega)) 2 (.slice B2 Sb e2)).setD (q := (w.heap.size + 1)) (.inr (by omega)) 3 (.slice B3 mb e3)
      have kb0 := ((((((((T1.out).setD (q := w.heap.size) (.inr (by omega)) 0 (.int .i64 (4096 - t))).setD (q := w.heap.size) (.inr (by omega)) 1 (.slice A4 M d4)).setD (q := w.heap.size) (.inr (by omega)) 2 (.slice A5 S d5)).setD (q := w.heap.size) (.inr (by omega)) 3 (.slice A6 M d6)).setD (q := (w.heap.size + 1)) (.inr (by omega)) 0 (.int .i64 y)).setD (q := (w.heap.size + 1)) (.inr (by omega)) 1 (.slice B1 mb e1)).setD (q := (w.heap.size + 1)) (.inr (by omega)) 2 (.slice B2 Sb e2)).setD (q := (w.heap.size + 1)) (.inr (by omega)) 3 (.slice B3 mb e3)
      have kb1 := ((((((((T2.out).setD (q := w.heap.size) (.inr (by omega)) 0 (.int .i64 (4096 - t))).setD (q := w.heap.size) (.inr (by omega)) 1 (.slice A4 M d4)).setD (q := w.heap.size) (.inr (by omega)) 2 (.slice A5 S d5)).setD (q := w.heap.size) (.inr (by omega)) 3 (.slice A6 M d6)).setD (q := (w.heap.size + 1)) (.inr (by omega)) 0 (.int .i64 y)).setD (q := (w.heap.size + 1)) (.inr (by omega)) 1 (.slice B1 mb e1)).setD (q := (w.heap.size + 1)) (.inr (by omega)) 2 (.slice B2 Sb e2)).setD (q := (w.heap.size + 1)) (.inr (by omega)) 3 (.slice B3 mb e3)
      have kb2 := ((((((((T3.out).setD (q := w.heap.size) (.inr (by omega)) 0 (.int .i64 (4096 - t))).setD (q := w.heap.size) (.inr (by omega)) 1 (.slice A4 M d4)).setD (q := w.heap.size) (.inr (by omega)) 2 (.slice A5 S d5)).setD (q := w.heap.size) (.inr (by omega)) 3 (.slice A6 M d6)).setD (q := (w.heap.size + 1)) (.inr (by omega)) 0 (.int .i64 y)).setD (q := (w.heap.size + 1)) (.inr (by omega)) 1 (.slice B1 mb e1)).setD (q := (w.heap.size + 1)) (.inr (by omega)) 2 (.slice B2 Sb e2)).setD (q := (w.heap.size + 1)) (.inr (by omega)) 3 (.slice B3 mb e3)
      exact ⟨_, A4, M, d4, _, A5, S, d5, _, A6, M, d6, _, _, B1, mb, e1, _, B2, Sb, e2, _, B3, mb, e3, _, rfl, ⟨by omega, by omega, by omega, by omega, by omega, ka0.now.mono (by omega) ka0.top, ka1.now.mono (by omega) ka1.top, ka2.now.mono (by omega) ka2.top⟩, ⟨by omega, by omega, by omega, by omega, by omega, kb0.now.mono (by omega) kb0.top, kb1.now.mono (by omega) kb1.top, kb2.now.mono (by omega) kb2.top⟩, below_setAt (below_setAt (below_setAt (below_setAt (below_setAt (below_setAt (below_setAt (below_setAt (F8.out.now) (b := w.heap.size) (o := 0) (by omega) (.int .i64 (4096 - t))) (b := w.heap.size) (o := 1) (by omega) (.slice A4 M d4)) (b := w.heap.size) (o := 2) (by omega) (.slice A5 S d5)) (b := w.heap.size) (o := 3) (by omega) (.slice A6 M d6)) (b := (w.heap.size + 1)) (o := 0) (by omega) (.int .i64 y)) (b := (w.heap.size + 1)) (o := 1) (by omega) (.slice B1 mb e1)) (b := (w.heap.size + 1)) (o := 2) (by omega) (.slice B2 Sb e2)) (b := (w.heap.size + 1)) (o := 3) (by omega) (.slice B3 mb e3)⟩
end Go.Proofs.Ytbflgbmobbbebaa
