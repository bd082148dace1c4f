/- Directories: the laws' test whether two are the same; vectors that a law draws. -/
import Derived.Test.YtbflgbmobbbebaaVecGen
import Derived.Test.YtbflgbmobbbebaaRankL
namespace Go.Proofs.Ytbflgbmobbbebaa
open Go.RowKit

set_option maxHeartbeats 400000 in
theorem pSameR_yes {z : Int} {A1 A2 A3 B1 B2 B3 : Option Addr} {n c1 s c2 m c3 d1 d2 d3 : Nat} {X Y Z : Nat → Int} {w : World} (h1 : RkR A1 n X A2 s Y A3 m Z w) (h2 : RkR B1 n X B2 s Y B3 m Z w) :
    Calls Try.prog 13 #[.agg #[.int .i64 z, .slice A1 n c1, .slice A2 s c2, .slice A3 m c3], .agg #[.int .i64 z, .slice B1 n d1, .slice B2 s d2, .slice B3 m d3]] w (SameRow w true) := by
  have hB := ((Below.refl w.heap.size w).alloc (Nat.le_refl _) (.cells (rkC z A1 n c1 A2 s c2 A3 m c3) 29)).alloc (by simp) (.cells (rkC z B1 n d1 B2 s d2 B3 m d3) 29)
  have H1 := Lib.hid (h1.b hB)
  have H2 := Lib.hid (h2.b hB)
  have N1 := Lib.hid ((nbx0 w (rkC z A1 n c1 A2 s c2 A3 m c3) 29).b ((Below.refl _ _).alloc (Nat.le_refl _) (.cells (rkC z B1 n d1 B2 s d2 B3 m d3) 29)))
  have k2 := nbx0 (w.alloc (.cells (rkC z A1 n c1 A2 s c2 A3 m c3) 29)) (rkC z B1 n d1 B2 s d2 B3 m d3) 29
  simp only [World.size_alloc] at k2
  have N2 := Lib.hid k2
  have HB := Lib.hid hB
  clear h1 h2 hB k2
  have b0 := N1.out.cell 0 _ rfl
  have b1 := N1.out.cell 1 _ rfl
  have b2 := N1.out.cell 2 _ rfl
  have b3 := N1.out.cell 3 _ rfl
  have e0 := N2.out.cell 0 _ rfl
  have e1 := N2.out.cell 1 _ rfl
  have e2 := N2.out.cell 2 _ rfl
  have e3 := N2.out.cell 3 _ rfl
  go_enter Try.func13, Try.ntmps13
  go_wp2_with fail
  refine (pSame_yes H1.out.n1 (grow_of H1.out.r1) (grow_of H2.out.r1)).mono ?_; rintro e w1 ⟨rfl, hb⟩
  have P1 := Lib.hid (H1.out.b hb)
  have P2 := Lib.hid (H2.out.b hb)
  have M1 := Lib.hid (N1.out.b hb)
  have M2 := Lib.hid (N2.out.b hb)
  have B1 := Lib.hid (HB.out.trans (hb.mono HB.out.size))
  clear hb b0 b1 b2 b3 e0 e1 e2 e3
  have b2 := M1.out.cell 2 _ rfl
  have b3 := M1.out.cell 3 _ rfl
  have e2 := M2.out.cell 2 _ rfl
  have e3 := M2.out.cell 3 _ rfl
  go_wp2_with fail
  refine (pSameInts_yes P1.out.n2 (grow_of P1.out.r2) (grow_of P2.out.r2)).mono ?_; rintro e w2 ⟨rfl, hb⟩
  have Q1 := Lib.hid (P1.out.b hb)
  have Q2 := Lib.hid (P2.out.b hb)
  have K1 := Lib.hid (M1.out.b hb)
  have K2 := Lib.hid (M2.out.b hb)
  have C1 := Lib.hid (B1.out.trans (hb.mono B1.out.size))
  clear hb b2 b3 e2 e3
  have b3 := K1.out.cell 3 _ rfl
  have e3 := K2.out.cell 3 _ rfl
  go_wp2_with fail
  refine (pSameInts_yes Q1.out.n3 (grow_of Q1.out.r3) (grow_of Q2.out.r3)).mono ?_; rintro e w3 ⟨rfl, hb⟩
  have D1 := Lib.hid (C1.out.trans (hb.mono C1.out.size))
  go_wp2_with fail
  go_ret
  exact ⟨rfl, D1.out⟩

set_option maxRecDepth 100000 in
set_option maxHeartbeats 1000000 in
theorem draw_buildRanked (A : Option Addr) (n c : Nat) (D : Nat → Int) (w : World) (hn : n ≤ 1048576) (hr : GRow w A n (u8V D)) (hD : ∀ i, i < n → 0 ≤ D i ∧ D i < 256) :
    Calls Try.prog 10 #[.slice A n c] w fun e w' => ∃ (z : Int) (B : Option Addr) (m d : Nat) (X : Nat → Int),
      e = .returned (.agg #[.int .i64 z, .slice B m d]) ∧ VecIn w z B m d X w' ∧ Below w.heap.size w w' := by
  have h0 := (CurS.start (w := w.alloc (.cells #[.int .i64 0, .slice none 0 0] 26)) c (hr.al _) hD).still
  have hx := NBX.mk0 w #[.int .i64 0, .slice none 0 0] 26
  simp only [World.size_alloc] at h0
  have H0 := Lib.hid h0
  have HX := Lib.hid (hx.at1 (.cells #[.slice A n c, .int .i64 0, .int .u64 0] 61))
  have FB := Lib.hid (((At.start w).alloc (.cells #[.int .i64 0, .slice none 0 0] 26)).alloc (.cells #[.slice A n c, .int .i64 0, .int .u64 0] 61))
  clear h0 hx hr hD
  go_enter Try.func10, Try.ntmps10
  go_wp2_with fail
  refine (cur_one H0.out.1 (by omega) hn).mono ?_; rintro e w1 ⟨x, rfl, hd⟩
  have H1 := Lib.hid (H0.out.trans hd)
  have HX1 := Lib.hid (HX.out.only hd.2 (by omega))
  have F1 := Lib.hid (FB.out.far hd.2 (.inl (by omega)))
  have hs1 := hd.2.size
  simp only [World.size_alloc] at hs1
  clear hd H0 HX FB
  cases x
  · go_wp2_with fail
    refine (cur_bits (most := 200) H1.out.1 (by omega) hn (by omega)).mono ?_; rintro e w2 ⟨z, m, g, X, hz, hm, rfl, ho, hd⟩
    have HX2 := Lib.hid (HX1.out.only hd.2 (by omega))
    have F2 := Lib.hid (F1.out.far hd.2 (.inl (by omega)))
    have HO2 := Lib.hid (owned (ho.mono (lo' := w.heap.size + 2) (by omega) (Nat.le_refl _)))
    have hm2 : m ≤ 257 := by omega
    have HM := Lib.hid hm
    clear hd ho HX1 F1 hm
    have c0 := HX2.out.cell 0 _ rfl
    have c1 := HX2.out.cell 1 _ rfl
    have f0 := HX2.out.free 0
    have f1 := HX2.out.free 1
    go_wp2_with fail
    have N7 := Lib.hid ((HX2.out.set 0 (.int .i64 z)).set 1 (.slice (some ⟨g, 0, none⟩) m m))
    have r0 := N7.out.cell 0 (.int .i64 z) (by simp)
    have r1 := N7.out.cell 1 (.slice (some ⟨g, 0, none⟩) m m) (by simp)
    refine bodyPost_ret (v := .agg #[.int .i64 z, .slice (some ⟨g, 0, none⟩) m m]) (by simp [results, Try.results10, go_sem, r0, r1]) rfl ?_
    have HF := (HO2.out.setC (q := w.heap.size) (by omega) 0 (.int .i64 z)).setC (q := w.heap.size) (by omega) 1 (.slice (some ⟨g, 0, none⟩) m m)
    exact ⟨z, _, m, m, X, rfl, ⟨by omega, by omega, hm2, Nat.le_refl _, by unfold maxLen; omega, HF.now.mono (by omega) HF.top⟩, below_setAt (below_setAt F2.out.now (by omega) _) (by omega) _⟩
  · go_wp2_with fail
    refine (cur_anyBits H1.out.1 (by omega) hn).mono ?_; rintro e w2 ⟨z, m, d, B, X, z0, z1, hm, hmd, hdm, rfl, ho, hd⟩
    have HX2 := Lib.hid (HX1.out.only hd.2 (by omega))
    have F2 := Lib.hid (F1.out.far hd.2 (.inl (by omega)))
    have HO2 := Lib.hid (owned (ho.mono (lo' := w.heap.size + 2) (by omega) (Nat.le_refl _)))
    clear hd ho HX1 F1
    have c0 := HX2.out.cell 0 _ rfl
    have c1 := HX2.out.cell 1 _ rfl
    have f0 := HX2.out.free 0
    have f1 := HX2.out.free 1
    go_wp2_with fail
    have N7 := Lib.hid ((HX2.out.set 0 (.int .i64 z)).set 1 (.slice B m d))
    have r0 := N7.out.cell 0 (.int .i64 z) (by simp)
    have r1 := N7.out.cell 1 (.slice B m d) (by simp)
    refine bodyPost_ret (v := .agg #[.int .i64 z, .slice B m d]) (by simp [results, Try.results10, go_sem, r0, r1]) rfl ?_
    have HF := (HO2.out.setC (q := w.heap.size) (by omega) 0 (.int .i64 z)).setC (q := w.heap.size) (by omega) 1 (.slice B m d)
    exact ⟨z, B, m, d, X, rfl, ⟨z0, z1, hm, hmd, hdm, HF.now.mono (by omega) HF.top⟩, below_setAt (below_setAt F2.out.now (by omega) _) (by omega) _⟩
end Go.Proofs.Ytbflgbmobbbebaa
