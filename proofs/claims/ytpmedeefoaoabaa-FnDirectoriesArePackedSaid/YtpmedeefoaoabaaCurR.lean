/- Directories that a law draws: 'ranked'. -/
import Derived.Test.YtpmedeefoaoabaaCurW
import Derived.Deep.DeepCutAuto
import Derived.Deep.RegionLaw
import Derived.Deep.CutBlock
namespace Go.Proofs.Ytpmedeefoaoabaa
open Go.RowKit

set_option maxRecDepth 100000 in
set_option maxHeartbeats 8000000 in
theorem cur_ranked {b n c k : Nat} {A : Option Addr} {D : Nat → Int} {w : World} (h : CurS b A n c k D w) (hk : k ≤ 100000) (hn : n ≤ 1048576) :
    Calls Try.prog 14 #[.pointer (some ⟨b, 0, none⟩)] w (RkDrawn b A n c (k + 1200) D w) := by
  have hlt := h.lt
  have H := Lib.hid (h.still.alloc (.cells (rkC 0 none 0 0 none 0 0 none 0 0) 28))
  have HX := Lib.hid (NBX.mk0 w (rkC 0 none 0 0 none 0 0 none 0 0) 28)
  clear h
  go_enter Try.func14, Try.ntmps14
  go_wp2_with fail
  refine (cur_bitsG (most := 70) H.out.1 (by omega) hn (by omega)).mono ?_; rintro e w1 ⟨z, m, gB, X, z1, hm, hg, rfl, ho, hd⟩
  have hsz1 := hd.2.size
  simp only [World.size_alloc] at hsz1 ho
  have H1 := Lib.hid ((H.out.trans hd).alloc (.cells #[.int .i64 z, .slice (some ⟨gB, 0, none⟩) m m] 26))
  have HX1 := Lib.hid ((HX.out.only hd.2 (by omega)).at1 (.cells #[.int .i64 z, .slice (some ⟨gB, 0, none⟩) m m] 26))
  have HB1 := Lib.hid (NBX.mk0 w1 #[.int .i64 z, .slice (some ⟨gB, 0, none⟩) m m] 26)
  have HO1 := Lib.hid ((owned ho).alloc (.cells #[.int .i64 z, .slice (some ⟨gB, 0, none⟩) m m] 26))
  have HG1 := Lib.hid hg
  have HM1 := Lib.hid hm
  clear hd ho hg hm H HX
  go_wp2_with fail
  refine (cur_one H1.out.1 (by omega) hn).mono ?_; rintro e w2 ⟨x, rfl, hd⟩
  have hsz2 := hd.2.size
  simp only [World.size_alloc] at hsz2
  have H2 := Lib.hid (H1.out.trans hd)
  have HX2 := Lib.hid (HX1.out.only hd.2 (by omega))
  have HB2 := Lib.hid (HB1.out.only hd.2 (by omega))
  have HO2 := Lib.hid (HO1.out.far hd.2 (.inr (by omega)))
  clear hd H1 HX1 HB1 HO1
  have b0 := HB2.out.cell 0 _ rfl
  have b1 := HB2.out.cell 1 _ rfl
  have q0 := HB2.out.free 0
  have q1 := HB2.out.free 1
  go_upto_if 8 with fail
  go_cut [] from 9 to 16 (fun wx => ∃ (z m g : Nat) (X : Nat → Int), z ≤ 400 ∧ Hid (m = (z + 15) / 16) ∧ Hid (Good z m X) ∧ Hid (Drawn b A n c (k + 950) D w wx) ∧ Hid (NBX w.heap.size w.heap.size (rkC 0 none 0 0 none 0 0 none 0 0) 28 wx) ∧ Hid (NBX w1.heap.size w1.heap.size #[.int .i64 z, .slice (some ⟨g, 0, none⟩) m m] 26 wx) ∧ Hid (At (w.heap.size + 1) wx.heap.size (Ow (w.heap.size + 1) wx.heap.size 3 (some ⟨g, 0, none⟩) m (intV X)) wx) ∧ w1.heap.size + 1 ≤ wx.heap.size)
  case first =>
    cases x
    · go_wp2_with fail
      go_meet
      exact ⟨z, m, gB, X, by omega, HM1, HG1, Lib.hid (H2.out.low (by omega)), HX2, HB2, Lib.hid (owned (HO2.out.now.mono (by omega) HO2.out.top)), by omega⟩
    · have H2r := Lib.hid (H2.out.1)
      go_wp2_with fail
      refine (cur_bitsG (most := 200) H2.out.1 (by omega) hn (by omega)).mono ?_; rintro e w3 ⟨za, ma, ga, Xa, hza, hma, hga, rfl, ho, hd⟩
      have hsz3 := hd.2.size
      have H3 := Lib.hid (H2.out.trans hd)
      have HX3 := Lib.hid (HX2.out.only hd.2 (by omega))
      have HB3 := Lib.hid (HB2.out.only hd.2 (by omega))
      have HO3 := Lib.hid (good_row hga (irow (ho.rd.row (Nat.le_refl _))))
      have hma2 : za ≤ 16 * ma := by omega
      have hma3 : ma ≤ 1048576 := by omega
      clear hd ho H2 HX2 HB2 HO2 hga hma b0 b1 q0 q1
      go_wp2_with fail
      refine (spec_biList za ma ma (some ⟨ga, 0, none⟩) (wdR Xa) _ hma3 (by omega) hma2 HO3.out).mono ?_; rintro e w4 ⟨La, la, rfl, hol, hb⟩
      have hsz4 := hb.size
      have H4 := Lib.hid (H3.out.lowB hlt (hb.mono H3.out.2.size))
      have HX4 := Lib.hid (HX3.out.b hb)
      have HB4 := Lib.hid (HB3.out.b hb)
      have HL4 := Lib.hid (show w4.ownsRow w3.heap.size 4 1 (.slice La za la) za (vals (fun i => .bool (bitN (wdR Xa) i)) za) from hol)
      clear hb hol H3 HX3 HB3 HO3
      go_wp2_with fail
      refine (cur_bitsG (most := 200) H4.out.1 (by omega) hn (by omega)).mono ?_; rintro e w5 ⟨zb, mb, gb, Xb, hzb, hmb, hgb, rfl, ho, hd⟩
      have hsz5 := hd.2.size
      have H5 := Lib.hid (H4.out.trans hd)
      have HX5 := Lib.hid (HX4.out.only hd.2 (by omega))
      have HB5 := Lib.hid (HB4.out.only hd.2 (by omega))
      have HL5 := Lib.hid (owned_only HL4.out hd.2 (by omega))
      have HO5 := Lib.hid (good_row hgb (irow (ho.rd.row (Nat.le_refl _))))
      have hmb2 : zb ≤ 16 * mb := by omega
      have hmb3 : mb ≤ 1048576 := by omega
      clear hd ho H4 HX4 HB4 HL4 hgb hmb
      go_wp2_with fail
      refine (spec_biList zb mb mb (some ⟨gb, 0, none⟩) (wdR Xb) _ hmb3 (by omega) hmb2 HO5.out).mono ?_; rintro e w6 ⟨Lb, lb, rfl, hol, hb⟩
      have hsz6 := hb.size
      have H6 := Lib.hid (H5.out.lowB hlt (hb.mono H5.out.2.size))
      have HX6 := Lib.hid (HX5.out.b hb)
      have HB6 := Lib.hid (HB5.out.b hb)
      have HL6 := Lib.hid (owned_b HL5.out hb)
      have HM6 := Lib.hid (show w6.ownsRow w5.heap.size 4 1 (.slice Lb zb lb) zb (vals (fun i => .bool (bitN (wdR Xb) i)) zb) from hol)
      clear hb hol H5 HX5 HB5 HL5 HO5
      go_wp2_with (at_builtin; refine wpList_append_vals rfl _ _ 58 rfl w3.heap.size 4 (.bool false) 1 Try.underlying58 infoB rfl (F := fun i => .bool (bitN (wdR Xa) i)) (G := fun i => .bool (bitN (wdR Xb) i)) rfl rfl HL6.out (GVec.row (owned_vec HM6.out)) (fun _ _ => rfl) (by omega) (by omega) (by omega) ?_)
      intro A8 c8 w8 ho8 hb8
      have HO8 := Lib.hid ho8
      have hsz8 := hb8.size
      have H8 := Lib.hid (H6.out.lowB hlt (hb8.mono (by omega)))
      have HX8 := Lib.hid (HX6.out.low hb8 (by omega))
      have HB8 := Lib.hid (HB6.out.low hb8 (by omega))
      clear ho8 hb8 H6 HX6 HB6 HL6 HM6
      go_wp2_with fail
      refine (spec_biSome _ (za + zb) _ ((za + zb + 15) / 16) _ _ (by omega) rfl (brow_cat HO8.out)).mono ?_; rintro e w9 ⟨g9, rfl, hg9, ho9, hb9⟩
      have hsz9 := hb9.size
      have H9 := Lib.hid (H8.out.lowB hlt (hb9.mono H8.out.2.size))
      have HX9 := Lib.hid (HX8.out.b hb9)
      have HB9 := Lib.hid (HB8.out.b hb9)
      have HW9 := Lib.hid ho9
      clear ho9 hb9 H8 HX8 HB8 HO8
      have b0 := HB9.out.cell 0 _ rfl
      have b1 := HB9.out.cell 1 _ rfl
      have q0 := HB9.out.free 0
      have q1 := HB9.out.free 1
      go_wp2_with fail
      go_meet
      refine ⟨za + zb, (za + zb + 15) / 16, g9, _, by omega, Lib.hid rfl, Lib.hid (good_of_words (f := fun i => decide (i < za + zb) && (if i < za then bitN (wdR Xa) i else bitN (wdR Xb) (i - za))) (by omega) rfl (fun i hi => by simp only [show ¬ i < za + zb by omega, decide_false, Bool.false_and])), Lib.hid (((H9.out.set (r := w1.heap.size) hlt (by omega) _).set (r := w1.heap.size) hlt (by omega) _).low (by omega)), Lib.hid (nbx_other (nbx_other HX9.out (r := w1.heap.size) (by omega) _ _) (r := w1.heap.size) (by omega) _ _), ?_, ?_, by simp; omega⟩
      · have := (HB9.out.set 0 (.int .i64 (((za + zb : Nat)) : Int))).set 1 (.slice (some ⟨g9, 0, none⟩) ((za + zb + 15) / 16) ((za + zb + 15) / 16))
        exact Lib.hid (by simpa using this)
      · exact Lib.hid (owned (ow_of_own (F := intV _) ((HW9.out.setAt (by omega) _).setAt (by omega) _) (by omega) (Nat.le_refl _)))
  case rest =>
  obtain ⟨z, m, gB, X, hz70, HM2, HG2, H2, HX2, HB2, HO2, hsz2⟩ := hcut
  clear b0 b1 q0 q1
  have b0 := HB2.out.cell 0 _ rfl
  have b1 := HB2.out.cell 1 _ rfl
  obtain ⟨s, hs⟩ : ∃ s : Nat, s = (z + 63) / 64 := ⟨_, rfl⟩
  have HS := Lib.hid hs
  have hms : 0 < m ↔ 0 < s := by have := HM2.out; omega
  have hs2 : s ≤ 64 := by omega
  have hm2 : m ≤ 256 := by have := HM2.out; omega
  have HMS := Lib.hid hms
  have hloW : w.heap.size + 1 ≤ wc.heap.size := by omega
  clear hs hms
  go_wp2_with fail
  refine (spec_raOf_own z s (some ⟨gB, 0, none⟩) m m X _ (by omega) (irow HO2.out.orow) HG2.out HS.out).mono ?_; rintro e w5 ⟨A1, d1, A2, d2, A3, d3, L, rfl, hL1, hL2, o1, hl1, o2, o3, hap, hb⟩
  have hsz5 := hb.size
  have RW5 := Lib.hid ((rw_new HMS.out hL1 o1 hl1 o2 o3 hap).b ((Below.refl w5.heap.size w5).alloc (Nat.le_refl _) (.cells (rkC z A1 m d1 A2 s d2 A3 m d3) 28)) (Nat.le_refl _))
  have H5 := Lib.hid ((H2.out.lowB hlt (hb.mono H2.out.2.size)).alloc (.cells (rkC z A1 m d1 A2 s d2 A3 m d3) 28))
  have HX5 := Lib.hid ((HX2.out.b hb).at1 (.cells (rkC z A1 m d1 A2 s d2 A3 m d3) 28))
  have HQ5 := Lib.hid (NBX.mk0 w5 (rkC z A1 m d1 A2 s d2 A3 m d3) 28)
  have O5 := Lib.hid (owned_b o3 ((Below.refl w5.heap.size w5).alloc (Nat.le_refl _) (.cells (rkC z A1 m d1 A2 s d2 A3 m d3) 28)))
  have LT3 := Lib.hid (show ∀ g, ob A3 m d3 = some g → L ≤ g ∧ g < w5.heap.size from fun g hg => ⟨(o3.lt g hg).1, (o3.lt g hg).2⟩)
  clear hb o1 hl1 o2 o3 hap H2 HX2 HO2
  go_wp2_with fail
  refine (cur_pick H5.out.1 (by omega) hn).mono ?_; rintro e w6 ⟨x, x0, x1, rfl, hd⟩
  have H6 := Lib.hid (H5.out.trans hd)
  have HX6 := Lib.hid (HX5.out.only hd.2 (by omega))
  have HQ6 := Lib.hid (HQ5.out.only hd.2 (by omega))
  have hsz6 := hd.2.size
  simp only [World.size_alloc] at hsz6
  have RW6 := Lib.hid (RW5.out.only hd.2 (by omega) (by simp))
  have O6 := Lib.hid (owned_only O5.out hd.2 (by omega))
  clear hd H5 HX5 HQ5 RW5 O5
  go_upto_block 0 with fail
  go_cut [] from 23 to 72 (fun wx => ∃ (z' : Int) (B1 : Option Addr) (m1 e1 : Nat) (X1 : Nat → Int) (B2 : Option Addr) (s1 e2 : Nat) (Y1 : Nat → Int) (B3 : Option Addr) (p1 e3 : Nat) (Z1 : Nat → Int), -1 ≤ z' ∧ z' ≤ 4096 ∧ m1 ≤ 257 ∧ s1 ≤ 257 ∧ p1 ≤ 258 ∧ Hid (Drawn b A n c (k + 1150) D w wx) ∧ Hid (NBX w.heap.size w.heap.size (rkC 0 none 0 0 none 0 0 none 0 0) 28 wx) ∧ Hid (NBX w5.heap.size w5.heap.size (rkC z' B1 m1 e1 B2 s1 e2 B3 p1 e3) 28 wx) ∧
    ∃ l1 h1 l2 h2 l3 h3 : Nat, w.heap.size + 1 ≤ l1 ∧ w.heap.size + 1 ≤ l2 ∧ w.heap.size + 1 ≤ l3 ∧ Hid (At l1 h1 (Ow l1 h1 3 B1 m1 (intV X1)) wx) ∧ Hid (At l2 h2 (Ow l2 h2 3 B2 s1 (intV Y1)) wx) ∧ Hid (At l3 h3 (Ow l3 h3 3 B3 p1 (intV Z1)) wx))
  case rest =>
    obtain ⟨z', B1, m1, e1', X1, B2, s1, e2', Y1, B3, p1, e3', Z1, q1, q2, q3, q4, q5, H9, HX9, HQ9, l1, h1, l2, h2, l3, h3, v1, v2, v3, K19, K29, K39⟩ := hcut
    have c0 := HQ9.out.cell 0 _ rfl
    have e0 := HX9.out.cell 0 _ rfl
    have f0 := HX9.out.free 0
    have c1 := HQ9.out.cell 1 _ rfl
    have e1 := HX9.out.cell 1 _ rfl
    have f1 := HX9.out.free 1
    have c2 := HQ9.out.cell 2 _ rfl
    have e2 := HX9.out.cell 2 _ rfl
    have f2 := HX9.out.free 2
    have c3 := HQ9.out.cell 3 _ rfl
    have e3 := HX9.out.cell 3 _ rfl
    have f3 := HX9.out.free 3
    go_wp2_with fail
    have N9 := Lib.hid ((((HX9.out.set 0 (.int .i64 z')).set 1 (.slice B1 m1 e1')).set 2 (.slice B2 s1 e2')).set 3 (.slice B3 p1 e3'))
    clear c0 c1 c2 c3 e0 e1 e2 e3 f0 f1 f2 f3
    have r0 := N9.out.cell 0 (.int .i64 z') (by simp)
    have r1 := N9.out.cell 1 (.slice B1 m1 e1') (by simp)
    have r2 := N9.out.cell 2 (.slice B2 s1 e2') (by simp)
    have r3 := N9.out.cell 3 (.slice B3 p1 e3') (by simp)
    refine bodyPost_ret (v := .agg #[.int .i64 z', .slice B1 m1 e1', .slice B2 s1 e2', .slice B3 p1 e3']) (by simp [results, Try.results14, go_sem, r0, r1, r2, r3]) rfl ?_
    have k1 := ((((K19.out).setD (q := w.heap.size) (.inr (by omega)) 0 (.int .i64 z')).setD (q := w.heap.size) (.inr (by omega)) 1 (.slice B1 m1 e1')).setD (q := w.heap.size) (.inr (by omega)) 2 (.slice B2 s1 e2')).setD (q := w.heap.size) (.inr (by omega)) 3 (.slice B3 p1 e3')
    have k2 := ((((K29.out).setD (q := w.heap.size) (.inr (by omega)) 0 (.int .i64 z')).setD (q := w.heap.size) (.inr (by omega)) 1 (.slice B1 m1 e1')).setD (q := w.heap.size) (.inr (by omega)) 2 (.slice B2 s1 e2')).setD (q := w.heap.size) (.inr (by omega)) 3 (.slice B3 p1 e3')
    have k3 := ((((K39.out).setD (q := w.heap.size) (.inr (by omega)) 0 (.int .i64 z')).setD (q := w.heap.size) (.inr (by omega)) 1 (.slice B1 m1 e1')).setD (q := w.heap.size) (.inr (by omega)) 2 (.slice B2 s1 e2')).setD (q := w.heap.size) (.inr (by omega)) 3 (.slice B3 p1 e3')
    exact ⟨_, B1, m1, e1', _, B2, s1, e2', _, B3, p1, e3', _, by omega, by omega, by omega, by omega, by omega, rfl, k1.now.mono (by omega) k1.top, k2.now.mono (by omega) k2.top, k3.now.mono (by omega) k3.top, ((((H9.out.set (r := w.heap.size) (i := 0) hlt (Nat.le_refl _) (.int .i64 z')).set (r := w.heap.size) (i := 1) hlt (Nat.le_refl _) (.slice B1 m1 e1')).set (r := w.heap.size) (i := 2) hlt (Nat.le_refl _) (.slice B2 s1 e2')).set (r := w.heap.size) (i := 3) hlt (Nat.le_refl _) (.slice B3 p1 e3')).low (by omega)⟩
  case first =>
    have c0 := HQ6.out.cell 0 _ rfl
    have c1 := HQ6.out.cell 1 _ rfl
    have c2 := HQ6.out.cell 2 _ rfl
    have c3 := HQ6.out.cell 3 _ rfl
    by_cases e_0 : x = 0
    · subst e_0
      by_cases hp : 0 < s
      · have hp2 : decide ((s : Int) > 0) = true := by simp; omega
        have hm0 : 0 < m := by first | exact hp | exact HMS.out.2 hp
        rcases RW6.out with hz | ⟨g1, g2, g3, rfl, rfl, rfl, l1, u1, l2, u2, l3, u3, n1, n2, n3, r1, r2, r3⟩
        · omega
        have hp3 : (0 : Int) < (s : Int) := by omega
        have R61 := Lib.hid r1
        have R62 := Lib.hid r2
        have R63 := Lib.hid r3
        have H6D := Lib.hid H6.out.1.drew
        clear r1 r2 r3 RW6
        go_upto_region 8 with fail
        go_region_with (first
            | (have hz := R71; clear hz; go_at_call 32; refine (cur_pick H7.out.1 (by omega) hn).mono ?_; rintro e w8 ⟨t, t0, t1, rfl, hd⟩; have H8 := Lib.hid (H7.out.trans hd); have HX8 := Lib.hid (HX7.out.only hd.2 (by omega)); have HQ8 := Lib.hid (HQ7.out.only hd.2 (by omega)); have R81 := Lib.hid (R71.out.of_block (hd.2.block g1 (by omega) (.inr (by omega)))); have R82 := Lib.hid (R72.out.of_block (hd.2.block g2 (by omega) (.inr (by omega)))); have R83 := Lib.hid (R73.out.of_block (hd.2.block g3 (by omega) (.inr (by omega)))); have el8 := R82.out.cell hyn; have fr8 := R82.out.frozen yn; have a80 := HQ8.out.cell 0 _ rfl; have a81 := HQ8.out.cell 1 _ rfl; have a82 := HQ8.out.cell 2 _ rfl; have a83 := HQ8.out.cell 3 _ rfl; clear hd)
            | (go_at_call 32; (first | refine (cur_pick H6.out.1 (by omega) hn).mono ?_ | refine (cur_pick H6D.out (by omega) hn).mono ?_); rintro e w7 ⟨y, y0, y1, rfl, hd'⟩; have hd := undrew hd'; have hyl : y < (s : Int) := (by omega); obtain ⟨yn, rfl⟩ := Int.eq_ofNat_of_zero_le y0; have hyn : yn < s := (by omega); have H7 := Lib.hid (H6.out.trans hd); have HX7 := Lib.hid (HX6.out.only hd.2 (by omega)); have HQ7 := Lib.hid (HQ6.out.only hd.2 (by omega)); have hsz7 := hd.2.size; have R71 := Lib.hid (R61.out.of_block (hd.2.block g1 (by omega) (.inr (by omega)))); have R72 := Lib.hid (R62.out.of_block (hd.2.block g2 (by omega) (.inr (by omega)))); have R73 := Lib.hid (R63.out.of_block (hd.2.block g3 (by omega) (.inr (by omega)))); have el7 := R72.out.cell hyn; have fr7 := R72.out.frozen yn; have a70 := HQ7.out.cell 0 _ rfl; have a71 := HQ7.out.cell 1 _ rfl; have a72 := HQ7.out.cell 2 _ rfl; have a73 := HQ7.out.cell 3 _ rfl; clear hd hd'))
        all_goals
          have HX9 := Lib.hid (nbx_other HX8.out (r := g2) (by omega) yn (.int .i64 (IntKind.i64.wrap (supI (wdR X) yn + IntKind.i64.wrap (t - 1)))))
          have HQ9 := Lib.hid (nbx_other HQ8.out (r := g2) (by omega) yn (.int .i64 (IntKind.i64.wrap (supI (wdR X) yn + IntKind.i64.wrap (t - 1)))))
          have H9 := Lib.hid (H8.out.set (r := g2) (i := yn) hlt (by omega) (.int .i64 (IntKind.i64.wrap (supI (wdR X) yn + IntKind.i64.wrap (t - 1)))))
          have R91 := Lib.hid (R81.out.setAt (b := g2) (o := yn) (by omega) (.int .i64 (IntKind.i64.wrap (supI (wdR X) yn + IntKind.i64.wrap (t - 1)))))
          have R92 := Lib.hid (R82.out.set yn (IntKind.i64.wrap (supI (wdR X) yn + IntKind.i64.wrap (t - 1))))
          have R93 := Lib.hid (R83.out.setAt (b := g2) (o := yn) (by omega) (.int .i64 (IntKind.i64.wrap (supI (wdR X) yn + IntKind.i64.wrap (t - 1)))))
          try clear a70 a71 a72 a73
          try clear a80 a81 a82 a83 el8 fr8 el7 fr7
          try clear c0 c1 c2 c3
          clear H8 HX8 HQ8 R81 R82 R83
          have hw9 : w8.heap.size = (w8.setCell ⟨g2, yn, none⟩ (.int .i64 (IntKind.i64.wrap (supI (wdR X) yn + IntKind.i64.wrap (t - 1))))).heap.size := by simp
          generalize w8.setCell ⟨g2, yn, none⟩ (.int .i64 (IntKind.i64.wrap (supI (wdR X) yn + IntKind.i64.wrap (t - 1)))) = w9 at *
          go_wp2_with fail
          go_meet
          exact ⟨_, (some ⟨g1, 0, none⟩), m, d1, _, (some ⟨g2, 0, none⟩), s, d2, _, (some ⟨g3, 0, none⟩), m, d3, _, by omega, by omega, by omega, by omega, by omega, Lib.hid (H9.out.low (by omega)), HX9, HQ9, _, _, _, _, _, _, by omega, by omega, by omega, Lib.hid (at_point R91.out), Lib.hid (at_point R92.out), Lib.hid (at_point R93.out)⟩
      · have hp2 : decide ((s : Int) > 0) = false := by simp; omega
        go_wp2_with fail
        go_meet
        exact ⟨_, A1, m, d1, _, A2, s, d2, _, A3, m, d3, _, by omega, by omega, by omega, by omega, by omega, Lib.hid (H6.out.low (by omega)), HX6, HQ6, _, _, _, _, _, _, by omega, by omega, by omega, Lib.hid (RW6.out.at1 (by omega)), Lib.hid (RW6.out.at2 (by omega)), Lib.hid (RW6.out.at3 (by omega))⟩
    by_cases e_1 : x = 1
    · subst e_1
      by_cases hp : 0 < m
      · have hp2 : decide ((m : Int) > 0) = true := by simp; omega
        have hm0 : 0 < m := by first | exact hp | exact HMS.out.2 hp
        rcases RW6.out with hz | ⟨g1, g2, g3, rfl, rfl, rfl, l1, u1, l2, u2, l3, u3, n1, n2, n3, r1, r2, r3⟩
        · omega
        have hp3 : (0 : Int) < (m : Int) := by omega
        have R61 := Lib.hid r1
        have R62 := Lib.hid r2
        have R63 := Lib.hid r3
        have H6D := Lib.hid H6.out.1.drew
        clear r1 r2 r3 RW6
        go_upto_region 11 with fail
        go_region_with (first
            | (have hz := R71; clear hz; go_at_call 32; refine (cur_pick H7.out.1 (by omega) hn).mono ?_; rintro e w8 ⟨t, t0, t1, rfl, hd⟩; have H8 := Lib.hid (H7.out.trans hd); have HX8 := Lib.hid (HX7.out.only hd.2 (by omega)); have HQ8 := Lib.hid (HQ7.out.only hd.2 (by omega)); have R81 := Lib.hid (R71.out.of_block (hd.2.block g1 (by omega) (.inr (by omega)))); have R82 := Lib.hid (R72.out.of_block (hd.2.block g2 (by omega) (.inr (by omega)))); have R83 := Lib.hid (R73.out.of_block (hd.2.block g3 (by omega) (.inr (by omega)))); have el8 := R83.out.cell hyn; have fr8 := R83.out.frozen yn; have a80 := HQ8.out.cell 0 _ rfl; have a81 := HQ8.out.cell 1 _ rfl; have a82 := HQ8.out.cell 2 _ rfl; have a83 := HQ8.out.cell 3 _ rfl; clear hd)
            | (go_at_call 32; (first | refine (cur_pick H6.out.1 (by omega) hn).mono ?_ | refine (cur_pick H6D.out (by omega) hn).mono ?_); rintro e w7 ⟨y, y0, y1, rfl, hd'⟩; have hd := undrew hd'; have hyl : y < (m : Int) := (by omega); obtain ⟨yn, rfl⟩ := Int.eq_ofNat_of_zero_le y0; have hyn : yn < m := (by omega); have H7 := Lib.hid (H6.out.trans hd); have HX7 := Lib.hid (HX6.out.only hd.2 (by omega)); have HQ7 := Lib.hid (HQ6.out.only hd.2 (by omega)); have hsz7 := hd.2.size; have R71 := Lib.hid (R61.out.of_block (hd.2.block g1 (by omega) (.inr (by omega)))); have R72 := Lib.hid (R62.out.of_block (hd.2.block g2 (by omega) (.inr (by omega)))); have R73 := Lib.hid (R63.out.of_block (hd.2.block g3 (by omega) (.inr (by omega)))); have el7 := R73.out.cell hyn; have fr7 := R73.out.frozen yn; have a70 := HQ7.out.cell 0 _ rfl; have a71 := HQ7.out.cell 1 _ rfl; have a72 := HQ7.out.cell 2 _ rfl; have a73 := HQ7.out.cell 3 _ rfl; clear hd hd'))
        all_goals
          have HX9 := Lib.hid (nbx_other HX8.out (r := g3) (by omega) yn (.int .i64 (IntKind.i64.wrap (blkI (wdR X) yn + IntKind.i64.wrap (t - 1)))))
          have HQ9 := Lib.hid (nbx_other HQ8.out (r := g3) (by omega) yn (.int .i64 (IntKind.i64.wrap (blkI (wdR X) yn + IntKind.i64.wrap (t - 1)))))
          have H9 := Lib.hid (H8.out.set (r := g3) (i := yn) hlt (by omega) (.int .i64 (IntKind.i64.wrap (blkI (wdR X) yn + IntKind.i64.wrap (t - 1)))))
          have R91 := Lib.hid (R81.out.setAt (b := g3) (o := yn) (by omega) (.int .i64 (IntKind.i64.wrap (blkI (wdR X) yn + IntKind.i64.wrap (t - 1)))))
          have R92 := Lib.hid (R82.out.setAt (b := g3) (o := yn) (by omega) (.int .i64 (IntKind.i64.wrap (blkI (wdR X) yn + IntKind.i64.wrap (t - 1)))))
          have R93 := Lib.hid (R83.out.set yn (IntKind.i64.wrap (blkI (wdR X) yn + IntKind.i64.wrap (t - 1))))
          try clear a70 a71 a72 a73
          try clear a80 a81 a82 a83 el8 fr8 el7 fr7
          try clear c0 c1 c2 c3
          clear H8 HX8 HQ8 R81 R82 R83
          have hw9 : w8.heap.size = (w8.setCell ⟨g3, yn, none⟩ (.int .i64 (IntKind.i64.wrap (blkI (wdR X) yn + IntKind.i64.wrap (t - 1))))).heap.size := by simp
          generalize w8.setCell ⟨g3, yn, none⟩ (.int .i64 (IntKind.i64.wrap (blkI (wdR X) yn + IntKind.i64.wrap (t - 1)))) = w9 at *
          go_wp2_with fail
          go_meet
          exact ⟨_, (some ⟨g1, 0, none⟩), m, d1, _, (some ⟨g2, 0, none⟩), s, d2, _, (some ⟨g3, 0, none⟩), m, d3, _, by omega, by omega, by omega, by omega, by omega, Lib.hid (H9.out.low (by omega)), HX9, HQ9, _, _, _, _, _, _, by omega, by omega, by omega, Lib.hid (at_point R91.out), Lib.hid (at_point R92.out), Lib.hid (at_point R93.out)⟩
      · have hp2 : decide ((m : Int) > 0) = false := by simp; omega
        go_wp2_with fail
        go_meet
        exact ⟨_, A1, m, d1, _, A2, s, d2, _, A3, m, d3, _, by omega, by omega, by omega, by omega, by omega, Lib.hid (H6.out.low (by omega)), HX6, HQ6, _, _, _, _, _, _, by omega, by omega, by omega, Lib.hid (RW6.out.at1 (by omega)), Lib.hid (RW6.out.at2 (by omega)), Lib.hid (RW6.out.at3 (by omega))⟩
    by_cases e_2 : x = 2
    · subst e_2
      have HC6 := Lib.hid (own_same (G := intV (fun i => if i < m then blkI (wdR X) i else 0)) O6.out (fun i hi => by unfold intV; simp only [hi, if_true]))
      have f3 := HQ6.out.free 3
      have hL6 : L ≤ w6.heap.size := by omega
      go_wp2_with (at_builtin; refine wpList_push_grown rfl _ _ 24 rfl L 3 (.int .i64 0) 8 Try.underlying24 infoI rfl A3 m d3 (intV (fun i => if i < m then blkI (wdR X) i else 0)) (.int .i64 0) w6 rfl HC6.out rfl (by unfold intV; simp) rfl (by omega) (by omega) hL6 ?_)
      intro A' c' w7 hown hg
      have hbl := ((Below.refl L w6).alloc hL6 (.cells #[.int .i64 0] 3)).grown hg (by simp; omega) (fun g hg => (HC6.out.lt g hg).1)
      have hsz7 := hbl.size
      have RW6a := RW6.out.b ((Below.refl w6.heap.size w6).alloc (Nat.le_refl _) (.cells #[.int .i64 0] 3)) (by omega)
      obtain ⟨k1', k2'⟩ := RW6a.grow3 hg (RW6a.at1 (by simp; omega)) (RW6a.at2 (by simp; omega))
      have hne : ∀ q, (∀ g, ob A3 m d3 = some g → g ≠ q) → some q ≠ ob A3 m d3 := fun q h e => h q e.symm rfl
      have HQ7 := Lib.hid (show NBX w5.heap.size w5.heap.size (rkC z A1 m d1 A2 s d2 A3 m d3) 28 w7 from ⟨(hg.block _ (by simp; omega) (hne _ (fun g hg => by have := LT3.out g hg; omega))).trans (HQ6.out.at1 _).blk, Nat.le_refl _⟩)
      have HX7 := Lib.hid (HX6.out.low hbl (by omega))
      have H7 := Lib.hid (H6.out.lowB hlt (hbl.mono (by omega)))
      obtain hz0 | ⟨g', rfl, _, ho'⟩ := owned_vec hown
      · omega
      have hgq : g' ≠ w5.heap.size := orow_ne (X := fun i => if i < m then blkI (wdR X) i else 0) ho' HQ7.out
      have HV7 := Lib.hid (show ORow w7 g' (m + 1) (fun i => if i < m then blkI (wdR X) i else 0) from ho')
      have K17 := Lib.hid k1'
      have K27 := Lib.hid k2'
      clear hown hg hbl RW6a k1' k2' hne ho' c0 c1 c2 c3 f3 HQ6 HX6 H6 HC6
      have c3 := HQ7.out.cell 3 _ rfl
      have f3 := HQ7.out.free 3
      go_wp2_with fail
      have H8 := Lib.hid (H7.out.set (r := w5.heap.size) (i := 3) hlt (by omega) (.slice (some ⟨g', 0, none⟩) (m + 1) c'))
      have HX8 := Lib.hid (nbx_other HX7.out (r := w5.heap.size) (by omega) 3 (.slice (some ⟨g', 0, none⟩) (m + 1) c'))
      have HQ8 := Lib.hid (show NBX w5.heap.size w5.heap.size (rkC z A1 m d1 A2 s d2 (some ⟨g', 0, none⟩) (m + 1) c') 28 (w7.setCell ⟨w5.heap.size, 3, none⟩ (.slice (some ⟨g', 0, none⟩) (m + 1) c')) from by simpa using HQ7.out.set 3 (.slice (some ⟨g', 0, none⟩) (m + 1) c'))
      have K18 := Lib.hid (K17.out.setD (q := w5.heap.size) (.inl (Nat.le_refl _)) 3 (.slice (some ⟨g', 0, none⟩) (m + 1) c'))
      have K28 := Lib.hid (K27.out.setD (q := w5.heap.size) (.inl (Nat.le_refl _)) 3 (.slice (some ⟨g', 0, none⟩) (m + 1) c'))
      have K38 := Lib.hid ((at_point HV7.out).setD (q := w5.heap.size) (by omega) 3 (.slice (some ⟨g', 0, none⟩) (m + 1) c'))
      have hL8 : L ≤ g' := by omega
      clear H7 HX7 HQ7 K17 K27 HV7 c3 f3
      generalize w7.setCell ⟨w5.heap.size, 3, none⟩ (.slice (some ⟨g', 0, none⟩) (m + 1) c') = w8 at *
      go_wp2_with fail
      go_meet
      exact ⟨_, A1, m, d1, _, A2, s, d2, _, (some ⟨g', 0, none⟩), (m + 1), c', _, by omega, by omega, by omega, by omega, by omega, Lib.hid (H8.out.low (by omega)), HX8, HQ8, _, _, _, _, _, _, by omega, by omega, by omega, Lib.hid (K18.out), Lib.hid (K28.out), Lib.hid (K38.out)⟩
    by_cases e_3 : x = 3
    · subst e_3
      clear O6
      go_wp2_with fail
      refine (cur_anyBits H6.out.1 (by omega) hn).mono ?_; rintro e w7 ⟨z', m', d', B', X', z0', z1', hm', hmd', hdm', rfl, ho, hd⟩
      have hsz7 := hd.2.size
      have H7 := Lib.hid (H6.out.trans hd)
      have HX7 := Lib.hid (HX6.out.only hd.2 (by omega))
      have HQ7 := Lib.hid (HQ6.out.only hd.2 (by omega))
      have RW7 := Lib.hid (RW6.out.only hd.2 (by omega) (by omega))
      have HO7 := Lib.hid (owned ho)
      clear hd ho H6 HX6 HQ6 RW6 c0 c1 c2 c3
      have c0 := HQ7.out.cell 0 _ rfl
      have c1 := HQ7.out.cell 1 _ rfl
      have f0 := HQ7.out.free 0
      have f1 := HQ7.out.free 1
      go_wp2_with fail
      have H8 := Lib.hid ((H7.out.set (r := w5.heap.size) (i := 0) hlt (by omega) (.int .i64 z')).set (r := w5.heap.size) (i := 1) hlt (by omega) (.slice B' m' d'))
      have HX8 := Lib.hid (nbx_other (nbx_other HX7.out (r := w5.heap.size) (by omega) 0 (.int .i64 z')) (r := w5.heap.size) (by omega) 1 (.slice B' m' d'))
      have HQ8 := Lib.hid (show NBX w5.heap.size w5.heap.size (rkC z' B' m' d' A2 s d2 A3 m d3) 28 ((w7.setCell ⟨w5.heap.size, 0, none⟩ (.int .i64 z')).setCell ⟨w5.heap.size, 1, none⟩ (.slice B' m' d')) from by simpa using (HQ7.out.set 0 (.int .i64 z')).set 1 (.slice B' m' d'))
      have K18 := Lib.hid ((HO7.out.setD (q := w5.heap.size) (.inr (by omega)) 0 (.int .i64 z')).setD (q := w5.heap.size) (.inr (by omega)) 1 (.slice B' m' d'))
      have K28 := Lib.hid (((RW7.out.at2 (by omega)).setD (q := w5.heap.size) (.inl (Nat.le_refl _)) 0 (.int .i64 z')).setD (q := w5.heap.size) (.inl (Nat.le_refl _)) 1 (.slice B' m' d'))
      have K38 := Lib.hid (((RW7.out.at3 (by omega)).setD (q := w5.heap.size) (.inl (Nat.le_refl _)) 0 (.int .i64 z')).setD (q := w5.heap.size) (.inl (Nat.le_refl _)) 1 (.slice B' m' d'))
      clear H7 HX7 HQ7 RW7 HO7 c0 c1 f0 f1
      generalize (w7.setCell ⟨w5.heap.size, 0, none⟩ (.int .i64 z')).setCell ⟨w5.heap.size, 1, none⟩ (.slice B' m' d') = w8 at *
      go_wp2_with fail
      go_meet
      exact ⟨_, B', m', d', _, A2, s, d2, _, A3, m, d3, _, by omega, by omega, by omega, by omega, by omega, Lib.hid (H8.out.low (by omega)), HX8, HQ8, _, _, _, _, _, _, by omega, by omega, by omega, Lib.hid (K18.out), Lib.hid (K28.out), Lib.hid (K38.out)⟩
    have x_0 : (x == 0) = false := by simpa using e_0
    have x_1 : (x == 1) = false := by simpa using e_1
    have x_2 : (x == 2) = false := by simpa using e_2
    have x_3 : (x == 3) = false := by simpa using e_3
    clear c0 c1 c2 c3 O6
    go_wp2_with fail
    go_meet
    exact ⟨_, A1, m, d1, _, A2, s, d2, _, A3, m, d3, _, by omega, by omega, by omega, by omega, by omega, Lib.hid (H6.out.low (by omega)), HX6, HQ6, _, _, _, _, _, _, by omega, by omega, by omega, Lib.hid (RW6.out.at1 (by omega)), Lib.hid (RW6.out.at2 (by omega)), Lib.hid (RW6.out.at3 (by omega))⟩
end Go.Proofs.Ytpmedeefoaoabaa
