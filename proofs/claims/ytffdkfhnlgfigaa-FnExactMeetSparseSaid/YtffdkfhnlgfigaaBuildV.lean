/- BuildSparse: the model builds the Sparse of sorted numbers. -/
import Derived.Test.YtffdkfhnlgfigaaBuildU
namespace Go.Proofs.Ytffdkfhnlgfigaa
open Go.RowKit

set_option maxRecDepth 100000 in
set_option maxHeartbeats 1000000 in
/-- biPut into a list of bools that begins a block of its own. -/
theorem biPut_row (g n c a width v : Nat) (F : Nat → Bool) (w : World) (hn : n ≤ 4096) (hv : v < 16777216) (haw : a + width ≤ n) (hw : width ≤ 24) (hr : ORowB w g n F) :
    Calls Try.prog 124 #[.slice (some ⟨g, 0, none⟩) n c, .int .i64 a, .int .i64 width, .int .i64 v] w fun e w' => e = .returned (.tuple #[]) ∧ ORowB w' g n (fun i => if a ≤ i ∧ i < a + width then v.testBit (i - a) else F i) ∧ Only g (g + 1) w w' := by
  have HR := Lib.hid hr
  clear hr
  go_enter Try.func124, Try.ntmps124
  go_wp2_with fail
  go_loopw [8] (fun i wr => ∃ j : Nat, j ≤ width ∧ i = .int .i64 j ∧ ORowB wr g n (fun i => if a ≤ i ∧ i < a + j then v.testBit (i - a) else F i) ∧ Only g (g + 1) w wr) (fun i _ => width - (intOf i).toNat)
  case atStart => exact ⟨0, Nat.zero_le _, rfl, HR.out.congr (fun i _ => by rw [if_neg (by omega)]), Only.refl _ _ _⟩
  case round =>
    obtain ⟨j, hj, rfl, ho, hb⟩ := hrel
    by_cases hlt : j < width
    · have hx := ho.cell (i := a + j) (by omega)
      have hf := ho.frozen (a + j)
      have h1 : ((a : Int) + j).toNat = a + j := by omega
      have h2 : (a : Int) + j < n := by omega
      have hv1 := Lib.hid (bit_and_one' v j (by omega))
      have HO := Lib.hid ho
      have HB := Lib.hid hb
      clear ho hb
      go_wp2_with fail
      rw [hv1.out]
      go_roundw
      case rel =>
        refine ⟨j + 1, by omega, by go_num, (HO.out.set (a + j) (v.testBit j)).congr (fun i _ => ?_), HB.out.trans (only_set _ _ _ _)⟩
        by_cases e : i = a + j
        · subst e
          rw [if_pos rfl, if_pos (by omega), show a + j - a = j by omega]
        · rw [if_neg e]
          by_cases e2 : a ≤ i ∧ i < a + j
          · rw [if_pos e2, if_pos (by omega)]
          · rw [if_neg e2, if_neg (by omega)]
      case measure => simp [intOf]; omega
    · obtain rfl : j = width := by omega
      have HO := Lib.hid ho
      have HB := Lib.hid hb
      clear ho hb
      go_wp2_with fail
      go_end0
      exact ⟨rfl, HO.out, HB.out⟩

/-- A Sparse of the call's own as answer. -/
def SpOne (z0 z1 z2 z3 : Int) (n1 : Nat) (X1 : Nat → Int) (z4 : Int) (n2 : Nat) (X2 : Nat → Int) (w : World) (e : Ending) (w' : World) : Prop :=
  ∃ A1 c1 A2 c2, e = .returned (.agg (spC z0 z1 z2 z3 A1 n1 c1 z4 A2 n2 c2)) ∧ Ow w.heap.size w'.heap.size 3 A1 n1 (intV X1) w' ∧ Ow w.heap.size w'.heap.size 3 A2 n2 (intV X2) w' ∧ Apart n1 A1 n2 A2 ∧ Below w.heap.size w w'
theorem ORowB.made (w : World) (n : Nat) : ORowB (w.alloc (.cells (madeCells #[.bool false] n) 4)) w.heap.size n (fun _ => false) :=
  ⟨_, Go.Deep.blk_alloc_new _ _, by simp [madeCells], fun i hi => by simp [madeCells, hi, Nat.mod_one]⟩
theorem ORowB.same {w w' : World} {g n : Nat} {F : Nat → Bool} (h : ORowB w g n F) {l k : Nat} (ho : Only l k w w') (hd : g < l ∨ k ≤ g) : ORowB w' g n F := h.of_block (ho.block g h.lt hd)
theorem put_lowB {f : Nat → Nat} {w k R : Nat} (hR : R = f k % 2 ^ w) (i : Nat) : (if k * w ≤ i ∧ i < k * w + w then R.testBit (i - k * w) else lowB f w k i) = lowB f w (k + 1) i := by rw [lowB_succ, hR]
theorem put_highB {f : Nat → Nat} {w k D : Nat} (hD : D = f k / 2 ^ w) (i : Nat) : (if i = D + k then true else highB f w k i) = highB f w (k + 1) i := by
  rw [highB_succ, ← hD]
  by_cases e : i = D + k
  · subst e; simp
  · have e2 : (D + k == i) = false := by simp; omega
    rw [if_neg e, e2]; simp

/-- What spOf of the model holds. -/
structure SL2 (w : World) (zl zh : Nat) (Fl Fh : Nat → Bool) (wr : World) : Prop where
  below : Below w.heap.size w wr
  res : NBX w.heap.size w.heap.size (spC 0 0 0 0 none 0 0 0 none 0 0) 32 wr
  low : ORowB wr (w.heap.size + 1) zl Fl
  high : ORowB wr (w.heap.size + 1 + 1) zh Fh
section
variable {w wr wj : World} {zl zh : Nat} {Fl Fh F' : Nat → Bool}
theorem SL2.setLow (x : SL2 w zl zh Fl Fh wr) (v : ORowB wj (w.heap.size + 1) zl F') (ho : Only (w.heap.size + 1) (w.heap.size + 1 + 1) wr wj) : SL2 w zl zh F' Fh wj :=
  ⟨x.below.trans (ho.below x.below.size (by omega)), x.res.far ho (by omega), v, x.high.same ho (by omega)⟩
theorem SL2.setHigh (x : SL2 w zl zh Fl Fh wr) (v : ORowB wj (w.heap.size + 1 + 1) zh F') (ho : Only (w.heap.size + 1 + 1) (w.heap.size + 1 + 1 + 1) wr wj) : SL2 w zl zh Fl F' wj :=
  ⟨x.below.trans (ho.below x.below.size (by omega)), x.res.far ho (by omega), x.low.same ho (by omega), v⟩
theorem SL2.b (x : SL2 w zl zh Fl Fh wr) (hb : Below wr.heap.size wr wj) : SL2 w zl zh Fl Fh wj :=
  ⟨x.below.trans (hb.mono x.below.size), x.res.b hb, x.low.b hb, x.high.b hb⟩
end
theorem low_cut {f : Nat → Nat} {w c : Nat} : wordsOf (fun i => decide (i < c * w) && lowB f w c i) = wordsOf (lowB f w c) := by
  congr 1; funext i; unfold lowB; by_cases h : i < c * w <;> simp [h]
theorem high_cut {c L w : Nat} {f : Nat → Nat} (h : SpN c L w f) : wordsOf (fun i => decide (i < hzN c L w) && highB f w c i) = wordsOf (highB f w c) := by
  congr 1; funext i
  by_cases hi : i < hzN c L w
  · simp [hi]
  · rw [h.high_off (by omega)]; simp

set_option maxRecDepth 100000 in
set_option maxHeartbeats 4000000 in
theorem spec_spOf (A : Option Addr) (c d L v : Nat) (f : Nat → Nat) (w : World) (h : SpN c L v f) (hr : IRow w A c (numI f)) (nl nh : Nat) (hnl : nl = (c * v + 15) / 16) (hnh : nh = (hzN c L v + 15) / 16) :
    Calls Try.prog 105 #[.slice A c d, .int .i64 L] w (SpOne c L v (c * v : Nat) nl (fun i => (wordsOf (lowB f v c) i : Int)) (hzN c L v : Nat) nh (fun i => (wordsOf (highB f v c) i : Int)) w) := by
  have HR := Lib.hid hr
  have HS := Lib.hid h
  have hc := h.hc
  have hL1 := h.h1
  have hL := h.hL
  have hv := h.width
  have hlow := h.lows
  have hhigh := h.high
  have HNL := Lib.hid hnl
  have HNH := Lib.hid hnh
  have HCH := Lib.hid (high_cut h)
  have hq1 := pow_div (L - 1) v
  rw [show ((L - 1 : Nat) : Int) = (L : Int) - 1 by omega] at hq1
  obtain ⟨Q, hQ⟩ : ∃ Q, Q = (L - 1) / 2 ^ v := ⟨_, rfl⟩
  rw [← hQ] at hq1
  have hzq : hzN c L v = c + Q + 1 := by rw [hQ]; rfl
  obtain ⟨zh, hzh⟩ : ∃ zh, zh = hzN c L v := ⟨_, rfl⟩
  obtain ⟨zl, hzl⟩ : ∃ zl, zl = c * v := ⟨_, rfl⟩
  have hzl' : (c : Int) * (v : Int) = (zl : Int) := by rw [hzl]; push_cast; rfl
  have hzh' : (c : Int) + (Q : Int) + 1 = (zh : Int) := by omega
  rw [← hzh] at hnh hhigh ⊢
  rw [← hzl] at hnl hlow ⊢
  have HZH := Lib.hid hzh
  have HZL := Lib.hid hzl
  have HZHI := Lib.hid hzh'
  have HZLI := Lib.hid hzl'
  have HQI := Lib.hid hq1
  have HNL2 := Lib.hid hnl
  have HNH2 := Lib.hid hnh
  have hmk1 := fun W => run_make_row' (P := Try.prog) 38 4 (.bool false) 1 Try.underlying38 infoB rfl .i64 .i64 zl (by omega) (by omega) W
  have hmk2 := fun W => run_make_row' (P := Try.prog) 38 4 (.bool false) 1 Try.underlying38 infoB rfl .i64 .i64 zh (by omega) (by omega) W
  clear hr h hnl hnh hQ hzq hzh hzl
  have B0 := (Below.refl w.heap.size w).alloc (Nat.le_refl _) (.cells (spC 0 0 0 0 none 0 0 0 none 0 0) 32)
  have S0 : SL2 w zl zh (fun _ => false) (fun _ => false) (((w.alloc (.cells (spC 0 0 0 0 none 0 0 0 none 0 0) 32)).alloc (.cells (madeCells #[.bool false] zl) 4)).alloc (.cells (madeCells #[.bool false] zh) 4)) := by
    have o1 := ORowB.made (w.alloc (.cells (spC 0 0 0 0 none 0 0 0 none 0 0) 32)) zl
    have o2 := ORowB.made ((w.alloc (.cells (spC 0 0 0 0 none 0 0 0 none 0 0) 32)).alloc (.cells (madeCells #[.bool false] zl) 4)) zh
    simp only [World.size_alloc] at o1 o2
    exact ⟨(B0.alloc (by simp) _).alloc (by simp; omega) _, NBX.b (NBX.b ⟨Go.Deep.blk_alloc_new _ _, Nat.le_refl _⟩ ((Below.refl _ _).alloc (Nat.le_refl _) _)) ((Below.refl _ _).alloc (Nat.le_refl _) _), o1.b ((Below.refl _ _).alloc (Nat.le_refl _) _), o2⟩
  have HS0 := Lib.hid S0
  clear S0 B0
  go_enter Try.func105, Try.ntmps105
  go_wp2_with fail
  refine (spec_spWidth c L v _ hc hL HS.out.wd).mono ?_; rintro e w' ⟨rfl, rfl⟩
  go_wp2_with fail
  clear hzl' hzh' hq1 hmk1 hmk2
  go_loopw [30] (fun i wr => ∃ (k : Nat), k ≤ c ∧ i = .int .i64 k ∧ SL2 w zl zh (lowB f v k) (highB f v k) wr) (fun i _ => c - (intOf i).toNat)
  case atStart => exact ⟨0, Nat.zero_le _, rfl, ⟨HS0.out.below, HS0.out.res, HS0.out.low.congr (fun i _ => (lowB_zero _ _ _).symm), HS0.out.high.congr (fun i _ => (highB_zero _ _ _).symm)⟩⟩
  case round =>
    obtain ⟨k, hk, rfl, hb0⟩ := hrel
    have B0 := Lib.hid hb0
    clear hb0 HS0
    by_cases hlt : k < c
    · obtain ⟨b, off, rfl, hbl, hx⟩ := (HR.out.b B0.out.below) (by omega)
      have hxk := hx k hlt
      unfold numI at hxk
      have hfL := HS.out.low k hlt
      have hD := pow_div (f k) v
      obtain ⟨D, eD⟩ : ∃ D, D = f k / 2 ^ v := ⟨_, rfl⟩
      obtain ⟨R, eR⟩ : ∃ R, R = f k % 2 ^ v := ⟨_, rfl⟩
      have hR : (f k : Int) % 2 ^ v = (R : Int) := by rw [eR]; push_cast; rfl
      have hRlt : R < 2 ^ v := by rw [eR]; exact Nat.mod_lt _ (Nat.pow_pos (by omega))
      have hp16 : 2 ^ v ≤ 2 ^ 16 := Nat.pow_le_pow_right (by omega) hv
      have h16 : (2 : Nat) ^ 16 = 65536 := by decide
      obtain ⟨p0, p1⟩ := two_bd (m := v) (k := 16) hv
      rw [← eD] at hD
      obtain ⟨F, eF⟩ : ∃ F, F = f k := ⟨_, rfl⟩
      rw [← eF] at hxk hD hfL hR
      have hkv : (k : Int) * (v : Int) = ((k * v : Nat) : Int) := by push_cast; rfl
      have hkvl : k * v + v ≤ zl := by rw [HZL.out, ← Nat.succ_mul]; exact Nat.mul_le_mul_right _ hlt
      have htop : D + k < zh := by rw [HZH.out, eD]; exact HS.out.at_top hlt
      obtain ⟨kv, ekv⟩ : ∃ kv, kv = k * v := ⟨_, rfl⟩
      rw [← ekv] at hkv hkvl
      have HEK := Lib.hid ekv
      have HED := Lib.hid eD
      have HER := Lib.hid eR
      have hRs : R < 16777216 := by omega
      clear hx eD eR eF ekv hp16 h16 hRlt
      go_wp2_with fail
      refine (biPut_row (w.heap.size + 1) zl zl kv v R (lowB f v k) _ (by omega) hRs hkvl (by omega) B0.out.low).mono ?_; rintro e w4 ⟨rfl, hv4, ho4⟩
      have B1 := Lib.hid (B0.out.setLow (F' := lowB f v (k + 1)) (hv4.congr (fun i _ => by rw [HEK.out]; exact put_lowB HER.out i)) ho4)
      have hcell := B1.out.high.cell htop
      have hfroz := B1.out.high.frozen (D + k)
      have hi1 : ((D : Int) + k).toNat = D + k := by omega
      have hi2 : (D : Int) + k < zh := by omega
      clear hv4 ho4 B0
      go_wp2_with fail
      have B2 := Lib.hid (B1.out.setHigh (F' := highB f v (k + 1)) ((B1.out.high.set (D + k) true).congr (fun i _ => put_highB HED.out i)) (only_set _ _ _ _))
      go_roundw
      case rel => exact ⟨k + 1, by omega, by go_num, B2.out⟩
      case measure => simp [intOf]; omega
    · obtain rfl : k = c := by omega
      go_wp2_with fail
      refine (spec_biSome _ zl zl nl _ _ (by omega) HNL2.out B0.out.low.row).mono ?_; rintro e w1 ⟨g1, rfl, hg1, ho1, hb1⟩
      have B1 := Lib.hid (B0.out.b hb1)
      have O1 := Lib.hid ho1
      have hs1 := B0.out.high.lt
      have hs2 := ho1.lt
      clear ho1 hb1 B0
      go_wp2_with fail
      refine (spec_biSome _ zh zh nh _ _ (by omega) HNH2.out B1.out.high.row).mono ?_; rintro e w2 ⟨g2, rfl, hg2, ho2, hb2⟩
      have B2 := Lib.hid (B1.out.b hb2)
      have O2 := Lib.hid (O1.out.b hb2)
      have O3 := Lib.hid ho2
      clear ho2 hb2 B1 O1
      have r0 := B2.out.res.cell 0 _ rfl
      have r1 := B2.out.res.cell 1 _ rfl
      have r2 := B2.out.res.cell 2 _ rfl
      have r3 := B2.out.res.cell 3 _ rfl
      have r4 := B2.out.res.cell 4 _ rfl
      have r5 := B2.out.res.cell 5 _ rfl
      have r6 := B2.out.res.cell 6 _ rfl
      have f0 := B2.out.res.free 0
      have f1 := B2.out.res.free 1
      have f2 := B2.out.res.free 2
      have f3 := B2.out.res.free 3
      have f4 := B2.out.res.free 4
      have f5 := B2.out.res.free 5
      have f6 := B2.out.res.free 6
      go_wp2_with fail
      change bodyPost _ _ _ _ _ (fin7 w2 w.heap.size (.int .i64 k) (.int .i64 L) (.int .i64 v) (.int .i64 zl) (.slice (some ⟨g1, 0, none⟩) nl nl) (.int .i64 zh) (.slice (some ⟨g2, 0, none⟩) nh nh))
      have NF := fin7_box (v0 := .int .i64 k) (v1 := .int .i64 L) (v2 := .int .i64 v) (v3 := .int .i64 zl) (v4 := .slice (some ⟨g1, 0, none⟩) nl nl) (v5 := .int .i64 zh) (v6 := .slice (some ⟨g2, 0, none⟩) nh nh) B2.out.res
      have hon := fin7_only w2 w.heap.size (.int .i64 k) (.int .i64 L) (.int .i64 v) (.int .i64 zl) (.slice (some ⟨g1, 0, none⟩) nl nl) (.int .i64 zh) (.slice (some ⟨g2, 0, none⟩) nh nh)
      clear r0 r1 r2 r3 r4 r5 r6 f0 f1 f2 f3 f4 f5 f6
      generalize fin7 w2 w.heap.size (.int .i64 k) (.int .i64 L) (.int .i64 v) (.int .i64 zl) (.slice (some ⟨g1, 0, none⟩) nl nl) (.int .i64 zh) (.slice (some ⟨g2, 0, none⟩) nh nh) = wf at *
      have r0 := NF.cell 0 _ rfl
      have r1 := NF.cell 1 _ rfl
      have r2 := NF.cell 2 _ rfl
      have r3 := NF.cell 3 _ rfl
      have r4 := NF.cell 4 _ rfl
      have r5 := NF.cell 5 _ rfl
      have r6 := NF.cell 6 _ rfl
      refine bodyPost_ret (v := .agg #[.int .i64 k, .int .i64 L, .int .i64 v, .int .i64 zl, .slice (some ⟨g1, 0, none⟩) nl nl, .int .i64 zh, .slice (some ⟨g2, 0, none⟩) nh nh]) (by simp [results, Try.results105, go_sem, r0, r1, r2, r3, r4, r5, r6]) rfl ?_
      have q1 : ORow wf g1 nl _ := O2.out.of_block (hon.block g1 O2.out.lt (.inr (by omega)))
      have q2 : ORow wf g2 nh _ := O3.out.of_block (hon.block g2 O3.out.lt (.inr (by omega)))
      have HW1 : ∀ i, wordsOf (fun i => decide (i < zl) && lowB f v k i) i = wordsOf (lowB f v k) i := fun i => by rw [HZL.out, low_cut]
      have HW2 : ∀ i, wordsOf (fun i => decide (i < zh) && highB f v k i) i = wordsOf (highB f v k) i := fun i => by rw [HZH.out, HCH.out]
      refine ⟨some ⟨g1, 0, none⟩, nl, some ⟨g2, 0, none⟩, nh, rfl, ow_of_own (m := nl) (show GOwn _ _ _ _ (intV _) from q1.congr (fun i _ => by rw [HW1 i])) (by omega) (Nat.le_refl _), ow_of_own (m := nh) (show GOwn _ _ _ _ (intV _) from q2.congr (fun i _ => by rw [HW2 i])) (by omega) (Nat.le_refl _), fun _ _ b o c p e1 e2 => by injection e1 with e1; injection e1 with e1; injection e2 with e2; injection e2 with e2; omega, B2.out.below.trans (hon.below B2.out.below.size (Nat.le_refl _))⟩

theorem SpOne.nbx {base : Nat} {w : World} : NBX w.heap.size w.heap.size (spC 0 0 0 0 none 0 0 0 none 0 0) 32 (w.alloc (.cells (spC 0 0 0 0 none 0 0 0 none 0 0) 32)) ∧ base = base := ⟨⟨Go.Deep.blk_alloc_new _ _, Nat.le_refl _⟩, rfl⟩
theorem SpOwn.post {z0 z1 z2 z3 z4 : Int} {n1 n2 : Nat} {X1 X2 : Nat → Int} {b : Bool} {w : World} (e : Ending) (w' : World) (h : SpOwn z0 z1 z2 z3 n1 X1 z4 n2 X2 b w e w') :
    ∃ A1 c1 A2 c2, e = .returned (.tuple #[.agg #[.int .i64 z0, .int .i64 z1, .int .i64 z2, .int .i64 z3, .slice A1 n1 c1, .int .i64 z4, .slice A2 n2 c2], .bool b]) ∧ GRow w' A1 n1 (intV X1) ∧ GRow w' A2 n2 (intV X2) ∧ Below w.heap.size w w' := by
  obtain ⟨A1, c1, A2, c2, he, h1, h2, _, hb⟩ := h
  exact ⟨A1, c1, A2, c2, he, h1.rd.row (Nat.le_refl _), h2.rd.row (Nat.le_refl _), hb⟩
theorem irow_congr {w : World} {A : Option Addr} {n : Nat} {X Y : Nat → Int} (h : IRow w A n X) (e : ∀ i, i < n → X i = Y i) : IRow w A n Y := h.congr e
end Go.Proofs.Ytffdkfhnlgfigaa
