/- BuildSparse: the program builds the Sparse of sorted numbers. -/
import Derived.Test.YtffdkfhnlgfigaaBuildS
import Derived.Deep.RegionHeld3
import Derived.StillTailTactics
namespace Go.Proofs.Ytffdkfhnlgfigaa
open Go.RowKit

theorem pow_div (n w : Nat) : ((n : Int) / 2 ^ w) = ((n / 2 ^ w : Nat) : Int) := by push_cast; rfl
def numI (f : Nat → Nat) (i : Nat) : Int := f i
theorem srt_num {c L w : Nat} {f : Nat → Nat} (h : SpN c L w f) : SrtI c (numI f) L := fun i hi => ⟨Int.natCast_nonneg _, by have := h.low i hi; unfold numI; omega, fun h0 => by
  have := h.up (i - 1) (by omega); rw [show i - 1 + 1 = i by omega] at this; unfold numI; omega⟩
theorem bit_one (j : Nat) : (1 : Nat).testBit j = decide (j = 0) := by
  cases j with
  | zero => rfl
  | succ j => simp [Nat.testBit_succ]
theorem put_low {f : Nat → Nat} {W W1 : Nat → Nat} {w k m R : Nat} (hR : R = f k % 2 ^ w) (h : ∀ i, i < 16 * m → bitN W i = lowB f w k i) (hp : PutSt W m (k * w) R (k * w + w) W1) : ∀ i, i < 16 * m → bitN W1 i = lowB f w (k + 1) i := fun i hi => by
  rw [hp.2 i hi, lowB_succ, h i hi, hR]
theorem put_high {f : Nat → Nat} {W W1 : Nat → Nat} {w k m D : Nat} (hD : D = f k / 2 ^ w) (h : ∀ i, i < 16 * m → bitN W i = highB f w k i) (hp : PutSt W m (D + k) 1 (D + k + 1) W1) : ∀ i, i < 16 * m → bitN W1 i = highB f w (k + 1) i := fun i hi => by
  rw [hp.2 i hi, highB_succ, h i hi, ← hD]
  by_cases e : D + k = i
  · subst e
    rw [if_pos ⟨Nat.le_refl _, by omega⟩, Nat.sub_self]; simp
  · have e2 : (D + k == i) = false := by simpa using e
    rw [if_neg (by omega), e2]; simp

theorem only_undrew {l k : Nat} {w w' : World} (h : Only l k w.drew w') : Only l k w w' := ⟨h.os, h.tape, h.output, h.size, h.block⟩
set_option maxRecDepth 100000 in
set_option maxHeartbeats 4000000 in
theorem impl_build_yes (A : Option Addr) (c d L v : Nat) (f : Nat → Nat) (w : World) (h : SpN c L v f) (hr : IRow w A c (numI f)) (nl nh : Nat) (hnl : nl = (c * v + 15) / 16) (hnh : nh = (hzN c L v + 15) / 16) :
    Calls Try.prog 12 #[.slice A c d, .int .i64 L] w (SpOwn c L v (c * v : Nat) nl (fun i => (wordsOf (lowB f v c) i : Int)) (hzN c L v : Nat) nh (fun i => (wordsOf (highB f v c) i : Int)) true w) := by
  have HR := Lib.hid hr
  have HS := Lib.hid h
  have hc := h.hc
  have hL1 := h.h1
  have hL := h.hL
  have hv := h.width
  have hlow := h.lows
  have hhigh := h.high
  have HNL := Lib.hid hnl
  have HNH := Lib.hid hnh
  have HZ := Lib.hid (show hzN c L v = c + (L - 1) / 2 ^ v + 1 from rfl)
  have hq1 := pow_div (L - 1) v
  rw [show ((L - 1 : Nat) : Int) = (L : Int) - 1 by omega] at hq1
  obtain ⟨Q, hQ⟩ : ∃ Q, Q = (L - 1) / 2 ^ v := ⟨_, rfl⟩
  rw [← hQ] at hq1
  have hzq : hzN c L v = c + Q + 1 := by rw [hQ]; rfl
  obtain ⟨zh, hzh⟩ : ∃ zh, zh = hzN c L v := ⟨_, rfl⟩
  obtain ⟨zl, hzl⟩ : ∃ zl, zl = c * v := ⟨_, rfl⟩
  have hzl' : (c : Int) * (v : Int) = (zl : Int) := by rw [hzl]; push_cast; rfl
  have hzh' : (c : Int) + (Q : Int) + 1 = (zh : Int) := by omega
  rw [← hzh] at hnh hhigh ⊢
  rw [← hzl] at hnl hlow ⊢
  have HZH := Lib.hid hzh
  have HZL := Lib.hid hzl
  have HZHI := Lib.hid hzh'
  have HZLI := Lib.hid hzl'
  have HQI := Lib.hid hq1
  have hnl2 : nl ≤ 256 := by omega
  have hnh2 : nh ≤ 256 := by omega
  have HNL2 := Lib.hid hnl
  have HNH2 := Lib.hid hnh
  clear hr h hnl hnh hQ hzq hzh hzl hzl' hzh' hq1 HZ
  go_enter Try.func12, Try.ntmps12
  have RES0 := Lib.hid (show NBX w.heap.size w.heap.size (spC 0 0 0 0 none 0 0 0 none 0 0) 32 (w.alloc (.cells (spC 0 0 0 0 none 0 0 0 none 0 0) 32)) from ⟨Go.Deep.blk_alloc_new _ _, Nat.le_refl _⟩)
  go_wp2_with fail
  refine (impl_width_yes c L v _ hc hL1 hL HS.out.wd).mono ?_; rintro e w' ⟨rfl, rfl⟩
  go_wp2_with fail
  refine (impl_isSorted A c d (numI f) L _ (by omega) (HR.out.b ((Below.refl _ _).alloc (Nat.le_refl _) _))).mono ?_; rintro e w' ⟨b, rfl, hb, rfl⟩
  obtain rfl : b = true := hb.2 (srt_num HS.out)
  clear hb
  go_wp2_with fail
  rw [HZLI.out, wrap_small zl (by omega)]
  have LB0 := Lib.hid (show NBX w.heap.size (w.heap.size + 1) #[.int .i64 zl, .slice none 0 0] 30 ((w.alloc (.cells (spC 0 0 0 0 none 0 0 0 none 0 0) 32)).alloc (.cells #[.int .i64 zl, .slice none 0 0] 30)) from
    ⟨by have := Go.Deep.blk_alloc_new (w.alloc (.cells (spC 0 0 0 0 none 0 0 0 none 0 0) 32)) (.cells #[.int .i64 zl, .slice none 0 0] 30); simpa using this, by omega⟩)
  have RES1 := Lib.hid (RES0.out.b ((Below.refl _ _).alloc (Nat.le_refl _) (.cells #[.int .i64 zl, .slice none 0 0] 30)))
  have FB1 := Lib.hid (((Below.refl w.heap.size w).alloc (Nat.le_refl _) (.cells (spC 0 0 0 0 none 0 0 0 none 0 0) 32)).alloc (by simp) (.cells #[.int .i64 zl, .slice none 0 0] 30))
  refine (growWords_any zl nl none 0 0 (fun _ => 0) _ (by omega) HNL2.out (Nat.zero_le _) IRow.zero).mono ?_; rintro e w1 ⟨Al, rfl, ho, hb⟩
  have hs1 : w.heap.size + 2 ≤ w1.heap.size := by have := hb.size; simp at this; omega
  have V1 := Lib.hid (VecU.of_vec (W := fun _ => 0) (lo := w.heap.size + 2) (hi := w1.heap.size) (ho.congr (fun i _ => by simp)) (by simp) (Nat.le_refl _))
  have LB1 := Lib.hid (LB0.out.b hb)
  have RES2 := Lib.hid (RES1.out.b hb)
  have FB2 := Lib.hid (FB1.out.trans (hb.mono (by simp; omega)))
  clear ho hb RES0 RES1 LB0 FB1
  have c0 := LB1.out.cell 0 _ rfl
  have c1 := LB1.out.cell 1 _ rfl
  have f1 := LB1.out.free 1
  go_wp2_with fail
  have hcq : (c : Int) + (Q : Int) = ((c + Q : Nat) : Int) := by push_cast; rfl
  have hcq1 : ((c + Q : Nat) : Int) + 1 = (zh : Int) := by rw [← hcq]; exact HZHI.out
  have hcqb : c + Q < zh := by omega
  rw [HQI.out, hcq, wrap_small (c + Q) (by omega), hcq1, wrap_small zh (by omega)]
  clear hcq hcq1 hcqb
  have LB2 := Lib.hid (LB1.out.set 1 (.slice Al nl nl))
  have ho1 := only_set w1 (w.heap.size + 1) 1 (.slice Al nl nl)
  have V2 := Lib.hid (V1.out.far ho1 (by omega))
  have RES3 := Lib.hid (RES2.out.far ho1 (by omega))
  have FB3 := Lib.hid (FB2.out.trans (ho1.below FB2.out.size (by omega)))
  have hz1 : (w1.setCell ⟨w.heap.size + 1, 1, none⟩ (.slice Al nl nl)).heap.size = w1.heap.size := by simp [World.setCell]
  clear ho1 c0 c1 f1 LB1 V1 RES2 FB2
  generalize w1.setCell ⟨w.heap.size + 1, 1, none⟩ (.slice Al nl nl) = w2 at *
  have ha := (Below.refl w2.heap.size w2).alloc (Nat.le_refl _) (.cells #[.int .i64 zh, .slice none 0 0] 30)
  have HB0 := Lib.hid (show NBX w.heap.size w1.heap.size #[.int .i64 zh, .slice none 0 0] 30 (w2.alloc (.cells #[.int .i64 zh, .slice none 0 0] 30)) from
    ⟨by rw [← hz1]; exact Go.Deep.blk_alloc_new _ _, by omega⟩)
  have LB3 := Lib.hid (LB2.out.b ha)
  have V3 := Lib.hid (V2.out.b ha)
  have RES4 := Lib.hid (RES3.out.b ha)
  have FB4 := Lib.hid (FB3.out.trans (ha.mono FB3.out.size))
  clear ha LB2 V2 RES3 FB3
  refine (growWords_any zh nh none 0 0 (fun _ => 0) _ (by omega) HNH2.out (Nat.zero_le _) IRow.zero).mono ?_; rintro e w3 ⟨Ah, rfl, ho, hb⟩
  have hs3 : w1.heap.size + 1 ≤ w3.heap.size := by have := hb.size; simp at this; omega
  have U1 := Lib.hid (VecU.of_vec (W := fun _ => 0) (lo := w1.heap.size + 1) (hi := w3.heap.size) (ho.congr (fun i _ => by simp)) (by simp; omega) (Nat.le_refl _))
  have HB1 := Lib.hid (HB0.out.b hb)
  have LB4 := Lib.hid (LB3.out.b hb)
  have V4 := Lib.hid (V3.out.b hb)
  have RES5 := Lib.hid (RES4.out.b hb)
  have FB5 := Lib.hid (FB4.out.trans (hb.mono FB4.out.size))
  clear ho hb HB0 LB3 V3 RES4 FB4
  have c0 := HB1.out.cell 0 _ rfl
  have c1 := HB1.out.cell 1 _ rfl
  have f1 := HB1.out.free 1
  go_wp2_with fail
  have ho1 := only_set w3 w1.heap.size 1 (.slice Ah nh nh)
  have BL0 := Lib.hid (show BL w (w.heap.size + 1) w1.heap.size w3.heap.size zl Al nl zh Ah nh (fun _ => 0) (fun _ => 0) (w3.setCell ⟨w1.heap.size, 1, none⟩ (.slice Ah nh nh)) from
    ⟨FB5.out.trans (ho1.below FB5.out.size (by omega)), RES5.out.far ho1 (by omega), LB4.out.far ho1 (by omega), HB1.out.set 1 _, by omega, by omega, by omega, V4.out.far ho1 (by omega), U1.out.far ho1 (by omega)⟩)
  clear ho1 c0 c1 f1 HB1 LB4 V4 RES5 FB5 U1
  generalize hw4 : w3.setCell ⟨w1.heap.size, 1, none⟩ (.slice Ah nh nh) = w4 at *
  clear hw4
  generalize w1.heap.size = b2 at *
  generalize w3.heap.size = h2 at *
  go_loopw [53] (fun i wr => ∃ (k : Nat) (Wl Wh : Nat → Nat), k ≤ c ∧ i = .int .i64 k ∧ (∀ i, i < nl → Wl i < 65536) ∧ (∀ i, i < nh → Wh i < 65536) ∧ (∀ i, i < 16 * nl → bitN Wl i = lowB f v k i) ∧ (∀ i, i < 16 * nh → bitN Wh i = highB f v k i) ∧ BL w (w.heap.size + 1) b2 h2 zl Al nl zh Ah nh Wl Wh wr) (fun i _ => c - (intOf i).toNat)
  case atStart => exact ⟨0, _, _, Nat.zero_le _, rfl, fun _ _ => by decide, fun _ _ => by decide, fun i _ => by rw [lowB_zero]; unfold bitN; simp, fun i _ => by rw [highB_zero]; unfold bitN; simp, BL0.out⟩
  case round =>
    obtain ⟨k, Wl, Wh, hk, rfl, hl1, hh1, hl2, hh2, hbl⟩ := hrel
    have B0 := Lib.hid hbl
    have HL1 := Lib.hid hl1
    have HL2 := Lib.hid hl2
    have HH1 := Lib.hid hh1
    have HH2 := Lib.hid hh2
    clear hl1 hh1 hl2 hh2 hbl BL0
    by_cases hlt : k < c
    · obtain ⟨b, off, rfl, hbl, hx⟩ := (HR.out.b B0.out.below) (by omega)
      have hxk := hx k hlt
      unfold numI at hxk
      have hfL := HS.out.low k hlt
      have hmod := split_num (f k) v
      have hD := pow_div (f k) v
      obtain ⟨D, eD⟩ : ∃ D, D = f k / 2 ^ v := ⟨_, rfl⟩
      obtain ⟨R, eR⟩ : ∃ R, R = f k % 2 ^ v := ⟨_, rfl⟩
      have hRlt : R < 2 ^ v := by rw [eR]; exact Nat.mod_lt _ (Nat.pow_pos (by omega))
      have hp16 : 2 ^ v ≤ 2 ^ 16 := Nat.pow_le_pow_right (by omega) hv
      have h16 : (2 : Nat) ^ 16 = 65536 := by decide
      obtain ⟨P, eP⟩ : ∃ P, P = D * 2 ^ v := ⟨_, rfl⟩
      have hDP : (D : Int) * 2 ^ v = (P : Int) := by rw [eP]; push_cast; rfl
      rw [← eD, ← eR, ← eP] at hmod
      rw [← eD] at hD
      obtain ⟨F, eF⟩ : ∃ F, F = f k := ⟨_, rfl⟩
      rw [← eF] at hxk hmod hD hfL
      have hkv : (k : Int) * (v : Int) = ((k * v : Nat) : Int) := by push_cast; rfl
      have hkvl : k * v + v ≤ zl := by rw [HZL.out, ← Nat.succ_mul]; exact Nat.mul_le_mul_right _ hlt
      have htop : D + k < zh := by rw [HZH.out, eD]; exact HS.out.at_top hlt
      have hRF : ((R : Nat) : Int) = (F : Int) - (P : Int) := by omega
      obtain ⟨kv, ekv⟩ : ∃ kv, kv = k * v := ⟨_, rfl⟩
      rw [← ekv] at hkv hkvl
      have hC1 := fun (W : World) (hW : VecU (w.heap.size + 1 + 1) b2 Al nl Wl W) => setField_vecU Al nl (w.heap.size + 1 + 1) b2 Wl kv v R W hnl2 hW HL1.out (by have := HNL2.out; omega) (by omega) (by omega)
      rw [hRF] at hC1
      have HC1 := Lib.hid hC1
      have VL := Lib.hid B0.out.low
      have VLD := Lib.hid (show VecU (w.heap.size + 1 + 1) b2 Al nl Wl wr.drew from B0.out.low)
      have HEK := Lib.hid ekv
      have HED := Lib.hid eD
      have HER := Lib.hid eR
      have c1 := B0.out.lbox.cell 1 _ rfl
      clear hC1 hx eP eD eR eF ekv hRF
      go_wp2_with fail
      go_still_tail 11, (by kernel_rfl)
      change wpList _ _ _ _ _ wr.drew
      have c1D : wr.drew.cell? ⟨w.heap.size + 1, 1, none⟩ = some (.slice Al nl nl) := c1
      go_wp2_with fail
      refine (HC1.out _ VLD.out).mono ?_; rintro e w4 ⟨rfl, ⟨W1, hp, hv⟩, ho'⟩
      have B1 := Lib.hid (B0.out.setLow hv (only_undrew ho'))
      have HP1 := Lib.hid hp
      clear c1 c1D hp hv ho' HC1 VL VLD B0
      have c3 := B1.out.hbox.cell 1 _ rfl
      have hDk : (D : Int) + (k : Int) = ((D + k : Nat) : Int) := by push_cast; rfl
      have hDk2 : D + k + 1 ≤ 16 * nh := by have := HNH2.out; omega
      have hC2 := fun (W : World) (hW : VecU (b2 + 1) h2 Ah nh Wh W) => setField_vecU Ah nh (b2 + 1) h2 Wh (D + k) 1 1 W hnh2 hW HH1.out (by omega) (by omega) (by omega)
      rw [← hDk] at hC2
      have HC2 := Lib.hid hC2
      clear hC2 hDk
      go_wp2_with fail
      refine (HC2.out _ B1.out.high).mono ?_; rintro e w5 ⟨rfl, ⟨W2, hp, hv⟩, ho'⟩
      have B2 := Lib.hid (B1.out.setHigh hv ho')
      have HP2 := Lib.hid hp
      clear c3 hp hv ho' HC2 B1
      have HN1 := Lib.hid (put_low (f := f) HER.out HL2.out (by rw [← HEK.out]; exact HP1.out))
      have HN2 := Lib.hid (put_high (f := f) HED.out HH2.out HP2.out)
      go_wp2_with fail
      go_roundw
      case rel => exact ⟨k + 1, W1, W2, by omega, by go_num, HP1.out.1, HP2.out.1, HN1.out, HN2.out, B2.out⟩
      case measure => simp [intOf]; omega
    · obtain rfl : k = c := by omega
      have c0 := B0.out.lbox.cell 0 _ rfl
      have c1 := B0.out.lbox.cell 1 _ rfl
      have c2 := B0.out.hbox.cell 0 _ rfl
      have c3 := B0.out.hbox.cell 1 _ rfl
      have r0 := B0.out.res.cell 0 _ rfl
      have r1 := B0.out.res.cell 1 _ rfl
      have r2 := B0.out.res.cell 2 _ rfl
      have r3 := B0.out.res.cell 3 _ rfl
      have r4 := B0.out.res.cell 4 _ rfl
      have r5 := B0.out.res.cell 5 _ rfl
      have r6 := B0.out.res.cell 6 _ rfl
      have f0 := B0.out.res.free 0
      have f1 := B0.out.res.free 1
      have f2 := B0.out.res.free 2
      have f3 := B0.out.res.free 3
      have f4 := B0.out.res.free 4
      have f5 := B0.out.res.free 5
      have f6 := B0.out.res.free 6
      go_wp2_with fail
      change bodyPost _ _ _ _ _ (fin7 wr w.heap.size (.int .i64 k) (.int .i64 L) (.int .i64 v) (.int .i64 zl) (.slice Al nl nl) (.int .i64 zh) (.slice Ah nh nh))
      have NF := fin7_box (v0 := .int .i64 k) (v1 := .int .i64 L) (v2 := .int .i64 v) (v3 := .int .i64 zl) (v4 := .slice Al nl nl) (v5 := .int .i64 zh) (v6 := .slice Ah nh nh) B0.out.res
      have hon := fin7_only wr w.heap.size (.int .i64 k) (.int .i64 L) (.int .i64 v) (.int .i64 zl) (.slice Al nl nl) (.int .i64 zh) (.slice Ah nh nh)
      have hfs := fin7_size wr w.heap.size (.int .i64 k) (.int .i64 L) (.int .i64 v) (.int .i64 zl) (.slice Al nl nl) (.int .i64 zh) (.slice Ah nh nh)
      clear r0 r1 r2 r3 r4 r5 r6 f0 f1 f2 f3 f4 f5 f6 c0 c1 c2 c3
      generalize fin7 wr w.heap.size (.int .i64 k) (.int .i64 L) (.int .i64 v) (.int .i64 zl) (.slice Al nl nl) (.int .i64 zh) (.slice Ah nh nh) = wf at *
      have r0 := NF.cell 0 _ rfl
      have r1 := NF.cell 1 _ rfl
      have r2 := NF.cell 2 _ rfl
      have r3 := NF.cell 3 _ rfl
      have r4 := NF.cell 4 _ rfl
      have r5 := NF.cell 5 _ rfl
      have r6 := NF.cell 6 _ rfl
      refine bodyPost_ret (v := .tuple #[.agg #[.int .i64 k, .int .i64 L, .int .i64 v, .int .i64 zl, .slice Al nl nl, .int .i64 zh, .slice Ah nh nh], .bool true]) (by simp [results, Try.results12, go_sem, r0, r1, r2, r3, r4, r5, r6]) rfl ?_
      have o1 := B0.out.o1
      have o2 := B0.out.o2
      have v1 := B0.out.low.far hon (.inr (by omega))
      have v2 := B0.out.high.far hon (.inr (by omega))
      exact ⟨Al, nl, Ah, nh, rfl, (v1.ow (fun i hi => by rw [words_eq HL1.out HL2.out i hi])).mono (by omega) (Nat.le_refl _), (v2.ow (fun i hi => by rw [words_eq HH1.out HH2.out i hi])).mono (by omega) (Nat.le_refl _), v1.apart v2 (by omega), B0.out.below.trans (hon.below B0.out.below.size (Nat.le_refl _))⟩
end Go.Proofs.Ytffdkfhnlgfigaa
