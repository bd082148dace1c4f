/- The law FnFieldsStay, walked. -/
import Derived.Test.YtglccgpiakadbaaJoinsAreCutWalk
import Derived.Test.YtglccgpiakadbaaCur4
namespace Go.Proofs.Ytglccgpiakadbaa
open Go.RowKit

def putW (z : Nat) (X : Nat → Int) (a width v : Nat) (k : Nat) : Int := (wordsOf (putF z X a width v) k : Int)
theorem putW_bit (z : Nat) (X : Nat → Int) (a width v i : Nat) : bitN (fun k => (putW z X a width v k).toNat) i = putF z X a width v i := bit_wordsI _ _
theorem putW_good {z n : Nat} {X : Nat → Int} {a width v : Nat} (hz : z ≤ 4096) (hn : n = (z + 15) / 16) : Good z n (putW z X a width v) :=
  good_of_words hz hn (fun i hi => by unfold putF; simp only [show ¬ i < z by omega, decide_false, Bool.false_and])
theorem putW_read {z : Nat} {X : Nat → Int} {a width v : Nat} (h : a + width ≤ z) (hv : v < 2 ^ width) : fieldN (fun k => (putW z X a width v k).toNat) a width = v := by
  apply Nat.eq_of_testBit_eq
  intro j
  rw [fieldN_bit, putW_bit]
  unfold putF
  by_cases c : j < width
  · have h1 : a + j < z := by omega
    have h2 : a ≤ a + j ∧ a + j < a + width := by omega
    simp [c, h1]
  · have hz0 : v.testBit j = false := Nat.testBit_lt_two_pow (Nat.lt_of_lt_of_le hv (Nat.pow_le_pow_right (by omega) (by omega)))
    simp [c, hz0]
theorem putF_far {z : Nat} {X : Nat → Int} {a width v i : Nat} (hi : i < z) (h : ¬ (a ≤ i ∧ i < a + width)) : putF z X a width v i = bitN (fun i => (X i).toNat) i := by
  unfold putF; rw [if_neg h]; simp [hi]

set_option maxRecDepth 100000 in
set_option maxHeartbeats 8000000 in
theorem walk_FnFieldsStay (w : World) (A : Option Addr) (n c : Nat) (D : Nat → Int) (hn : n ≤ maxLen) (hr : URow w A n D) (B : Option Addr) (m d : Nat) (E : Nat → Int) (hm : m ≤ maxLen) (_hs : URow w B m E) :
    Calls Try.prog 3 #[.slice A n c, .slice B m d] w fun e w' => e = .returned (.bool true) ∧ Below w.heap.size w w' := by
  have HR := Lib.hid hr
  clear hr
  by_cases hbig : n + m ≤ 1048576
  rotate_left
  · have hb : (!decide (n + m ≤ 1048576)) = true := by simp; omega
    go_enter Try.func3, Try.ntmps3
    go_wp2_with fail
    refine (big_is A B n c m d w hn hm).mono ?_; rintro e w' ⟨rfl, rfl⟩
    rw [hb]
    go_wp2_with fail
    go_ret
    exact ⟨rfl, Below.refl _ _⟩
  have hb : (!decide (n + m ≤ 1048576)) = false := by simp; omega
  go_enter Try.func3, Try.ntmps3
  go_wp2_with fail
  refine (big_is A B n c m d w hn hm).mono ?_; rintro e w' ⟨rfl, rfl⟩
  rw [hb]
  clear hb
  have FB := Lib.hid (At.start w)
  go_wp2_with fail
  refine (draw_putField A n c D w (by omega) HR.out.1 HR.out.2).mono ?_; rintro e w1 ⟨z, P, a, pc, X, p, q, v, rfl, hx, hb⟩
  replace FB := Lib.hid (FB.out.b hb)
  have z_w1 : w.heap.size ≤ w1.heap.size := by have hsz := hb.size; first | omega | (simp at hsz; omega)
  obtain ⟨z0, z1, ha, _, _, ho1⟩ := hx
  have OX := Lib.hid (owned (ho1.mono (lo' := w.heap.size) (Nat.le_refl _) (Nat.le_refl _)))
  clear hb ho1
  by_cases hg : PutOk z a X p q v
  rotate_left
  · have HG := Lib.hid hg
    clear hg
    replace FB := Lib.hid (FB.out.alloc (.cells #[.int .i64 z, .slice P a pc] 26))
    replace OX := Lib.hid (OX.out.alloc (.cells #[.int .i64 z, .slice P a pc] 26))
    have BX := Lib.hid (boxed w1 #[.int .i64 z, .slice P a pc] 26)
    have c_BX_0 := BX.out.now 0 _ rfl
    have c_BX_1 := BX.out.now 1 _ rfl
    go_wp2_with fail
    refine (impl_putField_no z P a pc X p q v _ (by omega) OX.out.orow HG.out).mono ?_; rintro e w2 ⟨R, rc, rfl, hv, hb⟩
    replace FB := Lib.hid (FB.out.b hb)
    replace OX := Lib.hid (OX.out.b hb)
    replace BX := Lib.hid (BX.out.b hb)
    have z_w2 : w1.heap.size + 1 ≤ w2.heap.size := by have hsz := hb.size; first | omega | (simp at hsz; omega)
    clear c_BX_0 c_BX_1
    clear hb hv
    replace FB := Lib.hid (FB.out.alloc (.cells #[.int .i64 0, .slice R 0 rc] 26))
    replace OX := Lib.hid (OX.out.alloc (.cells #[.int .i64 0, .slice R 0 rc] 26))
    replace BX := Lib.hid (BX.out.alloc (.cells #[.int .i64 0, .slice R 0 rc] 26))
    have BR := Lib.hid (boxed w2 #[.int .i64 0, .slice R 0 rc] 26)
    have c_BX_0 := BX.out.now 0 _ rfl
    have c_BX_1 := BX.out.now 1 _ rfl
    go_wp2_with fail
    refine (spec_putField_no z P a pc X p q v _ (by omega) OX.out.orow HG.out).mono ?_; rintro e w3 ⟨S, sc, rfl, hv, hb⟩
    replace FB := Lib.hid (FB.out.b hb)
    replace OX := Lib.hid (OX.out.b hb)
    replace BX := Lib.hid (BX.out.b hb)
    replace BR := Lib.hid (BR.out.b hb)
    have z_w3 : w2.heap.size + 1 ≤ w3.heap.size := by have hsz := hb.size; first | omega | (simp at hsz; omega)
    clear c_BX_0 c_BX_1
    clear hb hv
    replace FB := Lib.hid (FB.out.alloc (.cells #[.int .i64 0, .slice S 0 sc] 26))
    replace OX := Lib.hid (OX.out.alloc (.cells #[.int .i64 0, .slice S 0 sc] 26))
    replace BX := Lib.hid (BX.out.alloc (.cells #[.int .i64 0, .slice S 0 sc] 26))
    replace BR := Lib.hid (BR.out.alloc (.cells #[.int .i64 0, .slice S 0 sc] 26))
    have BS := Lib.hid (boxed w3 #[.int .i64 0, .slice S 0 sc] 26)
    have c_BR_0 := BR.out.now 0 _ rfl
    have c_BR_1 := BR.out.now 1 _ rfl
    have c_BS_0 := BS.out.now 0 _ rfl
    have c_BS_1 := BS.out.now 1 _ rfl
    go_wp2_with fail
    refine (pSame_yes (X := fun _ => 0) (by omega) GRow.zero GRow.zero).mono ?_; rintro e w4 ⟨rfl, hb⟩
    replace FB := Lib.hid (FB.out.b hb)
    replace OX := Lib.hid (OX.out.b hb)
    replace BX := Lib.hid (BX.out.b hb)
    replace BR := Lib.hid (BR.out.b hb)
    replace BS := Lib.hid (BS.out.b hb)
    have z_w4 : w3.heap.size + 1 ≤ w4.heap.size := by have hsz := hb.size; first | omega | (simp at hsz; omega)
    clear c_BR_0 c_BR_1 c_BS_0 c_BS_1
    clear hb
    go_wp2_with fail
    go_ret
    exact ⟨rfl, FB.out.now⟩
  obtain ⟨Z, rfl⟩ : ∃ Z : Nat, z = Z := ⟨z.toNat, by have := hg.1.1.1; omega⟩
  obtain ⟨p, rfl⟩ : ∃ t : Nat, p = t := ⟨p.toNat, by have := hg.1.2.2.2.1; omega⟩
  obtain ⟨q, rfl⟩ : ∃ t : Nat, q = t := ⟨q.toNat, by have := hg.1.2.1; omega⟩
  obtain ⟨v, rfl⟩ : ∃ t : Nat, v = t := ⟨v.toNat, by have := hg.2.1; omega⟩
  have haz : a = (Z + 15) / 16 := by have := hg.1.1.2.2.1; omega
  have hpq : p + q ≤ Z := by have := hg.1.2.2.2.2; omega
  have hq24 : q ≤ 24 := by have := hg.1.2.2.1; omega
  have hv2 : v < 2 ^ q := by have := hg.2.2; simp only [Int.toNat_natCast] at this; exact_mod_cast this
  have HG := Lib.hid hg
  have HAZ := Lib.hid haz
  have HV2 := Lib.hid hv2
  have HRD := Lib.hid (putW_read (X := X) hpq hv2)
  have HGO := Lib.hid (putW_good (X := X) (a := p) (width := q) (v := v) (show Z ≤ 4096 by omega) haz)
  clear hg haz hv2
  replace FB := Lib.hid (FB.out.alloc (.cells #[.int .i64 (Z : Int), .slice P a pc] 26))
  replace OX := Lib.hid (OX.out.alloc (.cells #[.int .i64 (Z : Int), .slice P a pc] 26))
  have BX := Lib.hid (boxed w1 #[.int .i64 (Z : Int), .slice P a pc] 26)
  have c_BX_0 := BX.out.now 0 _ rfl
  have c_BX_1 := BX.out.now 1 _ rfl
  go_wp2_with fail
  refine (impl_putField_yes Z P a pc X p q v _ (by omega) OX.out.orow HG.out).mono ?_; rintro e w2 ⟨R, rc, rfl, hv, hb⟩
  replace FB := Lib.hid (FB.out.b hb)
  replace OX := Lib.hid (OX.out.b hb)
  replace BX := Lib.hid (BX.out.b hb)
  have z_w2 : w1.heap.size + 1 ≤ w2.heap.size := by have hsz := hb.size; first | omega | (simp at hsz; omega)
  clear c_BX_0 c_BX_1
  have OR := Lib.hid (owned ((show Ow _ _ _ R a (intV (putW Z X p q v)) _ from ow_of_vec hv).mono (lo' := w1.heap.size + 1) (by simp) (Nat.le_refl _)))
  clear hb hv
  replace FB := Lib.hid (FB.out.alloc (.cells #[.int .i64 (Z : Int), .slice R a rc] 26))
  replace OX := Lib.hid (OX.out.alloc (.cells #[.int .i64 (Z : Int), .slice R a rc] 26))
  replace BX := Lib.hid (BX.out.alloc (.cells #[.int .i64 (Z : Int), .slice R a rc] 26))
  replace OR := Lib.hid (OR.out.alloc (.cells #[.int .i64 (Z : Int), .slice R a rc] 26))
  have BR := Lib.hid (boxed w2 #[.int .i64 (Z : Int), .slice R a rc] 26)
  have c_BX_0 := BX.out.now 0 _ rfl
  have c_BX_1 := BX.out.now 1 _ rfl
  go_wp2_with fail
  refine (spec_putField_yes Z P a pc X p q v _ (by omega) OX.out.orow HG.out).mono ?_; rintro e w3 ⟨S, sc, rfl, hv, hb⟩
  replace FB := Lib.hid (FB.out.b hb)
  replace OX := Lib.hid (OX.out.b hb)
  replace BX := Lib.hid (BX.out.b hb)
  replace OR := Lib.hid (OR.out.b hb)
  replace BR := Lib.hid (BR.out.b hb)
  have z_w3 : w2.heap.size + 1 ≤ w3.heap.size := by have hsz := hb.size; first | omega | (simp at hsz; omega)
  clear c_BX_0 c_BX_1
  have OS := Lib.hid (rd_of_row (show GRow _ S a (intV (putW Z X p q v)) from hv))
  clear hb hv
  replace FB := Lib.hid (FB.out.alloc (.cells #[.int .i64 (Z : Int), .slice S a sc] 26))
  replace OX := Lib.hid (OX.out.alloc (.cells #[.int .i64 (Z : Int), .slice S a sc] 26))
  replace BX := Lib.hid (BX.out.alloc (.cells #[.int .i64 (Z : Int), .slice S a sc] 26))
  replace OR := Lib.hid (OR.out.alloc (.cells #[.int .i64 (Z : Int), .slice S a sc] 26))
  replace BR := Lib.hid (BR.out.alloc (.cells #[.int .i64 (Z : Int), .slice S a sc] 26))
  replace OS := Lib.hid (OS.out.alloc (.cells #[.int .i64 (Z : Int), .slice S a sc] 26))
  have BS := Lib.hid (boxed w3 #[.int .i64 (Z : Int), .slice S a sc] 26)
  have c_BR_0 := BR.out.now 0 _ rfl
  have c_BR_1 := BR.out.now 1 _ rfl
  have c_BS_0 := BS.out.now 0 _ rfl
  have c_BS_1 := BS.out.now 1 _ rfl
  go_wp2_with fail
  refine (pSame_yes (by omega) OR.out.orow OS.out.row).mono ?_; rintro e w4 ⟨rfl, hb⟩
  replace FB := Lib.hid (FB.out.b hb)
  replace OX := Lib.hid (OX.out.b hb)
  replace BX := Lib.hid (BX.out.b hb)
  replace OR := Lib.hid (OR.out.b hb)
  replace BR := Lib.hid (BR.out.b hb)
  replace OS := Lib.hid (OS.out.b hb)
  replace BS := Lib.hid (BS.out.b hb)
  have z_w4 : w3.heap.size + 1 ≤ w4.heap.size := by have hsz := hb.size; first | omega | (simp at hsz; omega)
  clear c_BR_0 c_BR_1 c_BS_0 c_BS_1
  clear hb
  clear OS BS
  have c_BR_0 := BR.out.now 0 _ rfl
  have c_BR_1 := BR.out.now 1 _ rfl
  go_wp2_with fail
  refine (impl_read_yes Z R a rc (putW Z X p q v) p q _ (by omega) OR.out.orow ⟨HGO.out, HG.out.1.2⟩).mono ?_; rintro e w5 ⟨rfl, hb⟩
  replace FB := Lib.hid (FB.out.b hb)
  replace OX := Lib.hid (OX.out.b hb)
  replace BX := Lib.hid (BX.out.b hb)
  replace OR := Lib.hid (OR.out.b hb)
  replace BR := Lib.hid (BR.out.b hb)
  have z_w5 : w4.heap.size ≤ w5.heap.size := by have hsz := hb.size; first | omega | (simp at hsz; omega)
  clear c_BR_0 c_BR_1
  clear hb
  rw [HRD.out]
  have c_BX_0 := BX.out.now 0 _ rfl
  have c_BX_1 := BX.out.now 1 _ rfl
  go_wp2_with fail
  go_loopw [15] (fun i wr => ∃ k : Nat, k ≤ Z ∧ i = .int .i64 k ∧ At 0 w.heap.size (fun wi => Below w.heap.size w wi) wr ∧ At (w.heap.size) (w1.heap.size) (Ow (w.heap.size) (w1.heap.size) 3 P a (intV X)) wr ∧ At (w1.heap.size + 1) (w2.heap.size) (Ow (w1.heap.size + 1) (w2.heap.size) 3 R a (intV (putW Z X p q v))) wr ∧
    At (w1.heap.size) (w1.heap.size + 1) (BoxC (w1.heap.size) [.int .i64 (Z : Int), .slice P a pc]) wr ∧ At (w2.heap.size) (w2.heap.size + 1) (BoxC (w2.heap.size) [.int .i64 (Z : Int), .slice R a rc]) wr) (fun i _ => Z - (intOf i).toNat)
  case atStart => exact ⟨0, Nat.zero_le _, rfl, FB.out, OX.out, OR.out, BX.out, BR.out⟩
  case round =>
    obtain ⟨k, hk, rfl, hfb, hox, hor, hbx, hbr⟩ := hrel
    have FB1 := Lib.hid hfb
    have OX1 := Lib.hid hox
    have OR1 := Lib.hid hor
    have BX1 := Lib.hid hbx
    have BR1 := Lib.hid hbr
    have c0 := hbx.now 0 _ rfl
    have c1 := hbx.now 1 _ rfl
    clear hfb hox hor hbx hbr FB OX OR BX BR
    by_cases hlt : k < Z
    · go_wp2_with fail
      refine (impl_bitAt_yes Z P a pc X k wr (by omega) OX1.out.orow ⟨HG.out.1.1, by omega, by omega, by omega, by omega⟩).mono ?_; rintro e v1 ⟨rfl, hb⟩
      have FB2 := Lib.hid (FB1.out.b hb)
      have OX2 := Lib.hid (OX1.out.b hb)
      have OR2 := Lib.hid (OR1.out.b hb)
      have BX2 := Lib.hid (BX1.out.b hb)
      have BR2 := Lib.hid (BR1.out.b hb)
      clear hb FB1 OX1 OR1 BX1 BR1 c0 c1
      have d0 := BR2.out.now 0 _ rfl
      have d1 := BR2.out.now 1 _ rfl
      go_wp2_with fail
      refine (impl_bitAt_yes Z R a rc (putW Z X p q v) k v1 (by omega) OR2.out.orow ⟨HGO.out, by omega, by omega, by omega, by omega⟩).mono ?_; rintro e v2 ⟨rfl, hb⟩
      have FB3 := Lib.hid (FB2.out.b hb)
      have OX3 := Lib.hid (OX2.out.b hb)
      have OR3 := Lib.hid (OR2.out.b hb)
      have BX3 := Lib.hid (BX2.out.b hb)
      have BR3 := Lib.hid (BR2.out.b hb)
      clear hb FB2 OX2 OR2 BX2 BR2 d0 d1
      rw [putW_bit]
      by_cases hin : p ≤ k ∧ k < p + q
      · have i1 : ¬ ((k : Int) < (p : Int)) := by omega
        have i2 : ¬ ((p : Int) + (q : Int) ≤ (k : Int)) := by omega
        generalize bitN (fun i => (X i).toNat) k = b1
        generalize putF Z X p q v k = b2
        cases b1 <;> cases b2
        all_goals
          go_wp2_with fail
          go_roundw
          case rel => exact ⟨k + 1, by omega, by go_num, FB3.out, OX3.out, OR3.out, BX3.out, BR3.out⟩
          case measure => simp [intOf]; omega
      · rw [putF_far hlt hin]
        generalize bitN (fun i => (X i).toNat) k = b1
        cases b1
        all_goals
          go_wp2_with fail
          go_roundw
          case rel => exact ⟨k + 1, by omega, by go_num, FB3.out, OX3.out, OR3.out, BX3.out, BR3.out⟩
          case measure => simp [intOf]; omega
    · go_wp2_with fail
      go_ret
      exact ⟨rfl, FB1.out.now⟩
end Go.Proofs.Ytglccgpiakadbaa
