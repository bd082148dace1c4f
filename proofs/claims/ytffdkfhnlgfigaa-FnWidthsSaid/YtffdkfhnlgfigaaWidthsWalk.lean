/- The law FnWidths, walked. -/
import Derived.Test.YtffdkfhnlgfigaaOpenB
import Derived.Test.YtffdkfhnlgfigaaCur6
import Derived.Test.YtffdkfhnlgfigaaWidthS
import Derived.Test.YtffdkfhnlgfigaaBuildT
import Derived.Test.YtffdkfhnlgfigaaListV
import Derived.Test.YtffdkfhnlgfigaaAskU
namespace Go.Proofs.Ytffdkfhnlgfigaa
open Go.RowKit

set_option maxRecDepth 100000 in
set_option maxHeartbeats 1000000 in
theorem walk_FnWidths (w : World) (A : Option Addr) (n c : Nat) (D : Nat → Int) (hn : n ≤ maxLen) (hr : URow w A n D) (B : Option Addr) (m d : Nat) (E : Nat → Int) (hm : m ≤ maxLen) (_hs : URow w B m E) :
    Calls Try.prog 3 #[.slice A n c, .slice B m d] w fun e w' => e = .returned (.bool true) ∧ Below w.heap.size w w' := by
  have HR := Lib.hid hr
  clear hr
  by_cases hbig : n + m ≤ 1048576
  rotate_left
  · have hb : (!decide (n + m ≤ 1048576)) = true := by simp; omega
    go_enter Try.func3, Try.ntmps3
    go_wp2_with fail
    refine (big_is A B n c m d w hn hm).mono ?_; rintro e w' ⟨rfl, rfl⟩
    rw [hb]
    go_wp2_with fail
    go_ret
    exact ⟨rfl, Below.refl _ _⟩
  have hb : (!decide (n + m ≤ 1048576)) = false := by simp; omega
  go_enter Try.func3, Try.ntmps3
  go_wp2_with fail
  refine (big_is A B n c m d w hn hm).mono ?_; rintro e w' ⟨rfl, rfl⟩
  rw [hb]
  clear hb
  go_wp2_with fail
  refine (draw_widthFor A n c D w (by omega) HR.out.1 HR.out.2).mono ?_; rintro e wr ⟨x, y, x0, x1, y0, y1, rfl, hb1⟩
  have HB1 := Lib.hid hb1
  clear hb1
  by_cases hok : WOk x y
  rotate_left
  · have HN := Lib.hid hok
    clear hok
    go_wp2_with fail
    refine (impl_width_no x y _ HN.out).mono ?_; rintro e w' ⟨rfl, rfl⟩
    go_wp2_with fail
    refine (spec_width_no x y _ HN.out).mono ?_; rintro e w' ⟨rfl, rfl⟩
    go_wp2_with fail
    go_ret
    exact ⟨rfl, HB1.out⟩
  obtain ⟨c, rfl⟩ : ∃ c : Nat, x = c := ⟨x.toNat, by have := hok.1; omega⟩
  obtain ⟨L, rfl⟩ : ∃ L : Nat, y = L := ⟨y.toNat, by have := hok.2.2.1; omega⟩
  have hc60 : c ≤ 60 := by have := hok.2.1; omega
  have hL1 : 1 ≤ L := by have := hok.2.2.1; omega
  have hL2 : L ≤ 100000 := by have := hok.2.2.2; omega
  obtain ⟨v, hv⟩ := isW_ex c L
  have HW := Lib.hid hv
  have hv16 := isW_le hv hL2
  clear hok hv
  go_wp2_with fail
  refine (impl_width_yes c L v _ hc60 hL1 hL2 HW.out).mono ?_; rintro e w' ⟨rfl, rfl⟩
  go_wp2_with fail
  refine (spec_width_yes c L v _ hc60 hL1 hL2 HW.out).mono ?_; rintro e w' ⟨rfl, rfl⟩
  by_cases hc0 : c = 0
  · have hd : ((c : Int) == 0) = true := by simpa using hc0
    have hmx : max c 1 = 1 := by omega
    clear hc0
    have hsm := w_small (c := c) (v := v) hc60 (isW_le HW.out hL2)
    have hfit := HW.out
    unfold IsW at hfit
    rw [hmx] at hsm hfit
    clear hmx
    go_wp2_with fail
    go_loop [12, 13] (fun f i => ∃ k : Nat, k ≤ v ∧ i = .int .i64 k ∧ f = .int .i64 ((1 * 2 ^ k : Nat) : Int)) (fun _ i => v - (intOf i).toNat)
    case atStart => exact ⟨0, Nat.zero_le _, rfl, by simp⟩
    case round =>
      obtain ⟨k, hk, rfl, rfl⟩ := hrel
      by_cases hlt : k < v
      · have hpw : 1 * 2 ^ (k + 1) ≤ 7864320 := Nat.le_trans (Nat.mul_le_mul (Nat.le_refl _) (Nat.pow_le_pow_right (by omega) (by omega))) hsm
        have hP : 1 * 2 ^ (k + 1) = 1 * 2 ^ k * 2 := by rw [Nat.pow_succ, Nat.mul_assoc]
        obtain ⟨P, hPP⟩ : ∃ P, P = 1 * 2 ^ k := ⟨_, rfl⟩
        rw [← hPP] at hP ⊢
        have HP := Lib.hid hP
        have hPb : P * 2 ≤ 7864320 := by omega
        clear hpw hP hPP hfit
        go_wp2_with fail
        go_round
        case rel => exact ⟨k + 1, by omega, by go_num, by rw [HP.out]; push_cast; rfl⟩
        case measure => simp [intOf]; omega
      · obtain rfl : v = k := by omega
        have HF := Lib.hid hfit
        obtain ⟨T, hT⟩ : ∃ T, T = 2 ^ v := ⟨_, rfl⟩
        have HT := Lib.hid hT
        have hT0 : 0 < T := by rw [hT]; exact Nat.pow_pos (by omega)
        obtain ⟨P, hPP⟩ : ∃ P, P = 1 * 2 ^ v := ⟨_, rfl⟩
        have HPT := Lib.hid (show P = 1 * T by rw [hPP, hT])
        have h2P : 1 * 2 ^ (v + 1) = 2 * P := by rw [hPP, Nat.pow_succ, ← Nat.mul_assoc, Nat.mul_comm]
        rw [h2P] at hfit hsm
        rw [← hPP] at hfit ⊢
        have hPm : 1 ≤ P := by rw [HPT.out]; exact Nat.le_mul_of_pos_right _ hT0
        have hmk := fun W => run_make_row' (P := Try.prog) 28 3 (.int .i64 0) 8 Try.underlying28 infoI rfl .i64 .i64 c (by omega) (by omega) W
        have HO := Lib.hid ((ORow.made wr c).row)
        have hSP : SpN c L v (fun _ => 0) := ⟨hc60, hL1, hL2, HW.out, fun _ _ => by show 0 < L; omega, fun _ _ => Nat.le_refl _⟩
        have HSP := Lib.hid hSP
        have hzl := hSP.lows
        have hzh := hSP.high
        obtain ⟨Q, hQ⟩ : ∃ Q, Q = (L - 1) / T := ⟨_, rfl⟩
        have HQ := Lib.hid (show hzN c L v = c + Q + 1 by rw [hQ, hT]; rfl)
        have hQb : Q ≤ 200 := by have := HQ.out; omega
        obtain rfl : P = T := by rw [HPT.out, Nat.one_mul]
        have eq1 : (P : Int).tdiv 1 = (P : Int) := Int.tdiv_one _
        have eq2 : ((L : Int) - 1).tdiv (P : Int) = (Q : Int) := by rw [hQ, Int.tdiv_eq_ediv_of_nonneg (by omega)]; push_cast; rw [Int.natCast_sub hL1]; rfl
        have EQ1 := Lib.hid eq1
        have EQ2 := Lib.hid eq2
        clear hT hPP h2P hSP hQ eq1 eq2
        go_wp2_with (rw [hmk])
        refine (impl_build_yes _ c _ L v (fun _ => 0) _ HSP.out (HO.out.congr (fun _ _ => rfl)) _ _ rfl rfl).mono ?_
        rintro e w1 ⟨A1, k1, A2, k2, rfl, o1, o2, ap, hbl⟩
        have h1 : IRow w1 A1 ((c * v + 15) / 16) (fun i => (wordsOf (lowB (fun _ => 0) v c) i : Int)) := (owned o1).orow
        have h2 : IRow w1 A2 ((hzN c L v + 15) / 16) (fun i => (wordsOf (highB (fun _ => 0) v c) i : Int)) := (owned o2).orow
        have S0 := Lib.hid (SL.start (w := w1) (z0 := c) (z1 := L) (z2 := v) (z3 := (c * v : Nat)) (z4 := (hzN c L v : Nat)) (c1 := k1) (c2 := k2) h1 h2)
        have HV := Lib.hid (show SpV c L v (c * v : Nat) ((c * v + 15) / 16) (fun i => (wordsOf (lowB (fun _ => 0) v c) i : Int)) (hzN c L v : Nat) ((hzN c L v + 15) / 16) (fun i => (wordsOf (highB (fun _ => 0) v c) i : Int)) from
          ⟨c, L, v, (fun _ => 0), HSP.out, rfl, rfl, rfl, rfl, rfl, fun _ _ => rfl, rfl, rfl, fun _ _ => rfl⟩)
        have hq := S0.out.cells
        unfold spC at S0 hq ⊢
        obtain ⟨q0, q1, q2, q3, q4, q5, q6⟩ := hq
        have HB2 := Lib.hid (HB1.out.trans (((Below.refl wr.heap.size wr).alloc (Nat.le_refl _) (.cells (madeCells #[.int .i64 0] c) 3)).trans (hbl.mono (by simp)) |>.mono HB1.out.size))
        clear o1 o2 ap hbl h1 h2
        go_wp2_with fail
        refine (impl_SparseBits_yes A1 ((c * v + 15) / 16) k1 _ A2 ((hzN c L v + 15) / 16) k2 _ _ (c * v) (hzN c L v) (by omega) (by omega) S0.out.low S0.out.high HV.out rfl rfl hzl hzh).mono ?_; rintro e w2 ⟨rfl, hbl⟩
        have S1 := Lib.hid (S0.out.step hbl)
        clear hbl S0 q0 q1 q2 q3 q4 q5 q6
        have hq := S1.out.cells
        obtain ⟨q0, q1, q2, q3, q4, q5, q6⟩ := hq
        have hle : decide ((2 : Int) * (P : Int) ≤ (L : Int)) = false := by simp; omega
        have EZ := Lib.hid (show (c : Int) * v + c + Q + 1 = ((c * v : Nat) : Int) + ((hzN c L v : Nat) : Int) by rw [HQ.out]; push_cast; omega)
        have hzl' : (c : Int) * v ≤ 960 := by exact_mod_cast hzl
        have hzl0 : 0 ≤ (c : Int) * v := by exact_mod_cast Nat.zero_le (c * v)
        have HFIT := Lib.hid hfit
        clear hfit
        have HEND := fun (wi : World) (S : SL w1 c L v (c * v : Nat) A1 ((c * v + 15) / 16) k1 (fun i => (wordsOf (lowB (fun _ => 0) v c) i : Int)) (hzN c L v : Nat) A2 ((hzN c L v + 15) / 16) k2 (fun i => (wordsOf (highB (fun _ => 0) v c) i : Int)) wi) =>
          ((BoolIs.two (impl_isSparse A1 ((c * v + 15) / 16) k1 _ A2 ((hzN c L v + 15) / 16) k2 _ wi _ _ _ _ _ (by omega) (by omega) S.low S.high)).1 HV.out)
        by_cases hv0 : v = 0
        · have hgt : decide (0 < v) = false := by simp; omega
          clear hv0
          go_wp2_with fail
          refine (HEND _ S1.out).mono ?_; rintro e w3 ⟨rfl, hbl⟩
          have S2 := Lib.hid (S1.out.step hbl)
          clear hbl q0 q1 q2 q3 q4 q5 q6
          have e1 := EQ1.out
          have e2 := EQ2.out
          go_wp2_with fail
          rw [show ((c : Int) * v + (hzN c L v : Nat) == (c : Int) * v + c + Q + 1) = true by have := EZ.out; simp only [beq_iff_eq]; push_cast at this; omega]
          go_ret
          exact ⟨rfl, HB2.out.trans (S2.out.below.mono HB2.out.size)⟩
        · have hgt : decide (0 < v) = true := by simp; omega
          have hgt2 : decide (L < P) = false := by have := HFIT.out; simp; omega
          clear hv0
          go_wp2_with fail
          refine (HEND _ S1.out).mono ?_; rintro e w3 ⟨rfl, hbl⟩
          have S2 := Lib.hid (S1.out.step hbl)
          clear hbl q0 q1 q2 q3 q4 q5 q6
          have e1 := EQ1.out
          have e2 := EQ2.out
          go_wp2_with fail
          rw [show ((c : Int) * v + (hzN c L v : Nat) == (c : Int) * v + c + Q + 1) = true by have := EZ.out; simp only [beq_iff_eq]; push_cast at this; omega]
          go_ret
          exact ⟨rfl, HB2.out.trans (S2.out.below.mono HB2.out.size)⟩
  · have hd : ((c : Int) == 0) = false := by simpa using hc0
    have hmx : max c 1 = c := by omega
    have hc1 : 1 ≤ c := by omega
    clear hc0
    have hsm := w_small (c := c) (v := v) hc60 (isW_le HW.out hL2)
    have hfit := HW.out
    unfold IsW at hfit
    rw [hmx] at hsm hfit
    clear hmx
    go_wp2_with fail
    go_loop [12, 13] (fun f i => ∃ k : Nat, k ≤ v ∧ i = .int .i64 k ∧ f = .int .i64 ((c * 2 ^ k : Nat) : Int)) (fun _ i => v - (intOf i).toNat)
    case atStart => exact ⟨0, Nat.zero_le _, rfl, by simp⟩
    case round =>
      obtain ⟨k, hk, rfl, rfl⟩ := hrel
      by_cases hlt : k < v
      · have hpw : c * 2 ^ (k + 1) ≤ 7864320 := Nat.le_trans (Nat.mul_le_mul (Nat.le_refl _) (Nat.pow_le_pow_right (by omega) (by omega))) hsm
        have hP : c * 2 ^ (k + 1) = c * 2 ^ k * 2 := by rw [Nat.pow_succ, Nat.mul_assoc]
        obtain ⟨P, hPP⟩ : ∃ P, P = c * 2 ^ k := ⟨_, rfl⟩
        rw [← hPP] at hP ⊢
        have HP := Lib.hid hP
        have hPb : P * 2 ≤ 7864320 := by omega
        clear hpw hP hPP hfit
        go_wp2_with fail
        go_round
        case rel => exact ⟨k + 1, by omega, by go_num, by rw [HP.out]; push_cast; rfl⟩
        case measure => simp [intOf]; omega
      · obtain rfl : v = k := by omega
        have HF := Lib.hid hfit
        obtain ⟨T, hT⟩ : ∃ T, T = 2 ^ v := ⟨_, rfl⟩
        have HT := Lib.hid hT
        have hT0 : 0 < T := by rw [hT]; exact Nat.pow_pos (by omega)
        obtain ⟨P, hPP⟩ : ∃ P, P = c * 2 ^ v := ⟨_, rfl⟩
        have HPT := Lib.hid (show P = c * T by rw [hPP, hT])
        have h2P : c * 2 ^ (v + 1) = 2 * P := by rw [hPP, Nat.pow_succ, ← Nat.mul_assoc, Nat.mul_comm]
        rw [h2P] at hfit hsm
        rw [← hPP] at hfit ⊢
        have hPm : c ≤ P := by rw [HPT.out]; exact Nat.le_mul_of_pos_right _ hT0
        have hmk := fun W => run_make_row' (P := Try.prog) 28 3 (.int .i64 0) 8 Try.underlying28 infoI rfl .i64 .i64 c (by omega) (by omega) W
        have HO := Lib.hid ((ORow.made wr c).row)
        have hSP : SpN c L v (fun _ => 0) := ⟨hc60, hL1, hL2, HW.out, fun _ _ => by show 0 < L; omega, fun _ _ => Nat.le_refl _⟩
        have HSP := Lib.hid hSP
        have hzl := hSP.lows
        have hzh := hSP.high
        obtain ⟨Q, hQ⟩ : ∃ Q, Q = (L - 1) / T := ⟨_, rfl⟩
        have HQ := Lib.hid (show hzN c L v = c + Q + 1 by rw [hQ, hT]; rfl)
        have hQb : Q ≤ 200 := by have := HQ.out; omega
        have hTP : T ≤ P := by rw [HPT.out]; exact Nat.le_mul_of_pos_left _ hc1
        have eq1 : (P : Int).tdiv (c : Int) = (T : Int) := by rw [HPT.out, Int.tdiv_eq_ediv_of_nonneg (Int.natCast_nonneg _)]; push_cast; rw [Int.mul_ediv_cancel_left]; omega
        have eq2 : ((L : Int) - 1).tdiv (T : Int) = (Q : Int) := by rw [hQ, Int.tdiv_eq_ediv_of_nonneg (by omega)]; push_cast; rw [Int.natCast_sub hL1]; rfl
        have EQ1 := Lib.hid eq1
        have EQ2 := Lib.hid eq2
        clear hT hPP h2P hSP hQ eq1 eq2
        go_wp2_with (rw [hmk])
        refine (impl_build_yes _ c _ L v (fun _ => 0) _ HSP.out (HO.out.congr (fun _ _ => rfl)) _ _ rfl rfl).mono ?_
        rintro e w1 ⟨A1, k1, A2, k2, rfl, o1, o2, ap, hbl⟩
        have h1 : IRow w1 A1 ((c * v + 15) / 16) (fun i => (wordsOf (lowB (fun _ => 0) v c) i : Int)) := (owned o1).orow
        have h2 : IRow w1 A2 ((hzN c L v + 15) / 16) (fun i => (wordsOf (highB (fun _ => 0) v c) i : Int)) := (owned o2).orow
        have S0 := Lib.hid (SL.start (w := w1) (z0 := c) (z1 := L) (z2 := v) (z3 := (c * v : Nat)) (z4 := (hzN c L v : Nat)) (c1 := k1) (c2 := k2) h1 h2)
        have HV := Lib.hid (show SpV c L v (c * v : Nat) ((c * v + 15) / 16) (fun i => (wordsOf (lowB (fun _ => 0) v c) i : Int)) (hzN c L v : Nat) ((hzN c L v + 15) / 16) (fun i => (wordsOf (highB (fun _ => 0) v c) i : Int)) from
          ⟨c, L, v, (fun _ => 0), HSP.out, rfl, rfl, rfl, rfl, rfl, fun _ _ => rfl, rfl, rfl, fun _ _ => rfl⟩)
        have hq := S0.out.cells
        unfold spC at S0 hq ⊢
        obtain ⟨q0, q1, q2, q3, q4, q5, q6⟩ := hq
        have HB2 := Lib.hid (HB1.out.trans (((Below.refl wr.heap.size wr).alloc (Nat.le_refl _) (.cells (madeCells #[.int .i64 0] c) 3)).trans (hbl.mono (by simp)) |>.mono HB1.out.size))
        clear o1 o2 ap hbl h1 h2
        go_wp2_with fail
        refine (impl_SparseBits_yes A1 ((c * v + 15) / 16) k1 _ A2 ((hzN c L v + 15) / 16) k2 _ _ (c * v) (hzN c L v) (by omega) (by omega) S0.out.low S0.out.high HV.out rfl rfl hzl hzh).mono ?_; rintro e w2 ⟨rfl, hbl⟩
        have S1 := Lib.hid (S0.out.step hbl)
        clear hbl S0 q0 q1 q2 q3 q4 q5 q6
        have hq := S1.out.cells
        obtain ⟨q0, q1, q2, q3, q4, q5, q6⟩ := hq
        have hle : decide ((2 : Int) * (P : Int) ≤ (L : Int)) = false := by simp; omega
        have EZ := Lib.hid (show (c : Int) * v + c + Q + 1 = ((c * v : Nat) : Int) + ((hzN c L v : Nat) : Int) by rw [HQ.out]; push_cast; omega)
        have hzl' : (c : Int) * v ≤ 960 := by exact_mod_cast hzl
        have hzl0 : 0 ≤ (c : Int) * v := by exact_mod_cast Nat.zero_le (c * v)
        have HFIT := Lib.hid hfit
        clear hfit
        have HEND := fun (wi : World) (S : SL w1 c L v (c * v : Nat) A1 ((c * v + 15) / 16) k1 (fun i => (wordsOf (lowB (fun _ => 0) v c) i : Int)) (hzN c L v : Nat) A2 ((hzN c L v + 15) / 16) k2 (fun i => (wordsOf (highB (fun _ => 0) v c) i : Int)) wi) =>
          ((BoolIs.two (impl_isSparse A1 ((c * v + 15) / 16) k1 _ A2 ((hzN c L v + 15) / 16) k2 _ wi _ _ _ _ _ (by omega) (by omega) S.low S.high)).1 HV.out)
        by_cases hv0 : v = 0
        · have hgt : decide (0 < v) = false := by simp; omega
          clear hv0
          go_wp2_with fail
          refine (HEND _ S1.out).mono ?_; rintro e w3 ⟨rfl, hbl⟩
          have S2 := Lib.hid (S1.out.step hbl)
          clear hbl q0 q1 q2 q3 q4 q5 q6
          have e1 := EQ1.out
          have e2 := EQ2.out
          go_wp2_with fail
          rw [show ((c : Int) * v + (hzN c L v : Nat) == (c : Int) * v + c + Q + 1) = true by have := EZ.out; simp only [beq_iff_eq]; push_cast at this; omega]
          go_ret
          exact ⟨rfl, HB2.out.trans (S2.out.below.mono HB2.out.size)⟩
        · have hgt : decide (0 < v) = true := by simp; omega
          have hgt2 : decide (L < P) = false := by have := HFIT.out; simp; omega
          clear hv0
          go_wp2_with fail
          refine (HEND _ S1.out).mono ?_; rintro e w3 ⟨rfl, hbl⟩
          have S2 := Lib.hid (S1.out.step hbl)
          clear hbl q0 q1 q2 q3 q4 q5 q6
          have e1 := EQ1.out
          have e2 := EQ2.out
          go_wp2_with fail
          rw [show ((c : Int) * v + (hzN c L v : Nat) == (c : Int) * v + c + Q + 1) = true by have := EZ.out; simp only [beq_iff_eq]; push_cast at this; omega]
          go_ret
          exact ⟨rfl, HB2.out.trans (S2.out.below.mono HB2.out.size)⟩
end Go.Proofs.Ytffdkfhnlgfigaa
