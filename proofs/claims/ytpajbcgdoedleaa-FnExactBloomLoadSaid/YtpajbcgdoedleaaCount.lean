/- CountBits: the program's and the model's. -/
import Derived.Test.YtpajbcgdoedleaaRead
import Derived.Test.YtpajbcgdoedleaaOnes
namespace Go.Proofs.Ytpajbcgdoedleaa
open Go.RowKit

def Span (z : Int) (n : Nat) (X : Nat → Int) (a b : Int) : Prop := Good z n X ∧ 0 ≤ a ∧ a ≤ b ∧ b ≤ z

set_option maxHeartbeats 400000 in
theorem impl_hasRange (z : Int) (A : Option Addr) (n c : Nat) (X : Nat → Int) (a b : Int) (w : World) (hn : n ≤ 1048576) (hr : IRow w A n X) :
    Calls Try.prog 98 #[.agg #[.int .i64 z, .slice A n c], .int .i64 a, .int .i64 b] w (BoolIs (Span z n X a b) w) := by
  have L0 := Lib.hid (LS.start (z := z) (c := c) hr 29)
  clear hr
  by_cases hg : Good z n X
  · have HG := Lib.hid hg
    clear hg
    go_enter Try.func98, Try.ntmps98
    go_wp2_with fail
    refine (isBits_yes hn L0.out.row HG.out).mono ?_; rintro e w1 ⟨rfl, hb⟩
    have L1 := Lib.hid (L0.out.step hb)
    clear hb L0
    obtain ⟨hs1, c0, c1⟩ := L1.out.box
    by_cases q1 : 0 ≤ a
    · have b1 : decide (0 ≤ a) = true := by simpa using q1
      by_cases q2 : a ≤ b
      · have b2 : decide (a ≤ b) = true := by simpa using q2
        by_cases q3 : b ≤ z
        · have b3 : decide (b ≤ z) = true := by simpa using q3
          go_wp2_with fail
          go_ret
          exact ⟨true, rfl, by simp only [true_iff]; exact ⟨HG.out, q1, q2, q3⟩, L1.out.below⟩
        · have b3 : decide (b ≤ z) = false := by simpa using q3
          go_wp2_with fail
          go_ret
          exact ⟨false, rfl, by simp only [Bool.false_eq_true, false_iff]; exact fun h => absurd h.2.2.2 (by omega), L1.out.below⟩
      · have b2 : decide (a ≤ b) = false := by simpa using q2
        go_wp2_with fail
        go_ret
        exact ⟨false, rfl, by simp only [Bool.false_eq_true, false_iff]; exact fun h => absurd h.2.2.1 (by omega), L1.out.below⟩
    · have b1 : decide (0 ≤ a) = false := by simpa using q1
      go_wp2_with fail
      go_ret
      exact ⟨false, rfl, by simp only [Bool.false_eq_true, false_iff]; exact fun h => absurd h.2.1 (by omega), L1.out.below⟩
  · have HG := Lib.hid hg
    clear hg
    go_enter Try.func98, Try.ntmps98
    go_wp2_with fail
    refine (isBits_no hn L0.out.row HG.out).mono ?_; rintro e w1 ⟨rfl, hb⟩
    have L1 := Lib.hid (L0.out.step hb)
    clear hb L0
    go_wp2_with fail
    go_ret
    exact ⟨false, rfl, by simp only [Bool.false_eq_true, false_iff]; exact fun h => HG.out h.1, L1.out.below⟩

set_option maxHeartbeats 400000 in
theorem spec_biCount (z : Int) (A : Option Addr) (n c : Nat) (W : Nat → Nat) (a u : Nat) (w : World) (hn : n ≤ 1048576) (hr : WRow w A n W) (hau : a ≤ u) (hz : u ≤ 16 * n) (hu : u ≤ 4096) :
    Calls Try.prog 75 #[.agg #[.int .i64 z, .slice A n c], .int .i64 a, .int .i64 u] w fun e w' => e = .returned (.int .i64 (cntN W a (u - a))) ∧ Below w.heap.size w w' := by
  have L0 := Lib.hid (LS.start (z := z) (c := c) hr.1 29)
  have hW := Lib.hid hr.2
  clear hr
  go_enter Try.func75, Try.ntmps75
  go_wp2_with fail
  go_loopw [7, 8] (fun v i wr => ∃ q V : Nat, a ≤ q ∧ q ≤ u ∧ i = .int .i64 q ∧ v = .int .i64 V ∧ V ≤ 4096 ∧ Hid (V = cntN W a (q - a)) ∧ LS w w.heap.size z A n c (fun i => (W i : Int)) wr) (fun _ i _ => u - (intOf i).toNat)
  case atStart => exact ⟨a, 0, Nat.le_refl _, hau, rfl, rfl, by omega, (by show 0 = _; simp [cntN]), L0.out⟩
  case round =>
    obtain ⟨q, V, hq1, hq2, rfl, rfl, hV, hv, hl⟩ := hrel
    have L1 := Lib.hid hl
    obtain ⟨hs1, c0, c1⟩ := hl.box
    clear hl L0
    by_cases hlt : q < u
    · have HS := Lib.hid (show cntN W a (q + 1 - a) = cntN W a (q - a) + (if bitN W q then 1 else 0) by
        rw [show q + 1 - a = (q - a) + 1 by omega, cntN_snoc, show a + (q - a) = q by omega])
      have HL := Lib.hid (cntN_le W (q + 1 - a) a)
      by_cases hbit : bitN W q = true
      · go_wp2_with fail
        refine (spec_biAt z A n c W q _ hn ⟨L1.out.row, hW.out⟩ (by omega)).mono ?_; rintro e w2 ⟨rfl, hb⟩
        have L2 := Lib.hid (L1.out.step hb)
        clear hb L1
        go_wp2_with fail
        go_roundw
        case rel => exact ⟨q + 1, V + 1, by omega, by omega, by go_num, by go_num, (by have := HL.out; rw [HS.out, ← hv.out] at this; simp [hbit] at this; omega), (by show _ = _; rw [HS.out, ← hv.out]; simp [hbit]), L2.out⟩
        case measure => simp [intOf]; omega
      · have hbit : bitN W q = false := by simpa using hbit
        go_wp2_with fail
        refine (spec_biAt z A n c W q _ hn ⟨L1.out.row, hW.out⟩ (by omega)).mono ?_; rintro e w2 ⟨rfl, hb⟩
        have L2 := Lib.hid (L1.out.step hb)
        clear hb L1
        go_wp2_with fail
        go_roundw
        case rel => exact ⟨q + 1, V, by omega, by omega, by go_num, rfl, hV, (by show _ = _; rw [HS.out, ← hv.out]; simp [hbit]), L2.out⟩
        case measure => simp [intOf]; omega
    · obtain rfl : q = u := by omega
      go_wp2_with fail
      go_ret
      exact ⟨ret_int (by rw [hv.out]), L1.out.below⟩

set_option maxHeartbeats 400000 in
theorem impl_count_yes (z : Int) (A : Option Addr) (n c : Nat) (X : Nat → Int) (a u : Nat) (w : World) (hn : n ≤ 1048576) (hr : IRow w A n X) (h : Span z n X a u) :
    Calls Try.prog 76 #[.agg #[.int .i64 z, .slice A n c], .int .i64 a, .int .i64 u] w fun e w' => e = .returned (.tuple #[.int .i64 (cntN (fun i => (X i).toNat) a (u - a)), .bool true]) ∧ Below w.heap.size w w' := by
  have L0 := Lib.hid (LS.start (z := z) (c := c) hr 29)
  clear hr
  have HG := Lib.hid h
  have hz : u ≤ 16 * n := by have := h.1.2.2.1; have := h.2.2.2; omega
  have hd : u ≤ 4096 := by have := h.1.2.1; have := h.2.2.2; omega
  have hau : a ≤ u := by have := h.2.2.1; omega
  clear h
  go_enter Try.func76, Try.ntmps76
  go_wp2_with fail
  refine ((BoolIs.two (impl_hasRange z A n c X a _ _ hn L0.out.row)).1 HG.out).mono ?_; rintro e w1 ⟨rfl, hb⟩
  have L1 := Lib.hid (L0.out.step hb)
  clear hb L0
  obtain ⟨hs1, c0, c1⟩ := L1.out.box
  have HW := Lib.hid (good_row HG.out.1 L1.out.row)
  go_wp2_with fail
  go_loop [8, 9] (fun v i => ∃ q V : Nat, a ≤ q ∧ q ≤ u + 15 ∧ i = .int .i64 q ∧ v = .int .i64 V ∧ V ≤ 4096 ∧ Hid (V = cntN (fun i => (X i).toNat) a (min q u - a))) (fun _ i => u + 16 - (intOf i).toNat)
  case atStart => exact ⟨a, 0, Nat.le_refl _, by omega, rfl, rfl, by omega, (by show 0 = _; rw [Nat.min_eq_left hau]; simp [cntN])⟩
  case round =>
    obtain ⟨q, V, hq1, hq2, rfl, rfl, hV, hv⟩ := hrel
    by_cases hlt : q < u
    · by_cases h16 : (16 : Int) ≤ (u : Int) - (q : Int)
      · have hF := fieldN_lt (fun i => (X i).toNat) 16 q
        have hP := pc_field (fun i => (X i).toNat) 16 (by omega) q
        have hL := cntN_le (fun i => (X i).toNat) (q + 16 - a) a
        have hA := cntN_add (fun i => (X i).toNat) (q - a) 16 a
        rw [show q - a + 16 = q + 16 - a by omega, show a + (q - a) = q by omega] at hA
        have hv' := hv.out
        rw [Nat.min_eq_left (by omega)] at hv'
        have hN := Lib.hid (show V + pcF (fieldN (fun i => (X i).toNat) q 16) = cntN (fun i => (X i).toNat) a (min (q + 16) u - a) by rw [Nat.min_eq_left (by omega), hA, hP, hv'])
        have hN2 : V + pcF (fieldN (fun i => (X i).toNat) q 16) ≤ 4096 := by rw [hP, hv', ← hA]; omega
        have hC := impl_fieldOf A n c (fun i => (X i).toNat) q 16 w1 hn HW.out (by omega) (by omega)
        have HC := Lib.hid hC
        clear hC hv hv' hA hL hP
        generalize fieldN (fun i => (X i).toNat) q 16 = F at *
        have hF2 : F ≤ 65535 := by have : (2 : Nat) ^ 16 = 65536 := by decide
                                   omega
        clear hF
        go_wp2_with fail
        refine (HC.out).mono ?_; rintro e w2 ⟨rfl, rfl⟩
        go_wp2_with fail
        refine (onesCount F _ (by omega)).mono ?_; rintro e w2 ⟨rfl, rfl⟩
        generalize pcF F = G at *
        go_wp2_with fail
        go_round
        case rel => exact ⟨q + 16, V + G, by omega, by omega, by go_num, by go_num, by omega, hN.out⟩
        case measure => simp [intOf]; omega
      · have hF := fieldN_lt (fun i => (X i).toNat) (u - q) q
        have hP := pc_field (fun i => (X i).toNat) (u - q) (by omega) q
        have hL := cntN_le (fun i => (X i).toNat) (u - a) a
        have hA := cntN_add (fun i => (X i).toNat) (q - a) (u - q) a
        rw [show q - a + (u - q) = u - a by omega, show a + (q - a) = q by omega] at hA
        have hv' := hv.out
        rw [Nat.min_eq_left (by omega)] at hv'
        have hN := Lib.hid (show V + pcF (fieldN (fun i => (X i).toNat) q (u - q)) = cntN (fun i => (X i).toNat) a (min (q + 16) u - a) by rw [Nat.min_eq_right (by omega), hA, hP, hv'])
        have hN2 : V + pcF (fieldN (fun i => (X i).toNat) q (u - q)) ≤ 4096 := by rw [hP, hv', ← hA]; omega
        have hC := impl_fieldOf A n c (fun i => (X i).toNat) q (u - q) w1 hn HW.out (by omega) (by omega)
        rw [show ((u - q : Nat) : Int) = (u : Int) - q by omega] at hC
        have HC := Lib.hid hC
        have h2 : 2 ^ (u - q) ≤ 2 ^ 16 := Nat.pow_le_pow_right (by omega) (by omega)
        have h3 : (2 : Nat) ^ 16 = 65536 := by decide
        have hF2 : fieldN (fun i => (X i).toNat) q (u - q) ≤ 65535 := by omega
        clear hC hv hv' hA hL hP hF h2 h3
        generalize fieldN (fun i => (X i).toNat) q (u - q) = F at *
        go_wp2_with fail
        refine (HC.out).mono ?_; rintro e w2 ⟨rfl, rfl⟩
        go_wp2_with fail
        refine (onesCount F _ (by omega)).mono ?_; rintro e w2 ⟨rfl, rfl⟩
        generalize pcF F = G at *
        go_wp2_with fail
        go_round
        case rel => exact ⟨q + 16, V + G, by omega, by omega, by go_num, by go_num, by omega, hN.out⟩
        case measure => simp [intOf]; omega
    · go_wp2_with fail
      go_ret2
      exact ⟨by rw [hv.out, Nat.min_eq_right (by omega)]; rfl, L1.out.below⟩

set_option maxHeartbeats 400000 in
theorem impl_count_no (z : Int) (A : Option Addr) (n c : Nat) (X : Nat → Int) (a b : Int) (w : World) (hn : n ≤ 1048576) (hr : IRow w A n X) (h : ¬ Span z n X a b) :
    Calls Try.prog 76 #[.agg #[.int .i64 z, .slice A n c], .int .i64 a, .int .i64 b] w fun e w' => e = .returned (.tuple #[.int .i64 0, .bool false]) ∧ Below w.heap.size w w' := by
  have L0 := Lib.hid (LS.start (z := z) (c := c) hr 29)
  clear hr
  have HG := Lib.hid h
  clear h
  go_enter Try.func76, Try.ntmps76
  go_wp2_with fail
  refine ((BoolIs.two (impl_hasRange z A n c X a b _ hn L0.out.row)).2 HG.out).mono ?_; rintro e w1 ⟨rfl, hb⟩
  have L1 := Lib.hid (L0.out.step hb)
  clear hb L0
  go_wp2_with fail
  go_ret2
  exact ⟨rfl, L1.out.below⟩

end Go.Proofs.Ytpajbcgdoedleaa
