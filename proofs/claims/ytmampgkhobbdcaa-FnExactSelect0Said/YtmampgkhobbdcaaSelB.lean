/- The model's select. -/
import Derived.Test.YtmampgkhobbdcaaRankQ
import Derived.Test.YtmampgkhobbdcaaNext
namespace Go.Proofs.Ytmampgkhobbdcaa
open Go.RowKit

theorem bne_yes {a b : Bool} (h : a = b) : (a == b) = true := by simp [h]
theorem bne_no {a b : Bool} (h : a ≠ b) : (a == b) = false := by simpa using h

set_option maxRecDepth 100000 in
set_option maxHeartbeats 1000000 in
/-- t: the bit that is told, or the size if there is none. -/
theorem spec_raSelect (z t : Nat) (A : Option Addr) (n c : Nat) (W : Nat → Nat) (k : Nat) (on : Bool) (r : Int) (w : World) (hn : n ≤ 1048576) (hr : WRow w A n W) (hz : z ≤ 16 * n) (hz2 : z ≤ 4096) (hkb : (k : Int) ≤ 9223372036854775807) (ht : t ≤ z)
    (hb : ∀ j, j < t → bitN W j = on → cntB W on j < k) (he : (t = z ∧ r = -1) ∨ (t < z ∧ bitN W t = on ∧ cntB W on t = k ∧ r = t)) (hle : cntB W on t ≤ k) :
    Calls Try.prog 68 #[.agg #[.int .i64 z, .slice A n c], .int .i64 k, .bool on] w fun e w' => e = .returned (.int .i64 r) ∧ Below w.heap.size w w' := by
  have L0 := Lib.hid (LS.start (z := z) (c := c) hr.1 26)
  have hW := Lib.hid hr.2
  have HB := Lib.hid hb
  have HE := Lib.hid he
  have HL := Lib.hid hle
  clear hr hb he hle
  go_enter Try.func68, Try.ntmps68
  go_wp2_with fail
  go_loopw [1, 7] (fun kk i wr => ∃ j v : Nat, j ≤ t ∧ i = .int .i64 j ∧ kk = .int .i64 v ∧ Hid (v + cntB W on j = k) ∧ LS w w.heap.size z A n c (fun i => (W i : Int)) wr) (fun _ i _ => (t + 1) - (intOf i).toNat)
  case atStart => exact ⟨0, k, Nat.zero_le _, rfl, rfl, Lib.hid (by rw [cntB_zero]; rfl), L0.out⟩
  case round =>
    obtain ⟨j, v, hj, rfl, rfl, hv, hl⟩ := hrel
    have L1 := Lib.hid hl
    obtain ⟨hs1, c0, c1⟩ := hl.box
    have hvb : (v : Int) ≤ 9223372036854775807 := by have := hv.out; omega
    clear hl L0
    by_cases hlt : j < t
    · have hjz : (j : Int) < (z : Int) := by omega
      by_cases hbit : bitN W j = on
      · have hv1 : 1 ≤ v := by have := HB.out j hlt hbit; have := hv.out; omega
        have HS := Lib.hid (cntB_succ (W := W) (on := on) j)
        have HBIT := Lib.hid hbit
        have hne := bne_yes hbit
        have hv0 : ((v : Int) == 0) = false := by simp; omega
        clear hbit
        go_wp2_with fail
        refine (spec_biAt z A n c W j _ hn ⟨L1.out.row, hW.out⟩ (by omega)).mono ?_; rintro e w2 ⟨rfl, hb⟩
        have L2 := Lib.hid (L1.out.step hb)
        clear hb L1
        go_wp2_with fail
        go_roundw
        case rel => exact ⟨j + 1, v - 1, by omega, by go_num, by go_num, Lib.hid (by rw [HS.out, if_pos HBIT.out]; have := hv.out; omega), L2.out⟩
        case measure => simp [intOf]; omega
      · have HS := Lib.hid (cntB_succ (W := W) (on := on) j)
        have HBIT := Lib.hid hbit
        have hne := bne_no hbit
        clear hbit
        go_wp2_with fail
        refine (spec_biAt z A n c W j _ hn ⟨L1.out.row, hW.out⟩ (by omega)).mono ?_; rintro e w2 ⟨rfl, hb⟩
        have L2 := Lib.hid (L1.out.step hb)
        clear hb L1
        go_wp2_with fail
        go_roundw
        case rel => exact ⟨j + 1, v, by omega, by go_num, rfl, Lib.hid (by rw [HS.out, if_neg HBIT.out]; exact hv.out), L2.out⟩
        case measure => simp [intOf]; omega
    · obtain rfl : j = t := by omega
      by_cases hz0 : j = z
      · have HR : r = -1 := by rcases HE.out with h | h <;> omega
        have hjz : ¬ ((j : Int) < (z : Int)) := by omega
        have HZ := Lib.hid hz0
        clear hz0
        subst HR
        go_wp2_with fail
        go_ret
        exact ⟨rfl, L1.out.below⟩
      · have hjz : (j : Int) < (z : Int) := by omega
        have HZ := Lib.hid hz0
        obtain ⟨h1, h2, h3, h4⟩ : j < z ∧ bitN W j = on ∧ cntB W on j = k ∧ r = j := by rcases HE.out with h | h; exact absurd h.1 hz0; exact h
        have hv0 : v = 0 := by have := hv.out; omega
        clear hz0 hv h3
        subst h4
        subst hv0
        have hne := bne_yes h2
        clear h2
        go_wp2_with fail
        refine (spec_biAt z A n c W j _ hn ⟨L1.out.row, hW.out⟩ (by omega)).mono ?_; rintro e w2 ⟨rfl, hb⟩
        have L2 := Lib.hid (L1.out.step hb)
        clear hb L1
        go_wp2_with fail
        go_ret
        exact ⟨rfl, L2.out.below⟩
theorem raSelect_yes {z : Nat} {A : Option Addr} {n c : Nat} {W : Nat → Nat} {k i : Nat} {on : Bool} {w : World} (hn : n ≤ 1048576) (hr : WRow w A n W) (hz : z ≤ 16 * n) (hz2 : z ≤ 4096) (h : SelAt W on z k i) :
    Calls Try.prog 68 #[.agg #[.int .i64 z, .slice A n c], .int .i64 k, .bool on] w fun e w' => e = .returned (.int .i64 i) ∧ Below w.heap.size w w' :=
  spec_raSelect z i A n c W k on i w hn hr hz hz2 (by have := cntB_le (W := W) (on := on) i; have := h.1; have := h.2.2; omega) (Nat.le_of_lt h.1)
    (fun j hj hb => by have := cntB_mono (W := W) (on := on) (show j + 1 ≤ i from hj); rw [cntB_succ, if_pos hb, h.2.2] at this; omega) (.inr ⟨h.1, h.2.1, h.2.2, rfl⟩) (by rw [h.2.2]; exact Nat.le_refl _)
theorem raSelect_no {z : Nat} {A : Option Addr} {n c : Nat} {W : Nat → Nat} {k : Nat} {on : Bool} {w : World} (hn : n ≤ 1048576) (hr : WRow w A n W) (hz : z ≤ 16 * n) (hz2 : z ≤ 4096) (hkb : (k : Int) ≤ 9223372036854775807) (h : cntB W on z ≤ k) :
    Calls Try.prog 68 #[.agg #[.int .i64 z, .slice A n c], .int .i64 k, .bool on] w fun e w' => e = .returned (.int .i64 (-1)) ∧ Below w.heap.size w w' :=
  spec_raSelect z z A n c W k on (-1) w hn hr hz hz2 hkb (Nat.le_refl _)
    (fun j hj hb => by have := cntB_mono (W := W) (on := on) (show j + 1 ≤ z from hj); rw [cntB_succ, if_pos hb] at this; omega) (.inl ⟨rfl, rfl⟩) h

section
variable (z : Int) (A1 : Option Addr) (n c1 : Nat) (X : Nat → Int) (A2 : Option Addr) (s c2 : Nat) (Y : Nat → Int) (A3 : Option Addr) (m c3 : Nat) (Z : Nat → Int) (w : World)

set_option maxRecDepth 100000 in
set_option maxHeartbeats 1000000 in
theorem spec_Select1_yes (z' k i : Nat) (h : RkR A1 n X A2 s Y A3 m Z w) (hk : RankOk z' n X s Y m Z) (hi : SelAt (wdR X) true z' k i) :
    Calls Try.prog 35 #[.agg #[.int .i64 z', .slice A1 n c1, .slice A2 s c2, .slice A3 m c3], .int .i64 k] w (AnsI i true w) := by
  have L0 := Lib.hid (RL.start (z := z') (c1 := c1) (c2 := c2) (c3 := c3) h)
  have HK := Lib.hid hk
  have HI := Lib.hid hi
  have hk1 := h.n1
  obtain ⟨z2, hz2, hz1, hnz, hrs⟩ := hk.size
  have q1 : z' ≤ 16 * n := by omega
  have q2 : z' ≤ 4096 := by omega
  have d0 : decide ((k : Int) < 0) = false := by simp
  have d1 : decide ((i : Int) < 0) = false := by simp
  clear h hk hnz hz2 hz1 hrs hi
  obtain ⟨hs0, b0, b1, b2, b3⟩ := L0.out.cells
  go_enter Try.func35, Try.ntmps35
  go_wp2_with fail
  refine ((BoolIs.two (spec_raGood (z' : Int) A1 n c1 X A2 s c2 Y A3 m c3 Z _ L0.out.rows)).1 HK.out).mono ?_; rintro e w1 ⟨rfl, hb⟩
  have L1 := Lib.hid (L0.out.step hb)
  clear hb b0 b1 b2 b3
  obtain ⟨hs1, b0, b1, b2, b3⟩ := L1.out.cells
  go_wp2_with fail
  refine (raSelect_yes (z := z') hk1 (good_row HK.out.1 L1.out.rows.r1) q1 q2 HI.out).mono ?_; rintro e w2 ⟨rfl, hb⟩
  have L2 := Lib.hid (L1.out.step hb)
  clear hb b0 b1 b2 b3
  obtain ⟨hs2, b0, b1, b2, b3⟩ := L2.out.cells
  go_wp2_with fail
  refine (raSelect_yes (z := z') hk1 (good_row HK.out.1 L2.out.rows.r1) q1 q2 HI.out).mono ?_; rintro e w3 ⟨rfl, hb⟩
  have L3 := Lib.hid (L2.out.step hb)
  clear hb
  go_wp2_with fail
  go_ret2
  exact ⟨rfl, L3.out.below⟩

set_option maxRecDepth 100000 in
set_option maxHeartbeats 1000000 in
theorem spec_Select1_none (z' k : Nat) (h : RkR A1 n X A2 s Y A3 m Z w) (hk : RankOk z' n X s Y m Z) (hkb : (k : Int) ≤ 9223372036854775807) (hi : cntB (wdR X) true z' ≤ k) :
    Calls Try.prog 35 #[.agg #[.int .i64 z', .slice A1 n c1, .slice A2 s c2, .slice A3 m c3], .int .i64 k] w (AnsI 0 false w) := by
  have L0 := Lib.hid (RL.start (z := z') (c1 := c1) (c2 := c2) (c3 := c3) h)
  have HK := Lib.hid hk
  have HI := Lib.hid hi
  have hk1 := h.n1
  obtain ⟨z2, hz2, hz1, hnz, hrs⟩ := hk.size
  have q1 : z' ≤ 16 * n := by omega
  have q2 : z' ≤ 4096 := by omega
  have d0 : decide ((k : Int) < 0) = false := by simp
  clear h hk hnz hz2 hz1 hrs hi
  obtain ⟨hs0, b0, b1, b2, b3⟩ := L0.out.cells
  go_enter Try.func35, Try.ntmps35
  go_wp2_with fail
  refine ((BoolIs.two (spec_raGood (z' : Int) A1 n c1 X A2 s c2 Y A3 m c3 Z _ L0.out.rows)).1 HK.out).mono ?_; rintro e w1 ⟨rfl, hb⟩
  have L1 := Lib.hid (L0.out.step hb)
  clear hb b0 b1 b2 b3
  obtain ⟨hs1, b0, b1, b2, b3⟩ := L1.out.cells
  go_wp2_with fail
  refine (raSelect_no (z := z') hk1 (good_row HK.out.1 L1.out.rows.r1) q1 q2 hkb HI.out).mono ?_; rintro e w2 ⟨rfl, hb⟩
  have L2 := Lib.hid (L1.out.step hb)
  clear hb
  go_wp2_with fail
  go_ret2
  exact ⟨rfl, L2.out.below⟩

set_option maxRecDepth 100000 in
set_option maxHeartbeats 1000000 in
theorem spec_Select1_low (k : Int) (h : RkR A1 n X A2 s Y A3 m Z w) (hk : RankOk z n X s Y m Z) (hi : k < 0) :
    Calls Try.prog 35 #[.agg #[.int .i64 z, .slice A1 n c1, .slice A2 s c2, .slice A3 m c3], .int .i64 k] w (AnsI 0 false w) := by
  have L0 := Lib.hid (RL.start (z := z) (c1 := c1) (c2 := c2) (c3 := c3) h)
  have HK := Lib.hid hk
  have d0 : decide (k < 0) = true := by simpa using hi
  clear h hk
  obtain ⟨hs0, b0, b1, b2, b3⟩ := L0.out.cells
  go_enter Try.func35, Try.ntmps35
  go_wp2_with fail
  refine ((BoolIs.two (spec_raGood z A1 n c1 X A2 s c2 Y A3 m c3 Z _ L0.out.rows)).1 HK.out).mono ?_; rintro e w1 ⟨rfl, hb⟩
  have L1 := Lib.hid (L0.out.step hb)
  clear hb
  go_wp2_with fail
  go_ret2
  exact ⟨rfl, L1.out.below⟩

set_option maxRecDepth 100000 in
set_option maxHeartbeats 1000000 in
theorem spec_Select1_bad (k : Int) (h : RkR A1 n X A2 s Y A3 m Z w) (hk : ¬ RankOk z n X s Y m Z) :
    Calls Try.prog 35 #[.agg #[.int .i64 z, .slice A1 n c1, .slice A2 s c2, .slice A3 m c3], .int .i64 k] w (AnsI 0 false w) := by
  have L0 := Lib.hid (RL.start (z := z) (c1 := c1) (c2 := c2) (c3 := c3) h)
  have HK := Lib.hid hk
  clear h hk
  obtain ⟨hs0, b0, b1, b2, b3⟩ := L0.out.cells
  go_enter Try.func35, Try.ntmps35
  go_wp2_with fail
  refine ((BoolIs.two (spec_raGood z A1 n c1 X A2 s c2 Y A3 m c3 Z _ L0.out.rows)).2 HK.out).mono ?_; rintro e w1 ⟨rfl, hb⟩
  have L1 := Lib.hid (L0.out.step hb)
  clear hb
  go_wp2_with fail
  go_ret2
  exact ⟨rfl, L1.out.below⟩

set_option maxRecDepth 100000 in
set_option maxHeartbeats 1000000 in
theorem spec_Select0_yes (z' k i : Nat) (h : RkR A1 n X A2 s Y A3 m Z w) (hk : RankOk z' n X s Y m Z) (hi : SelAt (wdR X) false z' k i) :
    Calls Try.prog 37 #[.agg #[.int .i64 z', .slice A1 n c1, .slice A2 s c2, .slice A3 m c3], .int .i64 k] w (AnsI i true w) := by
  have L0 := Lib.hid (RL.start (z := z') (c1 := c1) (c2 := c2) (c3 := c3) h)
  have HK := Lib.hid hk
  have HI := Lib.hid hi
  have hk1 := h.n1
  obtain ⟨z2, hz2, hz1, hnz, hrs⟩ := hk.size
  have q1 : z' ≤ 16 * n := by omega
  have q2 : z' ≤ 4096 := by omega
  have d0 : decide ((k : Int) < 0) = false := by simp
  have d1 : decide ((i : Int) < 0) = false := by simp
  clear h hk hnz hz2 hz1 hrs hi
  obtain ⟨hs0, b0, b1, b2, b3⟩ := L0.out.cells
  go_enter Try.func37, Try.ntmps37
  go_wp2_with fail
  refine ((BoolIs.two (spec_raGood (z' : Int) A1 n c1 X A2 s c2 Y A3 m c3 Z _ L0.out.rows)).1 HK.out).mono ?_; rintro e w1 ⟨rfl, hb⟩
  have L1 := Lib.hid (L0.out.step hb)
  clear hb b0 b1 b2 b3
  obtain ⟨hs1, b0, b1, b2, b3⟩ := L1.out.cells
  go_wp2_with fail
  refine (raSelect_yes (z := z') hk1 (good_row HK.out.1 L1.out.rows.r1) q1 q2 HI.out).mono ?_; rintro e w2 ⟨rfl, hb⟩
  have L2 := Lib.hid (L1.out.step hb)
  clear hb b0 b1 b2 b3
  obtain ⟨hs2, b0, b1, b2, b3⟩ := L2.out.cells
  go_wp2_with fail
  refine (raSelect_yes (z := z') hk1 (good_row HK.out.1 L2.out.rows.r1) q1 q2 HI.out).mono ?_; rintro e w3 ⟨rfl, hb⟩
  have L3 := Lib.hid (L2.out.step hb)
  clear hb
  go_wp2_with fail
  go_ret2
  exact ⟨rfl, L3.out.below⟩

set_option maxRecDepth 100000 in
set_option maxHeartbeats 1000000 in
theorem spec_Select0_none (z' k : Nat) (h : RkR A1 n X A2 s Y A3 m Z w) (hk : RankOk z' n X s Y m Z) (hkb : (k : Int) ≤ 9223372036854775807) (hi : cntB (wdR X) false z' ≤ k) :
    Calls Try.prog 37 #[.agg #[.int .i64 z', .slice A1 n c1, .slice A2 s c2, .slice A3 m c3], .int .i64 k] w (AnsI 0 false w) := by
  have L0 := Lib.hid (RL.start (z := z') (c1 := c1) (c2 := c2) (c3 := c3) h)
  have HK := Lib.hid hk
  have HI := Lib.hid hi
  have hk1 := h.n1
  obtain ⟨z2, hz2, hz1, hnz, hrs⟩ := hk.size
  have q1 : z' ≤ 16 * n := by omega
  have q2 : z' ≤ 4096 := by omega
  have d0 : decide ((k : Int) < 0) = false := by simp
  clear h hk hnz hz2 hz1 hrs hi
  obtain ⟨hs0, b0, b1, b2, b3⟩ := L0.out.cells
  go_enter Try.func37, Try.ntmps37
  go_wp2_with fail
  refine ((BoolIs.two (spec_raGood (z' : Int) A1 n c1 X A2 s c2 Y A3 m c3 Z _ L0.out.rows)).1 HK.out).mono ?_; rintro e w1 ⟨rfl, hb⟩
  have L1 := Lib.hid (L0.out.step hb)
  clear hb b0 b1 b2 b3
  obtain ⟨hs1, b0, b1, b2, b3⟩ := L1.out.cells
  go_wp2_with fail
  refine (raSelect_no (z := z') hk1 (good_row HK.out.1 L1.out.rows.r1) q1 q2 hkb HI.out).mono ?_; rintro e w2 ⟨rfl, hb⟩
  have L2 := Lib.hid (L1.out.step hb)
  clear hb
  go_wp2_with fail
  go_ret2
  exact ⟨rfl, L2.out.below⟩

set_option maxRecDepth 100000 in
set_option maxHeartbeats 1000000 in
theorem spec_Select0_low (k : Int) (h : RkR A1 n X A2 s Y A3 m Z w) (hk : RankOk z n X s Y m Z) (hi : k < 0) :
    Calls Try.prog 37 #[.agg #[.int .i64 z, .slice A1 n c1, .slice A2 s c2, .slice A3 m c3], .int .i64 k] w (AnsI 0 false w) := by
  have L0 := Lib.hid (RL.start (z := z) (c1 := c1) (c2 := c2) (c3 := c3) h)
  have HK := Lib.hid hk
  have d0 : decide (k < 0) = true := by simpa using hi
  clear h hk
  obtain ⟨hs0, b0, b1, b2, b3⟩ := L0.out.cells
  go_enter Try.func37, Try.ntmps37
  go_wp2_with fail
  refine ((BoolIs.two (spec_raGood z A1 n c1 X A2 s c2 Y A3 m c3 Z _ L0.out.rows)).1 HK.out).mono ?_; rintro e w1 ⟨rfl, hb⟩
  have L1 := Lib.hid (L0.out.step hb)
  clear hb
  go_wp2_with fail
  go_ret2
  exact ⟨rfl, L1.out.below⟩

set_option maxRecDepth 100000 in
set_option maxHeartbeats 1000000 in
theorem spec_Select0_bad (k : Int) (h : RkR A1 n X A2 s Y A3 m Z w) (hk : ¬ RankOk z n X s Y m Z) :
    Calls Try.prog 37 #[.agg #[.int .i64 z, .slice A1 n c1, .slice A2 s c2, .slice A3 m c3], .int .i64 k] w (AnsI 0 false w) := by
  have L0 := Lib.hid (RL.start (z := z) (c1 := c1) (c2 := c2) (c3 := c3) h)
  have HK := Lib.hid hk
  clear h hk
  obtain ⟨hs0, b0, b1, b2, b3⟩ := L0.out.cells
  go_enter Try.func37, Try.ntmps37
  go_wp2_with fail
  refine ((BoolIs.two (spec_raGood z A1 n c1 X A2 s c2 Y A3 m c3 Z _ L0.out.rows)).2 HK.out).mono ?_; rintro e w1 ⟨rfl, hb⟩
  have L1 := Lib.hid (L0.out.step hb)
  clear hb
  go_wp2_with fail
  go_ret2
  exact ⟨rfl, L1.out.below⟩
end
end Go.Proofs.Ytmampgkhobbdcaa
