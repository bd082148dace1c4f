/- The model's counts of a Ranked. -/
import Derived.Test.YtmampgkhobbdcaaRankQ
namespace Go.Proofs.Ytmampgkhobbdcaa
open Go.RowKit

section
variable (z : Int) (A1 : Option Addr) (n c1 : Nat) (X : Nat → Int) (A2 : Option Addr) (s c2 : Nat) (Y : Nat → Int) (A3 : Option Addr) (m c3 : Nat) (Z : Nat → Int) (w : World)

set_option maxRecDepth 100000 in
set_option maxHeartbeats 1000000 in
theorem spec_Rank1_yes (i : Nat) (h : RkR A1 n X A2 s Y A3 m Z w) (hk : RankOk z n X s Y m Z) (hi : (i : Int) ≤ z) :
    Calls Try.prog 31 #[.agg #[.int .i64 z, .slice A1 n c1, .slice A2 s c2, .slice A3 m c3], .int .i64 i] w (AnsI (cntB (wdR X) true i : Nat) true w) := by
  have L0 := Lib.hid (RL.start (z := z) (c1 := c1) (c2 := c2) (c3 := c3) h)
  have HK := Lib.hid hk
  have hk1 := h.n1
  obtain ⟨z', rfl, hz1, hnz, hrs⟩ := hk.size
  clear hrs
  have q1 : i ≤ 16 * n := by omega
  have q2 : i ≤ 4096 := by omega
  have VB : ((cntB (wdR X) true i : Nat) : Int) = cntN (wdR X) 0 i := by have := cntN_le (wdR X) i 0; unfold cntB; simp
  have VL := cntN_le (wdR X) i 0
  rw [VB]
  clear h hk hnz VB
  generalize hT : cntN (wdR X) 0 i = T at *
  have HT := Lib.hid hT
  clear hT
  obtain ⟨hs0, b0, b1, b2, b3⟩ := L0.out.cells
  go_enter Try.func31, Try.ntmps31
  go_wp2_with fail
  refine ((BoolIs.two (spec_raEnd (z' : Int) A1 n c1 X A2 s c2 Y A3 m c3 Z _ i L0.out.rows)).1 ⟨HK.out, by omega, hi⟩).mono ?_; rintro e w1 ⟨rfl, hb⟩
  have L1 := Lib.hid (L0.out.step hb)
  clear hb b0 b1 b2 b3
  obtain ⟨hs1, b0, b1, b2, b3⟩ := L1.out.cells
  go_wp2_with fail
  refine (spec_biCount _ A1 n c1 (wdR X) 0 i _ hk1 (good_row HK.out.1 L1.out.rows.r1) (Nat.zero_le _) q1 q2).mono ?_; rintro e w2 ⟨rfl, hb⟩
  have L2 := Lib.hid (L1.out.step hb)
  clear hb
  rw [Nat.sub_zero, HT.out]
  go_wp2_with fail
  go_ret2
  exact ⟨rfl, L2.out.below⟩

set_option maxRecDepth 100000 in
set_option maxHeartbeats 1000000 in
theorem spec_Rank1_no (i : Int) (h : RkR A1 n X A2 s Y A3 m Z w) (hk : ¬ (RankOk z n X s Y m Z ∧ 0 ≤ i ∧ i ≤ z)) :
    Calls Try.prog 31 #[.agg #[.int .i64 z, .slice A1 n c1, .slice A2 s c2, .slice A3 m c3], .int .i64 i] w (AnsI 0 false w) := by
  have L0 := Lib.hid (RL.start (z := z) (c1 := c1) (c2 := c2) (c3 := c3) h)
  have HK := Lib.hid hk
  clear h hk
  obtain ⟨hs0, b0, b1, b2, b3⟩ := L0.out.cells
  go_enter Try.func31, Try.ntmps31
  go_wp2_with fail
  refine ((BoolIs.two (spec_raEnd z A1 n c1 X A2 s c2 Y A3 m c3 Z _ i L0.out.rows)).2 HK.out).mono ?_; rintro e w1 ⟨rfl, hb⟩
  have L1 := Lib.hid (L0.out.step hb)
  clear hb
  go_wp2_with fail
  go_ret2
  exact ⟨rfl, L1.out.below⟩

set_option maxRecDepth 100000 in
set_option maxHeartbeats 1000000 in
theorem spec_Rank0_yes (i : Nat) (h : RkR A1 n X A2 s Y A3 m Z w) (hk : RankOk z n X s Y m Z) (hi : (i : Int) ≤ z) :
    Calls Try.prog 33 #[.agg #[.int .i64 z, .slice A1 n c1, .slice A2 s c2, .slice A3 m c3], .int .i64 i] w (AnsI (cntB (wdR X) false i : Nat) true w) := by
  have L0 := Lib.hid (RL.start (z := z) (c1 := c1) (c2 := c2) (c3 := c3) h)
  have HK := Lib.hid hk
  have hk1 := h.n1
  obtain ⟨z', rfl, hz1, hnz, hrs⟩ := hk.size
  clear hrs
  have q1 : i ≤ 16 * n := by omega
  have q2 : i ≤ 4096 := by omega
  have VB : ((cntB (wdR X) false i : Nat) : Int) = (i : Int) - cntN (wdR X) 0 i := by have := cntN_le (wdR X) i 0; unfold cntB; simp; omega
  have VL := cntN_le (wdR X) i 0
  rw [VB]
  clear h hk hnz VB
  generalize hT : cntN (wdR X) 0 i = T at *
  have HT := Lib.hid hT
  clear hT
  obtain ⟨hs0, b0, b1, b2, b3⟩ := L0.out.cells
  go_enter Try.func33, Try.ntmps33
  go_wp2_with fail
  refine ((BoolIs.two (spec_raEnd (z' : Int) A1 n c1 X A2 s c2 Y A3 m c3 Z _ i L0.out.rows)).1 ⟨HK.out, by omega, hi⟩).mono ?_; rintro e w1 ⟨rfl, hb⟩
  have L1 := Lib.hid (L0.out.step hb)
  clear hb b0 b1 b2 b3
  obtain ⟨hs1, b0, b1, b2, b3⟩ := L1.out.cells
  go_wp2_with fail
  refine (spec_biCount _ A1 n c1 (wdR X) 0 i _ hk1 (good_row HK.out.1 L1.out.rows.r1) (Nat.zero_le _) q1 q2).mono ?_; rintro e w2 ⟨rfl, hb⟩
  have L2 := Lib.hid (L1.out.step hb)
  clear hb
  rw [Nat.sub_zero, HT.out]
  go_wp2_with fail
  go_ret2
  exact ⟨rfl, L2.out.below⟩

set_option maxRecDepth 100000 in
set_option maxHeartbeats 1000000 in
theorem spec_Rank0_no (i : Int) (h : RkR A1 n X A2 s Y A3 m Z w) (hk : ¬ (RankOk z n X s Y m Z ∧ 0 ≤ i ∧ i ≤ z)) :
    Calls Try.prog 33 #[.agg #[.int .i64 z, .slice A1 n c1, .slice A2 s c2, .slice A3 m c3], .int .i64 i] w (AnsI 0 false w) := by
  have L0 := Lib.hid (RL.start (z := z) (c1 := c1) (c2 := c2) (c3 := c3) h)
  have HK := Lib.hid hk
  clear h hk
  obtain ⟨hs0, b0, b1, b2, b3⟩ := L0.out.cells
  go_enter Try.func33, Try.ntmps33
  go_wp2_with fail
  refine ((BoolIs.two (spec_raEnd z A1 n c1 X A2 s c2 Y A3 m c3 Z _ i L0.out.rows)).2 HK.out).mono ?_; rintro e w1 ⟨rfl, hb⟩
  have L1 := Lib.hid (L0.out.step hb)
  clear hb
  go_wp2_with fail
  go_ret2
  exact ⟨rfl, L1.out.below⟩

set_option maxRecDepth 100000 in
set_option maxHeartbeats 1000000 in
theorem spec_OnesOf_yes (z' : Nat) (h : RkR A1 n X A2 s Y A3 m Z w) (hk : RankOk z' n X s Y m Z) :
    Calls Try.prog 29 #[.agg #[.int .i64 z', .slice A1 n c1, .slice A2 s c2, .slice A3 m c3]] w (AnsI (cntB (wdR X) true z' : Nat) true w) := by
  have L0 := Lib.hid (RL.start (z := z') (c1 := c1) (c2 := c2) (c3 := c3) h)
  have HK := Lib.hid hk
  have hk1 := h.n1
  obtain ⟨z2, hz2, hz1, hnz, hrs⟩ := hk.size
  clear hrs
  have q1 : z' ≤ 16 * n := by omega
  have q2 : z' ≤ 4096 := by omega
  have VB : ((cntB (wdR X) true z' : Nat) : Int) = cntN (wdR X) 0 z' := by rfl
  rw [VB]
  clear h hk hnz VB hz2 hz1
  generalize hT : cntN (wdR X) 0 z' = T at *
  have HT := Lib.hid hT
  clear hT
  obtain ⟨hs0, b0, b1, b2, b3⟩ := L0.out.cells
  go_enter Try.func29, Try.ntmps29
  go_wp2_with fail
  refine ((BoolIs.two (spec_raGood (z' : Int) A1 n c1 X A2 s c2 Y A3 m c3 Z _ L0.out.rows)).1 HK.out).mono ?_; rintro e w1 ⟨rfl, hb⟩
  have L1 := Lib.hid (L0.out.step hb)
  clear hb b0 b1 b2 b3
  obtain ⟨hs1, b0, b1, b2, b3⟩ := L1.out.cells
  go_wp2_with fail
  refine (spec_biCount _ A1 n c1 (wdR X) 0 z' _ hk1 (good_row HK.out.1 L1.out.rows.r1) (Nat.zero_le _) q1 q2).mono ?_; rintro e w2 ⟨rfl, hb⟩
  have L2 := Lib.hid (L1.out.step hb)
  clear hb
  rw [Nat.sub_zero, HT.out]
  go_wp2_with fail
  go_ret2
  exact ⟨rfl, L2.out.below⟩

set_option maxRecDepth 100000 in
set_option maxHeartbeats 1000000 in
theorem spec_OnesOf_no (h : RkR A1 n X A2 s Y A3 m Z w) (hk : ¬ RankOk z n X s Y m Z) :
    Calls Try.prog 29 #[.agg #[.int .i64 z, .slice A1 n c1, .slice A2 s c2, .slice A3 m c3]] w (AnsI 0 false w) := by
  have L0 := Lib.hid (RL.start (z := z) (c1 := c1) (c2 := c2) (c3 := c3) h)
  have HK := Lib.hid hk
  clear h hk
  obtain ⟨hs0, b0, b1, b2, b3⟩ := L0.out.cells
  go_enter Try.func29, Try.ntmps29
  go_wp2_with fail
  refine ((BoolIs.two (spec_raGood z A1 n c1 X A2 s c2 Y A3 m c3 Z _ L0.out.rows)).2 HK.out).mono ?_; rintro e w1 ⟨rfl, hb⟩
  have L1 := Lib.hid (L0.out.step hb)
  clear hb
  go_wp2_with fail
  go_ret2
  exact ⟨rfl, L1.out.below⟩
end
end Go.Proofs.Ytmampgkhobbdcaa
