/- The queries of a Ranked in the code: asked of a valid one. -/
import Derived.Test.YtbflgbmobbbebaaRankK
namespace Go.Proofs.Ytbflgbmobbbebaa
open Go.RowKit

section
variable (z : Int) (A1 : Option Addr) (n c1 : Nat) (X : Nat → Int) (A2 : Option Addr) (s c2 : Nat) (Y : Nat → Int) (A3 : Option Addr) (m c3 : Nat) (Z : Nat → Int) (w : World)

set_option maxRecDepth 100000 in
set_option maxHeartbeats 1000000 in
theorem impl_Rank1_asked (i v : Int) (b : Bool) (h : RkR A1 n X A2 s Y A3 m Z w) (hk : RankOk z n X s Y m Z)
    (hq : ∀ w1, RkR A1 n X A2 s Y A3 m Z w1 → Calls Try.prog 58 #[.agg #[.int .i64 z, .slice A1 n c1, .slice A2 s c2, .slice A3 m c3], .int .i64 1, .int .i64 i] w1 (AnsI v b w1)) :
    Calls Try.prog 15 #[.agg #[.int .i64 z, .slice A1 n c1, .slice A2 s c2, .slice A3 m c3], .int .i64 i] w (AnsI v b w) := by
  have L0 := Lib.hid (RL.start (z := z) (c1 := c1) (c2 := c2) (c3 := c3) h)
  have HK := Lib.hid hk
  have HQ := Lib.hid hq
  clear h hk hq
  obtain ⟨hs0, b0, b1, b2, b3⟩ := L0.out.cells
  go_enter Try.func15, Try.ntmps15
  go_wp2_with fail
  refine (impl_ask_yes z A1 n c1 X A2 s c2 Y A3 m c3 Z _ 58 (enters_of Try.func58 (by kernel_rfl) rfl) 1 i v b L0.out.rows HK.out HQ.out).mono ?_; rintro e w1 ⟨rfl, hb⟩
  have L1 := Lib.hid (L0.out.step hb)
  clear hb
  go_wp2_with fail
  go_ret2
  exact ⟨rfl, L1.out.below⟩

set_option maxRecDepth 100000 in
set_option maxHeartbeats 1000000 in
theorem impl_Rank1_bad (i : Int) (h : RkR A1 n X A2 s Y A3 m Z w) (hk : ¬ RankOk z n X s Y m Z) :
    Calls Try.prog 15 #[.agg #[.int .i64 z, .slice A1 n c1, .slice A2 s c2, .slice A3 m c3], .int .i64 i] w (AnsI 0 false w) := by
  have L0 := Lib.hid (RL.start (z := z) (c1 := c1) (c2 := c2) (c3 := c3) h)
  have HK := Lib.hid hk
  clear h hk
  obtain ⟨hs0, b0, b1, b2, b3⟩ := L0.out.cells
  go_enter Try.func15, Try.ntmps15
  go_wp2_with fail
  refine (impl_ask_no z A1 n c1 X A2 s c2 Y A3 m c3 Z _ _ 1 i L0.out.rows HK.out).mono ?_; rintro e w1 ⟨rfl, hb⟩
  have L1 := Lib.hid (L0.out.step hb)
  clear hb
  go_wp2_with fail
  go_ret2
  exact ⟨rfl, L1.out.below⟩

set_option maxRecDepth 100000 in
set_option maxHeartbeats 1000000 in
theorem impl_Rank0_asked (i v : Int) (b : Bool) (h : RkR A1 n X A2 s Y A3 m Z w) (hk : RankOk z n X s Y m Z)
    (hq : ∀ w1, RkR A1 n X A2 s Y A3 m Z w1 → Calls Try.prog 58 #[.agg #[.int .i64 z, .slice A1 n c1, .slice A2 s c2, .slice A3 m c3], .int .i64 0, .int .i64 i] w1 (AnsI v b w1)) :
    Calls Try.prog 16 #[.agg #[.int .i64 z, .slice A1 n c1, .slice A2 s c2, .slice A3 m c3], .int .i64 i] w (AnsI v b w) := by
  have L0 := Lib.hid (RL.start (z := z) (c1 := c1) (c2 := c2) (c3 := c3) h)
  have HK := Lib.hid hk
  have HQ := Lib.hid hq
  clear h hk hq
  obtain ⟨hs0, b0, b1, b2, b3⟩ := L0.out.cells
  go_enter Try.func16, Try.ntmps16
  go_wp2_with fail
  refine (impl_ask_yes z A1 n c1 X A2 s c2 Y A3 m c3 Z _ 58 (enters_of Try.func58 (by kernel_rfl) rfl) 0 i v b L0.out.rows HK.out HQ.out).mono ?_; rintro e w1 ⟨rfl, hb⟩
  have L1 := Lib.hid (L0.out.step hb)
  clear hb
  go_wp2_with fail
  go_ret2
  exact ⟨rfl, L1.out.below⟩

set_option maxRecDepth 100000 in
set_option maxHeartbeats 1000000 in
theorem impl_Rank0_bad (i : Int) (h : RkR A1 n X A2 s Y A3 m Z w) (hk : ¬ RankOk z n X s Y m Z) :
    Calls Try.prog 16 #[.agg #[.int .i64 z, .slice A1 n c1, .slice A2 s c2, .slice A3 m c3], .int .i64 i] w (AnsI 0 false w) := by
  have L0 := Lib.hid (RL.start (z := z) (c1 := c1) (c2 := c2) (c3 := c3) h)
  have HK := Lib.hid hk
  clear h hk
  obtain ⟨hs0, b0, b1, b2, b3⟩ := L0.out.cells
  go_enter Try.func16, Try.ntmps16
  go_wp2_with fail
  refine (impl_ask_no z A1 n c1 X A2 s c2 Y A3 m c3 Z _ _ 0 i L0.out.rows HK.out).mono ?_; rintro e w1 ⟨rfl, hb⟩
  have L1 := Lib.hid (L0.out.step hb)
  clear hb
  go_wp2_with fail
  go_ret2
  exact ⟨rfl, L1.out.below⟩

set_option maxRecDepth 100000 in
set_option maxHeartbeats 1000000 in
theorem impl_Select1_asked (i v : Int) (b : Bool) (h : RkR A1 n X A2 s Y A3 m Z w) (hk : RankOk z n X s Y m Z)
    (hq : ∀ w1, RkR A1 n X A2 s Y A3 m Z w1 → Calls Try.prog 59 #[.agg #[.int .i64 z, .slice A1 n c1, .slice A2 s c2, .slice A3 m c3], .int .i64 1, .int .i64 i] w1 (AnsI v b w1)) :
    Calls Try.prog 17 #[.agg #[.int .i64 z, .slice A1 n c1, .slice A2 s c2, .slice A3 m c3], .int .i64 i] w (AnsI v b w) := by
  have L0 := Lib.hid (RL.start (z := z) (c1 := c1) (c2 := c2) (c3 := c3) h)
  have HK := Lib.hid hk
  have HQ := Lib.hid hq
  clear h hk hq
  obtain ⟨hs0, b0, b1, b2, b3⟩ := L0.out.cells
  go_enter Try.func17, Try.ntmps17
  go_wp2_with fail
  refine (impl_ask_yes z A1 n c1 X A2 s c2 Y A3 m c3 Z _ 59 (enters_of Try.func59 (by kernel_rfl) rfl) 1 i v b L0.out.rows HK.out HQ.out).mono ?_; rintro e w1 ⟨rfl, hb⟩
  have L1 := Lib.hid (L0.out.step hb)
  clear hb
  go_wp2_with fail
  go_ret2
  exact ⟨rfl, L1.out.below⟩

set_option maxRecDepth 100000 in
set_option maxHeartbeats 1000000 in
theorem impl_Select1_bad (i : Int) (h : RkR A1 n X A2 s Y A3 m Z w) (hk : ¬ RankOk z n X s Y m Z) :
    Calls Try.prog 17 #[.agg #[.int .i64 z, .slice A1 n c1, .slice A2 s c2, .slice A3 m c3], .int .i64 i] w (AnsI 0 false w) := by
  have L0 := Lib.hid (RL.start (z := z) (c1 := c1) (c2 := c2) (c3 := c3) h)
  have HK := Lib.hid hk
  clear h hk
  obtain ⟨hs0, b0, b1, b2, b3⟩ := L0.out.cells
  go_enter Try.func17, Try.ntmps17
  go_wp2_with fail
  refine (impl_ask_no z A1 n c1 X A2 s c2 Y A3 m c3 Z _ _ 1 i L0.out.rows HK.out).mono ?_; rintro e w1 ⟨rfl, hb⟩
  have L1 := Lib.hid (L0.out.step hb)
  clear hb
  go_wp2_with fail
  go_ret2
  exact ⟨rfl, L1.out.below⟩

set_option maxRecDepth 100000 in
set_option maxHeartbeats 1000000 in
theorem impl_Select0_asked (i v : Int) (b : Bool) (h : RkR A1 n X A2 s Y A3 m Z w) (hk : RankOk z n X s Y m Z)
    (hq : ∀ w1, RkR A1 n X A2 s Y A3 m Z w1 → Calls Try.prog 59 #[.agg #[.int .i64 z, .slice A1 n c1, .slice A2 s c2, .slice A3 m c3], .int .i64 0, .int .i64 i] w1 (AnsI v b w1)) :
    Calls Try.prog 18 #[.agg #[.int .i64 z, .slice A1 n c1, .slice A2 s c2, .slice A3 m c3], .int .i64 i] w (AnsI v b w) := by
  have L0 := Lib.hid (RL.start (z := z) (c1 := c1) (c2 := c2) (c3 := c3) h)
  have HK := Lib.hid hk
  have HQ := Lib.hid hq
  clear h hk hq
  obtain ⟨hs0, b0, b1, b2, b3⟩ := L0.out.cells
  go_enter Try.func18, Try.ntmps18
  go_wp2_with fail
  refine (impl_ask_yes z A1 n c1 X A2 s c2 Y A3 m c3 Z _ 59 (enters_of Try.func59 (by kernel_rfl) rfl) 0 i v b L0.out.rows HK.out HQ.out).mono ?_; rintro e w1 ⟨rfl, hb⟩
  have L1 := Lib.hid (L0.out.step hb)
  clear hb
  go_wp2_with fail
  go_ret2
  exact ⟨rfl, L1.out.below⟩

set_option maxRecDepth 100000 in
set_option maxHeartbeats 1000000 in
theorem impl_Select0_bad (i : Int) (h : RkR A1 n X A2 s Y A3 m Z w) (hk : ¬ RankOk z n X s Y m Z) :
    Calls Try.prog 18 #[.agg #[.int .i64 z, .slice A1 n c1, .slice A2 s c2, .slice A3 m c3], .int .i64 i] w (AnsI 0 false w) := by
  have L0 := Lib.hid (RL.start (z := z) (c1 := c1) (c2 := c2) (c3 := c3) h)
  have HK := Lib.hid hk
  clear h hk
  obtain ⟨hs0, b0, b1, b2, b3⟩ := L0.out.cells
  go_enter Try.func18, Try.ntmps18
  go_wp2_with fail
  refine (impl_ask_no z A1 n c1 X A2 s c2 Y A3 m c3 Z _ _ 0 i L0.out.rows HK.out).mono ?_; rintro e w1 ⟨rfl, hb⟩
  have L1 := Lib.hid (L0.out.step hb)
  clear hb
  go_wp2_with fail
  go_ret2
  exact ⟨rfl, L1.out.below⟩

set_option maxRecDepth 100000 in
set_option maxHeartbeats 1000000 in
theorem impl_NextOne_asked (i v : Int) (b : Bool) (h : RkR A1 n X A2 s Y A3 m Z w) (hk : RankOk z n X s Y m Z)
    (hq : ∀ w1, RkR A1 n X A2 s Y A3 m Z w1 → Calls Try.prog 62 #[.agg #[.int .i64 z, .slice A1 n c1, .slice A2 s c2, .slice A3 m c3], .int .i64 1, .int .i64 i] w1 (AnsI v b w1)) :
    Calls Try.prog 21 #[.agg #[.int .i64 z, .slice A1 n c1, .slice A2 s c2, .slice A3 m c3], .int .i64 i] w (AnsI v b w) := by
  have L0 := Lib.hid (RL.start (z := z) (c1 := c1) (c2 := c2) (c3 := c3) h)
  have HK := Lib.hid hk
  have HQ := Lib.hid hq
  clear h hk hq
  obtain ⟨hs0, b0, b1, b2, b3⟩ := L0.out.cells
  go_enter Try.func21, Try.ntmps21
  go_wp2_with fail
  refine (impl_ask_yes z A1 n c1 X A2 s c2 Y A3 m c3 Z _ 62 (enters_of Try.func62 (by kernel_rfl) rfl) 1 i v b L0.out.rows HK.out HQ.out).mono ?_; rintro e w1 ⟨rfl, hb⟩
  have L1 := Lib.hid (L0.out.step hb)
  clear hb
  go_wp2_with fail
  go_ret2
  exact ⟨rfl, L1.out.below⟩

set_option maxRecDepth 100000 in
set_option maxHeartbeats 1000000 in
theorem impl_NextOne_bad (i : Int) (h : RkR A1 n X A2 s Y A3 m Z w) (hk : ¬ RankOk z n X s Y m Z) :
    Calls Try.prog 21 #[.agg #[.int .i64 z, .slice A1 n c1, .slice A2 s c2, .slice A3 m c3], .int .i64 i] w (AnsI 0 false w) := by
  have L0 := Lib.hid (RL.start (z := z) (c1 := c1) (c2 := c2) (c3 := c3) h)
  have HK := Lib.hid hk
  clear h hk
  obtain ⟨hs0, b0, b1, b2, b3⟩ := L0.out.cells
  go_enter Try.func21, Try.ntmps21
  go_wp2_with fail
  refine (impl_ask_no z A1 n c1 X A2 s c2 Y A3 m c3 Z _ _ 1 i L0.out.rows HK.out).mono ?_; rintro e w1 ⟨rfl, hb⟩
  have L1 := Lib.hid (L0.out.step hb)
  clear hb
  go_wp2_with fail
  go_ret2
  exact ⟨rfl, L1.out.below⟩

set_option maxRecDepth 100000 in
set_option maxHeartbeats 1000000 in
theorem impl_LastOne_asked (i v : Int) (b : Bool) (h : RkR A1 n X A2 s Y A3 m Z w) (hk : RankOk z n X s Y m Z)
    (hq : ∀ w1, RkR A1 n X A2 s Y A3 m Z w1 → Calls Try.prog 65 #[.agg #[.int .i64 z, .slice A1 n c1, .slice A2 s c2, .slice A3 m c3], .int .i64 1, .int .i64 i] w1 (AnsI v b w1)) :
    Calls Try.prog 23 #[.agg #[.int .i64 z, .slice A1 n c1, .slice A2 s c2, .slice A3 m c3], .int .i64 i] w (AnsI v b w) := by
  have L0 := Lib.hid (RL.start (z := z) (c1 := c1) (c2 := c2) (c3 := c3) h)
  have HK := Lib.hid hk
  have HQ := Lib.hid hq
  clear h hk hq
  obtain ⟨hs0, b0, b1, b2, b3⟩ := L0.out.cells
  go_enter Try.func23, Try.ntmps23
  go_wp2_with fail
  refine (impl_ask_yes z A1 n c1 X A2 s c2 Y A3 m c3 Z _ 65 (enters_of Try.func65 (by kernel_rfl) rfl) 1 i v b L0.out.rows HK.out HQ.out).mono ?_; rintro e w1 ⟨rfl, hb⟩
  have L1 := Lib.hid (L0.out.step hb)
  clear hb
  go_wp2_with fail
  go_ret2
  exact ⟨rfl, L1.out.below⟩

set_option maxRecDepth 100000 in
set_option maxHeartbeats 1000000 in
theorem impl_LastOne_bad (i : Int) (h : RkR A1 n X A2 s Y A3 m Z w) (hk : ¬ RankOk z n X s Y m Z) :
    Calls Try.prog 23 #[.agg #[.int .i64 z, .slice A1 n c1, .slice A2 s c2, .slice A3 m c3], .int .i64 i] w (AnsI 0 false w) := by
  have L0 := Lib.hid (RL.start (z := z) (c1 := c1) (c2 := c2) (c3 := c3) h)
  have HK := Lib.hid hk
  clear h hk
  obtain ⟨hs0, b0, b1, b2, b3⟩ := L0.out.cells
  go_enter Try.func23, Try.ntmps23
  go_wp2_with fail
  refine (impl_ask_no z A1 n c1 X A2 s c2 Y A3 m c3 Z _ _ 1 i L0.out.rows HK.out).mono ?_; rintro e w1 ⟨rfl, hb⟩
  have L1 := Lib.hid (L0.out.step hb)
  clear hb
  go_wp2_with fail
  go_ret2
  exact ⟨rfl, L1.out.below⟩

set_option maxRecDepth 100000 in
set_option maxHeartbeats 1000000 in
theorem impl_OnesOf_asked (v : Int) (b : Bool) (h : RkR A1 n X A2 s Y A3 m Z w) (hk : RankOk z n X s Y m Z)
    (hq : ∀ w1, RkR A1 n X A2 s Y A3 m Z w1 → Calls Try.prog 58 #[.agg #[.int .i64 z, .slice A1 n c1, .slice A2 s c2, .slice A3 m c3], .int .i64 1, .int .i64 z] w1 (AnsI v b w1)) :
    Calls Try.prog 19 #[.agg #[.int .i64 z, .slice A1 n c1, .slice A2 s c2, .slice A3 m c3]] w (AnsI v b w) := by
  have L0 := Lib.hid (RL.start (z := z) (c1 := c1) (c2 := c2) (c3 := c3) h)
  have HK := Lib.hid hk
  have HQ := Lib.hid hq
  clear h hk hq
  obtain ⟨hs0, b0, b1, b2, b3⟩ := L0.out.cells
  go_enter Try.func19, Try.ntmps19
  go_wp2_with fail
  refine (impl_ask_yes z A1 n c1 X A2 s c2 Y A3 m c3 Z _ 58 (enters_of Try.func58 (by kernel_rfl) rfl) 1 z v b L0.out.rows HK.out HQ.out).mono ?_; rintro e w1 ⟨rfl, hb⟩
  have L1 := Lib.hid (L0.out.step hb)
  clear hb
  go_wp2_with fail
  go_ret2
  exact ⟨rfl, L1.out.below⟩

set_option maxRecDepth 100000 in
set_option maxHeartbeats 1000000 in
theorem impl_OnesOf_bad (h : RkR A1 n X A2 s Y A3 m Z w) (hk : ¬ RankOk z n X s Y m Z) :
    Calls Try.prog 19 #[.agg #[.int .i64 z, .slice A1 n c1, .slice A2 s c2, .slice A3 m c3]] w (AnsI 0 false w) := by
  have L0 := Lib.hid (RL.start (z := z) (c1 := c1) (c2 := c2) (c3 := c3) h)
  have HK := Lib.hid hk
  clear h hk
  obtain ⟨hs0, b0, b1, b2, b3⟩ := L0.out.cells
  go_enter Try.func19, Try.ntmps19
  go_wp2_with fail
  refine (impl_ask_no z A1 n c1 X A2 s c2 Y A3 m c3 Z _ _ 1 z L0.out.rows HK.out).mono ?_; rintro e w1 ⟨rfl, hb⟩
  have L1 := Lib.hid (L0.out.step hb)
  clear hb
  go_wp2_with fail
  go_ret2
  exact ⟨rfl, L1.out.below⟩
end
end Go.Proofs.Ytbflgbmobbbebaa
