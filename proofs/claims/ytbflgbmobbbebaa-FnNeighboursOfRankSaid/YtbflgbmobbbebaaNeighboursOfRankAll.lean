/- Several texts in one: Next, RankA, Search, SelA, SelC, NextR, RankCalls, RankCalls2, GenD, GenU, NeighboursOfRankWalk. -/
import Derived.Test.YtbflgbmobbbebaaRead
import Derived.Test.YtbflgbmobbbebaaRankK
import Derived.Test.YtbflgbmobbbebaaRankQ
import Derived.Shelf.Abstract
import Derived.Deep.RegionHeld3
import Derived.Test.YtbflgbmobbbebaaCurR
import Derived.Test.YtbflgbmobbbebaaCur4

/- NextBit: the program's and the model's. -/
namespace Go.Proofs.Ytbflgbmobbbebaa
open Go.RowKit

/-- k is the first bit from a on, below z, that is on or off as told. -/
def Found (W : Nat → Nat) (on : Bool) (z : Int) (a k : Nat) : Prop := a ≤ k ∧ (k : Int) < z ∧ bitN W k = on ∧ ∀ j, a ≤ j → j < k → bitN W j = !on
def NoneFrom (W : Nat → Nat) (on : Bool) (z : Int) (a : Nat) : Prop := ∀ j, a ≤ j → (j : Int) < z → bitN W j = !on
theorem found_or (W : Nat → Nat) (on : Bool) (z : Int) : ∀ (d a : Nat), z ≤ a + d → (∃ k, Found W on z a k) ∨ NoneFrom W on z a
  | 0, a, h => .inr fun j hj hz => by omega
  | d + 1, a, h => by
    by_cases hz : (a : Int) < z
    · by_cases hb : bitN W a = on
      · exact .inl ⟨a, Nat.le_refl _, hz, hb, fun j h1 h2 => by omega⟩
      · rcases found_or W on z d (a + 1) (by omega) with ⟨k, h1, h2, h3, h4⟩ | hn
        · refine .inl ⟨k, by omega, h2, h3, fun j hj hk => ?_⟩
          by_cases e : j = a
          · subst e; revert hb; cases bitN W j <;> cases on <;> simp
          · exact h4 j (by omega) hk
        · refine .inr fun j hj hk => ?_
          by_cases e : j = a
          · subst e; revert hb; cases bitN W j <;> cases on <;> simp
          · exact hn j (by omega) hk
    · exact .inr fun j hj hk => by omega
theorem beq_yes {a b : Bool} (h : a = b) : (a == b) = true := by simp [h]
theorem beq_no {a b : Bool} (h : a = !b) : (a == b) = false := by subst h; cases b <;> rfl

set_option maxHeartbeats 400000 in
theorem spec_biNext_yes (z : Int) (A : Option Addr) (n c : Nat) (W : Nat → Nat) (a k : Nat) (on : Bool) (w : World) (hn : n ≤ 1048576) (hr : WRow w A n W) (hz : z ≤ 16 * n) (hf : Found W on z a k) :
    Calls Try.prog 64 #[.agg #[.int .i64 z, .slice A n c], .int .i64 a, .bool on] w fun e w' => e = .returned (.int .i64 k) ∧ Below w.heap.size w w' := by
  have L0 := Lib.hid (LS.start (z := z) (c := c) hr.1 26)
  have hW := Lib.hid hr.2
  clear hr
  obtain ⟨hf1, hf2, hf3, hf4⟩ := hf
  have HF3 := Lib.hid hf3
  have HF4 := Lib.hid hf4
  clear hf3 hf4
  go_enter Try.func64, Try.ntmps64
  go_wp2_with fail
  go_loopw [7] (fun i wr => ∃ j : Nat, a ≤ j ∧ j ≤ k ∧ i = .int .i64 j ∧ LS w w.heap.size z A n c (fun i => (W i : Int)) wr) (fun i _ => (k + 1) - (intOf i).toNat)
  case atStart => exact ⟨a, Nat.le_refl _, hf1, rfl, L0.out⟩
  case round =>
    obtain ⟨j, hj1, hj2, rfl, hl⟩ := hrel
    have L1 := Lib.hid hl
    obtain ⟨hs1, c0, c1⟩ := hl.box
    clear hl L0
    by_cases hlt : j < k
    · have hv := beq_no (HF4.out j hj1 hlt)
      go_wp2_with fail
      refine (spec_biAt z A n c W j _ hn ⟨L1.out.row, hW.out⟩ (by omega)).mono ?_; rintro e w2 ⟨rfl, hb⟩
      have L2 := Lib.hid (L1.out.step hb)
      clear hb L1
      go_wp2_with fail
      go_roundw
      case rel => exact ⟨j + 1, by omega, by omega, by go_num, L2.out⟩
      case measure => simp [intOf]; omega
    · obtain rfl : j = k := by omega
      have hv := beq_yes HF3.out
      go_wp2_with fail
      refine (spec_biAt z A n c W j _ hn ⟨L1.out.row, hW.out⟩ (by omega)).mono ?_; rintro e w2 ⟨rfl, hb⟩
      have L2 := Lib.hid (L1.out.step hb)
      clear hb L1
      go_wp2_with fail
      go_ret
      exact ⟨rfl, L2.out.below⟩

set_option maxHeartbeats 400000 in
theorem spec_biNext_no (z : Int) (A : Option Addr) (n c : Nat) (W : Nat → Nat) (a : Nat) (on : Bool) (w : World) (hn : n ≤ 1048576) (hr : WRow w A n W) (hz : z ≤ 16 * n) (hz1 : z ≤ 4096) (ha : (a : Int) ≤ z) (hf : NoneFrom W on z a) :
    Calls Try.prog 64 #[.agg #[.int .i64 z, .slice A n c], .int .i64 a, .bool on] w fun e w' => e = .returned (.int .i64 (-1)) ∧ Below w.heap.size w w' := by
  have L0 := Lib.hid (LS.start (z := z) (c := c) hr.1 26)
  have hW := Lib.hid hr.2
  have HF := Lib.hid hf
  clear hr hf
  go_enter Try.func64, Try.ntmps64
  go_wp2_with fail
  go_loopw [7] (fun i wr => ∃ j : Nat, a ≤ j ∧ (j : Int) ≤ z ∧ i = .int .i64 j ∧ LS w w.heap.size z A n c (fun i => (W i : Int)) wr) (fun i _ => (z + 1).toNat - (intOf i).toNat)
  case atStart => exact ⟨a, Nat.le_refl _, ha, rfl, L0.out⟩
  case round =>
    obtain ⟨j, hj1, hj2, rfl, hl⟩ := hrel
    have L1 := Lib.hid hl
    obtain ⟨hs1, c0, c1⟩ := hl.box
    clear hl L0
    by_cases hlt : (j : Int) < z
    · have hv := beq_no (HF.out j hj1 hlt)
      go_wp2_with fail
      refine (spec_biAt z A n c W j _ hn ⟨L1.out.row, hW.out⟩ (by omega)).mono ?_; rintro e w2 ⟨rfl, hb⟩
      have L2 := Lib.hid (L1.out.step hb)
      clear hb L1
      go_wp2_with fail
      go_roundw
      case rel => exact ⟨j + 1, by omega, by omega, by go_num, L2.out⟩
      case measure => simp [intOf]; omega
    · go_wp2_with fail
      go_ret
      exact ⟨rfl, L1.out.below⟩

end Go.Proofs.Ytbflgbmobbbebaa

/- The queries of a Ranked in the code: asked of a valid one. -/
namespace Go.Proofs.Ytbflgbmobbbebaa
open Go.RowKit

section
variable (z : Int) (A1 : Option Addr) (n c1 : Nat) (X : Nat → Int) (A2 : Option Addr) (s c2 : Nat) (Y : Nat → Int) (A3 : Option Addr) (m c3 : Nat) (Z : Nat → Int) (w : World)

set_option maxRecDepth 100000 in
set_option maxHeartbeats 1000000 in
theorem impl_Rank1_asked (i v : Int) (b : Bool) (h : RkR A1 n X A2 s Y A3 m Z w) (hk : RankOk z n X s Y m Z)
    (hq : ∀ w1, RkR A1 n X A2 s Y A3 m Z w1 → Calls Try.prog 58 #[.agg #[.int .i64 z, .slice A1 n c1, .slice A2 s c2, .slice A3 m c3], .int .i64 1, .int .i64 i] w1 (AnsI v b w1)) :
    Calls Try.prog 15 #[.agg #[.int .i64 z, .slice A1 n c1, .slice A2 s c2, .slice A3 m c3], .int .i64 i] w (AnsI v b w) := by
  have L0 := Lib.hid (RL.start (z := z) (c1 := c1) (c2 := c2) (c3 := c3) h)
  have HK := Lib.hid hk
  have HQ := Lib.hid hq
  clear h hk hq
  obtain ⟨hs0, b0, b1, b2, b3⟩ := L0.out.cells
  go_enter Try.func15, Try.ntmps15
  go_wp2_with fail
  refine (impl_ask_yes z A1 n c1 X A2 s c2 Y A3 m c3 Z _ 58 (enters_of Try.func58 (by kernel_rfl) rfl) 1 i v b L0.out.rows HK.out HQ.out).mono ?_; rintro e w1 ⟨rfl, hb⟩
  have L1 := Lib.hid (L0.out.step hb)
  clear hb
  go_wp2_with fail
  go_ret2
  exact ⟨rfl, L1.out.below⟩

set_option maxRecDepth 100000 in
set_option maxHeartbeats 1000000 in
theorem impl_Rank1_bad (i : Int) (h : RkR A1 n X A2 s Y A3 m Z w) (hk : ¬ RankOk z n X s Y m Z) :
    Calls Try.prog 15 #[.agg #[.int .i64 z, .slice A1 n c1, .slice A2 s c2, .slice A3 m c3], .int .i64 i] w (AnsI 0 false w) := by
  have L0 := Lib.hid (RL.start (z := z) (c1 := c1) (c2 := c2) (c3 := c3) h)
  have HK := Lib.hid hk
  clear h hk
  obtain ⟨hs0, b0, b1, b2, b3⟩ := L0.out.cells
  go_enter Try.func15, Try.ntmps15
  go_wp2_with fail
  refine (impl_ask_no z A1 n c1 X A2 s c2 Y A3 m c3 Z _ _ 1 i L0.out.rows HK.out).mono ?_; rintro e w1 ⟨rfl, hb⟩
  have L1 := Lib.hid (L0.out.step hb)
  clear hb
  go_wp2_with fail
  go_ret2
  exact ⟨rfl, L1.out.below⟩

set_option maxRecDepth 100000 in
set_option maxHeartbeats 1000000 in
theorem impl_Rank0_asked (i v : Int) (b : Bool) (h : RkR A1 n X A2 s Y A3 m Z w) (hk : RankOk z n X s Y m Z)
    (hq : ∀ w1, RkR A1 n X A2 s Y A3 m Z w1 → Calls Try.prog 58 #[.agg #[.int .i64 z, .slice A1 n c1, .slice A2 s c2, .slice A3 m c3], .int .i64 0, .int .i64 i] w1 (AnsI v b w1)) :
    Calls Try.prog 16 #[.agg #[.int .i64 z, .slice A1 n c1, .slice A2 s c2, .slice A3 m c3], .int .i64 i] w (AnsI v b w) := by
  have L0 := Lib.hid (RL.start (z := z) (c1 := c1) (c2 := c2) (c3 := c3) h)
  have HK := Lib.hid hk
  have HQ := Lib.hid hq
  clear h hk hq
  obtain ⟨hs0, b0, b1, b2, b3⟩ := L0.out.cells
  go_enter Try.func16, Try.ntmps16
  go_wp2_with fail
  refine (impl_ask_yes z A1 n c1 X A2 s c2 Y A3 m c3 Z _ 58 (enters_of Try.func58 (by kernel_rfl) rfl) 0 i v b L0.out.rows HK.out HQ.out).mono ?_; rintro e w1 ⟨rfl, hb⟩
  have L1 := Lib.hid (L0.out.step hb)
  clear hb
  go_wp2_with fail
  go_ret2
  exact ⟨rfl, L1.out.below⟩

set_option maxRecDepth 100000 in
set_option maxHeartbeats 1000000 in
theorem impl_Rank0_bad (i : Int) (h : RkR A1 n X A2 s Y A3 m Z w) (hk : ¬ RankOk z n X s Y m Z) :
    Calls Try.prog 16 #[.agg #[.int .i64 z, .slice A1 n c1, .slice A2 s c2, .slice A3 m c3], .int .i64 i] w (AnsI 0 false w) := by
  have L0 := Lib.hid (RL.start (z := z) (c1 := c1) (c2 := c2) (c3 := c3) h)
  have HK := Lib.hid hk
  clear h hk
  obtain ⟨hs0, b0, b1, b2, b3⟩ := L0.out.cells
  go_enter Try.func16, Try.ntmps16
  go_wp2_with fail
  refine (impl_ask_no z A1 n c1 X A2 s c2 Y A3 m c3 Z _ _ 0 i L0.out.rows HK.out).mono ?_; rintro e w1 ⟨rfl, hb⟩
  have L1 := Lib.hid (L0.out.step hb)
  clear hb
  go_wp2_with fail
  go_ret2
  exact ⟨rfl, L1.out.below⟩

set_option maxRecDepth 100000 in
set_option maxHeartbeats 1000000 in
theorem impl_Select1_asked (i v : Int) (b : Bool) (h : RkR A1 n X A2 s Y A3 m Z w) (hk : RankOk z n X s Y m Z)
    (hq : ∀ w1, RkR A1 n X A2 s Y A3 m Z w1 → Calls Try.prog 59 #[.agg #[.int .i64 z, .slice A1 n c1, .slice A2 s c2, .slice A3 m c3], .int .i64 1, .int .i64 i] w1 (AnsI v b w1)) :
    Calls Try.prog 17 #[.agg #[.int .i64 z, .slice A1 n c1, .slice A2 s c2, .slice A3 m c3], .int .i64 i] w (AnsI v b w) := by
  have L0 := Lib.hid (RL.start (z := z) (c1 := c1) (c2 := c2) (c3 := c3) h)
  have HK := Lib.hid hk
  have HQ := Lib.hid hq
  clear h hk hq
  obtain ⟨hs0, b0, b1, b2, b3⟩ := L0.out.cells
  go_enter Try.func17, Try.ntmps17
  go_wp2_with fail
  refine (impl_ask_yes z A1 n c1 X A2 s c2 Y A3 m c3 Z _ 59 (enters_of Try.func59 (by kernel_rfl) rfl) 1 i v b L0.out.rows HK.out HQ.out).mono ?_; rintro e w1 ⟨rfl, hb⟩
  have L1 := Lib.hid (L0.out.step hb)
  clear hb
  go_wp2_with fail
  go_ret2
  exact ⟨rfl, L1.out.below⟩

set_option maxRecDepth 100000 in
set_option maxHeartbeats 1000000 in
theorem impl_Select1_bad (i : Int) (h : RkR A1 n X A2 s Y A3 m Z w) (hk : ¬ RankOk z n X s Y m Z) :
    Calls Try.prog 17 #[.agg #[.int .i64 z, .slice A1 n c1, .slice A2 s c2, .slice A3 m c3], .int .i64 i] w (AnsI 0 false w) := by
  have L0 := Lib.hid (RL.start (z := z) (c1 := c1) (c2 := c2) (c3 := c3) h)
  have HK := Lib.hid hk
  clear h hk
  obtain ⟨hs0, b0, b1, b2, b3⟩ := L0.out.cells
  go_enter Try.func17, Try.ntmps17
  go_wp2_with fail
  refine (impl_ask_no z A1 n c1 X A2 s c2 Y A3 m c3 Z _ _ 1 i L0.out.rows HK.out).mono ?_; rintro e w1 ⟨rfl, hb⟩
  have L1 := Lib.hid (L0.out.step hb)
  clear hb
  go_wp2_with fail
  go_ret2
  exact ⟨rfl, L1.out.below⟩

set_option maxRecDepth 100000 in
set_option maxHeartbeats 1000000 in
theorem impl_Select0_asked (i v : Int) (b : Bool) (h : RkR A1 n X A2 s Y A3 m Z w) (hk : RankOk z n X s Y m Z)
    (hq : ∀ w1, RkR A1 n X A2 s Y A3 m Z w1 → Calls Try.prog 59 #[.agg #[.int .i64 z, .slice A1 n c1, .slice A2 s c2, .slice A3 m c3], .int .i64 0, .int .i64 i] w1 (AnsI v b w1)) :
    Calls Try.prog 18 #[.agg #[.int .i64 z, .slice A1 n c1, .slice A2 s c2, .slice A3 m c3], .int .i64 i] w (AnsI v b w) := by
  have L0 := Lib.hid (RL.start (z := z) (c1 := c1) (c2 := c2) (c3 := c3) h)
  have HK := Lib.hid hk
  have HQ := Lib.hid hq
  clear h hk hq
  obtain ⟨hs0, b0, b1, b2, b3⟩ := L0.out.cells
  go_enter Try.func18, Try.ntmps18
  go_wp2_with fail
  refine (impl_ask_yes z A1 n c1 X A2 s c2 Y A3 m c3 Z _ 59 (enters_of Try.func59 (by kernel_rfl) rfl) 0 i v b L0.out.rows HK.out HQ.out).mono ?_; rintro e w1 ⟨rfl, hb⟩
  have L1 := Lib.hid (L0.out.step hb)
  clear hb
  go_wp2_with fail
  go_ret2
  exact ⟨rfl, L1.out.below⟩

set_option maxRecDepth 100000 in
set_option maxHeartbeats 1000000 in
theorem impl_Select0_bad (i : Int) (h : RkR A1 n X A2 s Y A3 m Z w) (hk : ¬ RankOk z n X s Y m Z) :
    Calls Try.prog 18 #[.agg #[.int .i64 z, .slice A1 n c1, .slice A2 s c2, .slice A3 m c3], .int .i64 i] w (AnsI 0 false w) := by
  have L0 := Lib.hid (RL.start (z := z) (c1 := c1) (c2 := c2) (c3 := c3) h)
  have HK := Lib.hid hk
  clear h hk
  obtain ⟨hs0, b0, b1, b2, b3⟩ := L0.out.cells
  go_enter Try.func18, Try.ntmps18
  go_wp2_with fail
  refine (impl_ask_no z A1 n c1 X A2 s c2 Y A3 m c3 Z _ _ 0 i L0.out.rows HK.out).mono ?_; rintro e w1 ⟨rfl, hb⟩
  have L1 := Lib.hid (L0.out.step hb)
  clear hb
  go_wp2_with fail
  go_ret2
  exact ⟨rfl, L1.out.below⟩

set_option maxRecDepth 100000 in
set_option maxHeartbeats 1000000 in
theorem impl_NextOne_asked (i v : Int) (b : Bool) (h : RkR A1 n X A2 s Y A3 m Z w) (hk : RankOk z n X s Y m Z)
    (hq : ∀ w1, RkR A1 n X A2 s Y A3 m Z w1 → Calls Try.prog 62 #[.agg #[.int .i64 z, .slice A1 n c1, .slice A2 s c2, .slice A3 m c3], .int .i64 1, .int .i64 i] w1 (AnsI v b w1)) :
    Calls Try.prog 21 #[.agg #[.int .i64 z, .slice A1 n c1, .slice A2 s c2, .slice A3 m c3], .int .i64 i] w (AnsI v b w) := by
  have L0 := Lib.hid (RL.start (z := z) (c1 := c1) (c2 := c2) (c3 := c3) h)
  have HK := Lib.hid hk
  have HQ := Lib.hid hq
  clear h hk hq
  obtain ⟨hs0, b0, b1, b2, b3⟩ := L0.out.cells
  go_enter Try.func21, Try.ntmps21
  go_wp2_with fail
  refine (impl_ask_yes z A1 n c1 X A2 s c2 Y A3 m c3 Z _ 62 (enters_of Try.func62 (by kernel_rfl) rfl) 1 i v b L0.out.rows HK.out HQ.out).mono ?_; rintro e w1 ⟨rfl, hb⟩
  have L1 := Lib.hid (L0.out.step hb)
  clear hb
  go_wp2_with fail
  go_ret2
  exact ⟨rfl, L1.out.below⟩

set_option maxRecDepth 100000 in
set_option maxHeartbeats 1000000 in
theorem impl_NextOne_bad (i : Int) (h : RkR A1 n X A2 s Y A3 m Z w) (hk : ¬ RankOk z n X s Y m Z) :
    Calls Try.prog 21 #[.agg #[.int .i64 z, .slice A1 n c1, .slice A2 s c2, .slice A3 m c3], .int .i64 i] w (AnsI 0 false w) := by
  have L0 := Lib.hid (RL.start (z := z) (c1 := c1) (c2 := c2) (c3 := c3) h)
  have HK := Lib.hid hk
  clear h hk
  obtain ⟨hs0, b0, b1, b2, b3⟩ := L0.out.cells
  go_enter Try.func21, Try.ntmps21
  go_wp2_with fail
  refine (impl_ask_no z A1 n c1 X A2 s c2 Y A3 m c3 Z _ _ 1 i L0.out.rows HK.out).mono ?_; rintro e w1 ⟨rfl, hb⟩
  have L1 := Lib.hid (L0.out.step hb)
  clear hb
  go_wp2_with fail
  go_ret2
  exact ⟨rfl, L1.out.below⟩

set_option maxRecDepth 100000 in
set_option maxHeartbeats 1000000 in
theorem impl_LastOne_asked (i v : Int) (b : Bool) (h : RkR A1 n X A2 s Y A3 m Z w) (hk : RankOk z n X s Y m Z)
    (hq : ∀ w1, RkR A1 n X A2 s Y A3 m Z w1 → Calls Try.prog 65 #[.agg #[.int .i64 z, .slice A1 n c1, .slice A2 s c2, .slice A3 m c3], .int .i64 1, .int .i64 i] w1 (AnsI v b w1)) :
    Calls Try.prog 23 #[.agg #[.int .i64 z, .slice A1 n c1, .slice A2 s c2, .slice A3 m c3], .int .i64 i] w (AnsI v b w) := by
  have L0 := Lib.hid (RL.start (z := z) (c1 := c1) (c2 := c2) (c3 := c3) h)
  have HK := Lib.hid hk
  have HQ := Lib.hid hq
  clear h hk hq
  obtain ⟨hs0, b0, b1, b2, b3⟩ := L0.out.cells
  go_enter Try.func23, Try.ntmps23
  go_wp2_with fail
  refine (impl_ask_yes z A1 n c1 X A2 s c2 Y A3 m c3 Z _ 65 (enters_of Try.func65 (by kernel_rfl) rfl) 1 i v b L0.out.rows HK.out HQ.out).mono ?_; rintro e w1 ⟨rfl, hb⟩
  have L1 := Lib.hid (L0.out.step hb)
  clear hb
  go_wp2_with fail
  go_ret2
  exact ⟨rfl, L1.out.below⟩

set_option maxRecDepth 100000 in
set_option maxHeartbeats 1000000 in
theorem impl_LastOne_bad (i : Int) (h : RkR A1 n X A2 s Y A3 m Z w) (hk : ¬ RankOk z n X s Y m Z) :
    Calls Try.prog 23 #[.agg #[.int .i64 z, .slice A1 n c1, .slice A2 s c2, .slice A3 m c3], .int .i64 i] w (AnsI 0 false w) := by
  have L0 := Lib.hid (RL.start (z := z) (c1 := c1) (c2 := c2) (c3 := c3) h)
  have HK := Lib.hid hk
  clear h hk
  obtain ⟨hs0, b0, b1, b2, b3⟩ := L0.out.cells
  go_enter Try.func23, Try.ntmps23
  go_wp2_with fail
  refine (impl_ask_no z A1 n c1 X A2 s c2 Y A3 m c3 Z _ _ 1 i L0.out.rows HK.out).mono ?_; rintro e w1 ⟨rfl, hb⟩
  have L1 := Lib.hid (L0.out.step hb)
  clear hb
  go_wp2_with fail
  go_ret2
  exact ⟨rfl, L1.out.below⟩

set_option maxRecDepth 100000 in
set_option maxHeartbeats 1000000 in
theorem impl_OnesOf_asked (v : Int) (b : Bool) (h : RkR A1 n X A2 s Y A3 m Z w) (hk : RankOk z n X s Y m Z)
    (hq : ∀ w1, RkR A1 n X A2 s Y A3 m Z w1 → Calls Try.prog 58 #[.agg #[.int .i64 z, .slice A1 n c1, .slice A2 s c2, .slice A3 m c3], .int .i64 1, .int .i64 z] w1 (AnsI v b w1)) :
    Calls Try.prog 19 #[.agg #[.int .i64 z, .slice A1 n c1, .slice A2 s c2, .slice A3 m c3]] w (AnsI v b w) := by
  have L0 := Lib.hid (RL.start (z := z) (c1 := c1) (c2 := c2) (c3 := c3) h)
  have HK := Lib.hid hk
  have HQ := Lib.hid hq
  clear h hk hq
  obtain ⟨hs0, b0, b1, b2, b3⟩ := L0.out.cells
  go_enter Try.func19, Try.ntmps19
  go_wp2_with fail
  refine (impl_ask_yes z A1 n c1 X A2 s c2 Y A3 m c3 Z _ 58 (enters_of Try.func58 (by kernel_rfl) rfl) 1 z v b L0.out.rows HK.out HQ.out).mono ?_; rintro e w1 ⟨rfl, hb⟩
  have L1 := Lib.hid (L0.out.step hb)
  clear hb
  go_wp2_with fail
  go_ret2
  exact ⟨rfl, L1.out.below⟩

set_option maxRecDepth 100000 in
set_option maxHeartbeats 1000000 in
theorem impl_OnesOf_bad (h : RkR A1 n X A2 s Y A3 m Z w) (hk : ¬ RankOk z n X s Y m Z) :
    Calls Try.prog 19 #[.agg #[.int .i64 z, .slice A1 n c1, .slice A2 s c2, .slice A3 m c3]] w (AnsI 0 false w) := by
  have L0 := Lib.hid (RL.start (z := z) (c1 := c1) (c2 := c2) (c3 := c3) h)
  have HK := Lib.hid hk
  clear h hk
  obtain ⟨hs0, b0, b1, b2, b3⟩ := L0.out.cells
  go_enter Try.func19, Try.ntmps19
  go_wp2_with fail
  refine (impl_ask_no z A1 n c1 X A2 s c2 Y A3 m c3 Z _ _ 1 z L0.out.rows HK.out).mono ?_; rintro e w1 ⟨rfl, hb⟩
  have L1 := Lib.hid (L0.out.step hb)
  clear hb
  go_wp2_with fail
  go_ret2
  exact ⟨rfl, L1.out.below⟩
end
end Go.Proofs.Ytbflgbmobbbebaa

/- sort.Search with a closure that keeps a fact on the world. -/
namespace Go.Proofs.Ytbflgbmobbbebaa
open Go.RowKit

set_option maxRecDepth 100000 in
set_option maxHeartbeats 1000000 in
theorem search_any (g : Nat) (eg : ∀ args w, (callFunc g args).run Try.prog w = .ok (.enter g args) w) (cb : Array Value) (n : Nat) (p : Nat → Bool) (I : World → Prop) (w : World) (hn : n ≤ 1048576) (hI : I w)
    (hf : ∀ (i : Nat) (W : World), i < n → I W → Calls Try.prog g (#[.int .i64 i] ++ cb) W fun e W' => e = .returned (.bool (p i)) ∧ I W')
    (hmono : ∀ a b, a ≤ b → b < n → p a = true → p b = true) :
    Calls Try.prog 98 #[.int .i64 n, .func (.func g) #[] cb] w fun e W' => ∃ r : Nat, e = .returned (.int .i64 r) ∧ r ≤ n ∧ (∀ t, t < r → p t = false) ∧ (∀ t, r ≤ t → t < n → p t = true) ∧ I W' := by
  have HI := Lib.hid hI
  have HF := Lib.hid hf
  have M := Lib.hid hmono
  clear hI hf hmono
  go_enter Try.func98, Try.ntmps98
  go_wp2_with fail
  go_loopw [5, 6] (fun s5 s6 wr => ∃ lo hi : Nat, s5 = .int .i64 lo ∧ s6 = .int .i64 hi ∧ lo ≤ hi ∧ hi ≤ n ∧ Hid ((∀ t, t < lo → p t = false) ∧ (∀ t, hi ≤ t → t < n → p t = true) ∧ I wr)) (fun s5 s6 _ => (intOf s6).toNat - (intOf s5).toNat)
  case atStart => exact ⟨0, n, rfl, rfl, Nat.zero_le _, Nat.le_refl _, Lib.hid ⟨fun t ht => absurd ht (Nat.not_lt_zero _), fun t h1 h2 => by omega, HI.out⟩⟩
  case round =>
    obtain ⟨lo, hi, rfl, rfl, hlh, hin, R⟩ := hrel
    by_cases hlt : lo < hi
    · obtain ⟨q, hq⟩ : ∃ q : Nat, q = (lo + hi) / 2 := ⟨_, rfl⟩
      have hc := HF.out q wr (by omega) R.out.2.2
      rw [show (q : Int) = ((lo : Int) + (hi : Int)) / 2 by omega] at hc
      have HQ := Lib.hid hq
      clear hq
      cases hp : p q <;> rw [hp] at hc
      · have HP := Lib.hid hp
        clear hp
        go_wp2_with (go_at_fn g; refine hc.mono ?_; rintro e w' ⟨rfl, hI2⟩; have I2 := Lib.hid hI2; clear hI2)
        go_roundw
        case measure => simp [intOf]; omega
        case rel => exact ⟨q + 1, hi, by rw [HQ.out]; go_num, rfl, by have := HQ.out; omega, hin, Lib.hid ⟨fun t ht => (by
            cases h : p t with
            | false => rfl
            | true => have := M.out t q (by omega) (by have := HQ.out; omega) h; rw [HP.out] at this; cases this), R.out.2.1, I2.out⟩⟩
      · have HP := Lib.hid hp
        clear hp
        go_wp2_with (go_at_fn g; refine hc.mono ?_; rintro e w' ⟨rfl, hI2⟩; have I2 := Lib.hid hI2; clear hI2)
        go_roundw
        case measure => simp [intOf]; omega
        case rel => exact ⟨lo, q, rfl, by rw [HQ.out]; go_num, by have := HQ.out; omega, by have := HQ.out; omega, Lib.hid ⟨R.out.1, fun t ht htn => M.out q t ht htn HP.out, I2.out⟩⟩
    · obtain rfl : hi = lo := by omega
      go_wp2_with fail
      go_ret
      exact ⟨hi, rfl, hin, R.out.1, R.out.2.1, R.out.2.2⟩
end Go.Proofs.Ytbflgbmobbbebaa

/- selectOf: the code's search. -/
namespace Go.Proofs.Ytbflgbmobbbebaa
open Go.RowKit

/-- The boxes of selectOf: the Ranked at b, the kind, the number. -/
structure SB (w : World) (b : Nat) (z : Int) (A1 : Option Addr) (n c1 : Nat) (X : Nat → Int) (A2 : Option Addr) (s c2 : Nat) (Y : Nat → Int) (A3 : Option Addr) (m c3 : Nat) (Z : Nat → Int) (kind k : Int) (wi : World) : Prop where
  rl : RL w b z A1 n c1 X A2 s c2 Y A3 m c3 Z wi
  kb : NBX (b + 1) (b + 1) #[.int .i64 kind] 3 wi
  nb : NBX (b + 2) (b + 2) #[.int .i64 k] 3 wi
section
variable {z : Int} {A1 A2 A3 : Option Addr} {n c1 s c2 m c3 q : Nat} {X Y Z : Nat → Int} {kind k : Int} {w wi wj : World}
theorem SB.step (h : SB w q z A1 n c1 X A2 s c2 Y A3 m c3 Z kind k wi) (hb : Below wi.heap.size wi wj) : SB w q z A1 n c1 X A2 s c2 Y A3 m c3 Z kind k wj := ⟨h.rl.step hb, h.kb.b hb, h.nb.b hb⟩
theorem SB.drew (h : SB w q z A1 n c1 X A2 s c2 Y A3 m c3 Z kind k wi) : SB w q z A1 n c1 X A2 s c2 Y A3 m c3 Z kind k wi.drew := h.step (Below.drew (Below.refl _ _))
theorem SB.start (h : RkR A1 n X A2 s Y A3 m Z w) : SB w w.heap.size z A1 n c1 X A2 s c2 Y A3 m c3 Z kind k (((w.alloc (.cells (rkC z A1 n c1 A2 s c2 A3 m c3) 29)).alloc (.cells #[.int .i64 kind] 3)).alloc (.cells #[.int .i64 k] 3)) := by
  have e1 : (w.alloc (.cells (rkC z A1 n c1 A2 s c2 A3 m c3) 29)).heap.size = w.heap.size + 1 := by simp
  have e2 : ((w.alloc (.cells (rkC z A1 n c1 A2 s c2 A3 m c3) 29)).alloc (.cells #[.int .i64 kind] 3)).heap.size = w.heap.size + 2 := by simp
  have h1 := nbx0 (w.alloc (.cells (rkC z A1 n c1 A2 s c2 A3 m c3) 29)) #[.int .i64 kind] 3
  have h2 := nbx0 ((w.alloc (.cells (rkC z A1 n c1 A2 s c2 A3 m c3) 29)).alloc (.cells #[.int .i64 kind] 3)) #[.int .i64 k] 3
  rw [e1] at h1
  rw [e2] at h2
  exact ⟨((RL.start h).step ((Below.refl _ _).alloc (Nat.le_refl _) _)).step ((Below.refl _ _).alloc (Nat.le_refl _) _), h1.b ((Below.refl _ _).alloc (Nat.le_refl _) _), h2⟩
theorem SB.cells (h : SB w q z A1 n c1 X A2 s c2 Y A3 m c3 Z kind k wi) : q + 2 < wi.heap.size ∧ wi.cell? ⟨q, 0, none⟩ = some (.int .i64 z) ∧ wi.cell? ⟨q, 1, none⟩ = some (.slice A1 n c1) ∧ wi.cell? ⟨q, 2, none⟩ = some (.slice A2 s c2) ∧ wi.cell? ⟨q, 3, none⟩ = some (.slice A3 m c3) ∧
    wi.cell? ⟨q + 1, 0, none⟩ = some (.int .i64 kind) ∧ wi.cell? ⟨q + 2, 0, none⟩ = some (.int .i64 k) :=
  ⟨h.nb.lt, h.rl.cells.2.1, h.rl.cells.2.2.1, h.rl.cells.2.2.2.1, h.rl.cells.2.2.2.2, h.kb.cell 0 _ rfl, h.nb.cell 0 _ rfl⟩
end

section
variable (z : Nat) (A1 : Option Addr) (n c1 : Nat) (X : Nat → Int) (A2 : Option Addr) (s c2 : Nat) (Y : Nat → Int) (A3 : Option Addr) (m c3 : Nat) (Z : Nat → Int) (w : World)
set_option maxRecDepth 100000 in
set_option maxHeartbeats 2000000 in
theorem sel_closure_off (k : Int) (q i : Nat) (W : World) (hk : RankOk z n X s Y m Z) (hi : i < z) (h : SB w q z A1 n c1 X A2 s c2 Y A3 m c3 Z 0 k W) :
    Calls Try.prog 99 #[.int .i64 i, .pointer (some ⟨q, 0, none⟩), .pointer (some ⟨q + 1, 0, none⟩), .pointer (some ⟨q + 2, 0, none⟩)] W fun e W' => e = .returned (.bool (decide (k < ((cntB (wdR X) false (i + 1) : Nat) : Int)))) ∧ SB w q z A1 n c1 X A2 s c2 Y A3 m c3 Z 0 k W' := by
  have B0 := Lib.hid h
  have HC := Lib.hid (fun w1 => impl_countsBefore z A1 n c1 X A2 s c2 Y A3 m c3 Z w1 (i + 1))
  have HK := Lib.hid hk
  have hi1 : i + 1 ≤ z := hi
  have hz1 : (i : Int) + 1 ≤ 4096 := by obtain ⟨z', e1, e2, _⟩ := hk.size; omega
  have EW := Lib.hid (show IntKind.i64.wrap ((i : Int) + 1) = ((i + 1 : Nat) : Int) by rw [IntWalk.i64_in _ (by omega)]; omega)
  clear h hk
  obtain ⟨hs0, b0, b1, b2, b3, b4, b5⟩ := B0.out.cells
  generalize cntB (wdR X) false (i + 1) = V0 at *
  generalize cntB (wdR X) true (i + 1) = V1 at *
  have x0 := kind_off V0 V1
  go_enter Try.func99, Try.ntmps99
  go_wp2_with fail
  go_region_held3 (fun w' => w'.cell? ⟨q, 0, none⟩ = some (.int .i64 z) ∧ w'.cell? ⟨q, 1, none⟩ = some (.slice A1 n c1) ∧ w'.cell? ⟨q, 2, none⟩ = some (.slice A2 s c2) ∧ w'.cell? ⟨q, 3, none⟩ = some (.slice A3 m c3) ∧ w'.cell? ⟨q + 1, 0, none⟩ = some (.int .i64 0) ∧ w'.cell? ⟨q + 2, 0, none⟩ = some (.int .i64 k))
    (first | (go_keep; done) | exact (B0.out.step hq1).cells.2)
    (first
      | (rw [EW.out]; go_at_call 97; (first | refine (HC.out _ B0.out.rl.rows HK.out hi1).mono ?_ | refine (HC.out _ B0.out.drew.rl.rows HK.out hi1).mono ?_); rintro e w1 ⟨rfl, hq1'⟩; have hq1 := of_drew hq1'; clear hq1'))
  have B1 := Lib.hid (B0.out.step hq1)
  clear hq1 b0 b1 b2 b3 b4 b5
  go_wp2_with fail
  go_ret
  exact ⟨rfl, B1.out⟩

set_option maxRecDepth 100000 in
set_option maxHeartbeats 2000000 in
theorem sel_closure_on (k : Int) (q i : Nat) (W : World) (hk : RankOk z n X s Y m Z) (hi : i < z) (h : SB w q z A1 n c1 X A2 s c2 Y A3 m c3 Z 1 k W) :
    Calls Try.prog 99 #[.int .i64 i, .pointer (some ⟨q, 0, none⟩), .pointer (some ⟨q + 1, 0, none⟩), .pointer (some ⟨q + 2, 0, none⟩)] W fun e W' => e = .returned (.bool (decide (k < ((cntB (wdR X) true (i + 1) : Nat) : Int)))) ∧ SB w q z A1 n c1 X A2 s c2 Y A3 m c3 Z 1 k W' := by
  have B0 := Lib.hid h
  have HC := Lib.hid (fun w1 => impl_countsBefore z A1 n c1 X A2 s c2 Y A3 m c3 Z w1 (i + 1))
  have HK := Lib.hid hk
  have hi1 : i + 1 ≤ z := hi
  have hz1 : (i : Int) + 1 ≤ 4096 := by obtain ⟨z', e1, e2, _⟩ := hk.size; omega
  have EW := Lib.hid (show IntKind.i64.wrap ((i : Int) + 1) = ((i + 1 : Nat) : Int) by rw [IntWalk.i64_in _ (by omega)]; omega)
  clear h hk
  obtain ⟨hs0, b0, b1, b2, b3, b4, b5⟩ := B0.out.cells
  generalize cntB (wdR X) false (i + 1) = V0 at *
  generalize cntB (wdR X) true (i + 1) = V1 at *
  have x0 := kind_on V0 V1
  go_enter Try.func99, Try.ntmps99
  go_wp2_with fail
  go_region_held3 (fun w' => w'.cell? ⟨q, 0, none⟩ = some (.int .i64 z) ∧ w'.cell? ⟨q, 1, none⟩ = some (.slice A1 n c1) ∧ w'.cell? ⟨q, 2, none⟩ = some (.slice A2 s c2) ∧ w'.cell? ⟨q, 3, none⟩ = some (.slice A3 m c3) ∧ w'.cell? ⟨q + 1, 0, none⟩ = some (.int .i64 1) ∧ w'.cell? ⟨q + 2, 0, none⟩ = some (.int .i64 k))
    (first | (go_keep; done) | exact (B0.out.step hq1).cells.2)
    (first
      | (rw [EW.out]; go_at_call 97; (first | refine (HC.out _ B0.out.rl.rows HK.out hi1).mono ?_ | refine (HC.out _ B0.out.drew.rl.rows HK.out hi1).mono ?_); rintro e w1 ⟨rfl, hq1'⟩; have hq1 := of_drew hq1'; clear hq1'))
  have B1 := Lib.hid (B0.out.step hq1)
  clear hq1 b0 b1 b2 b3 b4 b5
  go_wp2_with fail
  go_ret
  exact ⟨rfl, B1.out⟩

end
end Go.Proofs.Ytbflgbmobbbebaa

/- selectOf: what the code answers. -/
namespace Go.Proofs.Ytbflgbmobbbebaa
open Go.RowKit

section
variable (z : Nat) (A1 : Option Addr) (n c1 : Nat) (X : Nat → Int) (A2 : Option Addr) (s c2 : Nat) (Y : Nat → Int) (A3 : Option Addr) (m c3 : Nat) (Z : Nat → Int) (w : World)

set_option maxRecDepth 100000 in
set_option maxHeartbeats 2000000 in
theorem impl_select_off_yes (k i : Nat) (h : RkR A1 n X A2 s Y A3 m Z w) (hk : RankOk z n X s Y m Z) (hi : SelAt (wdR X) false z k i) :
    Calls Try.prog 59 #[.agg #[.int .i64 z, .slice A1 n c1, .slice A2 s c2, .slice A3 m c3], .int .i64 0, .int .i64 k] w (AnsI i true w) := by
  have B0 := Lib.hid (SB.start (z := z) (c1 := c1) (c2 := c2) (c3 := c3) (kind := 0) (k := k) h)
  have HC := Lib.hid (fun w1 => impl_countsBefore z A1 n c1 X A2 s c2 Y A3 m c3 Z w1 z)
  have HK := Lib.hid hk
  have hz1 : z ≤ 1048576 := by obtain ⟨z', e1, e2, _⟩ := hk.size; omega
  have HI := Lib.hid hi
  have HP := Lib.hid (fun j => sel_above (j := j) hi)
  have hlt := sel_lt hi
  clear hi
  clear h hk
  obtain ⟨hs0, b0, b1, b2, b3, b4, b5⟩ := B0.out.cells
  generalize cntB (wdR X) false z = V0 at *
  generalize cntB (wdR X) true z = V1 at *
  have x0 := kind_off V0 V1
  have d0 : decide ((k : Int) < 0) = false := by simp
  have d1 : decide ((V0 : Int) ≤ (k : Int)) = false := by simp; omega
  go_enter Try.func59, Try.ntmps59
  go_wp2_with fail
  go_region_held3 (fun w' => w'.cell? ⟨w.heap.size, 0, none⟩ = some (.int .i64 z) ∧ w'.cell? ⟨w.heap.size, 1, none⟩ = some (.slice A1 n c1) ∧ w'.cell? ⟨w.heap.size, 2, none⟩ = some (.slice A2 s c2) ∧ w'.cell? ⟨w.heap.size, 3, none⟩ = some (.slice A3 m c3) ∧ w'.cell? ⟨w.heap.size + 1, 0, none⟩ = some (.int .i64 0) ∧ w'.cell? ⟨w.heap.size + 2, 0, none⟩ = some (.int .i64 k))
    (first | (go_keep; done) | exact (B0.out.step hq1).cells.2)
    (first
      | (go_at_call 97; (first | refine (HC.out _ B0.out.rl.rows HK.out (Nat.le_refl _)).mono ?_ | refine (HC.out _ B0.out.drew.rl.rows HK.out (Nat.le_refl _)).mono ?_); rintro e w1 ⟨rfl, hq1'⟩; have hq1 := of_drew hq1'; clear hq1'))
  have B1 := Lib.hid (B0.out.step hq1)
  clear hq1 b0 b1 b2 b3 b4 b5
  obtain ⟨hs1, b0, b1, b2, b3, b4, b5⟩ := B1.out.cells
  go_wp2_with fail
  refine (search_any 99 (enters_of Try.func99 (by kernel_rfl) rfl) #[.pointer (some ⟨w.heap.size, 0, none⟩), .pointer (some ⟨w.heap.size + 1, 0, none⟩), .pointer (some ⟨w.heap.size + 2, 0, none⟩)] z (fun t => decide ((k : Int) < ((cntB (wdR X) false (t + 1) : Nat) : Int))) (fun W => SB w w.heap.size z A1 n c1 X A2 s c2 Y A3 m c3 Z 0 k W) _ hz1 B1.out
    (fun i W hi hW => sel_closure_off z A1 n c1 X A2 s c2 Y A3 m c3 Z w k w.heap.size i W HK.out hi hW)
    (fun a b hab hb hp => by have := cntB_mono (W := wdR X) (on := false) (show a + 1 ≤ b + 1 by omega); simp only [decide_eq_true_eq] at hp ⊢; omega)).mono ?_; rintro e w2 ⟨r, rfl, hr1, hr2, hr3, hB2⟩
  have B2 := Lib.hid hB2
  have hri : r = i := by
    have h1 := HP.out (r + 1)
    have h2 := HP.out (i + 1)
    have h3 := hr2 i
    have h4 := hr3 r (Nat.le_refl _)
    have h5 := HI.out.1
    simp only [decide_eq_false_iff_not, decide_eq_true_eq] at h3 h4
    omega
  clear hB2 hr1 hr2 hr3
  subst hri
  go_wp2_with fail
  go_ret2
  exact ⟨rfl, B2.out.rl.below⟩

set_option maxRecDepth 100000 in
set_option maxHeartbeats 2000000 in
theorem impl_select_off_no (k : Int) (h : RkR A1 n X A2 s Y A3 m Z w) (hk : RankOk z n X s Y m Z) (hi : ¬ (0 ≤ k ∧ k < (cntB (wdR X) false z : Nat))) :
    Calls Try.prog 59 #[.agg #[.int .i64 z, .slice A1 n c1, .slice A2 s c2, .slice A3 m c3], .int .i64 0, .int .i64 k] w (AnsI 0 false w) := by
  have B0 := Lib.hid (SB.start (z := z) (c1 := c1) (c2 := c2) (c3 := c3) (kind := 0) (k := k) h)
  have HC := Lib.hid (fun w1 => impl_countsBefore z A1 n c1 X A2 s c2 Y A3 m c3 Z w1 z)
  have HK := Lib.hid hk
  have hz1 : z ≤ 1048576 := by obtain ⟨z', e1, e2, _⟩ := hk.size; omega
  clear h hk
  obtain ⟨hs0, b0, b1, b2, b3, b4, b5⟩ := B0.out.cells
  generalize cntB (wdR X) false z = V0 at *
  generalize cntB (wdR X) true z = V1 at *
  have x0 := kind_off V0 V1
  by_cases h0 : k < 0
  · have d0 : decide (k < 0) = true := by simpa using h0
    go_enter Try.func59, Try.ntmps59
    go_wp2_with fail
    go_quiet (fail)
    go_wp2_with fail
    go_ret2
    exact ⟨rfl, B0.out.rl.below.trans ((below_drewN (Below.refl _ _) _).mono B0.out.rl.below.size)⟩
  have d0 : decide (k < 0) = false := by simpa using h0
  have d1 : decide ((V0 : Int) ≤ k) = true := by simp; omega
  go_enter Try.func59, Try.ntmps59
  go_wp2_with fail
  go_region_held3 (fun w' => w'.cell? ⟨w.heap.size, 0, none⟩ = some (.int .i64 z) ∧ w'.cell? ⟨w.heap.size, 1, none⟩ = some (.slice A1 n c1) ∧ w'.cell? ⟨w.heap.size, 2, none⟩ = some (.slice A2 s c2) ∧ w'.cell? ⟨w.heap.size, 3, none⟩ = some (.slice A3 m c3) ∧ w'.cell? ⟨w.heap.size + 1, 0, none⟩ = some (.int .i64 0) ∧ w'.cell? ⟨w.heap.size + 2, 0, none⟩ = some (.int .i64 k))
    (first | (go_keep; done) | exact (B0.out.step hq1).cells.2)
    (first
      | (go_at_call 97; (first | refine (HC.out _ B0.out.rl.rows HK.out (Nat.le_refl _)).mono ?_ | refine (HC.out _ B0.out.drew.rl.rows HK.out (Nat.le_refl _)).mono ?_); rintro e w1 ⟨rfl, hq1'⟩; have hq1 := of_drew hq1'; clear hq1'))
  have B1 := Lib.hid (B0.out.step hq1)
  clear hq1 b0 b1 b2 b3 b4 b5
  obtain ⟨hs1, b0, b1, b2, b3, b4, b5⟩ := B1.out.cells
  go_wp2_with fail
  go_ret2
  exact ⟨rfl, B1.out.rl.below⟩

set_option maxRecDepth 100000 in
set_option maxHeartbeats 2000000 in
theorem impl_select_on_yes (k i : Nat) (h : RkR A1 n X A2 s Y A3 m Z w) (hk : RankOk z n X s Y m Z) (hi : SelAt (wdR X) true z k i) :
    Calls Try.prog 59 #[.agg #[.int .i64 z, .slice A1 n c1, .slice A2 s c2, .slice A3 m c3], .int .i64 1, .int .i64 k] w (AnsI i true w) := by
  have B0 := Lib.hid (SB.start (z := z) (c1 := c1) (c2 := c2) (c3 := c3) (kind := 1) (k := k) h)
  have HC := Lib.hid (fun w1 => impl_countsBefore z A1 n c1 X A2 s c2 Y A3 m c3 Z w1 z)
  have HK := Lib.hid hk
  have hz1 : z ≤ 1048576 := by obtain ⟨z', e1, e2, _⟩ := hk.size; omega
  have HI := Lib.hid hi
  have HP := Lib.hid (fun j => sel_above (j := j) hi)
  have hlt := sel_lt hi
  clear hi
  clear h hk
  obtain ⟨hs0, b0, b1, b2, b3, b4, b5⟩ := B0.out.cells
  generalize cntB (wdR X) false z = V0 at *
  generalize cntB (wdR X) true z = V1 at *
  have x0 := kind_on V0 V1
  have d0 : decide ((k : Int) < 0) = false := by simp
  have d1 : decide ((V1 : Int) ≤ (k : Int)) = false := by simp; omega
  go_enter Try.func59, Try.ntmps59
  go_wp2_with fail
  go_region_held3 (fun w' => w'.cell? ⟨w.heap.size, 0, none⟩ = some (.int .i64 z) ∧ w'.cell? ⟨w.heap.size, 1, none⟩ = some (.slice A1 n c1) ∧ w'.cell? ⟨w.heap.size, 2, none⟩ = some (.slice A2 s c2) ∧ w'.cell? ⟨w.heap.size, 3, none⟩ = some (.slice A3 m c3) ∧ w'.cell? ⟨w.heap.size + 1, 0, none⟩ = some (.int .i64 1) ∧ w'.cell? ⟨w.heap.size + 2, 0, none⟩ = some (.int .i64 k))
    (first | (go_keep; done) | exact (B0.out.step hq1).cells.2)
    (first
      | (go_at_call 97; (first | refine (HC.out _ B0.out.rl.rows HK.out (Nat.le_refl _)).mono ?_ | refine (HC.out _ B0.out.drew.rl.rows HK.out (Nat.le_refl _)).mono ?_); rintro e w1 ⟨rfl, hq1'⟩; have hq1 := of_drew hq1'; clear hq1'))
  have B1 := Lib.hid (B0.out.step hq1)
  clear hq1 b0 b1 b2 b3 b4 b5
  obtain ⟨hs1, b0, b1, b2, b3, b4, b5⟩ := B1.out.cells
  go_wp2_with fail
  refine (search_any 99 (enters_of Try.func99 (by kernel_rfl) rfl) #[.pointer (some ⟨w.heap.size, 0, none⟩), .pointer (some ⟨w.heap.size + 1, 0, none⟩), .pointer (some ⟨w.heap.size + 2, 0, none⟩)] z (fun t => decide ((k : Int) < ((cntB (wdR X) true (t + 1) : Nat) : Int))) (fun W => SB w w.heap.size z A1 n c1 X A2 s c2 Y A3 m c3 Z 1 k W) _ hz1 B1.out
    (fun i W hi hW => sel_closure_on z A1 n c1 X A2 s c2 Y A3 m c3 Z w k w.heap.size i W HK.out hi hW)
    (fun a b hab hb hp => by have := cntB_mono (W := wdR X) (on := true) (show a + 1 ≤ b + 1 by omega); simp only [decide_eq_true_eq] at hp ⊢; omega)).mono ?_; rintro e w2 ⟨r, rfl, hr1, hr2, hr3, hB2⟩
  have B2 := Lib.hid hB2
  have hri : r = i := by
    have h1 := HP.out (r + 1)
    have h2 := HP.out (i + 1)
    have h3 := hr2 i
    have h4 := hr3 r (Nat.le_refl _)
    have h5 := HI.out.1
    simp only [decide_eq_false_iff_not, decide_eq_true_eq] at h3 h4
    omega
  clear hB2 hr1 hr2 hr3
  subst hri
  go_wp2_with fail
  go_ret2
  exact ⟨rfl, B2.out.rl.below⟩

set_option maxRecDepth 100000 in
set_option maxHeartbeats 2000000 in
theorem impl_select_on_no (k : Int) (h : RkR A1 n X A2 s Y A3 m Z w) (hk : RankOk z n X s Y m Z) (hi : ¬ (0 ≤ k ∧ k < (cntB (wdR X) true z : Nat))) :
    Calls Try.prog 59 #[.agg #[.int .i64 z, .slice A1 n c1, .slice A2 s c2, .slice A3 m c3], .int .i64 1, .int .i64 k] w (AnsI 0 false w) := by
  have B0 := Lib.hid (SB.start (z := z) (c1 := c1) (c2 := c2) (c3 := c3) (kind := 1) (k := k) h)
  have HC := Lib.hid (fun w1 => impl_countsBefore z A1 n c1 X A2 s c2 Y A3 m c3 Z w1 z)
  have HK := Lib.hid hk
  have hz1 : z ≤ 1048576 := by obtain ⟨z', e1, e2, _⟩ := hk.size; omega
  clear h hk
  obtain ⟨hs0, b0, b1, b2, b3, b4, b5⟩ := B0.out.cells
  generalize cntB (wdR X) false z = V0 at *
  generalize cntB (wdR X) true z = V1 at *
  have x0 := kind_on V0 V1
  by_cases h0 : k < 0
  · have d0 : decide (k < 0) = true := by simpa using h0
    go_enter Try.func59, Try.ntmps59
    go_wp2_with fail
    go_quiet (fail)
    go_wp2_with fail
    go_ret2
    exact ⟨rfl, B0.out.rl.below.trans ((below_drewN (Below.refl _ _) _).mono B0.out.rl.below.size)⟩
  have d0 : decide (k < 0) = false := by simpa using h0
  have d1 : decide ((V1 : Int) ≤ k) = true := by simp; omega
  go_enter Try.func59, Try.ntmps59
  go_wp2_with fail
  go_region_held3 (fun w' => w'.cell? ⟨w.heap.size, 0, none⟩ = some (.int .i64 z) ∧ w'.cell? ⟨w.heap.size, 1, none⟩ = some (.slice A1 n c1) ∧ w'.cell? ⟨w.heap.size, 2, none⟩ = some (.slice A2 s c2) ∧ w'.cell? ⟨w.heap.size, 3, none⟩ = some (.slice A3 m c3) ∧ w'.cell? ⟨w.heap.size + 1, 0, none⟩ = some (.int .i64 1) ∧ w'.cell? ⟨w.heap.size + 2, 0, none⟩ = some (.int .i64 k))
    (first | (go_keep; done) | exact (B0.out.step hq1).cells.2)
    (first
      | (go_at_call 97; (first | refine (HC.out _ B0.out.rl.rows HK.out (Nat.le_refl _)).mono ?_ | refine (HC.out _ B0.out.drew.rl.rows HK.out (Nat.le_refl _)).mono ?_); rintro e w1 ⟨rfl, hq1'⟩; have hq1 := of_drew hq1'; clear hq1'))
  have B1 := Lib.hid (B0.out.step hq1)
  clear hq1 b0 b1 b2 b3 b4 b5
  obtain ⟨hs1, b0, b1, b2, b3, b4, b5⟩ := B1.out.cells
  go_wp2_with fail
  go_ret2
  exact ⟨rfl, B1.out.rl.below⟩
end
end Go.Proofs.Ytbflgbmobbbebaa

/- The next and the last bit that is on: the code's way; what they are. -/
namespace Go.Proofs.Ytbflgbmobbbebaa
open Go.RowKit

theorem next_sel {W : Nat → Nat} {z i k : Nat} (h : Found W true z i k) : SelAt W true z (cntB W true i) k := by
  obtain ⟨h1, h2, h3, h4⟩ := h
  refine ⟨by omega, h3, ?_⟩
  have key : ∀ d, i + d ≤ k → cntB W true (i + d) = cntB W true i := by
    intro d
    induction d with
    | zero => intro _; rfl
    | succ d ih =>
      intro hd
      rw [← Nat.add_assoc, cntB_succ, ih (by omega), if_neg]
      · rfl
      · rw [h4 (i + d) (by omega) (by omega)]; simp
  have := key (k - i) (by omega)
  rwa [show i + (k - i) = k by omega] at this
theorem next_none {W : Nat → Nat} {z i : Nat} (hi : i ≤ z) (h : NoneFrom W true z i) : cntB W true z = cntB W true i := by
  have key : ∀ d, i + d ≤ z → cntB W true (i + d) = cntB W true i := by
    intro d
    induction d with
    | zero => intro _; rfl
    | succ d ih =>
      intro hd
      rw [← Nat.add_assoc, cntB_succ, ih (by omega), if_neg]
      · rfl
      · rw [h (i + d) (by omega) (by omega)]; simp
  have := key (z - i) (by omega)
  rwa [show i + (z - i) = z by omega] at this
/-- k is the last bit before i that is on. -/
def LastAt (W : Nat → Nat) (i k : Nat) : Prop := k < i ∧ bitN W k = true ∧ ∀ j, k < j → j < i → bitN W j = false
def NoneTo (W : Nat → Nat) (i : Nat) : Prop := ∀ j, j < i → bitN W j = false
theorem last_or (W : Nat → Nat) : ∀ i, (∃ k, LastAt W i k) ∨ NoneTo W i
  | 0 => .inr fun j hj => by omega
  | i + 1 => by
    cases hb : bitN W i
    · rcases last_or W i with ⟨k, h1, h2, h3⟩ | h
      · refine .inl ⟨k, by omega, h2, fun j hj hk => ?_⟩
        by_cases e : j = i
        · rw [e]; exact hb
        · exact h3 j hj (by omega)
      · refine .inr fun j hj => ?_
        by_cases e : j = i
        · rw [e]; exact hb
        · exact h j (by omega)
    · exact .inl ⟨i, by omega, hb, fun j hj hk => by omega⟩
theorem last_sel {W : Nat → Nat} {z i k : Nat} (hi : i ≤ z) (h : LastAt W i k) : 1 ≤ cntB W true i ∧ SelAt W true z (cntB W true i - 1) k := by
  obtain ⟨h1, h2, h3⟩ := h
  have key : ∀ d, k + 1 + d ≤ i → cntB W true (k + 1 + d) = cntB W true k + 1 := by
    intro d
    induction d with
    | zero => intro _; rw [Nat.add_zero, cntB_succ, if_pos h2]
    | succ d ih =>
      intro hd
      rw [← Nat.add_assoc, cntB_succ, ih (by omega), if_neg]
      rw [h3 (k + 1 + d) (by omega) (by omega)]; simp
  have := key (i - (k + 1)) (by omega)
  rw [show k + 1 + (i - (k + 1)) = i by omega] at this
  exact ⟨by omega, by omega, h2, by omega⟩
theorem last_none {W : Nat → Nat} {i : Nat} (h : NoneTo W i) : cntB W true i = 0 := by
  induction i with
  | zero => exact cntB_zero
  | succ i ih =>
    rw [cntB_succ, ih (fun j hj => h j (by omega)), if_neg]
    rw [h i (by omega)]; simp

section
variable (z : Nat) (A1 : Option Addr) (n c1 : Nat) (X : Nat → Int) (A2 : Option Addr) (s c2 : Nat) (Y : Nat → Int) (A3 : Option Addr) (m c3 : Nat) (Z : Nat → Int) (w : World)

set_option maxRecDepth 100000 in
set_option maxHeartbeats 1000000 in
theorem impl_nextOf_yes (i : Nat) (v : Int) (b : Bool) (h : RkR A1 n X A2 s Y A3 m Z w) (hk : RankOk z n X s Y m Z) (hi : i ≤ z)
    (hq : ∀ w1, RkR A1 n X A2 s Y A3 m Z w1 → Calls Try.prog 59 #[.agg #[.int .i64 z, .slice A1 n c1, .slice A2 s c2, .slice A3 m c3], .int .i64 1, .int .i64 (cntB (wdR X) true i : Nat)] w1 (AnsI v b w1)) :
    Calls Try.prog 62 #[.agg #[.int .i64 z, .slice A1 n c1, .slice A2 s c2, .slice A3 m c3], .int .i64 1, .int .i64 i] w (AnsI v b w) := by
  have L0 := Lib.hid (RL.start (z := z) (c1 := c1) (c2 := c2) (c3 := c3) h)
  have HR := Lib.hid (fun w1 hr => impl_rankOf_yes z A1 n c1 X A2 s c2 Y A3 m c3 Z w1 true i hr hk hi)
  have HK := Lib.hid hk
  have HQ := Lib.hid hq
  clear h hk hq
  obtain ⟨hs0, b0, b1, b2, b3⟩ := L0.out.cells
  generalize cntB (wdR X) true i = V at *
  go_enter Try.func62, Try.ntmps62
  go_wp2_with fail
  refine (HR.out _ L0.out.rows).mono ?_; rintro e w1 ⟨rfl, hb⟩
  have L1 := Lib.hid (L0.out.step hb)
  clear hb b0 b1 b2 b3
  obtain ⟨hs1, b0, b1, b2, b3⟩ := L1.out.cells
  go_wp2_with fail
  refine (HQ.out _ L1.out.rows).mono ?_; rintro e w2 ⟨rfl, hb⟩
  have L2 := Lib.hid (L1.out.step hb)
  clear hb
  go_wp2_with fail
  go_ret2
  exact ⟨rfl, L2.out.below⟩

set_option maxRecDepth 100000 in
set_option maxHeartbeats 1000000 in
theorem impl_nextOf_no (kind i : Int) (h : RkR A1 n X A2 s Y A3 m Z w) (hi : ¬ (0 ≤ i ∧ i ≤ z)) :
    Calls Try.prog 62 #[.agg #[.int .i64 z, .slice A1 n c1, .slice A2 s c2, .slice A3 m c3], .int .i64 kind, .int .i64 i] w (AnsI 0 false w) := by
  have L0 := Lib.hid (RL.start (z := z) (c1 := c1) (c2 := c2) (c3 := c3) h)
  clear h
  obtain ⟨hs0, b0, b1, b2, b3⟩ := L0.out.cells
  go_enter Try.func62, Try.ntmps62
  go_wp2_with fail
  refine (impl_rankOf_no z A1 n c1 X A2 s c2 Y A3 m c3 Z _ kind i L0.out.rows hi).mono ?_; rintro e w1 ⟨rfl, hb⟩
  have L1 := Lib.hid (L0.out.step hb)
  clear hb
  go_wp2_with fail
  go_ret2
  exact ⟨rfl, L1.out.below⟩

set_option maxRecDepth 100000 in
set_option maxHeartbeats 1000000 in
theorem impl_lastOf_yes (i : Nat) (v : Int) (b : Bool) (h : RkR A1 n X A2 s Y A3 m Z w) (hk : RankOk z n X s Y m Z) (hi : i ≤ z)
    (hq : ∀ w1, RkR A1 n X A2 s Y A3 m Z w1 → Calls Try.prog 59 #[.agg #[.int .i64 z, .slice A1 n c1, .slice A2 s c2, .slice A3 m c3], .int .i64 1, .int .i64 ((cntB (wdR X) true i : Nat) - 1)] w1 (AnsI v b w1)) :
    Calls Try.prog 65 #[.agg #[.int .i64 z, .slice A1 n c1, .slice A2 s c2, .slice A3 m c3], .int .i64 1, .int .i64 i] w (AnsI v b w) := by
  have L0 := Lib.hid (RL.start (z := z) (c1 := c1) (c2 := c2) (c3 := c3) h)
  have HR := Lib.hid (fun w1 hr => impl_rankOf_yes z A1 n c1 X A2 s c2 Y A3 m c3 Z w1 true i hr hk hi)
  have HK := Lib.hid hk
  have HQ := Lib.hid hq
  have hb0 : ((cntB (wdR X) true i : Nat) : Int) ≤ 4096 := by have := cntB_le (W := wdR X) (on := true) i; obtain ⟨z', e1, e2, _⟩ := HK.out.size; omega
  clear h hk hq
  obtain ⟨hs0, b0, b1, b2, b3⟩ := L0.out.cells
  generalize cntB (wdR X) true i = V at *
  go_enter Try.func65, Try.ntmps65
  go_wp2_with fail
  refine (HR.out _ L0.out.rows).mono ?_; rintro e w1 ⟨rfl, hb⟩
  have L1 := Lib.hid (L0.out.step hb)
  clear hb b0 b1 b2 b3
  obtain ⟨hs1, b0, b1, b2, b3⟩ := L1.out.cells
  go_wp2_with fail
  refine (HQ.out _ L1.out.rows).mono ?_; rintro e w2 ⟨rfl, hb⟩
  have L2 := Lib.hid (L1.out.step hb)
  clear hb
  go_wp2_with fail
  go_ret2
  exact ⟨rfl, L2.out.below⟩

set_option maxRecDepth 100000 in
set_option maxHeartbeats 1000000 in
theorem impl_lastOf_no (kind i : Int) (h : RkR A1 n X A2 s Y A3 m Z w) (hi : ¬ (0 ≤ i ∧ i ≤ z)) :
    Calls Try.prog 65 #[.agg #[.int .i64 z, .slice A1 n c1, .slice A2 s c2, .slice A3 m c3], .int .i64 kind, .int .i64 i] w (AnsI 0 false w) := by
  have L0 := Lib.hid (RL.start (z := z) (c1 := c1) (c2 := c2) (c3 := c3) h)
  clear h
  obtain ⟨hs0, b0, b1, b2, b3⟩ := L0.out.cells
  go_enter Try.func65, Try.ntmps65
  go_wp2_with fail
  refine (impl_rankOf_no z A1 n c1 X A2 s c2 Y A3 m c3 Z _ kind i L0.out.rows hi).mono ?_; rintro e w1 ⟨rfl, hb⟩
  have L1 := Lib.hid (L0.out.step hb)
  clear hb
  go_wp2_with fail
  go_ret2
  exact ⟨rfl, L1.out.below⟩
end

section
variable (z : Int) (A1 : Option Addr) (n c1 : Nat) (X : Nat → Int) (A2 : Option Addr) (s c2 : Nat) (Y : Nat → Int) (A3 : Option Addr) (m c3 : Nat) (Z : Nat → Int) (w : World)

set_option maxRecDepth 100000 in
set_option maxHeartbeats 1000000 in
theorem spec_NextOne_yes (z' i k : Nat) (h : RkR A1 n X A2 s Y A3 m Z w) (hk : RankOk z' n X s Y m Z) (hi : i ≤ z') (hf : Found (wdR X) true z' i k) :
    Calls Try.prog 22 #[.agg #[.int .i64 z', .slice A1 n c1, .slice A2 s c2, .slice A3 m c3], .int .i64 i] w (AnsI k true w) := by
  have d1 : decide ((k : Int) < 0) = false := by simp
  have L0 := Lib.hid (RL.start (z := z') (c1 := c1) (c2 := c2) (c3 := c3) h)
  have HK := Lib.hid hk
  have HI := Lib.hid hf
  have hk1 := h.n1
  obtain ⟨z2, hz2, hz1, hnz, hrs⟩ := hk.size
  have q1 : z' ≤ 16 * n := by omega
  have q2 : z' ≤ 4096 := by omega
  have q3 : i ≤ 16 * n := by omega
  have q4 : i ≤ 4096 := by omega
  clear h hk hnz hz2 hz1 hrs hf
  obtain ⟨hs0, b0, b1, b2, b3⟩ := L0.out.cells
  go_enter Try.func22, Try.ntmps22
  go_wp2_with fail
  refine ((BoolIs.two (spec_raEnd (z' : Int) A1 n c1 X A2 s c2 Y A3 m c3 Z _ i L0.out.rows)).1 ⟨HK.out, by omega, by omega⟩).mono ?_; rintro e w1 ⟨rfl, hb⟩
  have L1 := Lib.hid (L0.out.step hb)
  clear hb b0 b1 b2 b3
  obtain ⟨hs1, b0, b1, b2, b3⟩ := L1.out.cells
  go_wp2_with fail
  refine (spec_biNext_yes (z' : Int) A1 n c1 (wdR X) i k true _ hk1 (good_row HK.out.1 L1.out.rows.r1) (by omega) HI.out).mono ?_; rintro e w2 ⟨rfl, hb⟩
  have L2 := Lib.hid (L1.out.step hb)
  clear hb b0 b1 b2 b3
  obtain ⟨hs2, b0, b1, b2, b3⟩ := L2.out.cells
  go_wp2_with fail
  refine (spec_biNext_yes (z' : Int) A1 n c1 (wdR X) i k true _ hk1 (good_row HK.out.1 L2.out.rows.r1) (by omega) HI.out).mono ?_; rintro e w3 ⟨rfl, hb⟩
  have L3 := Lib.hid (L2.out.step hb)
  clear hb
  go_wp2_with fail
  go_ret2
  exact ⟨rfl, L3.out.below⟩

set_option maxRecDepth 100000 in
set_option maxHeartbeats 1000000 in
theorem spec_NextOne_none (z' i : Nat) (h : RkR A1 n X A2 s Y A3 m Z w) (hk : RankOk z' n X s Y m Z) (hi : i ≤ z') (hf : NoneFrom (wdR X) true z' i) :
    Calls Try.prog 22 #[.agg #[.int .i64 z', .slice A1 n c1, .slice A2 s c2, .slice A3 m c3], .int .i64 i] w (AnsI 0 false w) := by
  have L0 := Lib.hid (RL.start (z := z') (c1 := c1) (c2 := c2) (c3 := c3) h)
  have HK := Lib.hid hk
  have HI := Lib.hid hf
  have hk1 := h.n1
  obtain ⟨z2, hz2, hz1, hnz, hrs⟩ := hk.size
  have q1 : z' ≤ 16 * n := by omega
  have q2 : z' ≤ 4096 := by omega
  have q3 : i ≤ 16 * n := by omega
  have q4 : i ≤ 4096 := by omega
  clear h hk hnz hz2 hz1 hrs hf
  obtain ⟨hs0, b0, b1, b2, b3⟩ := L0.out.cells
  go_enter Try.func22, Try.ntmps22
  go_wp2_with fail
  refine ((BoolIs.two (spec_raEnd (z' : Int) A1 n c1 X A2 s c2 Y A3 m c3 Z _ i L0.out.rows)).1 ⟨HK.out, by omega, by omega⟩).mono ?_; rintro e w1 ⟨rfl, hb⟩
  have L1 := Lib.hid (L0.out.step hb)
  clear hb b0 b1 b2 b3
  obtain ⟨hs1, b0, b1, b2, b3⟩ := L1.out.cells
  go_wp2_with fail
  refine (spec_biNext_no (z' : Int) A1 n c1 (wdR X) i true _ hk1 (good_row HK.out.1 L1.out.rows.r1) (by omega) (by omega) (by omega) HI.out).mono ?_; rintro e w2 ⟨rfl, hb⟩
  have L2 := Lib.hid (L1.out.step hb)
  clear hb
  go_wp2_with fail
  go_ret2
  exact ⟨rfl, L2.out.below⟩

set_option maxRecDepth 100000 in
set_option maxHeartbeats 1000000 in
theorem spec_NextOne_no (i : Int) (h : RkR A1 n X A2 s Y A3 m Z w) (hk : ¬ (RankOk z n X s Y m Z ∧ 0 ≤ i ∧ i ≤ z)) :
    Calls Try.prog 22 #[.agg #[.int .i64 z, .slice A1 n c1, .slice A2 s c2, .slice A3 m c3], .int .i64 i] w (AnsI 0 false w) := by
  have L0 := Lib.hid (RL.start (z := z) (c1 := c1) (c2 := c2) (c3 := c3) h)
  have HK := Lib.hid hk
  clear h hk
  obtain ⟨hs0, b0, b1, b2, b3⟩ := L0.out.cells
  go_enter Try.func22, Try.ntmps22
  go_wp2_with fail
  refine ((BoolIs.two (spec_raEnd z A1 n c1 X A2 s c2 Y A3 m c3 Z _ i L0.out.rows)).2 HK.out).mono ?_; rintro e w1 ⟨rfl, hb⟩
  have L1 := Lib.hid (L0.out.step hb)
  clear hb
  go_wp2_with fail
  go_ret2
  exact ⟨rfl, L1.out.below⟩

end
end Go.Proofs.Ytbflgbmobbbebaa

/- What the code answers on a valid Ranked, call by call. -/
namespace Go.Proofs.Ytbflgbmobbbebaa
open Go.RowKit

theorem cntB_sum (W : Nat → Nat) (i : Nat) : cntB W true i + cntB W false i = i := by
  have := cntN_le W i 0
  simp only [cntB, if_true, Bool.false_eq_true, if_false]; omega
section
variable {z : Nat} {A1 A2 A3 : Option Addr} {n c1 s c2 m c3 : Nat} {X Y Z : Nat → Int} {w : World}
theorem rank1_call {i : Nat} (h : RkR A1 n X A2 s Y A3 m Z w) (hk : RankOk z n X s Y m Z) (hi : i ≤ z) :
    Calls Try.prog 15 #[.agg #[.int .i64 z, .slice A1 n c1, .slice A2 s c2, .slice A3 m c3], .int .i64 i] w (AnsI (cntB (wdR X) true i : Nat) true w) :=
  impl_Rank1_asked z _ n _ X _ s _ Y _ m _ Z _ i _ true h hk fun w1 hr => impl_rankOf_yes z _ n _ X _ s _ Y _ m _ Z w1 true i hr hk hi
theorem rank0_call {i : Nat} (h : RkR A1 n X A2 s Y A3 m Z w) (hk : RankOk z n X s Y m Z) (hi : i ≤ z) :
    Calls Try.prog 16 #[.agg #[.int .i64 z, .slice A1 n c1, .slice A2 s c2, .slice A3 m c3], .int .i64 i] w (AnsI (cntB (wdR X) false i : Nat) true w) :=
  impl_Rank0_asked z _ n _ X _ s _ Y _ m _ Z _ i _ true h hk fun w1 hr => impl_rankOf_yes z _ n _ X _ s _ Y _ m _ Z w1 false i hr hk hi
theorem sel1_call {k i : Nat} (h : RkR A1 n X A2 s Y A3 m Z w) (hk : RankOk z n X s Y m Z) (hi : SelAt (wdR X) true z k i) :
    Calls Try.prog 17 #[.agg #[.int .i64 z, .slice A1 n c1, .slice A2 s c2, .slice A3 m c3], .int .i64 k] w (AnsI i true w) :=
  impl_Select1_asked z _ n _ X _ s _ Y _ m _ Z _ k _ true h hk fun w1 hr => impl_select_on_yes z _ n _ X _ s _ Y _ m _ Z w1 k i hr hk hi
theorem sel0_call {k i : Nat} (h : RkR A1 n X A2 s Y A3 m Z w) (hk : RankOk z n X s Y m Z) (hi : SelAt (wdR X) false z k i) :
    Calls Try.prog 18 #[.agg #[.int .i64 z, .slice A1 n c1, .slice A2 s c2, .slice A3 m c3], .int .i64 k] w (AnsI i true w) :=
  impl_Select0_asked z _ n _ X _ s _ Y _ m _ Z _ k _ true h hk fun w1 hr => impl_select_off_yes z _ n _ X _ s _ Y _ m _ Z w1 k i hr hk hi
theorem sel1_none {k : Int} (h : RkR A1 n X A2 s Y A3 m Z w) (hk : RankOk z n X s Y m Z) (hi : ¬ (0 ≤ k ∧ k < (cntB (wdR X) true z : Nat))) :
    Calls Try.prog 17 #[.agg #[.int .i64 z, .slice A1 n c1, .slice A2 s c2, .slice A3 m c3], .int .i64 k] w (AnsI 0 false w) :=
  impl_Select1_asked z _ n _ X _ s _ Y _ m _ Z _ k 0 false h hk fun w1 hr => impl_select_on_no z _ n _ X _ s _ Y _ m _ Z w1 k hr hk hi
theorem sel0_none {k : Int} (h : RkR A1 n X A2 s Y A3 m Z w) (hk : RankOk z n X s Y m Z) (hi : ¬ (0 ≤ k ∧ k < (cntB (wdR X) false z : Nat))) :
    Calls Try.prog 18 #[.agg #[.int .i64 z, .slice A1 n c1, .slice A2 s c2, .slice A3 m c3], .int .i64 k] w (AnsI 0 false w) :=
  impl_Select0_asked z _ n _ X _ s _ Y _ m _ Z _ k 0 false h hk fun w1 hr => impl_select_off_no z _ n _ X _ s _ Y _ m _ Z w1 k hr hk hi
/-- Some answer. -/
theorem sel1_some {k : Nat} (h : RkR A1 n X A2 s Y A3 m Z w) (hk : RankOk z n X s Y m Z) :
    ∃ (v : Int) (b : Bool), Calls Try.prog 17 #[.agg #[.int .i64 z, .slice A1 n c1, .slice A2 s c2, .slice A3 m c3], .int .i64 k] w (AnsI v b w) := by
  by_cases hi : k < cntB (wdR X) true z
  · obtain ⟨i, hs⟩ := sel_some hi
    exact ⟨i, true, sel1_call h hk hs⟩
  · exact ⟨0, false, sel1_none h hk (by omega)⟩
theorem ones_call (h : RkR A1 n X A2 s Y A3 m Z w) (hk : RankOk z n X s Y m Z) :
    Calls Try.prog 19 #[.agg #[.int .i64 z, .slice A1 n c1, .slice A2 s c2, .slice A3 m c3]] w (AnsI (cntB (wdR X) true z : Nat) true w) :=
  impl_OnesOf_asked z _ n _ X _ s _ Y _ m _ Z _ _ true h hk fun w1 hr => impl_rankOf_yes z _ n _ X _ s _ Y _ m _ Z w1 true z hr hk (Nat.le_refl _)
end
end Go.Proofs.Ytbflgbmobbbebaa

/- NextOne and LastOne on any Ranked, call by call. -/
namespace Go.Proofs.Ytbflgbmobbbebaa
open Go.RowKit

section
variable {z i : Nat} {A1 A2 A3 : Option Addr} {n c1 s c2 m c3 : Nat} {X Y Z : Nat → Int} {w : World}
theorem next_call {k : Nat} (h : RkR A1 n X A2 s Y A3 m Z w) (hk : RankOk z n X s Y m Z) (hi : i ≤ z) (hf : Found (wdR X) true z i k) :
    Calls Try.prog 21 #[.agg #[.int .i64 z, .slice A1 n c1, .slice A2 s c2, .slice A3 m c3], .int .i64 i] w (AnsI k true w) :=
  impl_NextOne_asked z _ n _ X _ s _ Y _ m _ Z _ i _ true h hk fun w1 hr => impl_nextOf_yes z _ n _ X _ s _ Y _ m _ Z w1 i _ _ hr hk hi fun w2 hr2 => impl_select_on_yes z _ n _ X _ s _ Y _ m _ Z w2 _ k hr2 hk (next_sel hf)
theorem next_call0 (h : RkR A1 n X A2 s Y A3 m Z w) (hk : RankOk z n X s Y m Z) (hi : i ≤ z) (hf : NoneFrom (wdR X) true z i) :
    Calls Try.prog 21 #[.agg #[.int .i64 z, .slice A1 n c1, .slice A2 s c2, .slice A3 m c3], .int .i64 i] w (AnsI 0 false w) := by
  have hn := next_none hi hf
  exact impl_NextOne_asked z _ n _ X _ s _ Y _ m _ Z _ i _ false h hk fun w1 hr => impl_nextOf_yes z _ n _ X _ s _ Y _ m _ Z w1 i _ _ hr hk hi fun w2 hr2 => impl_select_on_no z _ n _ X _ s _ Y _ m _ Z w2 _ hr2 hk (by omega)
theorem last_call {k : Nat} (h : RkR A1 n X A2 s Y A3 m Z w) (hk : RankOk z n X s Y m Z) (hi : i ≤ z) (hf : LastAt (wdR X) i k) :
    Calls Try.prog 23 #[.agg #[.int .i64 z, .slice A1 n c1, .slice A2 s c2, .slice A3 m c3], .int .i64 i] w (AnsI k true w) := by
  obtain ⟨q1, q2⟩ := last_sel (z := z) hi hf
  exact impl_LastOne_asked z _ n c1 X _ s c2 Y _ m c3 Z _ i _ true h hk fun w1 hr => impl_lastOf_yes z _ n _ X _ s _ Y _ m _ Z w1 i _ _ hr hk hi fun w2 hr2 => by
    have := impl_select_on_yes z _ n c1 X _ s c2 Y _ m c3 Z w2 _ k hr2 hk q2
    rwa [show ((cntB (wdR X) true i - 1 : Nat) : Int) = (cntB (wdR X) true i : Nat) - 1 by omega] at this
theorem last_call0 (h : RkR A1 n X A2 s Y A3 m Z w) (hk : RankOk z n X s Y m Z) (hi : i ≤ z) (hf : NoneTo (wdR X) i) :
    Calls Try.prog 23 #[.agg #[.int .i64 z, .slice A1 n c1, .slice A2 s c2, .slice A3 m c3], .int .i64 i] w (AnsI 0 false w) := by
  have hn := last_none hf
  exact impl_LastOne_asked z _ n _ X _ s _ Y _ m _ Z _ i _ false h hk fun w1 hr => impl_lastOf_yes z _ n _ X _ s _ Y _ m _ Z w1 i _ _ hr hk hi fun w2 hr2 => impl_select_on_no z _ n _ X _ s _ Y _ m _ Z w2 _ hr2 hk (by omega)
end
section
variable {z i : Int} {A1 A2 A3 : Option Addr} {n c1 s c2 m c3 : Nat} {X Y Z : Nat → Int} {w : World}
theorem next_no (h : RkR A1 n X A2 s Y A3 m Z w) (hk : ¬ (RankOk z n X s Y m Z ∧ 0 ≤ i ∧ i ≤ z)) :
    Calls Try.prog 21 #[.agg #[.int .i64 z, .slice A1 n c1, .slice A2 s c2, .slice A3 m c3], .int .i64 i] w (AnsI 0 false w) := by
  by_cases hk2 : RankOk z n X s Y m Z
  · have hi : ¬ (0 ≤ i ∧ i ≤ z) := fun h2 => hk ⟨hk2, h2⟩
    obtain ⟨z, rfl, hz1, _⟩ := hk2.size
    exact impl_NextOne_asked z _ n _ X _ s _ Y _ m _ Z _ i 0 false h hk2 fun w1 hr => impl_nextOf_no z _ n _ X _ s _ Y _ m _ Z w1 _ i hr hi
  · exact impl_NextOne_bad z _ n _ X _ s _ Y _ m _ Z _ i h hk2
theorem rank1_no (h : RkR A1 n X A2 s Y A3 m Z w) (hk : ¬ (RankOk z n X s Y m Z ∧ 0 ≤ i ∧ i ≤ z)) :
    Calls Try.prog 15 #[.agg #[.int .i64 z, .slice A1 n c1, .slice A2 s c2, .slice A3 m c3], .int .i64 i] w (AnsI 0 false w) := by
  by_cases hk2 : RankOk z n X s Y m Z
  · have hi : ¬ (0 ≤ i ∧ i ≤ z) := fun h2 => hk ⟨hk2, h2⟩
    obtain ⟨z, rfl, hz1, _⟩ := hk2.size
    exact impl_Rank1_asked z _ n _ X _ s _ Y _ m _ Z _ i 0 false h hk2 fun w1 hr => impl_rankOf_no z _ n _ X _ s _ Y _ m _ Z w1 _ i hr hi
  · exact impl_Rank1_bad z _ n _ X _ s _ Y _ m _ Z _ i h hk2
end
end Go.Proofs.Ytbflgbmobbbebaa

/- A Ranked that a law draws. -/
namespace Go.Proofs.Ytbflgbmobbbebaa
open Go.RowKit

/-- A drawn Ranked: its sizes; its rows are the call's own. -/
def RkIn (w : World) (z : Int) (A1 : Option Addr) (m : Nat) (X : Nat → Int) (A2 : Option Addr) (s : Nat) (Y : Nat → Int) (A3 : Option Addr) (p : Nat) (Z : Nat → Int) (w' : World) : Prop :=
  -1 ≤ z ∧ z ≤ 4096 ∧ m ≤ 257 ∧ s ≤ 257 ∧ p ≤ 258 ∧ Ow w.heap.size w'.heap.size 3 A1 m (intV X) w' ∧ Ow w.heap.size w'.heap.size 3 A2 s (intV Y) w' ∧ Ow w.heap.size w'.heap.size 3 A3 p (intV Z) w'

set_option maxRecDepth 100000 in
set_option maxHeartbeats 1000000 in
theorem draw_packDirectory (A : Option Addr) (n c : Nat) (D : Nat → Int) (w : World) (hn : n ≤ 1048576) (hr : GRow w A n (u8V D)) (hD : ∀ i, i < n → 0 ≤ D i ∧ D i < 256) :
    Calls Try.prog 28 #[.slice A n c] w fun e w' => ∃ (z : Int) (A1 : Option Addr) (m d1 : Nat) (X : Nat → Int) (A2 : Option Addr) (s d2 : Nat) (Y : Nat → Int) (A3 : Option Addr) (p d3 : Nat) (Z : Nat → Int),
      e = .returned (.agg #[.int .i64 z, .slice A1 m d1, .slice A2 s d2, .slice A3 p d3]) ∧ RkIn w z A1 m X A2 s Y A3 p Z w' ∧ Below w.heap.size w w' := by
  have h0 := (CurS.start (w := w.alloc (.cells (rkC 0 none 0 0 none 0 0 none 0 0) 29)) c (hr.al _) hD).still
  have hx := NBX.mk0 w (rkC 0 none 0 0 none 0 0 none 0 0) 29
  simp only [World.size_alloc] at h0
  have H0 := Lib.hid h0
  have HX := Lib.hid (hx.at1 (.cells #[.slice A n c, .int .i64 0, .int .u64 0] 61))
  have FB := Lib.hid (((At.start w).alloc (.cells (rkC 0 none 0 0 none 0 0 none 0 0) 29)).alloc (.cells #[.slice A n c, .int .i64 0, .int .u64 0] 61))
  clear h0 hx hr hD
  go_enter Try.func28, Try.ntmps28
  go_wp2_with fail
  refine (cur_ranked H0.out.1 (by omega) hn).mono ?_; rintro e w1 ⟨z, A1, m, d1, X, A2, s, d2, Y, A3, p, d3, Z, q1, q2, q3, q4, q5, rfl, o1, o2, o3, hd⟩
  have HX1 := Lib.hid (HX.out.only hd.2 (by omega))
  have F1 := Lib.hid (FB.out.far hd.2 (.inl (by omega)))
  have hs1 := hd.2.size
  simp only [World.size_alloc] at hs1 o1 o2 o3
  have O1 := Lib.hid (owned o1)
  have O2 := Lib.hid (owned o2)
  have O3 := Lib.hid (owned o3)
  clear hd o1 o2 o3 H0 HX FB
  have e0 := HX1.out.cell 0 _ rfl
  have e1 := HX1.out.cell 1 _ rfl
  have e2 := HX1.out.cell 2 _ rfl
  have e3 := HX1.out.cell 3 _ rfl
  have f0 := HX1.out.free 0
  have f1 := HX1.out.free 1
  have f2 := HX1.out.free 2
  have f3 := HX1.out.free 3
  go_wp2_with fail
  have N9 := Lib.hid ((((HX1.out.set 0 (.int .i64 z)).set 1 (.slice A1 m d1)).set 2 (.slice A2 s d2)).set 3 (.slice A3 p d3))
  clear e0 e1 e2 e3
  have r0 := N9.out.cell 0 (.int .i64 z) (by simp)
  have r1 := N9.out.cell 1 (.slice A1 m d1) (by simp)
  have r2 := N9.out.cell 2 (.slice A2 s d2) (by simp)
  have r3 := N9.out.cell 3 (.slice A3 p d3) (by simp)
  refine bodyPost_ret (v := .agg #[.int .i64 z, .slice A1 m d1, .slice A2 s d2, .slice A3 p d3]) (by simp [results, Try.results28, go_sem, r0, r1, r2, r3]) rfl ?_
  have k1 := ((((O1.out).setD (q := w.heap.size) (.inr (by omega)) 0 (.int .i64 z)).setD (q := w.heap.size) (.inr (by omega)) 1 (.slice A1 m d1)).setD (q := w.heap.size) (.inr (by omega)) 2 (.slice A2 s d2)).setD (q := w.heap.size) (.inr (by omega)) 3 (.slice A3 p d3)
  have k2 := ((((O2.out).setD (q := w.heap.size) (.inr (by omega)) 0 (.int .i64 z)).setD (q := w.heap.size) (.inr (by omega)) 1 (.slice A1 m d1)).setD (q := w.heap.size) (.inr (by omega)) 2 (.slice A2 s d2)).setD (q := w.heap.size) (.inr (by omega)) 3 (.slice A3 p d3)
  have k3 := ((((O3.out).setD (q := w.heap.size) (.inr (by omega)) 0 (.int .i64 z)).setD (q := w.heap.size) (.inr (by omega)) 1 (.slice A1 m d1)).setD (q := w.heap.size) (.inr (by omega)) 2 (.slice A2 s d2)).setD (q := w.heap.size) (.inr (by omega)) 3 (.slice A3 p d3)
  exact ⟨z, A1, m, d1, X, A2, s, d2, Y, A3, p, d3, Z, rfl, ⟨q1, q2, q3, q4, q5, k1.now.mono (by omega) k1.top, k2.now.mono (by omega) k2.top, k3.now.mono (by omega) k3.top⟩, below_setAt (below_setAt (below_setAt (below_setAt (F1.out.now) (b := w.heap.size) (o := 0) (by omega) (.int .i64 z)) (b := w.heap.size) (o := 1) (by omega) (.slice A1 m d1)) (b := w.heap.size) (o := 2) (by omega) (.slice A2 s d2)) (b := w.heap.size) (o := 3) (by omega) (.slice A3 p d3)⟩

set_option maxRecDepth 100000 in
set_option maxHeartbeats 2000000 in
theorem draw_nextOne (A : Option Addr) (n c : Nat) (D : Nat → Int) (w : World) (hn : n ≤ 1048576) (hr : GRow w A n (u8V D)) (hD : ∀ i, i < n → 0 ≤ D i ∧ D i < 256) :
    Calls Try.prog 20 #[.slice A n c] w fun e w' => ∃ (z : Int) (A1 : Option Addr) (m d1 : Nat) (X : Nat → Int) (A2 : Option Addr) (s d2 : Nat) (Y : Nat → Int) (A3 : Option Addr) (p d3 : Nat) (Z : Nat → Int) (x : Int),
      e = .returned (.tuple #[.agg #[.int .i64 z, .slice A1 m d1, .slice A2 s d2, .slice A3 p d3], .int .i64 x]) ∧ RkIn w z A1 m X A2 s Y A3 p Z w' ∧ (-1 ≤ x ∧ x ≤ 1048580) ∧ Below w.heap.size w w' := by
  have h0 := (CurS.start (w := w.alloc (.cells (rkC 0 none 0 0 none 0 0 none 0 0) 29)) c (hr.al _) hD).still
  have hx := NBX.mk0 w (rkC 0 none 0 0 none 0 0 none 0 0) 29
  simp only [World.size_alloc] at h0
  have H0 := Lib.hid h0
  have HX := Lib.hid (hx.at1 (.cells #[.slice A n c, .int .i64 0, .int .u64 0] 61))
  have FB := Lib.hid (((At.start w).alloc (.cells (rkC 0 none 0 0 none 0 0 none 0 0) 29)).alloc (.cells #[.slice A n c, .int .i64 0, .int .u64 0] 61))
  clear h0 hx hr hD
  go_enter Try.func20, Try.ntmps20
  go_wp2_with fail
  refine (cur_ranked H0.out.1 (by omega) hn).mono ?_; rintro e w1 ⟨z, A1, m, d1, X, A2, s, d2, Y, A3, p, d3, Z, q1, q2, q3, q4, q5, rfl, o1, o2, o3, hd⟩
  have hs1 := hd.2.size
  simp only [World.size_alloc] at hs1 o1 o2 o3
  have H1 := Lib.hid ((H0.out.trans hd).alloc (.cells (rkC z A1 m d1 A2 s d2 A3 p d3) 29))
  have HX1 := Lib.hid ((HX.out.only hd.2 (by omega)).at1 (.cells (rkC z A1 m d1 A2 s d2 A3 p d3) 29))
  have F1 := Lib.hid ((FB.out.far hd.2 (.inl (by omega))).alloc (.cells (rkC z A1 m d1 A2 s d2 A3 p d3) 29))
  have O1 := Lib.hid ((owned o1).alloc (.cells (rkC z A1 m d1 A2 s d2 A3 p d3) 29))
  have O2 := Lib.hid ((owned o2).alloc (.cells (rkC z A1 m d1 A2 s d2 A3 p d3) 29))
  have O3 := Lib.hid ((owned o3).alloc (.cells (rkC z A1 m d1 A2 s d2 A3 p d3) 29))
  have Q1 := Lib.hid (NBX.mk0 w1 (rkC z A1 m d1 A2 s d2 A3 p d3) 29)
  clear hd o1 o2 o3 H0 HX FB
  have H1D := Lib.hid H1.out.1.drew
  have c0 := Q1.out.cell 0 _ rfl
  have c1 := Q1.out.cell 1 _ rfl
  have c2 := Q1.out.cell 2 _ rfl
  have c3 := Q1.out.cell 3 _ rfl
  have e0 := HX1.out.cell 0 _ rfl
  have e1 := HX1.out.cell 1 _ rfl
  have e2 := HX1.out.cell 2 _ rfl
  have e3 := HX1.out.cell 3 _ rfl
  have f0 := HX1.out.free 0
  have f1 := HX1.out.free 1
  have f2 := HX1.out.free 2
  have f3 := HX1.out.free 3
  go_upto_region 3 with fail
  go_region_with (first
    | (go_at_call 61; (first | refine (cur_place H1.out.1 (by omega) hn (by omega)).mono ?_ | refine (cur_place H1D.out (by omega) hn (by omega)).mono ?_); rintro e w2 ⟨x, x0, x1, rfl, hd'⟩; have hd := undrew hd'; have HX2 := Lib.hid (HX1.out.only hd.2 (by omega)); have F2 := Lib.hid (F1.out.far hd.2 (.inl (by omega))); have P1 := Lib.hid (O1.out.far hd.2 (.inr (by omega))); have P2 := Lib.hid (O2.out.far hd.2 (.inr (by omega))); have P3 := Lib.hid (O3.out.far hd.2 (.inr (by omega))); have Q2 := Lib.hid (Q1.out.only hd.2 (by omega)); have cc0 := Q2.out.cell 0 _ rfl; have cc1 := Q2.out.cell 1 _ rfl; have cc2 := Q2.out.cell 2 _ rfl; have cc3 := Q2.out.cell 3 _ rfl; have ee0 := HX2.out.cell 0 _ rfl; have ee1 := HX2.out.cell 1 _ rfl; have ee2 := HX2.out.cell 2 _ rfl; have ee3 := HX2.out.cell 3 _ rfl; have ff0 := HX2.out.free 0; have ff1 := HX2.out.free 1; have ff2 := HX2.out.free 2; have ff3 := HX2.out.free 3; clear hd hd'))
  all_goals
    clear c0 c1 c2 c3 e0 e1 e2 e3 f0 f1 f2 f3
    go_wp2_with fail
    have N9 := Lib.hid ((((HX2.out.set 0 (.int .i64 z)).set 1 (.slice A1 m d1)).set 2 (.slice A2 s d2)).set 3 (.slice A3 p d3))
    clear ee0 ee1 ee2 ee3
    have r0 := N9.out.cell 0 (.int .i64 z) (by simp)
    have r1 := N9.out.cell 1 (.slice A1 m d1) (by simp)
    have r2 := N9.out.cell 2 (.slice A2 s d2) (by simp)
    have r3 := N9.out.cell 3 (.slice A3 p d3) (by simp)
    refine bodyPost_ret (v := .tuple #[.agg #[.int .i64 z, .slice A1 m d1, .slice A2 s d2, .slice A3 p d3], .int .i64 x]) (by simp [results, Try.results20, go_sem, r0, r1, r2, r3]) rfl ?_
    have k1 := ((((P1.out).setD (q := w.heap.size) (.inr (by omega)) 0 (.int .i64 z)).setD (q := w.heap.size) (.inr (by omega)) 1 (.slice A1 m d1)).setD (q := w.heap.size) (.inr (by omega)) 2 (.slice A2 s d2)).setD (q := w.heap.size) (.inr (by omega)) 3 (.slice A3 p d3)
    have k2 := ((((P2.out).setD (q := w.heap.size) (.inr (by omega)) 0 (.int .i64 z)).setD (q := w.heap.size) (.inr (by omega)) 1 (.slice A1 m d1)).setD (q := w.heap.size) (.inr (by omega)) 2 (.slice A2 s d2)).setD (q := w.heap.size) (.inr (by omega)) 3 (.slice A3 p d3)
    have k3 := ((((P3.out).setD (q := w.heap.size) (.inr (by omega)) 0 (.int .i64 z)).setD (q := w.heap.size) (.inr (by omega)) 1 (.slice A1 m d1)).setD (q := w.heap.size) (.inr (by omega)) 2 (.slice A2 s d2)).setD (q := w.heap.size) (.inr (by omega)) 3 (.slice A3 p d3)
    exact ⟨z, A1, m, d1, X, A2, s, d2, Y, A3, p, d3, Z, x, rfl, ⟨q1, q2, q3, q4, q5, k1.now.mono (by omega) k1.top, k2.now.mono (by omega) k2.top, k3.now.mono (by omega) k3.top⟩, ⟨x0, x1⟩, below_setAt (below_setAt (below_setAt (below_setAt (F2.out.now) (b := w.heap.size) (o := 0) (by omega) (.int .i64 z)) (b := w.heap.size) (o := 1) (by omega) (.slice A1 m d1)) (b := w.heap.size) (o := 2) (by omega) (.slice A2 s d2)) (b := w.heap.size) (o := 3) (by omega) (.slice A3 p d3)⟩
end Go.Proofs.Ytbflgbmobbbebaa

/- A boxed Ranked that a law goes on with. -/
namespace Go.Proofs.Ytbflgbmobbbebaa
open Go.RowKit

/-- A Ranked, boxed at qr. -/
structure BR (qr : Nat) (z : Int) (A1 : Option Addr) (n c1 : Nat) (X : Nat → Int) (A2 : Option Addr) (s c2 : Nat) (Y : Nat → Int) (A3 : Option Addr) (m c3 : Nat) (Z : Nat → Int) (wi : World) : Prop where
  rows : RkR A1 n X A2 s Y A3 m Z wi
  box : NBX qr qr (rkC z A1 n c1 A2 s c2 A3 m c3) 29 wi
section
variable {wi wj : World} {qr : Nat} {z : Int} {A1 A2 A3 : Option Addr} {m n c1 s c2 c3 : Nat} {X Y Z : Nat → Int}
theorem BR.step (h : BR qr z A1 n c1 X A2 s c2 Y A3 m c3 Z wi) (hb : Below wi.heap.size wi wj) : BR qr z A1 n c1 X A2 s c2 Y A3 m c3 Z wj := ⟨h.rows.b hb, h.box.b hb⟩
theorem BR.al (h : BR qr z A1 n c1 X A2 s c2 Y A3 m c3 Z wi) (o : Obj) : BR qr z A1 n c1 X A2 s c2 Y A3 m c3 Z (wi.alloc o) := h.step ((Below.refl _ _).alloc (Nat.le_refl _) o)
theorem BR.start (h : RkR A1 n X A2 s Y A3 m Z wi) : BR wi.heap.size z A1 n c1 X A2 s c2 Y A3 m c3 Z (wi.alloc (.cells (rkC z A1 n c1 A2 s c2 A3 m c3) 29)) := ⟨h.al _, nbx0 _ _ _⟩
theorem BR.cells (h : BR qr z A1 n c1 X A2 s c2 Y A3 m c3 Z wi) : wi.cell? ⟨qr, 0, none⟩ = some (.int .i64 z) ∧ wi.cell? ⟨qr, 1, none⟩ = some (.slice A1 n c1) ∧ wi.cell? ⟨qr, 2, none⟩ = some (.slice A2 s c2) ∧ wi.cell? ⟨qr, 3, none⟩ = some (.slice A3 m c3) :=
  ⟨h.box.cell 0 _ rfl, h.box.cell 1 _ rfl, h.box.cell 2 _ rfl, h.box.cell 3 _ rfl⟩
theorem rkr_in {w : World} (h : RkIn w z A1 n X A2 s Y A3 m Z wi) : RkR A1 n X A2 s Y A3 m Z wi :=
  ⟨by have := h.2.2.1; omega, by have := h.2.2.2.1; omega, by have := h.2.2.2.2.1; omega, irow (h.2.2.2.2.2.1.rd.row (Nat.le_refl _)), irow (h.2.2.2.2.2.2.1.rd.row (Nat.le_refl _)), irow (h.2.2.2.2.2.2.2.rd.row (Nat.le_refl _))⟩
end
end Go.Proofs.Ytbflgbmobbbebaa

/- The law FnNeighboursOfRank, walked. -/
namespace Go.Proofs.Ytbflgbmobbbebaa
open Go.RowKit

set_option maxRecDepth 100000 in
set_option maxHeartbeats 8000000 in
theorem walk_FnNeighboursOfRank (w : World) (A : Option Addr) (n c : Nat) (D : Nat → Int) (hn : n ≤ maxLen) (hr : URow w A n D) (B : Option Addr) (m d : Nat) (E : Nat → Int) (hm : m ≤ maxLen) (_hs : URow w B m E) :
    Calls Try.prog 4 #[.slice A n c, .slice B m d] w fun e w' => e = .returned (.bool true) ∧ Below w.heap.size w w' := by
  have HR := Lib.hid hr
  clear hr
  by_cases hbig : n + m ≤ 1048576
  rotate_left
  · have hb : (!decide (n + m ≤ 1048576)) = true := by simp; omega
    go_enter Try.func4, Try.ntmps4
    go_wp2_with fail
    refine (big_is A B n c m d w hn hm).mono ?_; rintro e w' ⟨rfl, rfl⟩
    rw [hb]
    go_wp2_with fail
    go_ret
    exact ⟨rfl, Below.refl _ _⟩
  have hb : (!decide (n + m ≤ 1048576)) = false := by simp; omega
  go_enter Try.func4, Try.ntmps4
  go_wp2_with fail
  refine (big_is A B n c m d w hn hm).mono ?_; rintro e w' ⟨rfl, rfl⟩
  rw [hb]
  clear hb
  go_wp2_with fail
  refine (draw_nextOne A n c D w (by omega) HR.out.1 HR.out.2).mono ?_; rintro e w1 ⟨z, A1, m1, d1, X, A2, s, d2, Y, A3, p, d3, Z, i, rfl, hx, ⟨i0, i1⟩, hb⟩
  have F1 := Lib.hid (hb.trans (((Below.refl w1.heap.size w1).alloc (Nat.le_refl _) (.cells (rkC z A1 m1 d1 A2 s d2 A3 p d3) 29)).mono hb.size))
  have V1 := Lib.hid (BR.start (z := z) (c1 := d1) (c2 := d2) (c3 := d3) (rkr_in hx))
  clear hb hx
  obtain ⟨r0, r1, r2, r3⟩ := V1.out.cells
  by_cases hk : RankOk z m1 X s Y p Z ∧ 0 ≤ i ∧ i ≤ z
  rotate_left
  · have HK := Lib.hid hk
    clear hk
    go_wp2_with fail
    refine (next_no V1.out.rows HK.out).mono ?_; rintro e w2 ⟨rfl, hb⟩
    have F2 := Lib.hid (F1.out.trans (hb.mono F1.out.size))
    have V2 := Lib.hid (V1.out.step hb)
    clear hb r0 r1 r2 r3
    obtain ⟨r0, r1, r2, r3⟩ := V2.out.cells
    go_wp2_with fail
    refine (spec_NextOne_no z A1 m1 d1 X A2 s d2 Y A3 p d3 Z _ i V2.out.rows HK.out).mono ?_; rintro e w3 ⟨rfl, hb⟩
    have F3 := Lib.hid (F2.out.trans (hb.mono F2.out.size))
    have V3 := Lib.hid (V2.out.step hb)
    clear hb r0 r1 r2 r3
    obtain ⟨r0, r1, r2, r3⟩ := V3.out.cells
    go_wp2_with fail
    refine (rank1_no V3.out.rows HK.out).mono ?_; rintro e w4 ⟨rfl, hb⟩
    have F4 := Lib.hid (F3.out.trans (hb.mono F3.out.size))
    have V4 := Lib.hid (V3.out.step hb)
    clear hb r0 r1 r2 r3
    obtain ⟨r0, r1, r2, r3⟩ := V4.out.cells
    go_wp2_with fail
    go_ret
    exact ⟨rfl, F4.out⟩
  obtain ⟨hk, hi0, hi1⟩ := hk
  have HK := Lib.hid hk
  obtain ⟨z, rfl, hz1, hzr⟩ := hk.size
  clear hzr hk
  obtain ⟨i, rfl⟩ := Int.eq_ofNat_of_zero_le hi0
  have hiz : i ≤ z := by omega
  rcases found_or (wdR X) true z z i (by omega) with ⟨k, hf⟩ | hf
  · have HF := Lib.hid hf
    have HSEL := Lib.hid (next_sel hf)
    generalize hV : cntB (wdR X) true i = V at *
    have HV := Lib.hid hV
    have hVi : V ≤ i := by rw [← hV]; exact cntB_le _
    clear hf hV
    go_wp2_with fail
    refine (next_call V1.out.rows HK.out hiz HF.out).mono ?_; rintro e w2 ⟨rfl, hb⟩
    have F2 := Lib.hid (F1.out.trans (hb.mono F1.out.size))
    have V2 := Lib.hid (V1.out.step hb)
    clear hb r0 r1 r2 r3
    obtain ⟨r0, r1, r2, r3⟩ := V2.out.cells
    go_wp2_with fail
    refine (spec_NextOne_yes A1 m1 d1 X A2 s d2 Y A3 p d3 Z _ z i k V2.out.rows HK.out hiz HF.out).mono ?_; rintro e w3 ⟨rfl, hb⟩
    have F3 := Lib.hid (F2.out.trans (hb.mono F2.out.size))
    have V3 := Lib.hid (V2.out.step hb)
    clear hb r0 r1 r2 r3
    obtain ⟨r0, r1, r2, r3⟩ := V3.out.cells
    go_wp2_with fail
    refine (rank1_call V3.out.rows HK.out hiz).mono ?_; rintro e w4 ⟨rfl, hb⟩
    rw [HV.out]
    have F4 := Lib.hid (F3.out.trans (hb.mono F3.out.size))
    have V4 := Lib.hid (V3.out.step hb)
    clear hb r0 r1 r2 r3
    obtain ⟨r0, r1, r2, r3⟩ := V4.out.cells
    go_wp2_with fail
    refine (sel1_call V4.out.rows HK.out HSEL.out).mono ?_; rintro e w5 ⟨rfl, hb⟩
    have F5 := Lib.hid (F4.out.trans (hb.mono F4.out.size))
    have V5 := Lib.hid (V4.out.step hb)
    clear hb r0 r1 r2 r3
    obtain ⟨r0, r1, r2, r3⟩ := V5.out.cells
    rcases last_or (wdR X) i with ⟨q, hl⟩ | hl
    · have hv1 := (last_sel (z := z) hiz hl).1
      have HS := Lib.hid (last_sel (z := z) hiz hl).2
      have HL := Lib.hid hl
      clear hl
      rw [HV.out] at hv1
      have dv : ((V : Int) == 0) = false := by simp; omega
      have ev : (V : Int) - 1 = ((V - 1 : Nat) : Int) := by omega
      have hvb : (V : Int) ≤ 4096 := by omega
      go_wp2_with fail
      refine (last_call V5.out.rows HK.out hiz HL.out).mono ?_; rintro e w6 ⟨rfl, hb⟩
      have F6 := Lib.hid (F5.out.trans (hb.mono F5.out.size))
      have V6 := Lib.hid (V5.out.step hb)
      clear hb r0 r1 r2 r3
      obtain ⟨r0, r1, r2, r3⟩ := V6.out.cells
      go_wp2_with fail
      have hsc := sel1_call (c1 := d1) (c2 := d2) (c3 := d3) (k := V - 1) (i := q) V6.out.rows HK.out (by have := HS.out; rwa [HV.out] at this)
      have HC := Lib.hid hsc
      clear hsc
      refine HC.out.mono ?_; rintro e w7 ⟨rfl, hb⟩
      have F7 := Lib.hid (F6.out.trans (hb.mono F6.out.size))
      have V7 := Lib.hid (V6.out.step hb)
      clear hb r0 r1 r2 r3
      obtain ⟨r0, r1, r2, r3⟩ := V7.out.cells
      go_wp2_with fail
      go_ret
      exact ⟨by simp, F7.out⟩
    · have hv0 : V = 0 := by rw [← HV.out]; exact last_none hl
      have HL := Lib.hid hl
      clear hl
      subst hv0
      go_wp2_with fail
      refine (last_call0 V5.out.rows HK.out hiz HL.out).mono ?_; rintro e w6 ⟨rfl, hb⟩
      have F6 := Lib.hid (F5.out.trans (hb.mono F5.out.size))
      have V6 := Lib.hid (V5.out.step hb)
      clear hb r0 r1 r2 r3
      obtain ⟨r0, r1, r2, r3⟩ := V6.out.cells
      go_wp2_with fail
      go_ret
      exact ⟨by simp, F6.out⟩
  · have HF := Lib.hid hf
    have HN := Lib.hid (next_none hiz hf)
    generalize hV : cntB (wdR X) true i = V at *
    have HV := Lib.hid hV
    have hVi : V ≤ i := by rw [← hV]; exact cntB_le _
    clear hf hV
    go_wp2_with fail
    refine (next_call0 V1.out.rows HK.out hiz HF.out).mono ?_; rintro e w2 ⟨rfl, hb⟩
    have F2 := Lib.hid (F1.out.trans (hb.mono F1.out.size))
    have V2 := Lib.hid (V1.out.step hb)
    clear hb r0 r1 r2 r3
    obtain ⟨r0, r1, r2, r3⟩ := V2.out.cells
    go_wp2_with fail
    refine (spec_NextOne_none A1 m1 d1 X A2 s d2 Y A3 p d3 Z _ z i V2.out.rows HK.out hiz HF.out).mono ?_; rintro e w3 ⟨rfl, hb⟩
    have F3 := Lib.hid (F2.out.trans (hb.mono F2.out.size))
    have V3 := Lib.hid (V2.out.step hb)
    clear hb r0 r1 r2 r3
    obtain ⟨r0, r1, r2, r3⟩ := V3.out.cells
    go_wp2_with fail
    refine (rank1_call V3.out.rows HK.out hiz).mono ?_; rintro e w4 ⟨rfl, hb⟩
    rw [HV.out]
    have F4 := Lib.hid (F3.out.trans (hb.mono F3.out.size))
    have V4 := Lib.hid (V3.out.step hb)
    clear hb r0 r1 r2 r3
    obtain ⟨r0, r1, r2, r3⟩ := V4.out.cells
    go_wp2_with fail
    refine (sel1_none (k := V) V4.out.rows HK.out (by rw [HN.out]; omega)).mono ?_; rintro e w5 ⟨rfl, hb⟩
    have F5 := Lib.hid (F4.out.trans (hb.mono F4.out.size))
    have V5 := Lib.hid (V4.out.step hb)
    clear hb r0 r1 r2 r3
    obtain ⟨r0, r1, r2, r3⟩ := V5.out.cells
    rcases last_or (wdR X) i with ⟨q, hl⟩ | hl
    · have hv1 := (last_sel (z := z) hiz hl).1
      have HS := Lib.hid (last_sel (z := z) hiz hl).2
      have HL := Lib.hid hl
      clear hl
      rw [HV.out] at hv1
      have dv : ((V : Int) == 0) = false := by simp; omega
      have ev : (V : Int) - 1 = ((V - 1 : Nat) : Int) := by omega
      have hvb : (V : Int) ≤ 4096 := by omega
      go_wp2_with fail
      refine (last_call V5.out.rows HK.out hiz HL.out).mono ?_; rintro e w6 ⟨rfl, hb⟩
      have F6 := Lib.hid (F5.out.trans (hb.mono F5.out.size))
      have V6 := Lib.hid (V5.out.step hb)
      clear hb r0 r1 r2 r3
      obtain ⟨r0, r1, r2, r3⟩ := V6.out.cells
      go_wp2_with fail
      have hsc := sel1_call (c1 := d1) (c2 := d2) (c3 := d3) (k := V - 1) (i := q) V6.out.rows HK.out (by have := HS.out; rwa [HV.out] at this)
      have HC := Lib.hid hsc
      clear hsc
      refine HC.out.mono ?_; rintro e w7 ⟨rfl, hb⟩
      have F7 := Lib.hid (F6.out.trans (hb.mono F6.out.size))
      have V7 := Lib.hid (V6.out.step hb)
      clear hb r0 r1 r2 r3
      obtain ⟨r0, r1, r2, r3⟩ := V7.out.cells
      go_wp2_with fail
      go_ret
      exact ⟨by simp, F7.out⟩
    · have hv0 : V = 0 := by rw [← HV.out]; exact last_none hl
      have HL := Lib.hid hl
      clear hl
      subst hv0
      go_wp2_with fail
      refine (last_call0 V5.out.rows HK.out hiz HL.out).mono ?_; rintro e w6 ⟨rfl, hb⟩
      have F6 := Lib.hid (F5.out.trans (hb.mono F5.out.size))
      have V6 := Lib.hid (V5.out.step hb)
      clear hb r0 r1 r2 r3
      obtain ⟨r0, r1, r2, r3⟩ := V6.out.cells
      go_wp2_with fail
      go_ret
      exact ⟨by simp, F6.out⟩
end Go.Proofs.Ytbflgbmobbbebaa
