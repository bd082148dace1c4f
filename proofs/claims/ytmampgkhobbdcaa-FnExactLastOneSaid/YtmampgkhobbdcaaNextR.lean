/- The next and the last bit that is on: the code's way; what they are. -/
import Derived.Test.YtmampgkhobbdcaaSelC
import Derived.Test.YtmampgkhobbdcaaNext
namespace Go.Proofs.Ytmampgkhobbdcaa
open Go.RowKit

theorem next_sel {W : Nat → Nat} {z i k : Nat} (h : Found W true z i k) : SelAt W true z (cntB W true i) k := by
  obtain ⟨h1, h2, h3, h4⟩ := h
  refine ⟨by omega, h3, ?_⟩
  have key : ∀ d, i + d ≤ k → cntB W true (i + d) = cntB W true i := by
    intro d
    induction d with
    | zero => intro _; rfl
    | succ d ih =>
      intro hd
      rw [← Nat.add_assoc, cntB_succ, ih (by omega), if_neg]
      · rfl
      · rw [h4 (i + d) (by omega) (by omega)]; simp
  have := key (k - i) (by omega)
  rwa [show i + (k - i) = k by omega] at this
theorem next_none {W : Nat → Nat} {z i : Nat} (hi : i ≤ z) (h : NoneFrom W true z i) : cntB W true z = cntB W true i := by
  have key : ∀ d, i + d ≤ z → cntB W true (i + d) = cntB W true i := by
    intro d
    induction d with
    | zero => intro _; rfl
    | succ d ih =>
      intro hd
      rw [← Nat.add_assoc, cntB_succ, ih (by omega), if_neg]
      · rfl
      · rw [h (i + d) (by omega) (by omega)]; simp
  have := key (z - i) (by omega)
  rwa [show i + (z - i) = z by omega] at this
/-- k is the last bit before i that is on. -/
def LastAt (W : Nat → Nat) (i k : Nat) : Prop := k < i ∧ bitN W k = true ∧ ∀ j, k < j → j < i → bitN W j = false
def NoneTo (W : Nat → Nat) (i : Nat) : Prop := ∀ j, j < i → bitN W j = false
theorem last_or (W : Nat → Nat) : ∀ i, (∃ k, LastAt W i k) ∨ NoneTo W i
  | 0 => .inr fun j hj => by omega
  | i + 1 => by
    cases hb : bitN W i
    · rcases last_or W i with ⟨k, h1, h2, h3⟩ | h
      · refine .inl ⟨k, by omega, h2, fun j hj hk => ?_⟩
        by_cases e : j = i
        · rw [e]; exact hb
        · exact h3 j hj (by omega)
      · refine .inr fun j hj => ?_
        by_cases e : j = i
        · rw [e]; exact hb
        · exact h j (by omega)
    · exact .inl ⟨i, by omega, hb, fun j hj hk => by omega⟩
theorem last_sel {W : Nat → Nat} {z i k : Nat} (hi : i ≤ z) (h : LastAt W i k) : 1 ≤ cntB W true i ∧ SelAt W true z (cntB W true i - 1) k := by
  obtain ⟨h1, h2, h3⟩ := h
  have key : ∀ d, k + 1 + d ≤ i → cntB W true (k + 1 + d) = cntB W true k + 1 := by
    intro d
    induction d with
    | zero => intro _; rw [Nat.add_zero, cntB_succ, if_pos h2]
    | succ d ih =>
      intro hd
      rw [← Nat.add_assoc, cntB_succ, ih (by omega), if_neg]
      rw [h3 (k + 1 + d) (by omega) (by omega)]; simp
  have := key (i - (k + 1)) (by omega)
  rw [show k + 1 + (i - (k + 1)) = i by omega] at this
  exact ⟨by omega, by omega, h2, by omega⟩
theorem last_none {W : Nat → Nat} {i : Nat} (h : NoneTo W i) : cntB W true i = 0 := by
  induction i with
  | zero => exact cntB_zero
  | succ i ih =>
    rw [cntB_succ, ih (fun j hj => h j (by omega)), if_neg]
    rw [h i (by omega)]; simp

section
variable (z : Nat) (A1 : Option Addr) (n c1 : Nat) (X : Nat → Int) (A2 : Option Addr) (s c2 : Nat) (Y : Nat → Int) (A3 : Option Addr) (m c3 : Nat) (Z : Nat → Int) (w : World)

set_option maxRecDepth 100000 in
set_option maxHeartbeats 1000000 in
theorem impl_nextOf_yes (i : Nat) (v : Int) (b : Bool) (h : RkR A1 n X A2 s Y A3 m Z w) (hk : RankOk z n X s Y m Z) (hi : i ≤ z)
    (hq : ∀ w1, RkR A1 n X A2 s Y A3 m Z w1 → Calls Try.prog 69 #[.agg #[.int .i64 z, .slice A1 n c1, .slice A2 s c2, .slice A3 m c3], .int .i64 1, .int .i64 (cntB (wdR X) true i : Nat)] w1 (AnsI v b w1)) :
    Calls Try.prog 71 #[.agg #[.int .i64 z, .slice A1 n c1, .slice A2 s c2, .slice A3 m c3], .int .i64 1, .int .i64 i] w (AnsI v b w) := by
  have L0 := Lib.hid (RL.start (z := z) (c1 := c1) (c2 := c2) (c3 := c3) h)
  have HR := Lib.hid (fun w1 hr => impl_rankOf_yes z A1 n c1 X A2 s c2 Y A3 m c3 Z w1 true i hr hk hi)
  have HK := Lib.hid hk
  have HQ := Lib.hid hq
  clear h hk hq
  obtain ⟨hs0, b0, b1, b2, b3⟩ := L0.out.cells
  generalize cntB (wdR X) true i = V at *
  go_enter Try.func71, Try.ntmps71
  go_wp2_with fail
  refine (HR.out _ L0.out.rows).mono ?_; rintro e w1 ⟨rfl, hb⟩
  have L1 := Lib.hid (L0.out.step hb)
  clear hb b0 b1 b2 b3
  obtain ⟨hs1, b0, b1, b2, b3⟩ := L1.out.cells
  go_wp2_with fail
  refine (HQ.out _ L1.out.rows).mono ?_; rintro e w2 ⟨rfl, hb⟩
  have L2 := Lib.hid (L1.out.step hb)
  clear hb
  go_wp2_with fail
  go_ret2
  exact ⟨rfl, L2.out.below⟩

set_option maxRecDepth 100000 in
set_option maxHeartbeats 1000000 in
theorem impl_nextOf_no (kind i : Int) (h : RkR A1 n X A2 s Y A3 m Z w) (hi : ¬ (0 ≤ i ∧ i ≤ z)) :
    Calls Try.prog 71 #[.agg #[.int .i64 z, .slice A1 n c1, .slice A2 s c2, .slice A3 m c3], .int .i64 kind, .int .i64 i] w (AnsI 0 false w) := by
  have L0 := Lib.hid (RL.start (z := z) (c1 := c1) (c2 := c2) (c3 := c3) h)
  clear h
  obtain ⟨hs0, b0, b1, b2, b3⟩ := L0.out.cells
  go_enter Try.func71, Try.ntmps71
  go_wp2_with fail
  refine (impl_rankOf_no z A1 n c1 X A2 s c2 Y A3 m c3 Z _ kind i L0.out.rows hi).mono ?_; rintro e w1 ⟨rfl, hb⟩
  have L1 := Lib.hid (L0.out.step hb)
  clear hb
  go_wp2_with fail
  go_ret2
  exact ⟨rfl, L1.out.below⟩

set_option maxRecDepth 100000 in
set_option maxHeartbeats 1000000 in
theorem impl_lastOf_yes (i : Nat) (v : Int) (b : Bool) (h : RkR A1 n X A2 s Y A3 m Z w) (hk : RankOk z n X s Y m Z) (hi : i ≤ z)
    (hq : ∀ w1, RkR A1 n X A2 s Y A3 m Z w1 → Calls Try.prog 69 #[.agg #[.int .i64 z, .slice A1 n c1, .slice A2 s c2, .slice A3 m c3], .int .i64 1, .int .i64 ((cntB (wdR X) true i : Nat) - 1)] w1 (AnsI v b w1)) :
    Calls Try.prog 73 #[.agg #[.int .i64 z, .slice A1 n c1, .slice A2 s c2, .slice A3 m c3], .int .i64 1, .int .i64 i] w (AnsI v b w) := by
  have L0 := Lib.hid (RL.start (z := z) (c1 := c1) (c2 := c2) (c3 := c3) h)
  have HR := Lib.hid (fun w1 hr => impl_rankOf_yes z A1 n c1 X A2 s c2 Y A3 m c3 Z w1 true i hr hk hi)
  have HK := Lib.hid hk
  have HQ := Lib.hid hq
  have hb0 : ((cntB (wdR X) true i : Nat) : Int) ≤ 4096 := by have := cntB_le (W := wdR X) (on := true) i; obtain ⟨z', e1, e2, _⟩ := HK.out.size; omega
  clear h hk hq
  obtain ⟨hs0, b0, b1, b2, b3⟩ := L0.out.cells
  generalize cntB (wdR X) true i = V at *
  go_enter Try.func73, Try.ntmps73
  go_wp2_with fail
  refine (HR.out _ L0.out.rows).mono ?_; rintro e w1 ⟨rfl, hb⟩
  have L1 := Lib.hid (L0.out.step hb)
  clear hb b0 b1 b2 b3
  obtain ⟨hs1, b0, b1, b2, b3⟩ := L1.out.cells
  go_wp2_with fail
  refine (HQ.out _ L1.out.rows).mono ?_; rintro e w2 ⟨rfl, hb⟩
  have L2 := Lib.hid (L1.out.step hb)
  clear hb
  go_wp2_with fail
  go_ret2
  exact ⟨rfl, L2.out.below⟩

set_option maxRecDepth 100000 in
set_option maxHeartbeats 1000000 in
theorem impl_lastOf_no (kind i : Int) (h : RkR A1 n X A2 s Y A3 m Z w) (hi : ¬ (0 ≤ i ∧ i ≤ z)) :
    Calls Try.prog 73 #[.agg #[.int .i64 z, .slice A1 n c1, .slice A2 s c2, .slice A3 m c3], .int .i64 kind, .int .i64 i] w (AnsI 0 false w) := by
  have L0 := Lib.hid (RL.start (z := z) (c1 := c1) (c2 := c2) (c3 := c3) h)
  clear h
  obtain ⟨hs0, b0, b1, b2, b3⟩ := L0.out.cells
  go_enter Try.func73, Try.ntmps73
  go_wp2_with fail
  refine (impl_rankOf_no z A1 n c1 X A2 s c2 Y A3 m c3 Z _ kind i L0.out.rows hi).mono ?_; rintro e w1 ⟨rfl, hb⟩
  have L1 := Lib.hid (L0.out.step hb)
  clear hb
  go_wp2_with fail
  go_ret2
  exact ⟨rfl, L1.out.below⟩
end

set_option maxRecDepth 100000 in
set_option maxHeartbeats 1000000 in
theorem raLast_yes (z : Int) (A : Option Addr) (n c : Nat) (W : Nat → Nat) (i k : Nat) (w : World) (hn : n ≤ 1048576) (hr : WRow w A n W) (hz : i ≤ 16 * n) (hi : i ≤ 4096) (hf : LastAt W i k) :
    Calls Try.prog 72 #[.agg #[.int .i64 z, .slice A n c], .int .i64 i] w fun e w' => e = .returned (.int .i64 k) ∧ Below w.heap.size w w' := by
  have L0 := Lib.hid (LS.start (z := z) (c := c) hr.1 26)
  have hW := Lib.hid hr.2
  obtain ⟨hf1, hf2, hf3⟩ := hf
  have HF2 := Lib.hid hf2
  have HF3 := Lib.hid hf3
  clear hr hf2 hf3
  go_enter Try.func72, Try.ntmps72
  go_wp2_with fail
  go_loopw [5] (fun q wr => ∃ j : Nat, k ≤ j ∧ j < i ∧ q = .int .i64 j ∧ LS w w.heap.size z A n c (fun i => (W i : Int)) wr) (fun q _ => (intOf q).toNat)
  case atStart => exact ⟨i - 1, by omega, by omega, by go_num, L0.out⟩
  case round =>
    obtain ⟨j, hj1, hj2, rfl, hl⟩ := hrel
    have L1 := Lib.hid hl
    obtain ⟨hs1, c0, c1⟩ := hl.box
    clear hl L0
    by_cases hlt : k < j
    · have hv := HF3.out j hlt hj2
      go_wp2_with fail
      refine (spec_biAt z A n c W j _ hn ⟨L1.out.row, hW.out⟩ (by omega)).mono ?_; rintro e w2 ⟨rfl, hb⟩
      have L2 := Lib.hid (L1.out.step hb)
      clear hb L1
      go_wp2_with fail
      go_roundw
      case rel => exact ⟨j - 1, by omega, by omega, by go_num, L2.out⟩
      case measure => simp [intOf]; omega
    · obtain rfl : k = j := by omega
      have hv := HF2.out
      go_wp2_with fail
      refine (spec_biAt z A n c W k _ hn ⟨L1.out.row, hW.out⟩ (by omega)).mono ?_; rintro e w2 ⟨rfl, hb⟩
      have L2 := Lib.hid (L1.out.step hb)
      clear hb L1
      go_wp2_with fail
      go_ret
      exact ⟨rfl, L2.out.below⟩

set_option maxRecDepth 100000 in
set_option maxHeartbeats 1000000 in
theorem raLast_no (z : Int) (A : Option Addr) (n c : Nat) (W : Nat → Nat) (i : Nat) (w : World) (hn : n ≤ 1048576) (hr : WRow w A n W) (hz : i ≤ 16 * n) (hi : i ≤ 4096) (hf : NoneTo W i) :
    Calls Try.prog 72 #[.agg #[.int .i64 z, .slice A n c], .int .i64 i] w fun e w' => e = .returned (.int .i64 (-1)) ∧ Below w.heap.size w w' := by
  have L0 := Lib.hid (LS.start (z := z) (c := c) hr.1 26)
  have hW := Lib.hid hr.2
  have HF3 := Lib.hid hf
  clear hr hf
  go_enter Try.func72, Try.ntmps72
  go_wp2_with fail
  go_loopw [5] (fun q wr => ∃ j : Nat, j ≤ i ∧ q = .int .i64 ((j : Int) - 1) ∧ LS w w.heap.size z A n c (fun i => (W i : Int)) wr) (fun q _ => (intOf q + 1).toNat)
  case atStart => exact ⟨i, Nat.le_refl _, rfl, L0.out⟩
  case round =>
    obtain ⟨j, hj2, rfl, hl⟩ := hrel
    have L1 := Lib.hid hl
    obtain ⟨hs1, c0, c1⟩ := hl.box
    clear hl L0
    by_cases hlt : 0 < j
    · obtain ⟨q, rfl⟩ : ∃ q : Nat, j = q + 1 := ⟨j - 1, by omega⟩
      rw [show ((q + 1 : Nat) : Int) - 1 = (q : Int) by omega]
      have hv := HF3.out q (by omega)
      go_wp2_with fail
      refine (spec_biAt z A n c W q _ hn ⟨L1.out.row, hW.out⟩ (by omega)).mono ?_; rintro e w2 ⟨rfl, hb⟩
      have L2 := Lib.hid (L1.out.step hb)
      clear hb L1
      go_wp2_with fail
      go_roundw
      case rel => exact ⟨q, by omega, by go_num, L2.out⟩
      case measure => simp [intOf]
    · obtain rfl : j = 0 := by omega
      go_wp2_with fail
      go_ret
      exact ⟨rfl, L1.out.below⟩

section
variable (z : Int) (A1 : Option Addr) (n c1 : Nat) (X : Nat → Int) (A2 : Option Addr) (s c2 : Nat) (Y : Nat → Int) (A3 : Option Addr) (m c3 : Nat) (Z : Nat → Int) (w : World)

set_option maxRecDepth 100000 in
set_option maxHeartbeats 1000000 in
theorem spec_NextOne_yes (z' i k : Nat) (h : RkR A1 n X A2 s Y A3 m Z w) (hk : RankOk z' n X s Y m Z) (hi : i ≤ z') (hf : Found (wdR X) true z' i k) :
    Calls Try.prog 39 #[.agg #[.int .i64 z', .slice A1 n c1, .slice A2 s c2, .slice A3 m c3], .int .i64 i] w (AnsI k true w) := by
  have d1 : decide ((k : Int) < 0) = false := by simp
  have L0 := Lib.hid (RL.start (z := z') (c1 := c1) (c2 := c2) (c3 := c3) h)
  have HK := Lib.hid hk
  have HI := Lib.hid hf
  have hk1 := h.n1
  obtain ⟨z2, hz2, hz1, hnz, hrs⟩ := hk.size
  have q1 : z' ≤ 16 * n := by omega
  have q2 : z' ≤ 4096 := by omega
  have q3 : i ≤ 16 * n := by omega
  have q4 : i ≤ 4096 := by omega
  clear h hk hnz hz2 hz1 hrs hf
  obtain ⟨hs0, b0, b1, b2, b3⟩ := L0.out.cells
  go_enter Try.func39, Try.ntmps39
  go_wp2_with fail
  refine ((BoolIs.two (spec_raEnd (z' : Int) A1 n c1 X A2 s c2 Y A3 m c3 Z _ i L0.out.rows)).1 ⟨HK.out, by omega, by omega⟩).mono ?_; rintro e w1 ⟨rfl, hb⟩
  have L1 := Lib.hid (L0.out.step hb)
  clear hb b0 b1 b2 b3
  obtain ⟨hs1, b0, b1, b2, b3⟩ := L1.out.cells
  go_wp2_with fail
  refine (spec_biNext_yes (z' : Int) A1 n c1 (wdR X) i k true _ hk1 (good_row HK.out.1 L1.out.rows.r1) (by omega) HI.out).mono ?_; rintro e w2 ⟨rfl, hb⟩
  have L2 := Lib.hid (L1.out.step hb)
  clear hb b0 b1 b2 b3
  obtain ⟨hs2, b0, b1, b2, b3⟩ := L2.out.cells
  go_wp2_with fail
  refine (spec_biNext_yes (z' : Int) A1 n c1 (wdR X) i k true _ hk1 (good_row HK.out.1 L2.out.rows.r1) (by omega) HI.out).mono ?_; rintro e w3 ⟨rfl, hb⟩
  have L3 := Lib.hid (L2.out.step hb)
  clear hb
  go_wp2_with fail
  go_ret2
  exact ⟨rfl, L3.out.below⟩

set_option maxRecDepth 100000 in
set_option maxHeartbeats 1000000 in
theorem spec_NextOne_none (z' i : Nat) (h : RkR A1 n X A2 s Y A3 m Z w) (hk : RankOk z' n X s Y m Z) (hi : i ≤ z') (hf : NoneFrom (wdR X) true z' i) :
    Calls Try.prog 39 #[.agg #[.int .i64 z', .slice A1 n c1, .slice A2 s c2, .slice A3 m c3], .int .i64 i] w (AnsI 0 false w) := by
  have L0 := Lib.hid (RL.start (z := z') (c1 := c1) (c2 := c2) (c3 := c3) h)
  have HK := Lib.hid hk
  have HI := Lib.hid hf
  have hk1 := h.n1
  obtain ⟨z2, hz2, hz1, hnz, hrs⟩ := hk.size
  have q1 : z' ≤ 16 * n := by omega
  have q2 : z' ≤ 4096 := by omega
  have q3 : i ≤ 16 * n := by omega
  have q4 : i ≤ 4096 := by omega
  clear h hk hnz hz2 hz1 hrs hf
  obtain ⟨hs0, b0, b1, b2, b3⟩ := L0.out.cells
  go_enter Try.func39, Try.ntmps39
  go_wp2_with fail
  refine ((BoolIs.two (spec_raEnd (z' : Int) A1 n c1 X A2 s c2 Y A3 m c3 Z _ i L0.out.rows)).1 ⟨HK.out, by omega, by omega⟩).mono ?_; rintro e w1 ⟨rfl, hb⟩
  have L1 := Lib.hid (L0.out.step hb)
  clear hb b0 b1 b2 b3
  obtain ⟨hs1, b0, b1, b2, b3⟩ := L1.out.cells
  go_wp2_with fail
  refine (spec_biNext_no (z' : Int) A1 n c1 (wdR X) i true _ hk1 (good_row HK.out.1 L1.out.rows.r1) (by omega) (by omega) (by omega) HI.out).mono ?_; rintro e w2 ⟨rfl, hb⟩
  have L2 := Lib.hid (L1.out.step hb)
  clear hb
  go_wp2_with fail
  go_ret2
  exact ⟨rfl, L2.out.below⟩

set_option maxRecDepth 100000 in
set_option maxHeartbeats 1000000 in
theorem spec_NextOne_no (i : Int) (h : RkR A1 n X A2 s Y A3 m Z w) (hk : ¬ (RankOk z n X s Y m Z ∧ 0 ≤ i ∧ i ≤ z)) :
    Calls Try.prog 39 #[.agg #[.int .i64 z, .slice A1 n c1, .slice A2 s c2, .slice A3 m c3], .int .i64 i] w (AnsI 0 false w) := by
  have L0 := Lib.hid (RL.start (z := z) (c1 := c1) (c2 := c2) (c3 := c3) h)
  have HK := Lib.hid hk
  clear h hk
  obtain ⟨hs0, b0, b1, b2, b3⟩ := L0.out.cells
  go_enter Try.func39, Try.ntmps39
  go_wp2_with fail
  refine ((BoolIs.two (spec_raEnd z A1 n c1 X A2 s c2 Y A3 m c3 Z _ i L0.out.rows)).2 HK.out).mono ?_; rintro e w1 ⟨rfl, hb⟩
  have L1 := Lib.hid (L0.out.step hb)
  clear hb
  go_wp2_with fail
  go_ret2
  exact ⟨rfl, L1.out.below⟩

set_option maxRecDepth 100000 in
set_option maxHeartbeats 1000000 in
theorem spec_LastOne_yes (z' i k : Nat) (h : RkR A1 n X A2 s Y A3 m Z w) (hk : RankOk z' n X s Y m Z) (hi : i ≤ z') (hf : LastAt (wdR X) i k) :
    Calls Try.prog 41 #[.agg #[.int .i64 z', .slice A1 n c1, .slice A2 s c2, .slice A3 m c3], .int .i64 i] w (AnsI k true w) := by
  have d1 : decide ((k : Int) < 0) = false := by simp
  have L0 := Lib.hid (RL.start (z := z') (c1 := c1) (c2 := c2) (c3 := c3) h)
  have HK := Lib.hid hk
  have HI := Lib.hid hf
  have hk1 := h.n1
  obtain ⟨z2, hz2, hz1, hnz, hrs⟩ := hk.size
  have q1 : z' ≤ 16 * n := by omega
  have q2 : z' ≤ 4096 := by omega
  have q3 : i ≤ 16 * n := by omega
  have q4 : i ≤ 4096 := by omega
  clear h hk hnz hz2 hz1 hrs hf
  obtain ⟨hs0, b0, b1, b2, b3⟩ := L0.out.cells
  go_enter Try.func41, Try.ntmps41
  go_wp2_with fail
  refine ((BoolIs.two (spec_raEnd (z' : Int) A1 n c1 X A2 s c2 Y A3 m c3 Z _ i L0.out.rows)).1 ⟨HK.out, by omega, by omega⟩).mono ?_; rintro e w1 ⟨rfl, hb⟩
  have L1 := Lib.hid (L0.out.step hb)
  clear hb b0 b1 b2 b3
  obtain ⟨hs1, b0, b1, b2, b3⟩ := L1.out.cells
  go_wp2_with fail
  refine (raLast_yes (z' : Int) A1 n c1 (wdR X) i k _ hk1 (good_row HK.out.1 L1.out.rows.r1) q3 q4 HI.out).mono ?_; rintro e w2 ⟨rfl, hb⟩
  have L2 := Lib.hid (L1.out.step hb)
  clear hb b0 b1 b2 b3
  obtain ⟨hs2, b0, b1, b2, b3⟩ := L2.out.cells
  go_wp2_with fail
  refine (raLast_yes (z' : Int) A1 n c1 (wdR X) i k _ hk1 (good_row HK.out.1 L2.out.rows.r1) q3 q4 HI.out).mono ?_; rintro e w3 ⟨rfl, hb⟩
  have L3 := Lib.hid (L2.out.step hb)
  clear hb
  go_wp2_with fail
  go_ret2
  exact ⟨rfl, L3.out.below⟩

set_option maxRecDepth 100000 in
set_option maxHeartbeats 1000000 in
theorem spec_LastOne_none (z' i : Nat) (h : RkR A1 n X A2 s Y A3 m Z w) (hk : RankOk z' n X s Y m Z) (hi : i ≤ z') (hf : NoneTo (wdR X) i) :
    Calls Try.prog 41 #[.agg #[.int .i64 z', .slice A1 n c1, .slice A2 s c2, .slice A3 m c3], .int .i64 i] w (AnsI 0 false w) := by
  have L0 := Lib.hid (RL.start (z := z') (c1 := c1) (c2 := c2) (c3 := c3) h)
  have HK := Lib.hid hk
  have HI := Lib.hid hf
  have hk1 := h.n1
  obtain ⟨z2, hz2, hz1, hnz, hrs⟩ := hk.size
  have q1 : z' ≤ 16 * n := by omega
  have q2 : z' ≤ 4096 := by omega
  have q3 : i ≤ 16 * n := by omega
  have q4 : i ≤ 4096 := by omega
  clear h hk hnz hz2 hz1 hrs hf
  obtain ⟨hs0, b0, b1, b2, b3⟩ := L0.out.cells
  go_enter Try.func41, Try.ntmps41
  go_wp2_with fail
  refine ((BoolIs.two (spec_raEnd (z' : Int) A1 n c1 X A2 s c2 Y A3 m c3 Z _ i L0.out.rows)).1 ⟨HK.out, by omega, by omega⟩).mono ?_; rintro e w1 ⟨rfl, hb⟩
  have L1 := Lib.hid (L0.out.step hb)
  clear hb b0 b1 b2 b3
  obtain ⟨hs1, b0, b1, b2, b3⟩ := L1.out.cells
  go_wp2_with fail
  refine (raLast_no (z' : Int) A1 n c1 (wdR X) i _ hk1 (good_row HK.out.1 L1.out.rows.r1) q3 q4 HI.out).mono ?_; rintro e w2 ⟨rfl, hb⟩
  have L2 := Lib.hid (L1.out.step hb)
  clear hb
  go_wp2_with fail
  go_ret2
  exact ⟨rfl, L2.out.below⟩

set_option maxRecDepth 100000 in
set_option maxHeartbeats 1000000 in
theorem spec_LastOne_no (i : Int) (h : RkR A1 n X A2 s Y A3 m Z w) (hk : ¬ (RankOk z n X s Y m Z ∧ 0 ≤ i ∧ i ≤ z)) :
    Calls Try.prog 41 #[.agg #[.int .i64 z, .slice A1 n c1, .slice A2 s c2, .slice A3 m c3], .int .i64 i] w (AnsI 0 false w) := by
  have L0 := Lib.hid (RL.start (z := z) (c1 := c1) (c2 := c2) (c3 := c3) h)
  have HK := Lib.hid hk
  clear h hk
  obtain ⟨hs0, b0, b1, b2, b3⟩ := L0.out.cells
  go_enter Try.func41, Try.ntmps41
  go_wp2_with fail
  refine ((BoolIs.two (spec_raEnd z A1 n c1 X A2 s c2 Y A3 m c3 Z _ i L0.out.rows)).2 HK.out).mono ?_; rintro e w1 ⟨rfl, hb⟩
  have L1 := Lib.hid (L0.out.step hb)
  clear hb
  go_wp2_with fail
  go_ret2
  exact ⟨rfl, L1.out.below⟩
end
end Go.Proofs.Ytmampgkhobbdcaa
