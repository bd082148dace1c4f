/- NextBit: the program's and the model's. -/
import Derived.Test.YtffdkfhnlgfigaaRead
namespace Go.Proofs.Ytffdkfhnlgfigaa
open Go.RowKit

/-- k is the first bit from a on, below z, that is on or off as told. -/
def Found (W : Nat → Nat) (on : Bool) (z : Int) (a k : Nat) : Prop := a ≤ k ∧ (k : Int) < z ∧ bitN W k = on ∧ ∀ j, a ≤ j → j < k → bitN W j = !on
def NoneFrom (W : Nat → Nat) (on : Bool) (z : Int) (a : Nat) : Prop := ∀ j, a ≤ j → (j : Int) < z → bitN W j = !on
theorem found_or (W : Nat → Nat) (on : Bool) (z : Int) : ∀ (d a : Nat), z ≤ a + d → (∃ k, Found W on z a k) ∨ NoneFrom W on z a
  | 0, a, h => .inr fun j hj hz => by omega
  | d + 1, a, h => by
    by_cases hz : (a : Int) < z
    · by_cases hb : bitN W a = on
      · exact .inl ⟨a, Nat.le_refl _, hz, hb, fun j h1 h2 => by omega⟩
      · rcases found_or W on z d (a + 1) (by omega) with ⟨k, h1, h2, h3, h4⟩ | hn
        · refine .inl ⟨k, by omega, h2, h3, fun j hj hk => ?_⟩
          by_cases e : j = a
          · subst e; revert hb; cases bitN W j <;> cases on <;> simp
          · exact h4 j (by omega) hk
        · refine .inr fun j hj hk => ?_
          by_cases e : j = a
          · subst e; revert hb; cases bitN W j <;> cases on <;> simp
          · exact hn j (by omega) hk
    · exact .inr fun j hj hk => by omega
theorem beq_yes {a b : Bool} (h : a = b) : (a == b) = true := by simp [h]
theorem beq_no {a b : Bool} (h : a = !b) : (a == b) = false := by subst h; cases b <;> rfl

set_option maxHeartbeats 400000 in
theorem spec_biNext_yes (z : Int) (A : Option Addr) (n c : Nat) (W : Nat → Nat) (a k : Nat) (on : Bool) (w : World) (hn : n ≤ 1048576) (hr : WRow w A n W) (hz : z ≤ 16 * n) (hf : Found W on z a k) :
    Calls Try.prog 98 #[.agg #[.int .i64 z, .slice A n c], .int .i64 a, .bool on] w fun e w' => e = .returned (.int .i64 k) ∧ Below w.heap.size w w' := by
  have L0 := Lib.hid (LS.start (z := z) (c := c) hr.1 30)
  have hW := Lib.hid hr.2
  clear hr
  obtain ⟨hf1, hf2, hf3, hf4⟩ := hf
  have HF3 := Lib.hid hf3
  have HF4 := Lib.hid hf4
  clear hf3 hf4
  go_enter Try.func98, Try.ntmps98
  go_wp2_with fail
  go_loopw [7] (fun i wr => ∃ j : Nat, a ≤ j ∧ j ≤ k ∧ i = .int .i64 j ∧ LS w w.heap.size z A n c (fun i => (W i : Int)) wr) (fun i _ => (k + 1) - (intOf i).toNat)
  case atStart => exact ⟨a, Nat.le_refl _, hf1, rfl, L0.out⟩
  case round =>
    obtain ⟨j, hj1, hj2, rfl, hl⟩ := hrel
    have L1 := Lib.hid hl
    obtain ⟨hs1, c0, c1⟩ := hl.box
    clear hl L0
    by_cases hlt : j < k
    · have hv := beq_no (HF4.out j hj1 hlt)
      go_wp2_with fail
      refine (spec_biAt z A n c W j _ hn ⟨L1.out.row, hW.out⟩ (by omega)).mono ?_; rintro e w2 ⟨rfl, hb⟩
      have L2 := Lib.hid (L1.out.step hb)
      clear hb L1
      go_wp2_with fail
      go_roundw
      case rel => exact ⟨j + 1, by omega, by omega, by go_num, L2.out⟩
      case measure => simp [intOf]; omega
    · obtain rfl : j = k := by omega
      have hv := beq_yes HF3.out
      go_wp2_with fail
      refine (spec_biAt z A n c W j _ hn ⟨L1.out.row, hW.out⟩ (by omega)).mono ?_; rintro e w2 ⟨rfl, hb⟩
      have L2 := Lib.hid (L1.out.step hb)
      clear hb L1
      go_wp2_with fail
      go_ret
      exact ⟨rfl, L2.out.below⟩

set_option maxHeartbeats 400000 in
theorem spec_biNext_no (z : Int) (A : Option Addr) (n c : Nat) (W : Nat → Nat) (a : Nat) (on : Bool) (w : World) (hn : n ≤ 1048576) (hr : WRow w A n W) (hz : z ≤ 16 * n) (hz1 : z ≤ 4096) (ha : (a : Int) ≤ z) (hf : NoneFrom W on z a) :
    Calls Try.prog 98 #[.agg #[.int .i64 z, .slice A n c], .int .i64 a, .bool on] w fun e w' => e = .returned (.int .i64 (-1)) ∧ Below w.heap.size w w' := by
  have L0 := Lib.hid (LS.start (z := z) (c := c) hr.1 30)
  have hW := Lib.hid hr.2
  have HF := Lib.hid hf
  clear hr hf
  go_enter Try.func98, Try.ntmps98
  go_wp2_with fail
  go_loopw [7] (fun i wr => ∃ j : Nat, a ≤ j ∧ (j : Int) ≤ z ∧ i = .int .i64 j ∧ LS w w.heap.size z A n c (fun i => (W i : Int)) wr) (fun i _ => (z + 1).toNat - (intOf i).toNat)
  case atStart => exact ⟨a, Nat.le_refl _, ha, rfl, L0.out⟩
  case round =>
    obtain ⟨j, hj1, hj2, rfl, hl⟩ := hrel
    have L1 := Lib.hid hl
    obtain ⟨hs1, c0, c1⟩ := hl.box
    clear hl L0
    by_cases hlt : (j : Int) < z
    · have hv := beq_no (HF.out j hj1 hlt)
      go_wp2_with fail
      refine (spec_biAt z A n c W j _ hn ⟨L1.out.row, hW.out⟩ (by omega)).mono ?_; rintro e w2 ⟨rfl, hb⟩
      have L2 := Lib.hid (L1.out.step hb)
      clear hb L1
      go_wp2_with fail
      go_roundw
      case rel => exact ⟨j + 1, by omega, by omega, by go_num, L2.out⟩
      case measure => simp [intOf]; omega
    · go_wp2_with fail
      go_ret
      exact ⟨rfl, L1.out.below⟩

set_option maxHeartbeats 400000 in
theorem impl_next_yes (z : Int) (A : Option Addr) (n c : Nat) (X : Nat → Int) (a k : Nat) (on : Bool) (w : World) (hn : n ≤ 1048576) (hr : IRow w A n X) (hg : Good z n X) (hf : Found (fun i => (X i).toNat) on z a k) :
    Calls Try.prog 93 #[.agg #[.int .i64 z, .slice A n c], .int .i64 a, .bool on] w fun e w' => e = .returned (.tuple #[.int .i64 k, .bool true]) ∧ Below w.heap.size w w' := by
  have L0 := Lib.hid (LS.start (z := z) (c := c) hr 30)
  have HG := Lib.hid hg
  have hz : z ≤ 16 * n := by have := hg.2.2.1; omega
  have hz1 := hg.2.1
  clear hr hg
  obtain ⟨hf1, hf2, hf3, hf4⟩ := hf
  have HF3 := Lib.hid hf3
  have HF4 := Lib.hid hf4
  clear hf3 hf4
  go_enter Try.func93, Try.ntmps93
  go_wp2_with fail
  refine (isBits_yes hn L0.out.row HG.out).mono ?_; rintro e w1 ⟨rfl, hb⟩
  have L1 := Lib.hid (L0.out.step hb)
  clear hb L0
  obtain ⟨hs1, c0, c1⟩ := L1.out.box
  go_wp2_with fail
  go_loop [8] (fun i => ∃ j : Nat, a ≤ j ∧ j ≤ k ∧ i = .int .i64 j) (fun i => (k + 1) - (intOf i).toNat)
  case atStart => exact ⟨a, Nat.le_refl _, hf1, rfl⟩
  case round =>
    obtain ⟨j, hj1, hj2, rfl⟩ := hrel
    by_cases hlt : j < k
    · have hv := beq_no (HF4.out j hj1 hlt)
      go_wp2_with fail
      refine (impl_isOn A n c (fun i => (X i).toNat) j _ hn (good_row HG.out L1.out.row) (by omega)).mono ?_; rintro e w2 ⟨rfl, rfl⟩
      go_wp2_with fail
      go_round
      case rel => exact ⟨j + 1, by omega, by omega, by go_num⟩
      case measure => simp [intOf]; omega
    · obtain rfl : j = k := by omega
      have hv := beq_yes HF3.out
      go_wp2_with fail
      refine (impl_isOn A n c (fun i => (X i).toNat) j _ hn (good_row HG.out L1.out.row) (by omega)).mono ?_; rintro e w2 ⟨rfl, rfl⟩
      go_wp2_with fail
      go_ret2
      exact ⟨rfl, L1.out.below⟩

set_option maxHeartbeats 400000 in
theorem impl_next_none (z : Int) (A : Option Addr) (n c : Nat) (X : Nat → Int) (a : Nat) (on : Bool) (w : World) (hn : n ≤ 1048576) (hr : IRow w A n X) (hg : Good z n X) (hf : NoneFrom (fun i => (X i).toNat) on z a) :
    Calls Try.prog 93 #[.agg #[.int .i64 z, .slice A n c], .int .i64 a, .bool on] w fun e w' => e = .returned (.tuple #[.int .i64 0, .bool false]) ∧ Below w.heap.size w w' := by
  have L0 := Lib.hid (LS.start (z := z) (c := c) hr 30)
  have HG := Lib.hid hg
  have hz : z ≤ 16 * n := by have := hg.2.2.1; omega
  have hz1 := hg.2.1
  have HF := Lib.hid hf
  clear hr hg hf
  go_enter Try.func93, Try.ntmps93
  go_wp2_with fail
  refine (isBits_yes hn L0.out.row HG.out).mono ?_; rintro e w1 ⟨rfl, hb⟩
  have L1 := Lib.hid (L0.out.step hb)
  clear hb L0
  obtain ⟨hs1, c0, c1⟩ := L1.out.box
  go_wp2_with fail
  go_loop [8] (fun i => ∃ j : Nat, a ≤ j ∧ i = .int .i64 j) (fun i => z.toNat - (intOf i).toNat)
  case atStart => exact ⟨a, Nat.le_refl _, rfl⟩
  case round =>
    obtain ⟨j, hj1, rfl⟩ := hrel
    by_cases hlt : (j : Int) < z
    · have hv := beq_no (HF.out j hj1 hlt)
      go_wp2_with fail
      refine (impl_isOn A n c (fun i => (X i).toNat) j _ hn (good_row HG.out L1.out.row) (by omega)).mono ?_; rintro e w2 ⟨rfl, rfl⟩
      go_wp2_with fail
      go_round
      case rel => exact ⟨j + 1, by omega, by go_num⟩
      case measure => simp [intOf]; omega
    · go_wp2_with fail
      go_ret2
      exact ⟨rfl, L1.out.below⟩

set_option maxHeartbeats 400000 in
theorem impl_next_bad (z : Int) (A : Option Addr) (n c : Nat) (X : Nat → Int) (a : Int) (on : Bool) (w : World) (hn : n ≤ 1048576) (hr : IRow w A n X) (h : ¬ Good z n X ∨ a < 0) :
    Calls Try.prog 93 #[.agg #[.int .i64 z, .slice A n c], .int .i64 a, .bool on] w fun e w' => e = .returned (.tuple #[.int .i64 0, .bool false]) ∧ Below w.heap.size w w' := by
  have L0 := Lib.hid (LS.start (z := z) (c := c) hr 30)
  clear hr
  by_cases hg : Good z n X
  · have HG := Lib.hid hg
    have ha : a < 0 := h.resolve_left (fun e => e hg)
    clear hg h
    go_enter Try.func93, Try.ntmps93
    go_wp2_with fail
    refine (isBits_yes hn L0.out.row HG.out).mono ?_; rintro e w1 ⟨rfl, hb⟩
    have L1 := Lib.hid (L0.out.step hb)
    clear hb L0
    go_wp2_with fail
    go_ret2
    exact ⟨rfl, L1.out.below⟩
  · have HG := Lib.hid hg
    clear hg h
    go_enter Try.func93, Try.ntmps93
    go_wp2_with fail
    refine (isBits_no hn L0.out.row HG.out).mono ?_; rintro e w1 ⟨rfl, hb⟩
    have L1 := Lib.hid (L0.out.step hb)
    clear hb L0
    go_wp2_with fail
    go_ret2
    exact ⟨rfl, L1.out.below⟩

end Go.Proofs.Ytffdkfhnlgfigaa
