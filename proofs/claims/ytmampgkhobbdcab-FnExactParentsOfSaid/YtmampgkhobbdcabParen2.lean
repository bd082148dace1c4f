/- Balanced vectors: what both sides answer. -/
import Derived.Test.YtmampgkhobbdcabParenI
namespace Go.Proofs.Ytmampgkhobbdcab
open Go.RowKit

set_option maxHeartbeats 400000 in
theorem impl_partners_bad (z : Int) (A : Option Addr) (n c : Nat) (X : Nat → Int) (w : World) (hn : n ≤ 1048576) (hr : IRow w A n X) (hg : ¬ Good z n X) :
    Calls Try.prog 39 #[.agg #[.int .i64 z, .slice A n c]] w fun e w' => e = .returned (.tuple #[.slice none 0 0, .bool false]) ∧ Below w.heap.size w w' := by
  have L0 := Lib.hid (LS.start (z := z) (c := c) hr 28)
  have HG := Lib.hid hg
  clear hr hg
  go_enter Try.func39, Try.ntmps39
  go_wp2_with fail
  refine (isBits_no hn L0.out.row HG.out).mono ?_; rintro e w1 ⟨rfl, hb⟩
  have L1 := Lib.hid (L0.out.step hb)
  clear hb L0
  go_wp2_with fail
  go_ret2
  exact ⟨rfl, L1.out.below⟩

theorem bool_of {b b' : Bool} {p : Prop} (h : b = true ↔ p) (h' : b' = true ↔ p) : b' = b := Bool.eq_iff_iff.2 (h'.trans h.symm)

set_option maxHeartbeats 400000 in
theorem impl_isBalanced_yes (z : Nat) (A : Option Addr) (n c : Nat) (X : Nat → Int) (b : Bool) (w : World) (hn : n ≤ 1048576) (hr : IRow w A n X) (hg : Good z n X) (hb : b = true ↔ Bal (wd X) z) :
    Calls Try.prog 14 #[.agg #[.int .i64 z, .slice A n c]] w fun e w' => e = .returned (.tuple #[.bool b, .bool true]) ∧ Below w.heap.size w w' := by
  have L0 := Lib.hid (LS.start (z := (z : Int)) (c := c) hr 28)
  have HG := Lib.hid hg
  have HB := Lib.hid hb
  clear hr hg hb
  go_enter Try.func14, Try.ntmps14
  go_wp2_with fail
  refine (impl_partnersOf z A n c X _ hn L0.out.row HG.out).mono ?_; rintro e w1 (⟨hB, A', m', c', rfl, hb⟩ | ⟨hB, A', c', P, rfl, _, _, hb⟩)
  · have L1 := Lib.hid (L0.out.step hb)
    obtain rfl : b = false := by cases b; rfl; exact absurd (HB.out.1 rfl) hB
    clear hb L0
    obtain ⟨hs1, c0, c1⟩ := L1.out.box
    go_wp2_with fail
    refine (isBits_yes hn L1.out.row HG.out).mono ?_; rintro e w2 ⟨rfl, hb⟩
    have L2 := Lib.hid (L1.out.step hb)
    clear hb
    go_wp2_with fail
    go_ret2
    exact ⟨rfl, L2.out.below⟩
  · have L1 := Lib.hid (L0.out.step hb)
    obtain rfl : b = true := HB.out.2 hB
    clear hb L0
    obtain ⟨hs1, c0, c1⟩ := L1.out.box
    go_wp2_with fail
    refine (isBits_yes hn L1.out.row HG.out).mono ?_; rintro e w2 ⟨rfl, hb⟩
    have L2 := Lib.hid (L1.out.step hb)
    clear hb
    go_wp2_with fail
    go_ret2
    exact ⟨rfl, L2.out.below⟩
set_option maxHeartbeats 400000 in
theorem impl_isBalanced_no (z : Int) (A : Option Addr) (n c : Nat) (X : Nat → Int) (w : World) (hn : n ≤ 1048576) (hr : IRow w A n X) (hg : ¬ Good z n X) :
    Calls Try.prog 14 #[.agg #[.int .i64 z, .slice A n c]] w fun e w' => e = .returned (.tuple #[.bool false, .bool false]) ∧ Below w.heap.size w w' := by
  have L0 := Lib.hid (LS.start (z := z) (c := c) hr 28)
  have HG := Lib.hid hg
  clear hr hg
  go_enter Try.func14, Try.ntmps14
  go_wp2_with fail
  refine (impl_partners_bad z A n c X _ hn L0.out.row HG.out).mono ?_; rintro e w1 ⟨rfl, hb⟩
  have L1 := Lib.hid (L0.out.step hb)
  clear hb L0
  obtain ⟨hs1, c0, c1⟩ := L1.out.box
  go_wp2_with fail
  refine (isBits_no hn L1.out.row HG.out).mono ?_; rintro e w2 ⟨rfl, hb⟩
  have L2 := Lib.hid (L1.out.step hb)
  clear hb
  go_wp2_with fail
  go_ret2
  exact ⟨rfl, L2.out.below⟩
set_option maxHeartbeats 400000 in
theorem spec_isBalanced_yes (z : Nat) (A : Option Addr) (n c : Nat) (X : Nat → Int) (b : Bool) (w : World) (hn : n ≤ 1048576) (hr : IRow w A n X) (hg : Good z n X) (hb : b = true ↔ Bal (wd X) z) :
    Calls Try.prog 12 #[.agg #[.int .i64 z, .slice A n c]] w fun e w' => e = .returned (.tuple #[.bool b, .bool true]) ∧ Below w.heap.size w w' := by
  have L0 := Lib.hid (LS.start (z := (z : Int)) (c := c) hr 28)
  have HG := Lib.hid hg
  have HB := Lib.hid hb
  have hz : z ≤ 16 * n := by have := hg.2.2.1; omega
  have hz1 : z ≤ 4096 := by have := hg.2.1; omega
  clear hr hg hb
  go_enter Try.func12, Try.ntmps12
  go_wp2_with fail
  refine (biGood_yes hn L0.out.row HG.out).mono ?_; rintro e w1 ⟨rfl, hb⟩
  have L1 := Lib.hid (L0.out.step hb)
  clear hb L0
  obtain ⟨hs1, c0, c1⟩ := L1.out.box
  go_wp2_with fail
  refine (spec_raBalanced z A n c (wd X) _ hn (good_row HG.out L1.out.row) hz hz1).mono ?_; rintro e w2 ⟨b', rfl, hb', hb⟩
  obtain rfl := bool_of HB.out hb'
  have L2 := Lib.hid (L1.out.step hb)
  clear hb hb'
  go_wp2_with fail
  go_ret2
  exact ⟨rfl, L2.out.below⟩
set_option maxHeartbeats 400000 in
theorem spec_isBalanced_no (z : Int) (A : Option Addr) (n c : Nat) (X : Nat → Int) (w : World) (hn : n ≤ 1048576) (hr : IRow w A n X) (hg : ¬ Good z n X) :
    Calls Try.prog 12 #[.agg #[.int .i64 z, .slice A n c]] w fun e w' => e = .returned (.tuple #[.bool false, .bool false]) ∧ Below w.heap.size w w' := by
  have L0 := Lib.hid (LS.start (z := z) (c := c) hr 28)
  have HG := Lib.hid hg
  clear hr hg
  go_enter Try.func12, Try.ntmps12
  go_wp2_with fail
  refine (biGood_no hn L0.out.row HG.out).mono ?_; rintro e w1 ⟨rfl, hb⟩
  have L1 := Lib.hid (L0.out.step hb)
  clear hb L0
  go_wp2_with fail
  go_ret2
  exact ⟨rfl, L1.out.below⟩

/-- A good vector that is balanced; its bit i is on or off as told. -/
def Opens (z : Int) (n : Nat) (X : Nat → Int) (i : Int) (on : Bool) : Prop := Good z n X ∧ Bal (wd X) z.toNat ∧ 0 ≤ i ∧ i < z ∧ bitN (wd X) i.toNat = on

set_option maxHeartbeats 1000000 in
theorem spec_raOpens (z : Int) (A : Option Addr) (n c : Nat) (X : Nat → Int) (i : Int) (w : World) (hn : n ≤ 1048576) (hr : IRow w A n X) :
    Calls Try.prog 44 #[.agg #[.int .i64 z, .slice A n c], .int .i64 i] w (BoolIs (Opens z n X i true) w) := by
  have L0 := Lib.hid (LS.start (z := z) (c := c) hr 28)
  clear hr
  by_cases hR : Room z n X i 1
  · have hg := hR.1
    have h0 := (room_one.1 hR).2.1
    have h1 := (room_one.1 hR).2.2
    obtain ⟨z, rfl⟩ := Int.eq_ofNat_of_zero_le hg.1
    obtain ⟨i, rfl⟩ := Int.eq_ofNat_of_zero_le h0
    have hz : z ≤ 16 * n := by have := hg.2.2.1; omega
    have hz1 : z ≤ 4096 := by have := hg.2.1; omega
    have HG := Lib.hid hg
    have HR := Lib.hid hR
    clear hg hR
    go_enter Try.func44, Try.ntmps44
    go_wp2_with fail
    refine ((BoolIs.two (spec_biHas z A n c X i _ hn L0.out.row)).1 HR.out).mono ?_; rintro e w1 ⟨rfl, hb⟩
    have L1 := Lib.hid (L0.out.step hb)
    clear hb L0
    obtain ⟨hs1, c0, c1⟩ := L1.out.box
    go_wp2_with fail
    refine (spec_raBalanced z A n c (wd X) _ hn (good_row HG.out L1.out.row) hz hz1).mono ?_; rintro e w2 ⟨b, rfl, hb', hb⟩
    have HB := Lib.hid hb'
    have L2 := Lib.hid (L1.out.step hb)
    clear hb hb' c0 c1 hs1 L1
    obtain ⟨hs1, c0, c1⟩ := L2.out.box
    cases b with
    | true =>
      go_wp2_with fail
      refine (spec_biAt z A n c (wd X) i _ hn (good_row HG.out L2.out.row) (by omega)).mono ?_; rintro e w3 ⟨rfl, hb⟩
      have L3 := Lib.hid (L2.out.step hb)
      clear hb
      go_wp2_with fail
      go_ret
      exact ⟨_, rfl, ⟨fun h => ⟨HG.out, by have hb := HB.out; simp at hb; simpa using hb, h0, by omega, by simpa using h⟩, fun h => by simpa using h.2.2.2.2⟩, L3.out.below⟩
    | false =>
      go_wp2_with fail
      go_ret
      exact ⟨false, rfl, by simp only [Bool.false_eq_true, false_iff]; exact fun h => by have := HB.out.2 (by simpa using h.2.1); simp at this, L2.out.below⟩
  · have HR := Lib.hid hR
    clear hR
    go_enter Try.func44, Try.ntmps44
    go_wp2_with fail
    refine ((BoolIs.two (spec_biHas z A n c X i _ hn L0.out.row)).2 HR.out).mono ?_; rintro e w1 ⟨rfl, hb⟩
    have L1 := Lib.hid (L0.out.step hb)
    clear hb L0
    go_wp2_with fail
    go_ret
    exact ⟨false, rfl, by simp only [Bool.false_eq_true, false_iff]; exact fun h => HR.out (room_one.2 ⟨h.1, h.2.2.1, by have := h.2.2.2.1; omega⟩), L1.out.below⟩

set_option maxHeartbeats 1000000 in
theorem impl_partnersFor_yes (z i : Nat) (A : Option Addr) (n c : Nat) (X : Nat → Int) (on : Bool) (w : World) (hn : n ≤ 1048576) (hr : IRow w A n X) (h : Opens z n X i on) :
    Calls Try.prog 46 #[.agg #[.int .i64 z, .slice A n c], .int .i64 i, .bool on] w fun e w' => ∃ A' c' P, e = .returned (.tuple #[.slice A' z c', .bool true]) ∧ IRow w' A' z P ∧ Mates (wd X) z P ∧ Below w.heap.size w w' := by
  have L0 := Lib.hid (LS.start (z := (z : Int)) (c := c) hr 28)
  obtain ⟨hg, hB, h0, h1, hon⟩ := h
  have hz : z ≤ 16 * n := by have := hg.2.2.1; omega
  have hz1 : z ≤ 4096 := by have := hg.2.1; omega
  have hon' : bitN (wd X) i = on := by simpa using hon
  have HG := Lib.hid hg
  have HB := Lib.hid hB
  clear hr hg hB hon
  go_enter Try.func46, Try.ntmps46
  go_wp2_with fail
  refine (impl_partnersOf z A n c X _ hn L0.out.row HG.out).mono ?_; rintro e w1 (⟨hB, A', m', c', rfl, hb⟩ | ⟨hB, A', c', P, rfl, hrP, hM, hb⟩)
  · exact absurd HB.out hB
  · have L1 := Lib.hid (L0.out.step hb)
    have RP := Lib.hid hrP
    have MP := Lib.hid hM
    have hi1 : ¬ ((i : Int) < 0) := by omega
    have hi2 : ¬ ((z : Int) ≤ i) := by omega
    clear hb L0 hrP hM hB
    obtain ⟨hs1, c0, c1⟩ := L1.out.box
    go_wp2_with fail
    refine (impl_isOn A n c (wd X) i _ hn (good_row HG.out L1.out.row) (by omega)).mono ?_; rintro e w2 ⟨rfl, rfl⟩
    rw [hon']
    cases on
    all_goals
      go_wp2_with fail
      go_ret2
      exact ⟨_, _, P, rfl, RP.out, MP.out, L1.out.below⟩

set_option maxHeartbeats 1000000 in
theorem impl_partnersFor_no (z i : Int) (A : Option Addr) (n c : Nat) (X : Nat → Int) (on : Bool) (w : World) (hn : n ≤ 1048576) (hr : IRow w A n X) (h : ¬ Opens z n X i on) :
    Calls Try.prog 46 #[.agg #[.int .i64 z, .slice A n c], .int .i64 i, .bool on] w fun e w' => e = .returned (.tuple #[.slice none 0 0, .bool false]) ∧ Below w.heap.size w w' := by
  have L0 := Lib.hid (LS.start (z := z) (c := c) hr 28)
  have H := Lib.hid h
  clear hr h
  by_cases hg : Good z n X
  · have HG := Lib.hid hg
    obtain ⟨z, rfl⟩ := Int.eq_ofNat_of_zero_le hg.1
    have hz : z ≤ 16 * n := by have := hg.2.2.1; omega
    have hz1 : z ≤ 4096 := by have := hg.2.1; omega
    clear hg
    go_enter Try.func46, Try.ntmps46
    go_wp2_with fail
    refine (impl_partnersOf z A n c X _ hn L0.out.row HG.out).mono ?_; rintro e w1 (⟨hB, A', m', c', rfl, hb⟩ | ⟨hB, A', c', P, rfl, _, _, hb⟩)
    · have L1 := Lib.hid (L0.out.step hb)
      clear hb L0
      go_wp2_with fail
      go_ret2
      exact ⟨rfl, L1.out.below⟩
    · have L1 := Lib.hid (L0.out.step hb)
      clear hb L0
      obtain ⟨hs1, c0, c1⟩ := L1.out.box
      by_cases h0 : i < 0
      · go_wp2_with fail
        go_ret2
        exact ⟨rfl, L1.out.below⟩
      · by_cases h1 : (z : Int) ≤ i
        · go_wp2_with fail
          go_ret2
          exact ⟨rfl, L1.out.below⟩
        · obtain ⟨i, rfl⟩ := Int.eq_ofNat_of_zero_le (show 0 ≤ i by omega)
          have hbit : bitN (wd X) i = !on := by
            by_cases e : bitN (wd X) i = on
            · exact absurd ⟨HG.out, by simpa using hB, by omega, by omega, by simpa using e⟩ H.out
            · revert e; cases bitN (wd X) i <;> cases on <;> simp
          go_wp2_with fail
          refine (impl_isOn A n c (wd X) i _ hn (good_row HG.out L1.out.row) (by omega)).mono ?_; rintro e w2 ⟨rfl, rfl⟩
          rw [hbit]
          cases on
          all_goals
            go_wp2_with fail
            go_ret2
            exact ⟨rfl, L1.out.below⟩
  · have HG := Lib.hid hg
    clear hg
    go_enter Try.func46, Try.ntmps46
    go_wp2_with fail
    refine (impl_partners_bad z A n c X _ hn L0.out.row HG.out).mono ?_; rintro e w1 ⟨rfl, hb⟩
    have L1 := Lib.hid (L0.out.step hb)
    clear hb L0
    go_wp2_with fail
    go_ret2
    exact ⟨rfl, L1.out.below⟩
end Go.Proofs.Ytmampgkhobbdcab
