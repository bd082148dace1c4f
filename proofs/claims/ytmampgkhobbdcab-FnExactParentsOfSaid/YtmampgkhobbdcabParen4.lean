/- The excess at a place, how deep a bit lies, what encloses it: what both sides answer. -/
import Derived.Test.YtmampgkhobbdcabParen3
namespace Go.Proofs.Ytmampgkhobbdcab
open Go.RowKit

theorem exc_val (W : Nat → Nat) (u : Nat) : (cntN W 0 u : Int) - (u - cntN W 0 u) = exc W u := by unfold exc; omega
set_option maxHeartbeats 400000 in
theorem impl_excess_yes (z : Int) (A : Option Addr) (n c : Nat) (X : Nat → Int) (i : Nat) (w : World) (hn : n ≤ 1048576) (hr : IRow w A n X) (h : Span z n X 0 i) :
    Calls Try.prog 17 #[.agg #[.int .i64 z, .slice A n c], .int .i64 i] w fun e w' => e = .returned (.tuple #[.int .i64 (exc (wd X) i), .bool true]) ∧ Below w.heap.size w w' := by
  have L0 := Lib.hid (LS.start (z := z) (c := c) hr 28)
  have H := Lib.hid h
  have hi : i ≤ 4096 := by have := h.1.2.1; have := h.2.2.2; omega
  have hc := cntN_le (wd X) i 0
  have hv := exc_val (wd X) i
  clear hr h
  go_enter Try.func17, Try.ntmps17
  go_wp2_with fail
  refine (impl_count_yes z A n c X 0 i _ hn L0.out.row H.out).mono ?_; rintro e w1 ⟨rfl, hb⟩
  have L1 := Lib.hid (L0.out.step hb)
  clear hb L0
  rw [Nat.sub_zero]
  generalize hC : cntN (wd X) 0 i = C at *
  go_wp2_with fail
  go_ret2
  exact ⟨by rw [← hv]; rfl, L1.out.below⟩
set_option maxHeartbeats 400000 in
theorem impl_excess_no (z : Int) (A : Option Addr) (n c : Nat) (X : Nat → Int) (i : Int) (w : World) (hn : n ≤ 1048576) (hr : IRow w A n X) (h : ¬ Span z n X 0 i) :
    Calls Try.prog 17 #[.agg #[.int .i64 z, .slice A n c], .int .i64 i] w fun e w' => e = .returned (.tuple #[.int .i64 0, .bool false]) ∧ Below w.heap.size w w' := by
  have L0 := Lib.hid (LS.start (z := z) (c := c) hr 28)
  have H := Lib.hid h
  clear hr h
  go_enter Try.func17, Try.ntmps17
  go_wp2_with fail
  refine (impl_count_no z A n c X 0 i _ hn L0.out.row H.out).mono ?_; rintro e w1 ⟨rfl, hb⟩
  have L1 := Lib.hid (L0.out.step hb)
  clear hb L0
  go_wp2_with fail
  go_ret2
  exact ⟨rfl, L1.out.below⟩
set_option maxHeartbeats 400000 in
theorem spec_raExcess (z : Int) (A : Option Addr) (n c : Nat) (W : Nat → Nat) (i : Nat) (w : World) (hn : n ≤ 1048576) (hr : WRow w A n W) (hi : i ≤ 16 * n) (hi1 : i ≤ 4096) :
    Calls Try.prog 42 #[.agg #[.int .i64 z, .slice A n c], .int .i64 i] w fun e w' => e = .returned (.int .i64 (exc W i)) ∧ Below w.heap.size w w' := by
  have L0 := Lib.hid (LS.start (z := z) (c := c) hr.1 28)
  have hW := Lib.hid hr.2
  have hc := cntN_le W i 0
  have hv : 2 * (cntN W 0 i : Int) - i = exc W i := rfl
  clear hr
  go_enter Try.func42, Try.ntmps42
  go_wp2_with fail
  refine (spec_biCount z A n c W 0 i _ hn ⟨L0.out.row, hW.out⟩ (by omega) hi hi1).mono ?_; rintro e w1 ⟨rfl, hb⟩
  have L1 := Lib.hid (L0.out.step hb)
  clear hb L0
  rw [Nat.sub_zero]
  generalize hC : cntN W 0 i = C at *
  go_wp2_with fail
  go_ret
  exact ⟨by rw [← hv]; rfl, L1.out.below⟩
set_option maxHeartbeats 400000 in
theorem spec_excess_yes (z : Int) (A : Option Addr) (n c : Nat) (X : Nat → Int) (i : Nat) (w : World) (hn : n ≤ 1048576) (hr : IRow w A n X) (h : Span z n X 0 i) :
    Calls Try.prog 16 #[.agg #[.int .i64 z, .slice A n c], .int .i64 i] w fun e w' => e = .returned (.tuple #[.int .i64 (exc (wd X) i), .bool true]) ∧ Below w.heap.size w w' := by
  have L0 := Lib.hid (LS.start (z := z) (c := c) hr 28)
  have H := Lib.hid h
  have hiz := h.2.2.2
  have hz : (i : Int) ≤ 16 * n := by have := h.1.2.2.1; omega
  have hi : i ≤ 4096 := by have := h.1.2.1; omega
  clear hr h
  go_enter Try.func16, Try.ntmps16
  go_wp2_with fail
  refine (biGood_yes hn L0.out.row H.out.1).mono ?_; rintro e w1 ⟨rfl, hb⟩
  have L1 := Lib.hid (L0.out.step hb)
  clear hb L0
  obtain ⟨hs1, c0, c1⟩ := L1.out.box
  go_wp2_with fail
  refine (l1In_yes _ _ _ _ (by omega) hiz).mono ?_; rintro e w' ⟨rfl, rfl⟩
  go_wp2_with fail
  refine (spec_raExcess z A n c (wd X) i _ hn (good_row H.out.1 L1.out.row) (by omega) hi).mono ?_; rintro e w2 ⟨rfl, hb⟩
  have L2 := Lib.hid (L1.out.step hb)
  clear hb
  go_wp2_with fail
  go_ret2
  exact ⟨rfl, L2.out.below⟩
set_option maxHeartbeats 400000 in
theorem spec_excess_no (z : Int) (A : Option Addr) (n c : Nat) (X : Nat → Int) (i : Int) (w : World) (hn : n ≤ 1048576) (hr : IRow w A n X) (h : ¬ Span z n X 0 i) :
    Calls Try.prog 16 #[.agg #[.int .i64 z, .slice A n c], .int .i64 i] w fun e w' => e = .returned (.tuple #[.int .i64 0, .bool false]) ∧ Below w.heap.size w w' := by
  have L0 := Lib.hid (LS.start (z := z) (c := c) hr 28)
  have H := Lib.hid h
  clear hr h
  by_cases hg : Good z n X
  · have HG := Lib.hid hg
    clear hg
    have hno : ¬ (0 ≤ i ∧ i ≤ z) := fun e => H.out ⟨HG.out, Int.le_refl _, e.1, e.2⟩
    go_enter Try.func16, Try.ntmps16
    go_wp2_with fail
    refine (biGood_yes hn L0.out.row HG.out).mono ?_; rintro e w1 ⟨rfl, hb⟩
    have L1 := Lib.hid (L0.out.step hb)
    clear hb L0
    obtain ⟨hs1, c0, c1⟩ := L1.out.box
    go_wp2_with fail
    refine (l1In_no _ _ _ _ hno).mono ?_; rintro e w' ⟨rfl, rfl⟩
    go_wp2_with fail
    go_ret2
    exact ⟨rfl, L1.out.below⟩
  · have HG := Lib.hid hg
    clear hg
    go_enter Try.func16, Try.ntmps16
    go_wp2_with fail
    refine (biGood_no hn L0.out.row HG.out).mono ?_; rintro e w1 ⟨rfl, hb⟩
    have L1 := Lib.hid (L0.out.step hb)
    clear hb L0
    go_wp2_with fail
    go_ret2
    exact ⟨rfl, L1.out.below⟩
theorem Opens.span {z : Int} {n : Nat} {X : Nat → Int} {i : Int} {on : Bool} (h : Opens z n X i on) : Span z n X 0 i := ⟨h.1, Int.le_refl _, h.2.2.1, Int.le_of_lt h.2.2.2.1⟩
set_option maxHeartbeats 400000 in
theorem impl_depth_yes (z i : Nat) (A : Option Addr) (n c : Nat) (X : Nat → Int) (w : World) (hn : n ≤ 1048576) (hr : IRow w A n X) (h : Opens z n X i true) :
    Calls Try.prog 25 #[.agg #[.int .i64 z, .slice A n c], .int .i64 i] w fun e w' => e = .returned (.tuple #[.int .i64 (exc (wd X) i), .bool true]) ∧ Below w.heap.size w w' := by
  have L0 := Lib.hid (LS.start (z := (z : Int)) (c := c) hr 28)
  have H := Lib.hid h
  clear hr h
  go_enter Try.func25, Try.ntmps25
  go_wp2_with fail
  refine (impl_partnersFor_yes z i A n c X true _ hn L0.out.row H.out).mono ?_; rintro e w1 ⟨A', c', P, rfl, hP, hM, hb⟩
  have L1 := Lib.hid (L0.out.step hb)
  clear hb L0 hP hM
  obtain ⟨hs1, c0, c1⟩ := L1.out.box
  go_wp2_with fail
  refine (impl_excess_yes z A n c X i _ hn L1.out.row H.out.span).mono ?_; rintro e w2 ⟨rfl, hb⟩
  have L2 := Lib.hid (L1.out.step hb)
  clear hb
  go_wp2_with fail
  go_ret2
  exact ⟨rfl, L2.out.below⟩
set_option maxHeartbeats 400000 in
theorem impl_depth_no (z i : Int) (A : Option Addr) (n c : Nat) (X : Nat → Int) (w : World) (hn : n ≤ 1048576) (hr : IRow w A n X) (h : ¬ Opens z n X i true) :
    Calls Try.prog 25 #[.agg #[.int .i64 z, .slice A n c], .int .i64 i] w fun e w' => e = .returned (.tuple #[.int .i64 0, .bool false]) ∧ Below w.heap.size w w' := by
  have L0 := Lib.hid (LS.start (z := z) (c := c) hr 28)
  have H := Lib.hid h
  clear hr h
  go_enter Try.func25, Try.ntmps25
  go_wp2_with fail
  refine (impl_partnersFor_no z i A n c X true _ hn L0.out.row H.out).mono ?_; rintro e w1 ⟨rfl, hb⟩
  have L1 := Lib.hid (L0.out.step hb)
  clear hb L0
  go_wp2_with fail
  go_ret2
  exact ⟨rfl, L1.out.below⟩
set_option maxHeartbeats 400000 in
theorem spec_depth_yes (z i : Nat) (A : Option Addr) (n c : Nat) (X : Nat → Int) (w : World) (hn : n ≤ 1048576) (hr : IRow w A n X) (h : Opens z n X i true) :
    Calls Try.prog 24 #[.agg #[.int .i64 z, .slice A n c], .int .i64 i] w fun e w' => e = .returned (.tuple #[.int .i64 (exc (wd X) i), .bool true]) ∧ Below w.heap.size w w' := by
  have L0 := Lib.hid (LS.start (z := (z : Int)) (c := c) hr 28)
  have H := Lib.hid h
  have hz : z ≤ 16 * n := by have := h.1.2.2.1; omega
  have hz1 : z ≤ 4096 := by have := h.1.2.1; omega
  have hi : i < z := by have := h.2.2.2.1; omega
  clear hr h
  go_enter Try.func24, Try.ntmps24
  go_wp2_with fail
  refine ((BoolIs.two (spec_raOpens z A n c X i _ hn L0.out.row)).1 H.out).mono ?_; rintro e w1 ⟨rfl, hb⟩
  have L1 := Lib.hid (L0.out.step hb)
  clear hb L0
  obtain ⟨hs1, c0, c1⟩ := L1.out.box
  go_wp2_with fail
  refine (spec_raExcess z A n c (wd X) i _ hn (good_row H.out.1 L1.out.row) (by omega) (by omega)).mono ?_; rintro e w2 ⟨rfl, hb⟩
  have L2 := Lib.hid (L1.out.step hb)
  clear hb
  go_wp2_with fail
  go_ret2
  exact ⟨rfl, L2.out.below⟩
set_option maxHeartbeats 400000 in
theorem spec_depth_no (z i : Int) (A : Option Addr) (n c : Nat) (X : Nat → Int) (w : World) (hn : n ≤ 1048576) (hr : IRow w A n X) (h : ¬ Opens z n X i true) :
    Calls Try.prog 24 #[.agg #[.int .i64 z, .slice A n c], .int .i64 i] w fun e w' => e = .returned (.tuple #[.int .i64 0, .bool false]) ∧ Below w.heap.size w w' := by
  have L0 := Lib.hid (LS.start (z := z) (c := c) hr 28)
  have H := Lib.hid h
  clear hr h
  go_enter Try.func24, Try.ntmps24
  go_wp2_with fail
  refine ((BoolIs.two (spec_raOpens z A n c X i _ hn L0.out.row)).2 H.out).mono ?_; rintro e w1 ⟨rfl, hb⟩
  have L1 := Lib.hid (L0.out.step hb)
  clear hb L0
  go_wp2_with fail
  go_ret2
  exact ⟨rfl, L1.out.below⟩
set_option maxHeartbeats 1000000 in
theorem impl_encl_yes (z i a : Nat) (A : Option Addr) (n c : Nat) (X : Nat → Int) (w : World) (hn : n ≤ 1048576) (hr : IRow w A n X) (h : Opens z n X i true) (ha : Above (wd X) i a) :
    Calls Try.prog 23 #[.agg #[.int .i64 z, .slice A n c], .int .i64 i] w fun e w' => e = .returned (.tuple #[.int .i64 a, .bool true]) ∧ Below w.heap.size w w' := by
  have L0 := Lib.hid (LS.start (z := (z : Int)) (c := c) hr 28)
  have H := Lib.hid h
  have HA := Lib.hid ha
  have hai := ha.1
  have hz1 : z ≤ 4096 := by have := h.1.2.1; omega
  have hi : i < z := by have := h.2.2.2.1; omega
  have hon : bitN (wd X) i = true := by simpa using h.2.2.2.2
  clear hr h ha
  go_enter Try.func23, Try.ntmps23
  go_wp2_with fail
  refine (impl_partnersFor_yes z i A n c X true _ hn L0.out.row H.out).mono ?_; rintro e w1 ⟨A', c', P, rfl, hP, hM, hb⟩
  have L1 := Lib.hid (L0.out.step hb)
  have MP := Lib.hid hM
  obtain ⟨b, off, rfl, _, hc⟩ := hP (by omega)
  have HC := Lib.hid hc
  clear hb L0 hM hc
  go_wp2_with fail
  go_loop [8] (fun k => ∃ j : Nat, a ≤ j ∧ j < i ∧ k = .int .i64 j) (fun k => (intOf k).toNat)
  case atStart => exact ⟨i - 1, by omega, by omega, by go_num⟩
  case round =>
    obtain ⟨j, hj0, hj, rfl⟩ := hrel
    have hcj := HC.out j (by omega)
    by_cases hlt : a < j
    · have hB : ¬ ((i : Int) < P j) := by have := MP.out.behind hi hon HA.out.2.2 j hlt hj; omega
      go_wp2_with fail
      go_round
      case rel => exact ⟨j - 1, by omega, by omega, by go_num⟩
      case measure => simp [intOf]; omega
    · obtain rfl : j = a := by omega
      have hB := MP.out.above hi hon HA.out
      go_wp2_with fail
      go_ret2
      exact ⟨rfl, L1.out.below⟩
set_option maxHeartbeats 1000000 in
theorem impl_encl_none (z i : Nat) (A : Option Addr) (n c : Nat) (X : Nat → Int) (w : World) (hn : n ≤ 1048576) (hr : IRow w A n X) (h : Opens z n X i true) (ha : NoAbove (wd X) i) :
    Calls Try.prog 23 #[.agg #[.int .i64 z, .slice A n c], .int .i64 i] w fun e w' => e = .returned (.tuple #[.int .i64 0, .bool false]) ∧ Below w.heap.size w w' := by
  have L0 := Lib.hid (LS.start (z := (z : Int)) (c := c) hr 28)
  have H := Lib.hid h
  have HA := Lib.hid ha
  have hz1 : z ≤ 4096 := by have := h.1.2.1; omega
  have hi : i < z := by have := h.2.2.2.1; omega
  have hon : bitN (wd X) i = true := by simpa using h.2.2.2.2
  clear hr h ha
  go_enter Try.func23, Try.ntmps23
  go_wp2_with fail
  refine (impl_partnersFor_yes z i A n c X true _ hn L0.out.row H.out).mono ?_; rintro e w1 ⟨A', c', P, rfl, hP, hM, hb⟩
  have L1 := Lib.hid (L0.out.step hb)
  have MP := Lib.hid hM
  obtain ⟨b, off, rfl, _, hc⟩ := hP (by omega)
  have HC := Lib.hid hc
  clear hb L0 hM hc
  go_wp2_with fail
  go_loop [8] (fun k => ∃ j : Nat, j ≤ i ∧ k = .int .i64 ((j : Int) - 1)) (fun k => (intOf k + 1).toNat)
  case atStart => exact ⟨i, by omega, by go_num⟩
  case round =>
    obtain ⟨j, hj, rfl⟩ := hrel
    rcases Nat.eq_zero_or_pos j with rfl | hjp
    · go_wp2_with fail
      go_ret2
      exact ⟨rfl, L1.out.below⟩
    · obtain ⟨j, rfl⟩ : ∃ m, j = m + 1 := ⟨j - 1, by omega⟩
      have ek : ((j + 1 : Nat) : Int) - 1 = (j : Int) := by omega
      rw [ek]
      have hcj := HC.out j (by omega)
      have hB : ¬ ((i : Int) < P j) := by have := MP.out.behind0 hi hon HA.out j (by omega); omega
      go_wp2_with fail
      go_round
      case rel => exact ⟨j, by omega, by go_num⟩
      case measure => simp [intOf]
set_option maxHeartbeats 400000 in
theorem impl_encl_no (z i : Int) (A : Option Addr) (n c : Nat) (X : Nat → Int) (w : World) (hn : n ≤ 1048576) (hr : IRow w A n X) (h : ¬ Opens z n X i true) :
    Calls Try.prog 23 #[.agg #[.int .i64 z, .slice A n c], .int .i64 i] w fun e w' => e = .returned (.tuple #[.int .i64 0, .bool false]) ∧ Below w.heap.size w w' := by
  have L0 := Lib.hid (LS.start (z := z) (c := c) hr 28)
  have H := Lib.hid h
  clear hr h
  go_enter Try.func23, Try.ntmps23
  go_wp2_with fail
  refine (impl_partnersFor_no z i A n c X true _ hn L0.out.row H.out).mono ?_; rintro e w1 ⟨rfl, hb⟩
  have L1 := Lib.hid (L0.out.step hb)
  clear hb L0
  go_wp2_with fail
  go_ret2
  exact ⟨rfl, L1.out.below⟩
set_option maxHeartbeats 400000 in
theorem spec_encl_yes (z i a : Nat) (A : Option Addr) (n c : Nat) (X : Nat → Int) (w : World) (hn : n ≤ 1048576) (hr : IRow w A n X) (h : Opens z n X i true) (ha : Above (wd X) i a) :
    Calls Try.prog 22 #[.agg #[.int .i64 z, .slice A n c], .int .i64 i] w fun e w' => e = .returned (.tuple #[.int .i64 a, .bool true]) ∧ Below w.heap.size w w' := by
  have L0 := Lib.hid (LS.start (z := (z : Int)) (c := c) hr 28)
  have H := Lib.hid h
  have hz : z ≤ 16 * n := by have := h.1.2.2.1; omega
  have hz1 : z ≤ 4096 := by have := h.1.2.1; omega
  have hi : i < z := by have := h.2.2.2.1; omega
  have ha0 : ¬ ((a : Int) < 0) := by omega
  clear hr h
  go_enter Try.func22, Try.ntmps22
  go_wp2_with fail
  refine ((BoolIs.two (spec_raOpens z A n c X i _ hn L0.out.row)).1 H.out).mono ?_; rintro e w1 ⟨rfl, hb⟩
  have L1 := Lib.hid (L0.out.step hb)
  clear hb L0
  obtain ⟨hs1, c0, c1⟩ := L1.out.box
  go_wp2_with fail
  refine (spec_raAbove_yes z A n c (wd X) i a _ hn (good_row H.out.1 L1.out.row) (by omega) (by omega) ha).mono ?_; rintro e w2 ⟨rfl, hb⟩
  have L2 := Lib.hid (L1.out.step hb)
  clear hb hs1 c0 c1 L1
  obtain ⟨hs1, c0, c1⟩ := L2.out.box
  go_wp2_with fail
  refine (spec_raAbove_yes z A n c (wd X) i a _ hn (good_row H.out.1 L2.out.row) (by omega) (by omega) ha).mono ?_; rintro e w3 ⟨rfl, hb⟩
  have L3 := Lib.hid (L2.out.step hb)
  clear hb
  go_wp2_with fail
  go_ret2
  exact ⟨rfl, L3.out.below⟩
set_option maxHeartbeats 400000 in
theorem spec_encl_none (z i : Nat) (A : Option Addr) (n c : Nat) (X : Nat → Int) (w : World) (hn : n ≤ 1048576) (hr : IRow w A n X) (h : Opens z n X i true) (ha : NoAbove (wd X) i) :
    Calls Try.prog 22 #[.agg #[.int .i64 z, .slice A n c], .int .i64 i] w fun e w' => e = .returned (.tuple #[.int .i64 0, .bool false]) ∧ Below w.heap.size w w' := by
  have L0 := Lib.hid (LS.start (z := (z : Int)) (c := c) hr 28)
  have H := Lib.hid h
  have hz : z ≤ 16 * n := by have := h.1.2.2.1; omega
  have hz1 : z ≤ 4096 := by have := h.1.2.1; omega
  have hi : i < z := by have := h.2.2.2.1; omega
  clear hr h
  go_enter Try.func22, Try.ntmps22
  go_wp2_with fail
  refine ((BoolIs.two (spec_raOpens z A n c X i _ hn L0.out.row)).1 H.out).mono ?_; rintro e w1 ⟨rfl, hb⟩
  have L1 := Lib.hid (L0.out.step hb)
  clear hb L0
  obtain ⟨hs1, c0, c1⟩ := L1.out.box
  go_wp2_with fail
  refine (spec_raAbove_no z A n c (wd X) i _ hn (good_row H.out.1 L1.out.row) (by omega) (by omega) ha).mono ?_; rintro e w2 ⟨rfl, hb⟩
  have L2 := Lib.hid (L1.out.step hb)
  clear hb hs1 c0 c1 L1
  go_wp2_with fail
  go_ret2
  exact ⟨rfl, L2.out.below⟩
set_option maxHeartbeats 400000 in
theorem spec_encl_no (z i : Int) (A : Option Addr) (n c : Nat) (X : Nat → Int) (w : World) (hn : n ≤ 1048576) (hr : IRow w A n X) (h : ¬ Opens z n X i true) :
    Calls Try.prog 22 #[.agg #[.int .i64 z, .slice A n c], .int .i64 i] w fun e w' => e = .returned (.tuple #[.int .i64 0, .bool false]) ∧ Below w.heap.size w w' := by
  have L0 := Lib.hid (LS.start (z := z) (c := c) hr 28)
  have H := Lib.hid h
  clear hr h
  go_enter Try.func22, Try.ntmps22
  go_wp2_with fail
  refine ((BoolIs.two (spec_raOpens z A n c X i _ hn L0.out.row)).2 H.out).mono ?_; rintro e w1 ⟨rfl, hb⟩
  have L1 := Lib.hid (L0.out.step hb)
  clear hb L0
  go_wp2_with fail
  go_ret2
  exact ⟨rfl, L1.out.below⟩
end Go.Proofs.Ytmampgkhobbdcab
