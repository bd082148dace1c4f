/- The model's side of balanced vectors: is it balanced, what closes, what opens, what encloses. -/
import Derived.Test.YtmampgkhobbdcabExcess
import Derived.Test.YtmampgkhobbdcabNext
import Derived.Test.YtmampgkhobbdcabCount
namespace Go.Proofs.Ytmampgkhobbdcab
open Go.RowKit

set_option maxHeartbeats 1000000 in
theorem spec_raBalanced (z : Nat) (A : Option Addr) (n c : Nat) (W : Nat → Nat) (w : World) (hn : n ≤ 1048576) (hr : WRow w A n W) (hz : z ≤ 16 * n) (hz1 : z ≤ 4096) :
    Calls Try.prog 38 #[.agg #[.int .i64 z, .slice A n c]] w (BoolIs (Bal W z) w) := by
  have L0 := Lib.hid (LS.start (z := (z : Int)) (c := c) hr.1 28)
  have hW := Lib.hid hr.2
  clear hr
  go_enter Try.func38, Try.ntmps38
  go_wp2_with fail
  go_loopw [3, 4] (fun x i wr => ∃ (q : Nat) (E : Int), q ≤ z ∧ i = .int .i64 q ∧ x = .int .i64 E ∧ 0 ≤ E ∧ E ≤ q ∧ Hid (E = exc W q ∧ ∀ k, k ≤ q → 0 ≤ exc W k) ∧ LS w w.heap.size z A n c (fun i => (W i : Int)) wr) (fun _ i _ => z - (intOf i).toNat)
  case atStart => exact ⟨0, 0, by omega, rfl, rfl, by omega, by omega, ⟨(exc_zero W).symm, fun k hk => (by rw [show k = 0 by omega, exc_zero]; omega)⟩, L0.out⟩
  case round =>
    obtain ⟨q, E, hq, rfl, rfl, hE0, hE1, hE, hl⟩ := hrel
    have L1 := Lib.hid hl
    obtain ⟨hs1, c0, c1⟩ := hl.box
    clear hl L0
    by_cases hlt : q < z
    · by_cases hbit : bitN W q = true
      · have hge : ¬ (E + 1 < 0) := by omega
        go_wp2_with fail
        refine (spec_biAt z A n c W q _ hn ⟨L1.out.row, hW.out⟩ (by omega)).mono ?_; rintro e w2 ⟨rfl, hb⟩
        have L2 := Lib.hid (L1.out.step hb)
        clear hb L1
        go_wp2_with fail
        go_roundw
        case rel => exact ⟨q + 1, E + 1, by omega, by go_num, by go_num, by omega, by omega, ⟨by rw [exc_on hbit, ← hE.out.1], fun k hk => by
          by_cases e : k ≤ q
          · exact hE.out.2 k e
          · obtain rfl : k = q + 1 := by omega
            rw [exc_on hbit, ← hE.out.1]; omega⟩, L2.out⟩
        case measure => simp [intOf]; omega
      · have hbit : bitN W q = false := by simpa using hbit
        by_cases hE2 : E - 1 < 0
        · go_wp2_with fail
          refine (spec_biAt z A n c W q _ hn ⟨L1.out.row, hW.out⟩ (by omega)).mono ?_; rintro e w2 ⟨rfl, hb⟩
          have L2 := Lib.hid (L1.out.step hb)
          clear hb L1
          go_wp2_with fail
          go_ret
          exact ⟨false, rfl, by simp only [Bool.false_eq_true, false_iff]; exact fun hB => by have := hB.1 (q + 1) (by omega); rw [exc_off hbit, ← hE.out.1] at this; omega, L2.out.below⟩
        · go_wp2_with fail
          refine (spec_biAt z A n c W q _ hn ⟨L1.out.row, hW.out⟩ (by omega)).mono ?_; rintro e w2 ⟨rfl, hb⟩
          have L2 := Lib.hid (L1.out.step hb)
          clear hb L1
          go_wp2_with fail
          go_roundw
          case rel => exact ⟨q + 1, E - 1, by omega, by go_num, by go_num, by omega, by omega, ⟨by rw [exc_off hbit, ← hE.out.1], fun k hk => by
            by_cases e : k ≤ q
            · exact hE.out.2 k e
            · obtain rfl : k = q + 1 := by omega
              rw [exc_off hbit, ← hE.out.1]; omega⟩, L2.out⟩
          case measure => simp [intOf]; omega
    · obtain rfl : q = z := by omega
      go_wp2_with fail
      go_ret
      exact ⟨E == 0, rfl, by
        simp only [beq_iff_eq]
        exact ⟨fun h => ⟨hE.out.2, by rw [← hE.out.1, h]⟩, fun h => by rw [hE.out.1]; exact h.2⟩, L1.out.below⟩

set_option maxHeartbeats 1000000 in
theorem spec_raClose (z : Int) (A : Option Addr) (n c : Nat) (W : Nat → Nat) (i q : Nat) (w : World) (hn : n ≤ 1048576) (hr : WRow w A n W) (hz : q < 16 * n) (hz1 : q ≤ 4096) (hm : Mate W i q) :
    Calls Try.prog 45 #[.agg #[.int .i64 z, .slice A n c], .int .i64 i] w fun e w' => e = .returned (.int .i64 q) ∧ Below w.heap.size w w' := by
  have L0 := Lib.hid (LS.start (z := z) (c := c) hr.1 28)
  have hW := Lib.hid hr.2
  have hiq := hm.1
  have HM := Lib.hid hm
  clear hr hm
  go_enter Try.func45, Try.ntmps45
  go_wp2_with fail
  go_loopw [5, 6] (fun x k wr => ∃ (j : Nat) (E : Int), i ≤ j ∧ j ≤ q ∧ k = .int .i64 j ∧ x = .int .i64 E ∧ 0 ≤ E ∧ E ≤ j + 1 ∧ (j < q → 0 < E) ∧ Hid (E = exc W (j + 1) - exc W i) ∧ LS w w.heap.size z A n c (fun i => (W i : Int)) wr) (fun _ k _ => q - (intOf k).toNat)
  case atStart => exact ⟨i, 1, by omega, by omega, rfl, rfl, by omega, by omega, fun _ => by omega, (by show _ = _; rw [exc_on HM.out.on]; omega), L0.out⟩
  case round =>
    obtain ⟨j, E, hj0, hj, rfl, rfl, hE0, hE1, hE2, hE, hl⟩ := hrel
    have L1 := Lib.hid hl
    obtain ⟨hs1, c0, c1⟩ := hl.box
    clear hl L0
    by_cases hlt : j < q
    · have hpos := hE2 hlt
      clear hE2
      have HP := Lib.hid (fun (h : j + 1 < q) => HM.out.2.2 (j + 1 + 1) (by omega) (by omega))
      have HE := Lib.hid (show 0 ≤ exc W (j + 1 + 1) - exc W i by
        by_cases e : j + 1 = q
        · rw [e, HM.out.2.1]; omega
        · have := HP.out (by omega); omega)
      by_cases hbit : bitN W (j + 1) = true
      · have hx := Lib.hid (exc_on hbit)
        go_wp2_with fail
        refine (spec_biAt z A n c W (j + 1) _ hn ⟨L1.out.row, hW.out⟩ (by omega)).mono ?_; rintro e w2 ⟨rfl, hb⟩
        have L2 := Lib.hid (L1.out.step hb)
        clear hb L1
        go_wp2_with fail
        go_roundw
        case rel => exact ⟨j + 1, E + 1, by omega, by omega, by go_num, by go_num, by omega, by push_cast; omega, fun _ => by omega, (by show _ = _; rw [hx.out, hE.out]; omega), L2.out⟩
        case measure => simp [intOf]; omega
      · have hbit : bitN W (j + 1) = false := by simpa using hbit
        have hx := Lib.hid (exc_off hbit)
        go_wp2_with fail
        refine (spec_biAt z A n c W (j + 1) _ hn ⟨L1.out.row, hW.out⟩ (by omega)).mono ?_; rintro e w2 ⟨rfl, hb⟩
        have L2 := Lib.hid (L1.out.step hb)
        clear hb L1
        go_wp2_with fail
        go_roundw
        case rel => exact ⟨j + 1, E - 1, by omega, by omega, by go_num, by go_num, by omega, by push_cast; omega, fun h => (by have := HP.out h; rw [hx.out] at this; have := hE.out; omega), (by show _ = _; rw [hx.out, hE.out]; omega), L2.out⟩
        case measure => simp [intOf]; omega
    · obtain rfl : j = q := by omega
      have h0 : E = 0 := by rw [hE.out, HM.out.2.1]; omega
      subst h0
      go_wp2_with fail
      go_ret
      exact ⟨rfl, L1.out.below⟩

set_option maxHeartbeats 1000000 in
theorem spec_raAbove_yes (z : Int) (A : Option Addr) (n c : Nat) (W : Nat → Nat) (i a : Nat) (w : World) (hn : n ≤ 1048576) (hr : WRow w A n W) (hz : i < 16 * n) (hz1 : i ≤ 4096) (hm : Above W i a) :
    Calls Try.prog 49 #[.agg #[.int .i64 z, .slice A n c], .int .i64 i] w fun e w' => e = .returned (.int .i64 a) ∧ Below w.heap.size w w' := by
  have L0 := Lib.hid (LS.start (z := z) (c := c) hr.1 28)
  have hW := Lib.hid hr.2
  have hai := hm.1
  have HM := Lib.hid hm
  clear hr hm
  go_enter Try.func49, Try.ntmps49
  go_wp2_with fail
  go_loopw [5, 6] (fun x k wr => ∃ (j : Nat) (E : Int), a < j ∧ j ≤ i ∧ k = .int .i64 ((j : Int) - 1) ∧ x = .int .i64 E ∧ 0 ≤ E ∧ E ≤ i - j ∧ Hid (E = exc W j - exc W i) ∧ LS w w.heap.size z A n c (fun i => (W i : Int)) wr) (fun _ k _ => (intOf k).toNat)
  case atStart => exact ⟨i, 0, by omega, by omega, by go_num, rfl, by omega, by omega, (by show _ = _; omega), L0.out⟩
  case round =>
    obtain ⟨j, E, hj0, hj, rfl, rfl, hE0, hE1, hE, hl⟩ := hrel
    have L1 := Lib.hid hl
    obtain ⟨hs1, c0, c1⟩ := hl.box
    clear hl L0
    obtain ⟨j, rfl⟩ : ∃ m, j = m + 1 := ⟨j - 1, by omega⟩
    have ek : ((j + 1 : Nat) : Int) - 1 = (j : Int) := by omega
    rw [ek]
    by_cases hlt : a < j
    · have HP := Lib.hid (HM.out.2.2 j hlt (by omega))
      by_cases hbit : bitN W j = true
      · have hx := Lib.hid (exc_on hbit)
        have hE3 : 1 ≤ E := by have := HP.out; have := hE.out; have := hx.out; omega
        have hE4 : (E == 0) = false := by simp; omega
        go_wp2_with fail
        refine (spec_biAt z A n c W j _ hn ⟨L1.out.row, hW.out⟩ (by omega)).mono ?_; rintro e w2 ⟨rfl, hb⟩
        have L2 := Lib.hid (L1.out.step hb)
        clear hb L1
        go_wp2_with fail
        go_roundw
        case rel => exact ⟨j, E - 1, by omega, by omega, by go_num, by go_num, by omega, by omega, (by show _ = _; have := hx.out; have := hE.out; omega), L2.out⟩
        case measure => simp [intOf]; omega
      · have hbit : bitN W j = false := by simpa using hbit
        have hx := Lib.hid (exc_off hbit)
        go_wp2_with fail
        refine (spec_biAt z A n c W j _ hn ⟨L1.out.row, hW.out⟩ (by omega)).mono ?_; rintro e w2 ⟨rfl, hb⟩
        have L2 := Lib.hid (L1.out.step hb)
        clear hb L1
        go_wp2_with fail
        go_roundw
        case rel => exact ⟨j, E + 1, by omega, by omega, by go_num, by go_num, by omega, by omega, (by show _ = _; have := hx.out; have := hE.out; omega), L2.out⟩
        case measure => simp [intOf]; omega
    · obtain rfl : j = a := by omega
      have hbit := HM.out.on
      have hx := Lib.hid (exc_on hbit)
      have hE3 : E = 0 := by have := HM.out.2.1; have := hE.out; have := hx.out; omega
      subst hE3
      go_wp2_with fail
      refine (spec_biAt z A n c W j _ hn ⟨L1.out.row, hW.out⟩ (by omega)).mono ?_; rintro e w2 ⟨rfl, hb⟩
      have L2 := Lib.hid (L1.out.step hb)
      clear hb L1
      go_wp2_with fail
      go_ret
      exact ⟨rfl, L2.out.below⟩

set_option maxHeartbeats 1000000 in
theorem spec_raAbove_no (z : Int) (A : Option Addr) (n c : Nat) (W : Nat → Nat) (i : Nat) (w : World) (hn : n ≤ 1048576) (hr : WRow w A n W) (hz : i < 16 * n) (hz1 : i ≤ 4096) (hm : NoAbove W i) :
    Calls Try.prog 49 #[.agg #[.int .i64 z, .slice A n c], .int .i64 i] w fun e w' => e = .returned (.int .i64 (-1)) ∧ Below w.heap.size w w' := by
  have L0 := Lib.hid (LS.start (z := z) (c := c) hr.1 28)
  have hW := Lib.hid hr.2
  have HM := Lib.hid hm
  clear hr hm
  go_enter Try.func49, Try.ntmps49
  go_wp2_with fail
  go_loopw [5, 6] (fun x k wr => ∃ (j : Nat) (E : Int), j ≤ i ∧ k = .int .i64 ((j : Int) - 1) ∧ x = .int .i64 E ∧ 0 ≤ E ∧ E ≤ i - j ∧ Hid (E = exc W j - exc W i) ∧ LS w w.heap.size z A n c (fun i => (W i : Int)) wr) (fun _ k _ => (intOf k + 1).toNat)
  case atStart => exact ⟨i, 0, by omega, by go_num, rfl, by omega, by omega, (by show _ = _; omega), L0.out⟩
  case round =>
    obtain ⟨j, E, hj, rfl, rfl, hE0, hE1, hE, hl⟩ := hrel
    have L1 := Lib.hid hl
    obtain ⟨hs1, c0, c1⟩ := hl.box
    clear hl L0
    rcases Nat.eq_zero_or_pos j with rfl | hjp
    · go_wp2_with fail
      go_ret
      exact ⟨rfl, L1.out.below⟩
    · obtain ⟨j, rfl⟩ : ∃ m, j = m + 1 := ⟨j - 1, by omega⟩
      have ek : ((j + 1 : Nat) : Int) - 1 = (j : Int) := by omega
      rw [ek]
      have HP := Lib.hid (HM.out j (by omega))
      by_cases hbit : bitN W j = true
      · have hx := Lib.hid (exc_on hbit)
        have hE3 : 1 ≤ E := by have := HP.out; have := hE.out; have := hx.out; omega
        have hE4 : (E == 0) = false := by simp; omega
        go_wp2_with fail
        refine (spec_biAt z A n c W j _ hn ⟨L1.out.row, hW.out⟩ (by omega)).mono ?_; rintro e w2 ⟨rfl, hb⟩
        have L2 := Lib.hid (L1.out.step hb)
        clear hb L1
        go_wp2_with fail
        go_roundw
        case rel => exact ⟨j, E - 1, by omega, by go_num, by go_num, by omega, by omega, (by show _ = _; have := hx.out; have := hE.out; omega), L2.out⟩
        case measure => simp [intOf]
      · have hbit : bitN W j = false := by simpa using hbit
        have hx := Lib.hid (exc_off hbit)
        go_wp2_with fail
        refine (spec_biAt z A n c W j _ hn ⟨L1.out.row, hW.out⟩ (by omega)).mono ?_; rintro e w2 ⟨rfl, hb⟩
        have L2 := Lib.hid (L1.out.step hb)
        clear hb L1
        go_wp2_with fail
        go_roundw
        case rel => exact ⟨j, E + 1, by omega, by go_num, by go_num, by omega, by omega, (by show _ = _; have := hx.out; have := hE.out; omega), L2.out⟩
        case measure => simp [intOf]
end Go.Proofs.Ytmampgkhobbdcab
