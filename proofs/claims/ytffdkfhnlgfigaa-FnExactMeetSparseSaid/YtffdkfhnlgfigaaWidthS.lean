/- The width of sorted numbers: the program's loop and the model's. -/
import Derived.Test.YtffdkfhnlgfigaaSpM
import Derived.Test.YtffdkfhnlgfigaaKeys
import Derived.Lib.MinMax
namespace Go.Proofs.Ytffdkfhnlgfigaa
open Go.RowKit

def WOk (a b : Int) : Prop := 0 ≤ a ∧ a ≤ 60 ∧ 1 ≤ b ∧ b ≤ 100000
theorem most_is (a b : Int) (w : World) : Calls Try.prog 90 #[.int .i64 a, .int .i64 b] w fun e w' => e = .returned (.int .i64 (max a b)) ∧ w = w' := by
  by_cases h : b < a
  · rw [show max a b = a by omega]
    go_enter Try.func90, Try.ntmps90
    go_wp2_with fail
    go_ret
    exact ⟨rfl, rfl⟩
  · rw [show max a b = b by omega]
    go_enter Try.func90, Try.ntmps90
    go_wp2_with fail
    go_ret
    exact ⟨rfl, rfl⟩
theorem w_small {c v : Nat} (hc : c ≤ 60) (hv : v ≤ 16) : max c 1 * 2 ^ (v + 1) ≤ 7864320 := by
  have h1 : 2 ^ (v + 1) ≤ 2 ^ 17 := Nat.pow_le_pow_right (by omega) (by omega)
  have h2 : max c 1 * 2 ^ (v + 1) ≤ 60 * 2 ^ 17 := Nat.mul_le_mul (by omega) h1
  have h3 : (2 : Nat) ^ 17 = 131072 := by decide
  omega

set_option maxHeartbeats 1000000 in
theorem spec_spWidth (c L v : Nat) (w : World) (hc : c ≤ 60) (hL : L ≤ 100000) (h : IsW c L v) :
    Calls Try.prog 45 #[.int .i64 c, .int .i64 L] w fun e w' => e = .returned (.int .i64 v) ∧ w = w' := by
  have hv := isW_le h hL
  have HW := Lib.hid h
  clear h
  go_enter Try.func45, Try.ntmps45
  go_wp2_with fail
  go_loop [5] (fun i => ∃ u : Nat, u ≤ v ∧ i = .int .i64 u) (fun i => v - (intOf i).toNat)
  case atStart => exact ⟨0, Nat.zero_le _, rfl⟩
  case round =>
    obtain ⟨u, hu, rfl⟩ := hrel
    have hs := w_small hc (show u ≤ 16 by omega)
    have hm : max (c : Int) 1 = ((max c 1 : Nat) : Int) := by omega
    by_cases hlt : u < v
    · have h1 := isW_step HW.out hlt
      generalize max c 1 = m at *
      generalize hp : m * 2 ^ (u + 1) = P at *
      have hP : (m : Int) * 2 ^ (u + 1) = (P : Int) := by rw [← hp]; push_cast; rfl
      clear hp
      go_wp2_with fail
      refine (most_is _ _ _).mono ?_; rintro e w' ⟨rfl, rfl⟩
      rw [hm]
      go_wp2_with fail
      go_round
      case rel => exact ⟨u + 1, by omega, by go_num⟩
      case measure => simp [intOf]; omega
    · obtain rfl : u = v := by omega
      have h1 := HW.out.2
      generalize max c 1 = m at *
      generalize hp : m * 2 ^ (u + 1) = P at *
      have hP : (m : Int) * 2 ^ (u + 1) = (P : Int) := by rw [← hp]; push_cast; rfl
      clear hp
      go_wp2_with fail
      refine (most_is _ _ _).mono ?_; rintro e w' ⟨rfl, rfl⟩
      rw [hm]
      go_wp2_with fail
      go_ret
      exact ⟨rfl, rfl⟩

set_option maxHeartbeats 1000000 in
theorem impl_width_yes (c L v : Nat) (w : World) (hc : c ≤ 60) (hL1 : 1 ≤ L) (hL : L ≤ 100000) (h : IsW c L v) :
    Calls Try.prog 10 #[.int .i64 c, .int .i64 L] w fun e w' => e = .returned (.tuple #[.int .i64 v, .bool true]) ∧ w = w' := by
  have hv := isW_le h hL
  have HW := Lib.hid h
  clear h
  have d0 : decide ((c : Int) < 0) = false := by simp
  have d1 : decide ((60 : Int) < c) = false := by simp; omega
  have d2 : decide ((L : Int) < 1) = false := by simp; omega
  have d3 : decide ((100000 : Int) < L) = false := by simp; omega
  go_enter Try.func10, Try.ntmps10
  go_wp2_with fail
  go_loop [6] (fun i => ∃ u : Nat, u ≤ v ∧ i = .int .i64 u) (fun i => v - (intOf i).toNat)
  case atStart => exact ⟨0, Nat.zero_le _, rfl⟩
  case round =>
    obtain ⟨u, hu, rfl⟩ := hrel
    have hs := w_small hc (show u ≤ 16 by omega)
    have hm : max (c : Int) 1 = ((max c 1 : Nat) : Int) := by omega
    by_cases hlt : u < v
    · have h1 := isW_step HW.out hlt
      generalize max c 1 = m at *
      generalize hp : m * 2 ^ (u + 1) = P at *
      have hP : (m : Int) * 2 ^ (u + 1) = (P : Int) := by rw [← hp]; push_cast; rfl
      clear hp
      go_wp2_with fail
      go_round
      case rel => exact ⟨u + 1, by omega, by go_num⟩
      case measure => simp [intOf]; omega
    · obtain rfl : u = v := by omega
      have h1 := HW.out.2
      generalize max c 1 = m at *
      generalize hp : m * 2 ^ (u + 1) = P at *
      have hP : (m : Int) * 2 ^ (u + 1) = (P : Int) := by rw [← hp]; push_cast; rfl
      clear hp
      go_wp2_with fail
      go_ret2
      exact ⟨rfl, rfl⟩
set_option maxHeartbeats 1000000 in
theorem impl_width_no (a b : Int) (w : World) (h : ¬ WOk a b) :
    Calls Try.prog 10 #[.int .i64 a, .int .i64 b] w fun e w' => e = .returned (.tuple #[.int .i64 0, .bool false]) ∧ w = w' := by
  by_cases h0 : a < 0
  · have d0 : decide (a < 0) = true := by simpa using h0
    go_enter Try.func10, Try.ntmps10
    go_wp2_with fail
    go_ret2
    exact ⟨rfl, rfl⟩
  have d0 : decide (a < 0) = false := by simpa using h0
  by_cases h1 : 60 < a
  · have d1 : decide (60 < a) = true := by simpa using h1
    go_enter Try.func10, Try.ntmps10
    go_wp2_with fail
    go_ret2
    exact ⟨rfl, rfl⟩
  have d1 : decide (60 < a) = false := by simpa using h1
  by_cases h2 : b < 1
  · have d2 : decide (b < 1) = true := by simpa using h2
    go_enter Try.func10, Try.ntmps10
    go_wp2_with fail
    go_ret2
    exact ⟨rfl, rfl⟩
  have d2 : decide (b < 1) = false := by simpa using h2
  have d3 : decide (100000 < b) = true := by simp; unfold WOk at h; omega
  go_enter Try.func10, Try.ntmps10
  go_wp2_with fail
  go_ret2
  exact ⟨rfl, rfl⟩
theorem spec_limit_yes (b : Int) (w : World) (h1 : 1 ≤ b) (h2 : b ≤ 100000) : Calls Try.prog 44 #[.int .i64 b] w fun e w' => e = .returned (.bool true) ∧ w = w' := by
  go_enter Try.func44, Try.ntmps44
  go_wp2_with fail
  refine (l1In_yes _ _ _ _ h1 h2).mono ?_; rintro e w' ⟨rfl, rfl⟩
  go_wp2_with fail
  go_ret
  exact ⟨rfl, rfl⟩
theorem spec_limit_no (b : Int) (w : World) (h : ¬ (1 ≤ b ∧ b ≤ 100000)) : Calls Try.prog 44 #[.int .i64 b] w fun e w' => e = .returned (.bool false) ∧ w = w' := by
  go_enter Try.func44, Try.ntmps44
  go_wp2_with fail
  refine (l1In_no _ _ _ _ h).mono ?_; rintro e w' ⟨rfl, rfl⟩
  go_wp2_with fail
  go_ret
  exact ⟨rfl, rfl⟩
set_option maxHeartbeats 1000000 in
theorem spec_width_yes (c L v : Nat) (w : World) (hc : c ≤ 60) (hL1 : 1 ≤ L) (hL : L ≤ 100000) (h : IsW c L v) :
    Calls Try.prog 11 #[.int .i64 c, .int .i64 L] w fun e w' => e = .returned (.tuple #[.int .i64 v, .bool true]) ∧ w = w' := by
  have HW := Lib.hid h
  clear h
  go_enter Try.func11, Try.ntmps11
  go_wp2_with fail
  refine (l1In_yes _ _ _ _ (by omega) (by omega)).mono ?_; rintro e w' ⟨rfl, rfl⟩
  go_wp2_with fail
  refine (spec_limit_yes _ _ (by omega) (by omega)).mono ?_; rintro e w' ⟨rfl, rfl⟩
  go_wp2_with fail
  refine (spec_spWidth c L v _ hc hL HW.out).mono ?_; rintro e w' ⟨rfl, rfl⟩
  go_wp2_with fail
  go_ret2
  exact ⟨rfl, rfl⟩
set_option maxHeartbeats 1000000 in
theorem spec_width_no (a b : Int) (w : World) (h : ¬ WOk a b) :
    Calls Try.prog 11 #[.int .i64 a, .int .i64 b] w fun e w' => e = .returned (.tuple #[.int .i64 0, .bool false]) ∧ w = w' := by
  go_enter Try.func11, Try.ntmps11
  by_cases h0 : 0 ≤ a ∧ a ≤ 60
  · have h1 : ¬ (1 ≤ b ∧ b ≤ 100000) := fun h' => h ⟨h0.1, h0.2, h'.1, h'.2⟩
    have HF := Lib.hid h1
    clear h h1
    go_wp2_with fail
    refine (l1In_yes _ _ _ _ h0.1 h0.2).mono ?_; rintro e w' ⟨rfl, rfl⟩
    go_wp2_with fail
    refine (spec_limit_no _ _ HF.out).mono ?_; rintro e w' ⟨rfl, rfl⟩
    go_wp2_with fail
    go_ret2
    exact ⟨rfl, rfl⟩
  · have HF := Lib.hid h0
    clear h h0
    go_wp2_with fail
    refine (l1In_no _ _ _ _ HF.out).mono ?_; rintro e w' ⟨rfl, rfl⟩
    go_wp2_with fail
    go_ret2
    exact ⟨rfl, rfl⟩
theorem wOk_nat {a b : Int} (h : WOk a b) : ∃ c L v : Nat, a = c ∧ b = L ∧ c ≤ 60 ∧ 1 ≤ L ∧ L ≤ 100000 ∧ IsW c L v := by
  obtain ⟨h0, h1, h2, h3⟩ := h
  obtain ⟨c, rfl⟩ := Int.eq_ofNat_of_zero_le h0
  obtain ⟨L, rfl⟩ := Int.eq_ofNat_of_zero_le (show 0 ≤ b by omega)
  obtain ⟨v, hv⟩ := isW_ex c L
  exact ⟨c, L, v, rfl, rfl, by omega, by omega, by omega, hv⟩
end Go.Proofs.Ytffdkfhnlgfigaa
