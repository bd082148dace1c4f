/- Contracts of the functions on keys and hashes: what each call returns; none of them writes or makes memory. -/
import Derived.Test.YthaipemgndahfaaRows
import Derived.Test.YthaipemgndahfaaBase
import Derived.WalkSpells
import Derived.WalkLawsBesides
namespace Go.Proofs.Ythaipemgndahfaa
open Go.RowKit

theorem l1In_any (n lo hi : Int) (w : World) :
    Calls Try.prog 40 #[.int .i64 n, .int .i64 lo, .int .i64 hi] w fun e w' => e = .returned (.bool (decide (lo ≤ n ∧ n ≤ hi))) ∧ w = w' := by
  by_cases h1 : lo ≤ n <;> by_cases h2 : n ≤ hi
  all_goals
    go_enter Try.func40, Try.ntmps40
    go_wp2
    go_ret
    exact ⟨ret_bool (by simp [*] <;> omega), rfl⟩

theorem l1In_yes (n lo hi : Int) (w : World) (h1 : lo ≤ n) (h2 : n ≤ hi) :
    Calls Try.prog 40 #[.int .i64 n, .int .i64 lo, .int .i64 hi] w fun e w' => e = .returned (.bool true) ∧ w = w' :=
  (l1In_any n lo hi w).mono fun _ _ ⟨he, hw⟩ => ⟨by rw [he, decide_eq_true ⟨h1, h2⟩], hw⟩
theorem l1In_no (n lo hi : Int) (w : World) (h : ¬ (lo ≤ n ∧ n ≤ hi)) :
    Calls Try.prog 40 #[.int .i64 n, .int .i64 lo, .int .i64 hi] w fun e w' => e = .returned (.bool false) ∧ w = w' :=
  (l1In_any n lo hi w).mono fun _ _ ⟨he, hw⟩ => ⟨by rw [he, decide_eq_false h], hw⟩

set_option maxHeartbeats 400000 in
theorem spec_isKey (s : ByteArray) (w : World) (hs : s.size ≤ maxLen) :
    Calls Try.prog 65 #[.string s] w fun e w' => e = .returned (.bool (isKeyB s.data.toList)) ∧ w = w' := by
  unfold maxLen at hs
  go_enter Try.func65, Try.ntmps65
  go_wp2
  go_loop [3] (fun i => ∃ k : Nat, k ≤ s.size ∧ i = .int .i64 k ∧ Hid (keyB (s.data.toList.take k) = true)) (fun i => s.size - (intOf i).toNat)
  case atStart => exact ⟨0, Nat.zero_le _, rfl, rfl⟩
  case round =>
    obtain ⟨k, hk, rfl, hp⟩ := hrel
    by_cases hlt : k < s.size
    · by_cases h1 : (33 : Int) ≤ (s[k].toNat : Int)
      · by_cases h2 : (s[k].toNat : Int) ≤ 125
        · have hq : Hid (keyB (s.data.toList.take (k + 1)) = true) := keyB_step s k hlt hp.out h1 h2
          go_wp2
          go_round
          case rel => exact ⟨k + 1, by omega, by go_num, hq⟩
          case measure => simp [intOf]; omega
        · have hq := Lib.hid (keyB_bad s k hlt (by omega))
          go_wp2
          go_ret
          exact ⟨ret_bool (by simp [isKeyB, hq.out]), rfl⟩
      · have hq := Lib.hid (keyB_bad s k hlt (by omega))
        go_wp2
        go_ret
        exact ⟨ret_bool (by simp [isKeyB, hq.out]), rfl⟩
    · obtain rfl : k = s.size := by omega
      go_wp2_with (go_at_call 40; refine (l1In_any _ _ _ _).mono ?_; rintro e w' ⟨rfl, rfl⟩)
      go_ret
      have h3 : keyB s.data.toList = true := by have := hp.out; rwa [List.take_of_length_le (by simp)] at this
      have e : s.data.toList.length = s.size := by simp
      exact ⟨ret_bool (by rw [isKeyB, h3, e, Bool.eq_iff_iff]; simp; omega), rfl⟩

set_option maxHeartbeats 400000 in
theorem impl_isKey (s : ByteArray) (w : World) (hs : s.size ≤ maxLen) :
    Calls Try.prog 67 #[.string s] w fun e w' => e = .returned (.bool (isKeyB s.data.toList)) ∧ w = w' := by
  unfold maxLen at hs
  by_cases g1 : (s.size : Int) < 1
  · go_enter Try.func67, Try.ntmps67
    go_wp2
    go_ret
    exact ⟨ret_bool (by simp [isKeyB]; omega), rfl⟩
  · by_cases g2 : (12 : Int) < (s.size : Int)
    · go_enter Try.func67, Try.ntmps67
      go_wp2
      go_ret
      exact ⟨ret_bool (by simp [isKeyB]; omega), rfl⟩
    · have d1 : decide ((s.size : Int) < 1) = false := by simp; omega
      have d2 : decide ((12 : Int) < (s.size : Int)) = false := by simp; omega
      go_enter Try.func67, Try.ntmps67
      go_wp2
      go_loop [14] (fun i => ∃ k : Nat, k ≤ s.size ∧ i = .int .i64 k ∧ Hid (keyB (s.data.toList.take k) = true)) (fun i => s.size - (intOf i).toNat)
      case atStart => exact ⟨0, Nat.zero_le _, rfl, rfl⟩
      case round =>
        obtain ⟨k, hk, rfl, hp⟩ := hrel
        by_cases hlt : k < s.size
        · by_cases h1 : (33 : Int) ≤ (s[k].toNat : Int)
          · by_cases h2 : (s[k].toNat : Int) ≤ 125
            · have hq : Hid (keyB (s.data.toList.take (k + 1)) = true) := keyB_step s k hlt hp.out h1 h2
              go_wp2
              go_round
              case rel => exact ⟨k + 1, by omega, by go_num, hq⟩
              case measure => simp [intOf]; omega
            · have hq := Lib.hid (keyB_bad s k hlt (by omega))
              go_wp2
              go_ret
              exact ⟨ret_bool (by simp [isKeyB, hq.out]), rfl⟩
          · have hq := Lib.hid (keyB_bad s k hlt (by omega))
            go_wp2
            go_ret
            exact ⟨ret_bool (by simp [isKeyB, hq.out]), rfl⟩
        · obtain rfl : k = s.size := by omega
          go_wp2
          go_ret
          have h3 : keyB s.data.toList = true := by have := hp.out; rwa [List.take_of_length_le (by simp)] at this
          have e : s.data.toList.length = s.size := by simp
          exact ⟨ret_bool (by rw [isKeyB, h3, e, Bool.eq_iff_iff]; simp; omega), rfl⟩

end Go.Proofs.Ythaipemgndahfaa
