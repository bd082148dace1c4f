/- Contracts of the functions on keys and hashes: what each call returns; none of them writes or makes memory. -/
import Derived.Test.YtffdkfhnlgfigaaRows
import Derived.Test.YtffdkfhnlgfigaaBase
import Derived.WalkSpells
import Derived.WalkLawsBesides
namespace Go.Proofs.Ytffdkfhnlgfigaa
open Go.RowKit

theorem l1In_any (n lo hi : Int) (w : World) :
    Calls Try.prog 43 #[.int .i64 n, .int .i64 lo, .int .i64 hi] w fun e w' => e = .returned (.bool (decide (lo ≤ n ∧ n ≤ hi))) ∧ w = w' := by
  by_cases h1 : lo ≤ n <;> by_cases h2 : n ≤ hi
  all_goals
    go_enter Try.func43, Try.ntmps43
    go_wp2
    go_ret
    exact ⟨ret_bool (by simp [*] <;> omega), rfl⟩

theorem l1In_yes (n lo hi : Int) (w : World) (h1 : lo ≤ n) (h2 : n ≤ hi) :
    Calls Try.prog 43 #[.int .i64 n, .int .i64 lo, .int .i64 hi] w fun e w' => e = .returned (.bool true) ∧ w = w' :=
  (l1In_any n lo hi w).mono fun _ _ ⟨he, hw⟩ => ⟨by rw [he, decide_eq_true ⟨h1, h2⟩], hw⟩
theorem l1In_no (n lo hi : Int) (w : World) (h : ¬ (lo ≤ n ∧ n ≤ hi)) :
    Calls Try.prog 43 #[.int .i64 n, .int .i64 lo, .int .i64 hi] w fun e w' => e = .returned (.bool false) ∧ w = w' :=
  (l1In_any n lo hi w).mono fun _ _ ⟨he, hw⟩ => ⟨by rw [he, decide_eq_false h], hw⟩

set_option maxHeartbeats 400000 in
theorem spec_isKey (s : ByteArray) (w : World) (hs : s.size ≤ maxLen) :
    Calls Try.prog 128 #[.string s] w fun e w' => e = .returned (.bool (isKeyB s.data.toList)) ∧ w = w' := by
  unfold maxLen at hs
  go_enter Try.func128, Try.ntmps128
  go_wp2
  go_loop [3] (fun i => ∃ k : Nat, k ≤ s.size ∧ i = .int .i64 k ∧ Hid (keyB (s.data.toList.take k) = true)) (fun i => s.size - (intOf i).toNat)
  case atStart => exact ⟨0, Nat.zero_le _, rfl, rfl⟩
  case round =>
    obtain ⟨k, hk, rfl, hp⟩ := hrel
    by_cases hlt : k < s.size
    · by_cases h1 : (33 : Int) ≤ (s[k].toNat : Int)
      · by_cases h2 : (s[k].toNat : Int) ≤ 125
        · have hq : Hid (keyB (s.data.toList.take (k + 1)) = true) := keyB_step s k hlt hp.out h1 h2
          go_wp2
          go_round
          case rel => exact ⟨k + 1, by omega, by go_num, hq⟩
          case measure => simp [intOf]; omega
        · have hq := Lib.hid (keyB_bad s k hlt (by omega))
          go_wp2
          go_ret
          exact ⟨ret_bool (by simp [isKeyB, hq.out]), rfl⟩
      · have hq := Lib.hid (keyB_bad s k hlt (by omega))
        go_wp2
        go_ret
        exact ⟨ret_bool (by simp [isKeyB, hq.out]), rfl⟩
    · obtain rfl : k = s.size := by omega
      go_wp2_with (go_at_call 43; refine (l1In_any _ _ _ _).mono ?_; rintro e w' ⟨rfl, rfl⟩)
      go_ret
      have h3 : keyB s.data.toList = true := by have := hp.out; rwa [List.take_of_length_le (by simp)] at this
      have e : s.data.toList.length = s.size := by simp
      exact ⟨ret_bool (by rw [isKeyB, h3, e, Bool.eq_iff_iff]; simp; omega), rfl⟩

set_option maxHeartbeats 400000 in
theorem impl_isKey (s : ByteArray) (w : World) (hs : s.size ≤ maxLen) :
    Calls Try.prog 131 #[.string s] w fun e w' => e = .returned (.bool (isKeyB s.data.toList)) ∧ w = w' := by
  unfold maxLen at hs
  by_cases g1 : (s.size : Int) < 1
  · go_enter Try.func131, Try.ntmps131
    go_wp2
    go_ret
    exact ⟨ret_bool (by simp [isKeyB]; omega), rfl⟩
  · by_cases g2 : (12 : Int) < (s.size : Int)
    · go_enter Try.func131, Try.ntmps131
      go_wp2
      go_ret
      exact ⟨ret_bool (by simp [isKeyB]; omega), rfl⟩
    · have d1 : decide ((s.size : Int) < 1) = false := by simp; omega
      have d2 : decide ((12 : Int) < (s.size : Int)) = false := by simp; omega
      go_enter Try.func131, Try.ntmps131
      go_wp2
      go_loop [14] (fun i => ∃ k : Nat, k ≤ s.size ∧ i = .int .i64 k ∧ Hid (keyB (s.data.toList.take k) = true)) (fun i => s.size - (intOf i).toNat)
      case atStart => exact ⟨0, Nat.zero_le _, rfl, rfl⟩
      case round =>
        obtain ⟨k, hk, rfl, hp⟩ := hrel
        by_cases hlt : k < s.size
        · by_cases h1 : (33 : Int) ≤ (s[k].toNat : Int)
          · by_cases h2 : (s[k].toNat : Int) ≤ 125
            · have hq : Hid (keyB (s.data.toList.take (k + 1)) = true) := keyB_step s k hlt hp.out h1 h2
              go_wp2
              go_round
              case rel => exact ⟨k + 1, by omega, by go_num, hq⟩
              case measure => simp [intOf]; omega
            · have hq := Lib.hid (keyB_bad s k hlt (by omega))
              go_wp2
              go_ret
              exact ⟨ret_bool (by simp [isKeyB, hq.out]), rfl⟩
          · have hq := Lib.hid (keyB_bad s k hlt (by omega))
            go_wp2
            go_ret
            exact ⟨ret_bool (by simp [isKeyB, hq.out]), rfl⟩
        · obtain rfl : k = s.size := by omega
          go_wp2
          go_ret
          have h3 : keyB s.data.toList = true := by have := hp.out; rwa [List.take_of_length_le (by simp)] at this
          have e : s.data.toList.length = s.size := by simp
          exact ⟨ret_bool (by rw [isKeyB, h3, e, Bool.eq_iff_iff]; simp; omega), rfl⟩

set_option maxHeartbeats 400000 in
theorem impl_hashKey (seed part : Int) (s : ByteArray) (w : World) (hs : s.size ≤ maxLen) (a1 : 0 ≤ seed) (a2 : seed ≤ 9999) (b1 : 0 ≤ part) (b2 : part ≤ 9) :
    Calls Try.prog 135 #[.int .i64 seed, .int .i64 part, .string s] w fun e w' => e = .returned (.int .i64 (hashI seed part s.data.toList)) ∧ w = w' := by
  unfold maxLen at hs
  go_enter Try.func135, Try.ntmps135
  go_wp2
  go_loop [7, 19] (fun hh i => ∃ (k : Nat) (h : Int), k ≤ s.size ∧ i = .int .i64 k ∧ hh = .int .i64 h ∧ 0 ≤ h ∧ h < 65521 ∧ Hid (h = hcore seed part (s.data.toList.take k))) (fun _ i => s.size - (intOf i).toNat)
  case atStart => exact ⟨0, _, Nat.zero_le _, rfl, rfl, by omega, by omega, rfl⟩
  case round =>
    obtain ⟨k, h, hk, rfl, rfl, h0, h1, hp⟩ := hrel
    by_cases hlt : k < s.size
    · have hb := byte_bd s k hlt
      have hq : Hid ((263 * h + (s[k].toNat : Int)) % 65521 = hcore seed part (s.data.toList.take (k + 1))) := by
        show _ = _
        rw [hcore_step _ _ _ _ hlt, ← hp.out]
      go_wp2
      go_round
      case rel => exact ⟨k + 1, _, by omega, by go_num, rfl, by omega, by omega, hq⟩
      case measure => simp [intOf]; omega
    · have h3 : Hid (h = hcore seed part s.data.toList) := by have := hp.out; rwa [List.take_of_length_le (by simp; omega)] at this
      clear hp
      obtain rfl : k = s.size := by omega
      go_wp2
      go_loop [9, 31] (fun hh i => ∃ (j : Nat) (x : Int), j ≤ 11 ∧ i = .int .i64 j ∧ hh = .int .i64 x ∧ 0 ≤ x ∧ x < 65521 ∧ Hid (x = h ^ j % 65521)) (fun _ i => 11 - (intOf i).toNat)
      case atStart => exact ⟨0, _, by omega, rfl, rfl, by omega, by omega, (by show (1 : Int) = h ^ 0 % 65521; simp)⟩
      case round =>
        obtain ⟨j, x, hj, rfl, rfl, x0, x1, hx⟩ := hrel
        by_cases hlt : j < 11
        · obtain ⟨m0, m1⟩ := mul_bd x h x0 x1 h0 h1
          have hy : Hid (x * h % 65521 = h ^ (j + 1) % 65521) := by
            show _ = _
            rw [hx.out]; exact pow_step h j
          go_wp2
          go_round
          case rel => exact ⟨j + 1, _, by omega, by go_num, rfl, by omega, by omega, hy⟩
          case measure => simp [intOf]; omega
        · obtain rfl : j = 11 := by omega
          go_wp2
          go_ret
          exact ⟨ret_int (by rw [hx.out, h3.out]; rfl), rfl⟩

set_option maxHeartbeats 400000 in
theorem spec_biHash (seed part : Int) (s : ByteArray) (w : World) (hs : s.size ≤ maxLen) (a1 : 0 ≤ seed) (a2 : seed ≤ 9999) (b1 : 0 ≤ part) (b2 : part ≤ 9) :
    Calls Try.prog 134 #[.int .i64 seed, .int .i64 part, .string s] w fun e w' => e = .returned (.int .i64 (hashI seed part s.data.toList)) ∧ w = w' := by
  unfold maxLen at hs
  go_enter Try.func134, Try.ntmps134
  go_wp2
  go_loop [7, 8] (fun hh i => ∃ (k : Nat) (h : Int), k ≤ s.size ∧ i = .int .i64 k ∧ hh = .int .i64 h ∧ 0 ≤ h ∧ h < 65521 ∧ Hid (h = hcore seed part (s.data.toList.take k))) (fun _ i => s.size - (intOf i).toNat)
  case atStart => exact ⟨0, _, Nat.zero_le _, rfl, rfl, by omega, by omega, rfl⟩
  case round =>
    obtain ⟨k, h, hk, rfl, rfl, h0, h1, hp⟩ := hrel
    by_cases hlt : k < s.size
    · have hb := byte_bd s k hlt
      have hq : Hid ((263 * h + (s[k].toNat : Int)) % 65521 = hcore seed part (s.data.toList.take (k + 1))) := by
        show _ = _
        rw [hcore_step _ _ _ _ hlt, ← hp.out]
      go_wp2
      go_round
      case rel => exact ⟨k + 1, _, by omega, by go_num, rfl, by omega, by omega, hq⟩
      case measure => simp [intOf]; omega
    · have h3 : Hid (h = hcore seed part s.data.toList) := by have := hp.out; rwa [List.take_of_length_le (by simp; omega)] at this
      clear hp
      obtain rfl : k = s.size := by omega
      obtain ⟨p0, p1⟩ := mul_bd h h h0 h1 h0 h1
      obtain ⟨q0, q1⟩ := mul_bd (h * h % 65521) (h * h % 65521) (by omega) (by omega) (by omega) (by omega)
      obtain ⟨r0, r1⟩ := mul_bd (h * h % 65521 * (h * h % 65521) % 65521) h (by omega) (by omega) (by omega) (by omega)
      obtain ⟨t0, t1⟩ := mul_bd (h * h % 65521 * (h * h % 65521) % 65521 * h % 65521) (h * h % 65521 * (h * h % 65521) % 65521 * h % 65521) (by omega) (by omega) (by omega) (by omega)
      obtain ⟨u0, u1⟩ := mul_bd (h * h % 65521 * (h * h % 65521) % 65521 * h % 65521 * (h * h % 65521 * (h * h % 65521) % 65521 * h % 65521) % 65521) h (by omega) (by omega) (by omega) (by omega)
      go_wp2
      go_ret
      exact ⟨ret_int (by rw [hashI, ← h3.out]; exact pow11_spec h), rfl⟩

theorem impl_isHashNumber (seed part : Int) (w : World) :
    Calls Try.prog 130 #[.int .i64 seed, .int .i64 part] w fun e w' => e = .returned (.bool (seedB seed part)) ∧ w = w' := by
  by_cases h1 : 0 ≤ seed <;> by_cases h2 : seed ≤ 9999 <;> by_cases h3 : 0 ≤ part <;> by_cases h4 : part ≤ 9
  all_goals
    go_enter Try.func130, Try.ntmps130
    go_wp2
    go_ret
    exact ⟨ret_bool (by simp [seedB] <;> omega), rfl⟩

end Go.Proofs.Ytffdkfhnlgfigaa
