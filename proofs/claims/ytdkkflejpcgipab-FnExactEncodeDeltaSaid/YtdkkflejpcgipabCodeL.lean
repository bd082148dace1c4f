/- Lengths of codes: both ways. -/
import Derived.Test.YtdkkflejpcgipabCodeK
import Derived.Test.YtdkkflejpcgipabKeys
namespace Go.Proofs.Ytdkkflejpcgipab
open Go.RowKit

theorem two_shl (l : Nat) : (2 : Int) * 2 ^ l = ((2 ^ (l + 1) : Nat) : Int) := by rw [Nat.pow_succ]; push_cast; rw [Int.mul_comm]
set_option maxHeartbeats 1000000 in
theorem spec_spDigits (n l : Nat) (w : World) (hn : n ≤ 100000) (h : IsL n l) : Calls Try.prog 43 #[.int .i64 n] w fun e w' => e = .returned (.int .i64 l) ∧ w = w' := by
  have hl := isL_le h hn
  have HL := Lib.hid h
  clear h
  go_enter Try.func43, Try.ntmps43
  go_wp2_with fail
  go_loop [3] (fun i => ∃ u : Nat, u ≤ l ∧ i = .int .i64 u) (fun i => l - (intOf i).toNat)
  case atStart => exact ⟨0, Nat.zero_le _, rfl⟩
  case round =>
    obtain ⟨u, hu, rfl⟩ := hrel
    have e2 := two_shl u
    have hb : 2 ^ (u + 1) ≤ 2 ^ 17 := Nat.pow_le_pow_right (by omega) (by omega)
    have h17 : (2 : Nat) ^ 17 = 131072 := by decide
    have hlo : u < l → 2 ^ (u + 1) ≤ n := fun h => Nat.le_trans (Nat.pow_le_pow_right (by omega) h) HL.out.1
    have hhi : u = l → n < 2 ^ (u + 1) := fun h => by rw [h]; exact HL.out.2
    generalize 2 ^ (u + 1) = P at *
    clear h17
    have hPb : P ≤ 131072 := by omega
    clear hb
    by_cases hlt : u < l
    · have hle := hlo hlt
      clear hlo hhi
      go_wp2_with fail
      go_round
      case rel => exact ⟨u + 1, by omega, by go_num⟩
      case measure => simp [intOf]; omega
    · obtain rfl : u = l := by omega
      have hle := hhi rfl
      clear hlo hhi
      go_wp2_with fail
      go_ret
      exact ⟨rfl, rfl⟩
theorem spec_spNumber_yes (x : Int) (w : World) (h : 1 ≤ x ∧ x ≤ 100000) : Calls Try.prog 42 #[.int .i64 x] w fun e w' => e = .returned (.bool true) ∧ w = w' := by
  go_enter Try.func42, Try.ntmps42
  go_wp2_with fail
  refine (l1In_yes _ _ _ _ h.1 h.2).mono ?_; rintro e w' ⟨rfl, rfl⟩
  go_wp2_with fail
  go_ret
  exact ⟨rfl, rfl⟩
theorem spec_spNumber_no (x : Int) (w : World) (h : ¬ (1 ≤ x ∧ x ≤ 100000)) : Calls Try.prog 42 #[.int .i64 x] w fun e w' => e = .returned (.bool false) ∧ w = w' := by
  have HF := Lib.hid h
  clear h
  go_enter Try.func42, Try.ntmps42
  go_wp2_with fail
  refine (l1In_no _ _ _ _ HF.out).mono ?_; rintro e w' ⟨rfl, rfl⟩
  go_wp2_with fail
  go_ret
  exact ⟨rfl, rfl⟩
set_option maxHeartbeats 1000000 in
theorem spec_gammaLength_yes (n l : Nat) (w : World) (h1 : 1 ≤ n) (hn : n ≤ 100000) (h : IsL n l) : Calls Try.prog 12 #[.int .i64 n] w fun e w' => e = .returned (.tuple #[.int .i64 (2 * (l : Int) + 1), .bool true]) ∧ w = w' := by
  have hl := isL_le h hn
  have HL := Lib.hid h
  clear h
  go_enter Try.func12, Try.ntmps12
  go_wp2_with fail
  refine (spec_spNumber_yes _ _ (by omega)).mono ?_; rintro e w' ⟨rfl, rfl⟩
  go_wp2_with fail
  refine (spec_spDigits n l _ hn HL.out).mono ?_; rintro e w' ⟨rfl, rfl⟩
  go_wp2_with fail
  go_ret2
  exact ⟨rfl, rfl⟩
set_option maxHeartbeats 1000000 in
theorem spec_deltaLength_yes (n l k : Nat) (w : World) (h1 : 1 ≤ n) (hn : n ≤ 100000) (h : IsL n l) (h' : IsL (l + 1) k) : Calls Try.prog 14 #[.int .i64 n] w fun e w' => e = .returned (.tuple #[.int .i64 (2 * (k : Int) + 1 + (l : Int)), .bool true]) ∧ w = w' := by
  have hl := isL_le h hn
  have hk := isL_le h' (by omega)
  have HL := Lib.hid h
  have HK := Lib.hid (fun W => spec_spDigits (l + 1) k W (by omega) h')
  clear h h'
  go_enter Try.func14, Try.ntmps14
  go_wp2_with fail
  refine (spec_spNumber_yes _ _ (by omega)).mono ?_; rintro e w' ⟨rfl, rfl⟩
  go_wp2_with fail
  refine (spec_spDigits n l _ hn HL.out).mono ?_; rintro e w' ⟨rfl, rfl⟩
  go_wp2_with fail
  rw [show (l : Int) + 1 = ((l + 1 : Nat) : Int) by push_cast; rfl]
  refine (HK.out _).mono ?_; rintro e w' ⟨rfl, rfl⟩
  go_wp2_with fail
  refine (spec_spDigits n l _ hn HL.out).mono ?_; rintro e w' ⟨rfl, rfl⟩
  go_wp2_with fail
  go_ret2
  exact ⟨rfl, rfl⟩

theorem spec_gammaLength_no (x : Int) (w : World) (h : ¬ (1 ≤ x ∧ x ≤ 100000)) : Calls Try.prog 12 #[.int .i64 x] w fun e w' => e = .returned (.tuple #[.int .i64 0, .bool false]) ∧ w = w' := by
  have HF := Lib.hid h
  clear h
  go_enter Try.func12, Try.ntmps12
  go_wp2_with fail
  refine (spec_spNumber_no _ _ HF.out).mono ?_; rintro e w' ⟨rfl, rfl⟩
  go_wp2_with fail
  go_ret2
  exact ⟨rfl, rfl⟩
set_option maxHeartbeats 1000000 in
theorem impl_gammaLength (x z : Int) (m : Nat) (Y : Nat → Int) (b : Bool) (w : World) (h : ∀ W, Calls Try.prog 44 #[.int .i64 x] W (OwnIs z m Y b W)) : Calls Try.prog 13 #[.int .i64 x] w fun e w' => e = .returned (.tuple #[.int .i64 z, .bool b]) ∧ Below w.heap.size w w' := by
  have HH := Lib.hid h
  clear h
  go_enter Try.func13, Try.ntmps13
  go_wp2_with fail
  refine (HH.out _).mono ?_; rintro e w1 ⟨A, c, rfl, _, hb⟩
  have HB := Lib.hid hb
  clear hb
  go_wp2_with fail
  go_ret2
  exact ⟨rfl, HB.out.alloc HB.out.size _⟩

theorem spec_deltaLength_no (x : Int) (w : World) (h : ¬ (1 ≤ x ∧ x ≤ 100000)) : Calls Try.prog 14 #[.int .i64 x] w fun e w' => e = .returned (.tuple #[.int .i64 0, .bool false]) ∧ w = w' := by
  have HF := Lib.hid h
  clear h
  go_enter Try.func14, Try.ntmps14
  go_wp2_with fail
  refine (spec_spNumber_no _ _ HF.out).mono ?_; rintro e w' ⟨rfl, rfl⟩
  go_wp2_with fail
  go_ret2
  exact ⟨rfl, rfl⟩
set_option maxHeartbeats 1000000 in
theorem impl_deltaLength (x z : Int) (m : Nat) (Y : Nat → Int) (b : Bool) (w : World) (h : ∀ W, Calls Try.prog 45 #[.int .i64 x] W (OwnIs z m Y b W)) : Calls Try.prog 15 #[.int .i64 x] w fun e w' => e = .returned (.tuple #[.int .i64 z, .bool b]) ∧ Below w.heap.size w w' := by
  have HH := Lib.hid h
  clear h
  go_enter Try.func15, Try.ntmps15
  go_wp2_with fail
  refine (HH.out _).mono ?_; rintro e w1 ⟨A, c, rfl, _, hb⟩
  have HB := Lib.hid hb
  clear hb
  go_wp2_with fail
  go_ret2
  exact ⟨rfl, HB.out.alloc HB.out.size _⟩
end Go.Proofs.Ytdkkflejpcgipab
