/- Are strings keys: the program's and the model's. -/
import Derived.Test.YthaipemgndahfaaObjStr
import Derived.Test.YthaipemgndahfaaHash
import Derived.Test.YthaipemgndahfaaOpen
namespace Go.Proofs.Ythaipemgndahfaa
open Go.RowKit

def stepK (S : Nat → ByteArray) (i : Nat) : Bool := isKeyB (S i).data.toList && (decide (i = 0) || Go.Op.bytesLess (S (i - 1)).toList (S i).toList)
def allK (S : Nat → ByteArray) (k : Nat) : Bool := (List.range k).all (stepK S)
def keysB (S : Nat → ByteArray) (n : Nat) : Bool := decide (n ≤ 40) && allK S n
theorem allK_succ (S : Nat → ByteArray) (k : Nat) : allK S (k + 1) = (allK S k && stepK S k) := by simp [allK, List.range_succ]
theorem allK_bad {S : Nat → ByteArray} {k n : Nat} (hk : k < n) (h : stepK S k = false) : allK S n = false := by
  unfold allK
  rw [List.all_eq_false]
  exact ⟨k, List.mem_range.2 hk, by simp [h]⟩
theorem allK_at {S : Nat → ByteArray} {k n : Nat} (hk : k < n) (h : allK S n = true) : stepK S k = true := by
  unfold allK at h
  exact List.all_eq_true.1 h k (List.mem_range.2 hk)
theorem keysB_size {S : Nat → ByteArray} {n : Nat} (h : keysB S n = true) : n ≤ 40 := by simp [keysB] at h; exact h.1

set_option maxHeartbeats 1000000 in
theorem impl_areKeys (A : Option Addr) (n c : Nat) (S : Nat → ByteArray) (w : World) (hn : n ≤ 1048576) (hs : ∀ i, i < n → (S i).size ≤ maxLen) (hr : GRow w A n (strV S)) :
    Calls Try.prog 42 #[.slice A n c] w fun e w' => e = .returned (.bool (keysB S n)) ∧ w = w' := by
  have HR := Lib.hid hr
  have HS := Lib.hid hs
  clear hr hs
  by_cases h40 : (40 : Int) < (n : Int)
  · have hk : keysB S n = false := by simp [keysB]; intro h; omega
    go_enter Try.func42, Try.ntmps42
    go_wp2_with fail
    go_ret
    exact ⟨by first | rfl | (rw [hk]; rfl), rfl⟩
  · go_enter Try.func42, Try.ntmps42
    go_wp2_with fail
    go_loop [10] (fun i => ∃ k : Nat, k ≤ n ∧ i = .int .i64 k ∧ Hid (allK S k = true)) (fun i => n - (intOf i).toNat)
    case atStart => exact ⟨0, Nat.zero_le _, rfl, rfl⟩
    case round =>
      obtain ⟨k, hk, rfl, hp⟩ := hrel
      by_cases hlt : k < n
      · obtain ⟨b, off, rfl, _, hc⟩ := HR.out (by omega)
        have hck := hc k hlt
        have hsk := HS.out k hlt
        unfold strV at hck
        cases hK : isKeyB (S k).data.toList with
        | false =>
          have hz := Lib.hid (show keysB S n = false by rw [keysB, allK_bad hlt (by simp [stepK, hK])]; simp)
          clear hc
          go_wp2_with fail
          refine (impl_isKey (S k) _ hsk).mono ?_; rintro e w' ⟨rfl, rfl⟩
          go_wp2_with fail
          go_ret
          exact ⟨by rw [hz.out]; rfl, rfl⟩
        | true =>
          rcases Nat.eq_zero_or_pos k with h0 | h0
          · subst h0
            rw [Nat.add_zero] at hck
            have hq : Hid (allK S (0 + 1) = true) := by show _ = _; rw [allK_succ, hp.out]; simp [stepK, hK]
            clear hc
            go_wp2_with fail
            refine (impl_isKey (S 0) _ hsk).mono ?_; rintro e w' ⟨rfl, rfl⟩
            go_wp2_with fail
            go_round
            case rel => exact ⟨0 + 1, by omega, by go_num, hq⟩
            case measure => simp [intOf]; omega
          · obtain ⟨j, rfl⟩ : ∃ j, k = j + 1 := ⟨k - 1, by omega⟩
            have hcj := hc j (by omega)
            unfold strV at hcj
            clear hc
            cases hL : Go.Op.bytesLess (S j).toList (S (j + 1)).toList with
            | true =>
              have hq : Hid (allK S (j + 1 + 1) = true) := by show _ = _; rw [allK_succ, hp.out]; simp [stepK, hK, hL]
              go_wp2_with fail
              refine (impl_isKey (S (j + 1)) _ hsk).mono ?_; rintro e w' ⟨rfl, rfl⟩
              go_wp2_with fail
              go_round
              case rel => exact ⟨j + 1 + 1, by omega, by go_num, hq⟩
              case measure => simp [intOf]; omega
            | false =>
              have hz := Lib.hid (show keysB S n = false by rw [keysB, allK_bad hlt (by simp [stepK, hL])]; simp)
              go_wp2_with fail
              refine (impl_isKey (S (j + 1)) _ hsk).mono ?_; rintro e w' ⟨rfl, rfl⟩
              go_wp2_with fail
              go_ret
              exact ⟨by rw [hz.out]; rfl, rfl⟩
      · obtain rfl : k = n := by omega
        have hz := Lib.hid (show keysB S k = true by rw [keysB, hp.out]; simp; omega)
        go_wp2_with fail
        go_ret
        exact ⟨by rw [hz.out]; rfl, rfl⟩
set_option maxHeartbeats 1000000 in
theorem spec_biKeys (A : Option Addr) (n c : Nat) (S : Nat → ByteArray) (w : World) (hn : n ≤ 1048576) (hs : ∀ i, i < n → (S i).size ≤ maxLen) (hr : GRow w A n (strV S)) :
    Calls Try.prog 39 #[.slice A n c] w fun e w' => e = .returned (.bool (keysB S n)) ∧ w = w' := by
  have HR := Lib.hid hr
  have HS := Lib.hid hs
  clear hr hs
  go_enter Try.func39, Try.ntmps39
  go_wp2_with fail
  go_loop [7] (fun i => ∃ k : Nat, k ≤ n ∧ i = .int .i64 k ∧ Hid (allK S k = true)) (fun i => n - (intOf i).toNat)
  case atStart => exact ⟨0, Nat.zero_le _, rfl, rfl⟩
  case round =>
    obtain ⟨k, hk, rfl, hp⟩ := hrel
    by_cases hlt : k < n
    · obtain ⟨b, off, rfl, _, hc⟩ := HR.out (by omega)
      have hck := hc k hlt
      have hsk := HS.out k hlt
      unfold strV at hck
      cases hK : isKeyB (S k).data.toList with
      | false =>
        have hz := Lib.hid (show keysB S n = false by rw [keysB, allK_bad hlt (by simp [stepK, hK])]; simp)
        clear hc
        go_wp2_with fail
        refine (spec_isKey (S k) _ hsk).mono ?_; rintro e w' ⟨rfl, rfl⟩
        go_wp2_with fail
        go_ret
        exact ⟨by rw [hz.out]; rfl, rfl⟩
      | true =>
        rcases Nat.eq_zero_or_pos k with h0 | h0
        · subst h0
          rw [Nat.add_zero] at hck
          have hq : Hid (allK S (0 + 1) = true) := by show _ = _; rw [allK_succ, hp.out]; simp [stepK, hK]
          clear hc
          go_wp2_with fail
          refine (spec_isKey (S 0) _ hsk).mono ?_; rintro e w' ⟨rfl, rfl⟩
          go_wp2_with fail
          go_round
          case rel => exact ⟨0 + 1, by omega, by go_num, hq⟩
          case measure => simp [intOf]; omega
        · obtain ⟨j, rfl⟩ : ∃ j, k = j + 1 := ⟨k - 1, by omega⟩
          have hcj := hc j (by omega)
          unfold strV at hcj
          clear hc
          cases hL : Go.Op.bytesLess (S j).toList (S (j + 1)).toList with
          | true =>
            have hq : Hid (allK S (j + 1 + 1) = true) := by show _ = _; rw [allK_succ, hp.out]; simp [stepK, hK, hL]
            go_wp2_with fail
            refine (spec_isKey (S (j + 1)) _ hsk).mono ?_; rintro e w' ⟨rfl, rfl⟩
            go_wp2_with fail
            go_round
            case rel => exact ⟨j + 1 + 1, by omega, by go_num, hq⟩
            case measure => simp [intOf]; omega
          | false =>
            have hz := Lib.hid (show keysB S n = false by rw [keysB, allK_bad hlt (by simp [stepK, hL])]; simp)
            go_wp2_with fail
            refine (spec_isKey (S (j + 1)) _ hsk).mono ?_; rintro e w' ⟨rfl, rfl⟩
            go_wp2_with fail
            go_ret
            exact ⟨by rw [hz.out]; rfl, rfl⟩
    · obtain rfl : k = n := by omega
      have hz := Lib.hid (show keysB S k = decide ((k : Int) ≤ 40) by rw [keysB, hp.out, Bool.and_true]; exact decide_eq_decide.2 (by omega))
      go_wp2_with fail
      go_ret
      exact ⟨ret_bool hz.out.symm, rfl⟩

theorem SRow.grow {w : World} {A : Option Addr} {n : Nat} {S : Nat → ByteArray} (h : SRow w A n S) : GRow w A n (strV S) := fun hn => by
  obtain ⟨b, off, hA, hb, hc⟩ := h hn
  exact ⟨b, off, hA, hb, fun k hk => (hc k hk).1⟩
theorem SRow.size {w : World} {A : Option Addr} {n : Nat} {S : Nat → ByteArray} (h : SRow w A n S) : ∀ i, i < n → (S i).size ≤ maxLen := fun i hi => by
  obtain ⟨b, off, hA, hb, hc⟩ := h (by omega)
  exact (hc i hi).2
end Go.Proofs.Ythaipemgndahfaa
