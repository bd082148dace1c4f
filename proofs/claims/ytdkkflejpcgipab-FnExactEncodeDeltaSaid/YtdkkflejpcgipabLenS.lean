/- math/bits.Len at small numbers. -/
import Derived.Test.YtdkkflejpcgipabCodeM
import Derived.Lib.BitFns
namespace Go.Proofs.Ytdkkflejpcgipab
open Go.RowKit

theorem bitLen_aux : ∀ (l f n : Nat), IsL n l → l < f → Lib.bitLenAux f n = l + 1 := by
  intro l
  induction l with
  | zero =>
    intro f n h hf
    obtain ⟨f, rfl⟩ : ∃ g, f = g + 1 := ⟨f - 1, by omega⟩
    have h1 := h.1; have h2 := h.2
    obtain rfl : n = 1 := by simp at h1 h2; omega
    rw [Lib.bitLenAux, if_neg (by omega)]
    cases f <;> simp [Lib.bitLenAux]
  | succ l ih =>
    intro f n h hf
    obtain ⟨f, rfl⟩ : ∃ g, f = g + 1 := ⟨f - 1, by omega⟩
    have h1 := h.1; have h2 := h.2
    have hp : 0 < 2 ^ l := Nat.pow_pos (by omega)
    have e1 : 2 ^ (l + 1) = 2 * 2 ^ l := by rw [Nat.pow_succ]; omega
    have e2 : 2 ^ (l + 1 + 1) = 2 * 2 ^ (l + 1) := by rw [Nat.pow_succ (n := 2) (m := l + 1)]; omega
    rw [Lib.bitLenAux, if_neg (by omega), ih f (n / 2) ⟨by omega, by omega⟩ (by omega)]; omega
theorem bitLen_is {n l : Nat} (h : IsL n l) (hl : l ≤ 16) : Lib.bitLen n = l + 1 := bitLen_aux l 64 n h (by omega)
theorem bitLen_half (n : Nat) (h : 0 < n) (hn : n < 2 ^ 40) : Lib.bitLen n = 1 + Lib.bitLen (n / 2) := by
  obtain ⟨l, hl⟩ := isL_ex (n := n) h
  have hl2 : l < 40 := by
    rcases Nat.lt_or_ge l 40 with e | e
    · exact e
    · have : 2 ^ 40 ≤ 2 ^ l := Nat.pow_le_pow_right (by omega) e
      have := hl.1; omega
  have e1 := bitLen_aux l 64 n hl (by omega)
  cases l with
  | zero =>
    have h1 := hl.1; have h2 := hl.2
    obtain rfl : n = 1 := by simp at h1 h2; omega
    decide
  | succ l =>
    have hp : 0 < 2 ^ l := Nat.pow_pos (by omega)
    have e3 : 2 ^ (l + 1) = 2 * 2 ^ l := by rw [Nat.pow_succ]; omega
    have e4 : 2 ^ (l + 1 + 1) = 2 * 2 ^ (l + 1) := by rw [Nat.pow_succ (n := 2) (m := l + 1)]; omega
    have e2 := bitLen_aux l 64 (n / 2) ⟨by have := hl.1; omega, by have := hl.2; omega⟩ (by omega)
    unfold Lib.bitLen
    rw [e1, e2]; omega
theorem bitLen_byte {n : Nat} (h : 256 ≤ n) (hn : n < 2 ^ 40) : Lib.bitLen n = 8 + Lib.bitLen (n / 256) := by
  have p40 : (2 : Nat) ^ 40 = 1099511627776 := by decide
  rw [bitLen_half n (by omega) hn, bitLen_half (n / 2) (by omega) (by omega), bitLen_half (n / 2 / 2) (by omega) (by omega), bitLen_half (n / 2 / 2 / 2) (by omega) (by omega),
    bitLen_half (n / 2 / 2 / 2 / 2) (by omega) (by omega), bitLen_half (n / 2 / 2 / 2 / 2 / 2) (by omega) (by omega), bitLen_half (n / 2 / 2 / 2 / 2 / 2 / 2) (by omega) (by omega), bitLen_half (n / 2 / 2 / 2 / 2 / 2 / 2 / 2) (by omega) (by omega)]
  rw [show n / 2 / 2 / 2 / 2 / 2 / 2 / 2 / 2 = n / 256 by omega]; omega
set_option maxRecDepth 100000 in
set_option maxHeartbeats 2000000 in
theorem len64_small (n : Nat) (w : World) (h : n ≤ 100000) :
    Calls Try.prog 103 #[.int .u64 n] w fun e w' => e = .returned (.int .i64 (Lib.bitLen n : Nat)) ∧ w = w' := by
  have d0 : decide ((4294967296 : Int) ≤ (n : Int)) = false := by simp; omega
  have p40 : (2 : Nat) ^ 40 = 1099511627776 := by decide
  by_cases h1 : 65536 ≤ n
  · have d1 : decide ((65536 : Int) ≤ (n : Int)) = true := by simp; omega
    have i0 : 0 ≤ (n : Int) / 65536 := by omega
    have i1 : (n : Int) / 65536 ≤ 255 := by omega
    have d2 : decide ((256 : Int) ≤ (n : Int) / 65536) = false := by simp; omega
    have e8 := Lib.len8_of _ i0 i1
    have hb := Lib.bitLen_le8 ⟨n / 65536, by omega⟩
    have e9 : ((n : Int) / 65536).toNat = n / 65536 := by omega
    rw [e9] at e8
    have HE := Lib.hid (show Lib.bitLen n = 16 + Lib.bitLen (n / 65536) by
      rw [bitLen_byte (by omega) (by omega), bitLen_byte (n := n / 256) (by omega) (by omega), show n / 256 / 256 = n / 65536 by omega]; omega)
    clear e9 p40
    simp only at hb
    generalize Lib.bitLen (n / 65536) = t at *
    go_enter Try.func103, Try.ntmps103
    go_wp2_with fail
    go_ret
    exact ⟨ret_int (by rw [HE.out]; push_cast; rfl), rfl⟩
  have d1 : decide ((65536 : Int) ≤ (n : Int)) = false := by simp; omega
  by_cases h2 : 256 ≤ n
  · have d2 : decide ((256 : Int) ≤ (n : Int)) = true := by simp; omega
    have i0 : 0 ≤ (n : Int) / 256 := by omega
    have i1 : (n : Int) / 256 ≤ 255 := by omega
    have e8 := Lib.len8_of _ i0 i1
    have hb := Lib.bitLen_le8 ⟨n / 256, by omega⟩
    have e9 : ((n : Int) / 256).toNat = n / 256 := by omega
    rw [e9] at e8
    have HE := Lib.hid (show Lib.bitLen n = 8 + Lib.bitLen (n / 256) from bitLen_byte (by omega) (by omega))
    clear e9 p40
    simp only at hb
    generalize Lib.bitLen (n / 256) = t at *
    go_enter Try.func103, Try.ntmps103
    go_wp2_with fail
    go_ret
    exact ⟨ret_int (by rw [HE.out]; push_cast; rfl), rfl⟩
  · have d2 : decide ((256 : Int) ≤ (n : Int)) = false := by simp; omega
    have i0 : 0 ≤ (n : Int) := by omega
    have i1 : (n : Int) ≤ 255 := by omega
    have e8 := Lib.len8_of _ i0 i1
    have hb := Lib.bitLen_le8 ⟨n, by omega⟩
    have e9 : (n : Int).toNat = n := by omega
    rw [e9] at e8
    clear e9 p40
    simp only at hb
    obtain ⟨t, ht⟩ : ∃ t, t = Lib.bitLen n := ⟨_, rfl⟩
    rw [← ht] at e8 hb ⊢
    clear ht
    go_enter Try.func103, Try.ntmps103
    go_wp2_with fail
    go_ret
    exact ⟨ret_int (by first | rfl | simp), rfl⟩
set_option maxHeartbeats 400000 in
theorem len_small (n l : Nat) (w : World) (h : n ≤ 100000) (hl : IsL n l) :
    Calls Try.prog 87 #[.int .u64 n] w fun e w' => e = .returned (.int .i64 ((l : Int) + 1)) ∧ w = w' := by
  have HE := Lib.hid (bitLen_is hl (isL_le hl h))
  go_enter Try.func87, Try.ntmps87
  go_wp2_with fail
  refine (len64_small n _ h).mono ?_; rintro e w' ⟨rfl, rfl⟩
  rw [HE.out]
  go_wp2_with fail
  go_ret
  exact ⟨ret_int (by push_cast; rfl), rfl⟩
end Go.Proofs.Ytdkkflejpcgipab
