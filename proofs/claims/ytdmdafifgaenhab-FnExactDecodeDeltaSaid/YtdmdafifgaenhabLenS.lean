/- math/bits.Len at small numbers. -/
import Derived.Test.YtdmdafifgaenhabCodeM
import Derived.Lib.BitFns
namespace Go.Proofs.Ytdmdafifgaenhab
open Go.RowKit

theorem bitLen_aux : ∀ (l f n : Nat), IsL n l → l < f → Lib.bitLenAux f n = l + 1 := by
  intro l
  induction l with
  | zero =>
    intro f n h hf
    obtain ⟨f, rfl⟩ : ∃ g, f = g + 1 := ⟨f - 1, by omega⟩
    have h1 := h.1; have h2 := h.2
    obtain rfl : n = 1 := by simp at h1 h2; omega
    rw [Lib.bitLenAux, if_neg (by omega)]
    cases f <;> simp [Lib.bitLenAux]
  | succ l ih =>
    intro f n h hf
    obtain ⟨f, rfl⟩ : ∃ g, f = g + 1 := ⟨f - 1, by omega⟩
    have h1 := h.1; have h2 := h.2
    have hp : 0 < 2 ^ l := Nat.pow_pos (by omega)
    have e1 : 2 ^ (l + 1) = 2 * 2 ^ l := by rw [Nat.pow_succ]; omega
    have e2 : 2 ^ (l + 1 + 1) = 2 * 2 ^ (l + 1) := by rw [Nat.pow_succ (n := 2) (m := l + 1)]; omega
    rw [Lib.bitLenAux, if_neg (by omega), ih f (n / 2) ⟨by omega, by omega⟩ (by omega)]; omega
theorem bitLen_is {n l : Nat} (h : IsL n l) (hl : l ≤ 16) : Lib.bitLen n = l + 1 := bitLen_aux l 64 n h (by omega)
theorem bitLen_half (n : Nat) (h : 0 < n) (hn : n < 2 ^ 40) : Lib.bitLen n = 1 + Lib.bitLen (n / 2) := by
  obtain ⟨l, hl⟩ := isL_ex (n := n) h
  have hl2 : l < 40 := by
    rcases Nat.lt_or_ge l 40 with e | e
    · exact e
    · have : 2 ^ 40 ≤ 2 ^ l := Nat.pow_le_pow_right (by omega) e
      have := hl.1; omega
  have e1 := bitLen_aux l 64 n hl (by omega)
  cases l with
  | zero =>
    have h1 := hl.1; have h2 := hl.2
    obtain rfl : n = 1 := by simp at h1 h2; omega
    decide
  | succ l =>
    have hp : 0 < 2 ^ l := Nat.pow_pos (by omega)
    have e3 : 2 ^ (l + 1) = 2 * 2 ^ l := by rw [Nat.pow_succ]; omega
    have e4 : 2 ^ (l + 1 + 1) = 2 * 2 ^ (l + 1) := by rw [Nat.pow_succ (n := 2) (m := l + 1)]; omega
    have e2 := bitLen_aux l 64 (n / 2) ⟨by have := hl.1; omega, by have := hl.2; omega⟩ (by omega)
    unfold Lib.bitLen
    rw [e1, e2]; omega
theorem bitLen_byte {n : Nat} (h : 256 ≤ n) (hn : n < 2 ^ 40) : Lib.bitLen n = 8 + Lib.bitLen (n / 256) := by
  have p40 : (2 : Nat) ^ 40 = 1099511627776 := by decide
  rw [bitLen_half n (by omega) hn, bitLen_half (n / 2) (by omega) (by omega), bitLen_half (n / 2 / 2) (by omega) (by omega), bitLen_half (n / 2 / 2 / 2) (by omega) (by omega),
    bitLen_half (n / 2 / 2 / 2 / 2) (by omega) (by omega), bitLen_half (n / 2 / 2 / 2 / 2 / 2) (by omega) (by omega), bitLen_half (n / 2 / 2 / 2 / 2 / 2 / 2) (by omega) (by omega), bitLen_half (n / 2 / 2 / 2 / 2 / 2 / 2 / 2) (by omega) (by omega)]
  rw [show n / 2 / 2 / 2 / 2 / 2 / 2 / 2 / 2 = n / 256 by omega]; omega
end Go.Proofs.Ytdmdafifgaenhab
