/- Words and bits: a vector is made of its bits. -/
import Derived.Test.YtockhjdhihehlaaJoin
namespace Go.Proofs.Ytockhjdhihehlaa
open Go.RowKit

theorem bit_words (f : Nat → Bool) (i : Nat) : bitN (wordsOf f) i = f i := by
  unfold bitN wordsOf
  rw [ofB_bit, show 16 * (i / 16) + i % 16 = i by omega]
  have : i % 16 < 16 := by omega
  simp [this]
theorem bit_wordsI (f : Nat → Bool) (i : Nat) : bitN (fun k => ((wordsOf f k : Nat) : Int).toNat) i = f i := by
  simp only [Int.toNat_natCast]; exact bit_words f i
/-- A valid vector is made of its bits. -/
theorem good_words {z : Nat} {n : Nat} {X : Nat → Int} {f : Nat → Bool} (hg : Good z n X) (hf : ∀ i, i < 16 * n → f i = (decide (i < z) && bitN (fun i => (X i).toNat) i)) {k : Nat} (hk : k < n) : ((wordsOf f k : Nat) : Int) = X k := by
  have h := words_eq (W := fun i => (X i).toNat) (m := n) (f := f) (fun i hi => by have := hg.2.2.2 i hi; have := cap_le z i; show (X i).toNat < _; omega) (fun i hi => by
    rw [hf i hi]
    by_cases c : i < z
    · simp [c]
    · rw [good_high hg (by omega) hi]; simp [c]) k hk
  have := (hg.2.2.2 k hk).1
  omega
theorem good_of_words {z n : Nat} {f : Nat → Bool} (hz : z ≤ 4096) (hn : n = (z + 15) / 16) (hf : ∀ i, z ≤ i → f i = false) : Good z n (fun k => (wordsOf f k : Int)) := by
  refine ⟨by omega, by omega, by omega, fun i hi => ⟨Int.natCast_nonneg _, ?_⟩⟩
  have h : wordsOf f i < 2 ^ (min 16 (z - 16 * i)) := by
    apply Nat.lt_pow_two_of_testBit
    intro j hj
    rw [wordsOf, ofB_bit]
    by_cases c : j < 16
    · rw [hf (16 * i + j) (by omega)]; simp
    · simp [c]
  unfold cap
  rw [show (z : Int).toNat = z from rfl]
  have e : ((2 ^ (min 16 (z - 16 * i)) : Nat) : Int) = (2 : Int) ^ (min 16 (z - 16 * i)) := by push_cast; rfl
  rw [← e]
  show ((wordsOf f i : Nat) : Int) < _
  omega
end Go.Proofs.Ytockhjdhihehlaa
