/- Packed directories: their bits. -/
import Derived.Test.YtpmedeefoaoabaaRankL
namespace Go.Proofs.Ytpmedeefoaoabaa
open Go.RowKit

def supN (W : Nat → Nat) (i : Nat) : Nat := cntN W 0 (64 * i)
def blkN (W : Nat → Nat) (b : Nat) : Nat := cntN W (64 * (b / 4)) (16 * b - 64 * (b / 4))
/-- The bits behind i counts of 13 bits, and, behind s of them, j counts of 6 bits. -/
def packA (W : Nat → Nat) (s i j p : Nat) : Bool :=
  if p < 13 * i then (supN W (p / 13)).testBit (p % 13) else decide (13 * s ≤ p ∧ p < 13 * s + 6 * j) && (blkN W ((p - 13 * s) / 6)).testBit ((p - 13 * s) % 6)
section
variable {W : Nat → Nat} {s i j : Nat}
theorem pack_zero (p : Nat) : packA W s 0 0 p = false := by
  unfold packA
  rw [if_neg (by omega)]
  have : ¬ (13 * s ≤ p ∧ p < 13 * s + 6 * 0) := by omega
  simp only [this, decide_false, Bool.false_and]
theorem pack_sup (_hi : i < s) (p : Nat) : (if 13 * i ≤ p ∧ p < 13 * i + 13 then (supN W i).testBit (p - 13 * i) else packA W s i 0 p) = packA W s (i + 1) 0 p := by
  unfold packA
  have hz : ¬ (13 * s ≤ p ∧ p < 13 * s + 6 * 0) := by omega
  simp only [hz, decide_false, Bool.false_and]
  by_cases h1 : 13 * i ≤ p ∧ p < 13 * i + 13
  · rw [if_pos h1, if_pos (by omega), show p / 13 = i by omega, show p % 13 = p - 13 * i by omega]
  · rw [if_neg h1]
    by_cases h2 : p < 13 * i
    · rw [if_pos h2, if_pos (by omega)]
    · rw [if_neg h2, if_neg (by omega)]
theorem pack_blk (p : Nat) : (if 13 * s + 6 * j ≤ p ∧ p < 13 * s + 6 * j + 6 then (blkN W j).testBit (p - (13 * s + 6 * j)) else packA W s s j p) = packA W s s (j + 1) p := by
  unfold packA
  by_cases h1 : 13 * s + 6 * j ≤ p ∧ p < 13 * s + 6 * j + 6
  · rw [if_pos h1, if_neg (by omega)]
    have : 13 * s ≤ p ∧ p < 13 * s + 6 * (j + 1) := by omega
    simp only [this, and_self, decide_true, Bool.true_and]
    rw [show (p - 13 * s) / 6 = j by omega, show (p - 13 * s) % 6 = p - (13 * s + 6 * j) by omega]
  · rw [if_neg h1]
    by_cases h2 : p < 13 * s
    · rw [if_pos h2, if_pos h2]
    · rw [if_neg h2, if_neg h2]
      by_cases h3 : p < 13 * s + 6 * j
      · simp only [show 13 * s ≤ p ∧ p < 13 * s + 6 * j by omega, show 13 * s ≤ p ∧ p < 13 * s + 6 * (j + 1) by omega, and_self, decide_true, Bool.true_and]
      · simp only [show ¬ (13 * s ≤ p ∧ p < 13 * s + 6 * j) by omega, show ¬ (13 * s ≤ p ∧ p < 13 * s + 6 * (j + 1)) by omega, decide_false, Bool.false_and]
theorem pack_high {p : Nat} (h : 13 * s + 6 * j ≤ p) : packA W s s j p = false := by
  unfold packA
  rw [if_neg (by omega)]
  simp only [show ¬ (13 * s ≤ p ∧ p < 13 * s + 6 * j) by omega, decide_false, Bool.false_and]
end
/-- The words of the packed directories. -/
def packX (W : Nat → Nat) (s n : Nat) : Nat → Int := fun k => (wordsOf (packA W s s n) k : Int)
section
variable {w wi wj : World} {z : Int} {A1 A2 A3 : Option Addr} {n c1 s c2 m c3 q B : Nat} {X Y Z : Nat → Int}
theorem RL.low (h : RL w q z A1 n c1 X A2 s c2 Y A3 m c3 Z wi) (h0 : RkR A1 n X A2 s Y A3 m Z w) (hw : w.heap.size ≤ B) (hq : q < B) (hb : Below B wi wj) : RL w q z A1 n c1 X A2 s c2 Y A3 m c3 Z wj :=
  ⟨h.below.trans (hb.mono hw), h0.b (h.below.trans (hb.mono hw)), (hb.block _ hq).trans h.box.blk, h.box.ge⟩
theorem NBX.lowP {b0 : Nat} {cs : Array Value} {t : TypeId} (h : NBX b0 q cs t wi) (hq : q < B) (hb : Below B wi wj) : NBX b0 q cs t wj := ⟨(hb.block _ hq).trans h.blk, h.ge⟩
end
end Go.Proofs.Ytpmedeefoaoabaa
