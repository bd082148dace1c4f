/- Bits of one kind: how many lie before a place, and which one is the k-th. -/
import Derived.Test.YtpmedeefoaoabaaRankS
namespace Go.Proofs.Ytpmedeefoaoabaa
open Go.RowKit

/-- How many bits of a kind are among the first i. -/
def cntB (W : Nat → Nat) (on : Bool) (i : Nat) : Nat := if on then cntN W 0 i else i - cntN W 0 i
section
variable {W : Nat → Nat} {on : Bool}
theorem cntB_zero : cntB W on 0 = 0 := by cases on <;> simp [cntB, cntN]
theorem cntB_succ (i : Nat) : cntB W on (i + 1) = cntB W on i + (if bitN W i = on then 1 else 0) := by
  have h := cntN_snoc W 0 i
  have h1 := cntN_le W i 0
  rw [Nat.zero_add] at h
  cases on
  · show i + 1 - cntN W 0 (i + 1) = i - cntN W 0 i + _
    rw [h]
    cases bitN W i <;> simp <;> omega
  · show cntN W 0 (i + 1) = cntN W 0 i + _
    rw [h]
theorem cntB_le (i : Nat) : cntB W on i ≤ i := by
  have h1 := cntN_le W i 0
  cases on <;> simp [cntB] <;> omega
theorem cntB_mono {i j : Nat} (h : i ≤ j) : cntB W on i ≤ cntB W on j := by
  induction j with
  | zero => rw [show i = 0 by omega]; exact Nat.le_refl _
  | succ j ih =>
    by_cases e : i = j + 1
    · rw [e]; exact Nat.le_refl _
    · have := ih (by omega)
      rw [cntB_succ]; omega
/-- The bit i of a vector of z bits is of a kind and has k such bits before it. -/
def SelAt (W : Nat → Nat) (on : Bool) (z k i : Nat) : Prop := i < z ∧ bitN W i = on ∧ cntB W on i = k
theorem sel_lt {z k i : Nat} (h : SelAt W on z k i) : k < cntB W on z := by
  have h1 := cntB_mono (W := W) (on := on) (show i + 1 ≤ z from h.1)
  rw [cntB_succ, if_pos h.2.1, h.2.2] at h1
  omega
theorem sel_some {z k : Nat} (h : k < cntB W on z) : ∃ i, SelAt W on z k i := by
  induction z with
  | zero => rw [cntB_zero] at h; omega
  | succ z ih =>
    rw [cntB_succ] at h
    by_cases h1 : k < cntB W on z
    · obtain ⟨i, h2, h3⟩ := ih h1
      exact ⟨i, by omega, h3⟩
    · by_cases hb : bitN W z = on
      · rw [if_pos hb] at h
        exact ⟨z, by omega, hb, by omega⟩
      · rw [if_neg hb] at h
        omega
theorem sel_above {z k i j : Nat} (h : SelAt W on z k i) : k < cntB W on j ↔ i < j := by
  constructor
  · intro h1
    refine Classical.byContradiction fun h2 => ?_
    have := cntB_mono (W := W) (on := on) (show j ≤ i by omega)
    rw [h.2.2] at this
    omega
  · intro h1
    have := cntB_mono (W := W) (on := on) (show i + 1 ≤ j by omega)
    rw [cntB_succ, if_pos h.2.1, h.2.2] at this
    omega
end
end Go.Proofs.Ytpmedeefoaoabaa
