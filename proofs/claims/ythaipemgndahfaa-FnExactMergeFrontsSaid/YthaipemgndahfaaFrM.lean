/- Front-coded lists: what a beginning has in common, what a front keeps and tells, and which values are fronts; no program. -/
import Derived.Test.YthaipemgndahfaaStrP
namespace Go.Proofs.Ythaipemgndahfaa
open Go.RowKit

/-- How many bytes two strings have in common at their beginning. -/
def cpl : Byt → Byt → Nat
  | a :: x, b :: y => if a = b then cpl x y + 1 else 0
  | _, _ => 0
theorem cpl_le : ∀ (x y : Byt), cpl x y ≤ x.length ∧ cpl x y ≤ y.length
  | [], y => by simp [cpl]
  | _ :: _, [] => by simp [cpl]
  | a :: x, b :: y => by
    have := cpl_le x y
    rw [cpl]; split
    · simp; omega
    · simp
theorem cpl_at : ∀ {x y : Byt} {k : Nat}, k < cpl x y → x[k]? = y[k]?
  | [], y, k, h => by simp [cpl] at h
  | _ :: _, [], k, h => by simp [cpl] at h
  | a :: x, b :: y, k, h => by
    rw [cpl] at h
    split at h
    · rename_i e; subst e
      cases k with
      | zero => rfl
      | succ k => simpa using cpl_at (x := x) (y := y) (by omega)
    · omega
theorem cpl_stop : ∀ {x y : Byt}, cpl x y < x.length → cpl x y < y.length → x[cpl x y]? ≠ y[cpl x y]?
  | [], y, h, _ => by simp at h
  | _ :: _, [], _, h => by simp at h
  | a :: x, b :: y, h1, h2 => by
    rw [cpl] at h1 h2 ⊢
    split
    · rename_i e
      rw [if_pos e] at h1 h2
      simpa using cpl_stop (x := x) (y := y) (by simpa using h1) (by simpa using h2)
    · rename_i e
      simpa using e
/-- What the i-th of some strings keeps of the one before it, and its bytes behind that. -/
def keepN (z : Nat) (S : Nat → ByteArray) (i : Nat) : Nat := if i % z = 0 then 0 else cpl (S (i - 1)).data.toList (S i).data.toList
def keepI (z : Nat) (S : Nat → ByteArray) (i : Nat) : Int := (keepN z S i : Nat)
def tailF (z : Nat) (S : Nat → ByteArray) (i : Nat) : ByteArray := (S i).extract (keepN z S i) (S i).size
theorem keepN_le (z : Nat) (S : Nat → ByteArray) (i : Nat) : keepN z S i ≤ (S i).size := by
  unfold keepN
  split
  · exact Nat.zero_le _
  · have := (cpl_le (S (i - 1)).data.toList (S i).data.toList).2
    simpa using this
/-- The string that is read ahead of round i. -/
def frS (K : Nat → Int) (T : Nat → ByteArray) : Nat → ByteArray
  | 0 => ByteArray.empty
  | i + 1 => (frS K T i).extract 0 (K i).toNat ++ T i
def frK (K : Nat → Int) (T : Nat → ByteArray) (i : Nat) : ByteArray := frS K T (i + 1)
/-- Ahead of round i nothing is out of bounds, and all strings so far are keys. -/
def FrUp (K : Nat → Int) (T : Nat → ByteArray) (n : Nat) : Prop := ∀ i, i < n → 0 ≤ K i ∧ K i ≤ ((frS K T i).size : Int) ∧ isKeyB (frK K T i).data.toList = true
theorem FrUp.step {K : Nat → Int} {T : Nat → ByteArray} {n : Nat} (h : FrUp K T n) (h0 : 0 ≤ K n) (h1 : K n ≤ ((frS K T n).size : Int)) (h2 : isKeyB (frK K T n).data.toList = true) : FrUp K T (n + 1) := fun i hi => by
  by_cases e : i = n
  · subst e; exact ⟨h0, h1, h2⟩
  · exact h i (by omega)
/-- A value is the front of its strings. -/
def FrV (z : Int) (n : Nat) (K : Nat → Int) (m : Nat) (T : Nat → ByteArray) : Prop :=
  1 ≤ z ∧ z ≤ 16 ∧ n = m ∧ FrUp K T n ∧ keysB (frK K T) n = true ∧ (∀ i, i < n → K i = keepI z.toNat (frK K T) i) ∧ ∀ i, i < n → T i = tailF z.toNat (frK K T) i
open Classical in
noncomputable def frB (z : Int) (n : Nat) (K : Nat → Int) (m : Nat) (T : Nat → ByteArray) : Bool := decide (FrV z n K m T)
open Classical in
theorem frB_iff {z : Int} {n : Nat} {K : Nat → Int} {m : Nat} {T : Nat → ByteArray} : frB z n K m T = true ↔ FrV z n K m T := by unfold frB; rw [decide_eq_true_eq]
theorem FrV.block {z : Int} {n : Nat} {K : Nat → Int} {m : Nat} {T : Nat → ByteArray} (h : FrV z n K m T) : ∃ b : Nat, z = b ∧ 1 ≤ b ∧ b ≤ 16 := ⟨z.toNat, by have := h.1; omega, by have := h.1; omega, by have := h.2.1; omega⟩
theorem FrV.n40 {z : Int} {n : Nat} {K : Nat → Int} {m : Nat} {T : Nat → ByteArray} (h : FrV z n K m T) : n ≤ 40 := keysB_size h.2.2.2.2.1
theorem FrUp.size {K : Nat → Int} {T : Nat → ByteArray} {n : Nat} (h : FrUp K T n) : ∀ i, i ≤ n → (frS K T i).size ≤ 12
  | 0, _ => by simp [frS]
  | i + 1, hi => (isKeyB_size (h i (by omega)).2.2).2
end Go.Proofs.Ythaipemgndahfaa
