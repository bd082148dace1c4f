/- Are strings keys: the program's and the model's. -/
import Derived.Test.YtpmedeefoaoabaaObjStr
import Derived.Test.YtpmedeefoaoabaaHash
import Derived.Test.YtpmedeefoaoabaaOpen
namespace Go.Proofs.Ytpmedeefoaoabaa
open Go.RowKit

def stepK (S : Nat → ByteArray) (i : Nat) : Bool := isKeyB (S i).data.toList && (decide (i = 0) || Go.Op.bytesLess (S (i - 1)).toList (S i).toList)
def allK (S : Nat → ByteArray) (k : Nat) : Bool := (List.range k).all (stepK S)
def keysB (S : Nat → ByteArray) (n : Nat) : Bool := decide (n ≤ 40) && allK S n
theorem allK_succ (S : Nat → ByteArray) (k : Nat) : allK S (k + 1) = (allK S k && stepK S k) := by simp [allK, List.range_succ]
theorem allK_bad {S : Nat → ByteArray} {k n : Nat} (hk : k < n) (h : stepK S k = false) : allK S n = false := by
  unfold allK
  rw [List.all_eq_false]
  exact ⟨k, List.mem_range.2 hk, by simp [h]⟩
theorem allK_at {S : Nat → ByteArray} {k n : Nat} (hk : k < n) (h : allK S n = true) : stepK S k = true := by
  unfold allK at h
  exact List.all_eq_true.1 h k (List.mem_range.2 hk)
theorem keysB_size {S : Nat → ByteArray} {n : Nat} (h : keysB S n = true) : n ≤ 40 := by simp [keysB] at h; exact h.1

theorem SRow.grow {w : World} {A : Option Addr} {n : Nat} {S : Nat → ByteArray} (h : SRow w A n S) : GRow w A n (strV S) := fun hn => by
  obtain ⟨b, off, hA, hb, hc⟩ := h hn
  exact ⟨b, off, hA, hb, fun k hk => (hc k hk).1⟩
theorem SRow.size {w : World} {A : Option Addr} {n : Nat} {S : Nat → ByteArray} (h : SRow w A n S) : ∀ i, i < n → (S i).size ≤ maxLen := fun i hi => by
  obtain ⟨b, off, hA, hb, hc⟩ := h (by omega)
  exact (hc i hi).2
end Go.Proofs.Ytpmedeefoaoabaa
