/- The laws' small functions on slices of strings. -/
import Derived.Test.YtpmedeefoaoabaaObjInt
namespace Go.Proofs.Ytpmedeefoaoabaa
open Go.RowKit

def sizeS (S : Nat → ByteArray) : Nat → Nat
  | 0 => 0
  | n + 1 => sizeS S n + (S n).size
theorem sizeS_le (S : Nat → ByteArray) {k n : Nat} (h : k ≤ n) : sizeS S k ≤ sizeS S n := by
  induction n with
  | zero => have : k = 0 := by omega
            subst this; exact Nat.le_refl _
  | succ n ih =>
    by_cases e : k = n + 1
    · subst e; exact Nat.le_refl _
    · have := ih (by omega); simp only [sizeS]; omega
theorem infoS : (Try.prog.info? 9).map (fun i => (i.zero, i.size, i.bytes)) = some (some (.string ByteArray.empty), 1, 16) := by kernel_rfl

/-! The text that marks a cell. -/
def digitT (k : Nat) : ByteArray := strOfNums [48 + (k : Int) % 10]
def markGo : Nat → Nat → ByteArray → ByteArray
  | 0, _, out => out
  | f + 1, k, out => if k = 0 then out else markGo f (k / 10) (digitT k ++ out)
theorem markGo_fuel : ∀ (f g k : Nat) (out : ByteArray), k ≤ f → k ≤ g → markGo f k out = markGo g k out := by
  intro f
  induction f with
  | zero =>
    intro g k out hf hg
    obtain rfl : k = 0 := by omega
    cases g <;> simp [markGo]
  | succ f ih =>
    intro g k out hf hg
    cases g with
    | zero => obtain rfl : k = 0 := by omega
              simp [markGo]
    | succ g =>
      by_cases e : k = 0
      · simp [markGo, e]
      · simp only [markGo, if_neg e]
        exact ih g (k / 10) _ (by omega) (by omega)
theorem markGo_step {k : Nat} (h : k ≠ 0) (out : ByteArray) : markGo k k out = markGo (k / 10) (k / 10) (digitT k ++ out) := by
  cases k with
  | zero => exact absurd rfl h
  | succ k =>
    rw [markGo, if_neg h]
    exact markGo_fuel _ _ _ _ (by omega) (Nat.le_refl _)
def markB (k : Nat) : ByteArray := ⟨#[109]⟩ ++ markGo k k ⟨#[]⟩

end Go.Proofs.Ytpmedeefoaoabaa
