/- Codes of bits one behind another, plain. -/
import Derived.Test.YtdmdafifgaenhabSpM
import Derived.Test.YtdmdafifgaenhabJoin
namespace Go.Proofs.Ytdmdafifgaenhab
open Go.RowKit

/-- How many bits the first k codes have, and what they are. -/
def catS (sz : Nat → Nat) : Nat → Nat
  | 0 => 0
  | k + 1 => catS sz k + sz k
def catB (sz : Nat → Nat) (F : Nat → Nat → Bool) : Nat → Nat → Bool
  | 0, _ => false
  | k + 1, i => if i < catS sz k then catB sz F k i else F k (i - catS sz k)
theorem catS_mono {sz : Nat → Nat} {a b : Nat} (h : a ≤ b) : catS sz a ≤ catS sz b := by
  induction h with
  | refl => exact Nat.le_refl _
  | step _ ih => rw [catS]; omega
theorem catB_off {sz : Nat → Nat} {F : Nat → Nat → Bool} (h : ∀ k i, sz k ≤ i → F k i = false) : ∀ k i, catS sz k ≤ i → catB sz F k i = false := by
  intro k
  induction k with
  | zero => intro i _; rfl
  | succ k ih => intro i hi; rw [catS] at hi; rw [catB, if_neg (by omega)]; exact h k _ (by omega)
theorem bitN_words (f : Nat → Bool) (i : Nat) : bitN (fun i => ((wordsOf f i : Nat) : Int).toNat) i = f i := by
  have := words_bit f i
  simpa using this
theorem join_words {sz : Nat → Nat} {F : Nat → Nat → Bool} (h : ∀ k i, sz k ≤ i → F k i = false) (k : Nat) :
    joinF (fun i => (wordsOf (catB sz F k) i : Int)) (fun i => (wordsOf (F k) i : Int)) (catS sz k) (sz k) = catB sz F (k + 1) := by
  funext i
  unfold joinF
  rw [bitN_words, bitN_words, catB]
  by_cases c : i < catS sz k + sz k
  · simp [c]
  · rw [if_neg (show ¬ i < catS sz k by omega), h k _ (by omega)]; simp
/-- Words of bits that are off behind the size are a vector. -/
theorem words_vec {z m : Nat} {f : Nat → Bool} (hz : z ≤ 4096) (hm : m = (z + 15) / 16) (h : ∀ i, z ≤ i → f i = false) : Good (z : Int) m (fun i => (wordsOf f i : Int)) := words_good hz hm (fun i hi _ => h i hi)

/-! One number's codes. -/
/-- How many binary digits a number has behind the first one. -/
def IsL (n l : Nat) : Prop := 2 ^ l ≤ n ∧ n < 2 ^ (l + 1)
theorem isL_ex {n : Nat} (h : 1 ≤ n) : ∃ l, IsL n l := ⟨n.log2, Nat.log2_self_le (by omega), Nat.lt_log2_self⟩
theorem isL_le {n l : Nat} (h : IsL n l) (hn : n ≤ 100000) : l ≤ 16 := by
  rcases Nat.lt_or_ge 16 l with e | e
  · have h1 : 2 ^ 17 ≤ 2 ^ l := Nat.pow_le_pow_right (by omega) (by omega)
    have h2 : (2 : Nat) ^ 17 = 131072 := by decide
    have := h.1; omega
  · exact e
theorem isL_uniq {n l k : Nat} (h : IsL n l) (h' : IsL n k) : l = k := by
  rcases Nat.lt_trichotomy l k with e | e | e
  · have : 2 ^ (l + 1) ≤ 2 ^ k := Nat.pow_le_pow_right (by omega) (by omega)
    have := h.2; have := h'.1; omega
  · exact e
  · have : 2 ^ (k + 1) ≤ 2 ^ l := Nat.pow_le_pow_right (by omega) (by omega)
    have := h'.2; have := h.1; omega
/-- The digits of a number behind the first one, as a vector of l bits. -/
def tailB (n l i : Nat) : Bool := decide (i < l) && (n - 2 ^ l).testBit i
/-- The bits of the gamma code. -/
def gamB (n l i : Nat) : Bool := if i < l + 1 then decide (i = l) else tailB n l (i - (l + 1))
def delB (n l k i : Nat) : Bool := if i < 2 * k + 1 then gamB (l + 1) k i else tailB n l (i - (2 * k + 1))
theorem tailB_off {n l i : Nat} (h : l ≤ i) : tailB n l i = false := by unfold tailB; simp [show ¬ i < l by omega]
theorem gamB_off {n l i : Nat} (h : 2 * l + 1 ≤ i) : gamB n l i = false := by unfold gamB; rw [if_neg (by omega)]; exact tailB_off (by omega)
theorem delB_off {n l k i : Nat} (h : 2 * k + 1 + l ≤ i) : delB n l k i = false := by unfold delB; rw [if_neg (by omega)]; exact tailB_off (by omega)
end Go.Proofs.Ytdmdafifgaenhab
