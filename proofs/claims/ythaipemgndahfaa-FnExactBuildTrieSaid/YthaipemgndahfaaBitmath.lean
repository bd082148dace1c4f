/- Bits of words, plain: a word has sixteen bits; the bit i of a vector; fields. -/
import Derived.Laws.BitsAllLaws
import Derived.Laws.BitsLemmas
import Derived.Deep.OwnRows
import Derived.WalkKit
namespace Go.Proofs.Ythaipemgndahfaa
open Go.RowKit

theorem ofInt_i64 (a : Nat) (ha : a < 9223372036854775808) : (BitVec.ofInt 64 (a : Int)).toNat = a := by
  rw [BitVec.ofInt_natCast, BitVec.toNat_ofNat]; exact Nat.mod_eq_of_lt (by omega)
theorem i64_and_nat (a b : Nat) (ha : a < 9223372036854775808) (hb : b < 9223372036854775808) : bits .and .i64 (a : Int) (b : Int) = ((a &&& b : Nat) : Int) := by
  have hx : a &&& b < 2 ^ 63 := Nat.and_lt_two_pow _ (by omega)
  show IntKind.i64.wrap ((BitVec.ofInt 64 (a : Int) &&& BitVec.ofInt 64 (b : Int)).toNat : Int) = _
  rw [BitVec.toNat_and, ofInt_i64 a ha, ofInt_i64 b hb, IntKind.wrap_i64]
  omega
theorem i64_or_nat (a b : Nat) (ha : a < 9223372036854775808) (hb : b < 9223372036854775808) : bits .or .i64 (a : Int) (b : Int) = ((a ||| b : Nat) : Int) := by
  have hx : a ||| b < 2 ^ 63 := Nat.or_lt_two_pow (by omega) (by omega)
  show IntKind.i64.wrap ((BitVec.ofInt 64 (a : Int) ||| BitVec.ofInt 64 (b : Int)).toNat : Int) = _
  rw [BitVec.toNat_or, ofInt_i64 a ha, ofInt_i64 b hb, IntKind.wrap_i64]
  omega
theorem i64_xor_nat (a b : Nat) (ha : a < 9223372036854775808) (hb : b < 9223372036854775808) : bits .xor .i64 (a : Int) (b : Int) = ((a ^^^ b : Nat) : Int) := by
  have hx : a ^^^ b < 2 ^ 63 := Nat.xor_lt_two_pow (by omega) (by omega)
  show IntKind.i64.wrap ((BitVec.ofInt 64 (a : Int) ^^^ BitVec.ofInt 64 (b : Int)).toNat : Int) = _
  rw [BitVec.toNat_xor, ofInt_i64 a ha, ofInt_i64 b hb, IntKind.wrap_i64]
  omega

/-- The bit i of a vector of words. -/
def bitN (W : Nat → Nat) (i : Nat) : Bool := (W (i / 16)).testBit (i % 16)
/-- The value of the field of a width at a place. -/
def fieldN (W : Nat → Nat) : Nat → Nat → Nat
  | _, 0 => 0
  | a, w + 1 => (if bitN W a then 1 else 0) + 2 * fieldN W (a + 1) w

theorem fieldN_lt (W : Nat → Nat) (w : Nat) : ∀ a, fieldN W a w < 2 ^ w := by
  induction w with
  | zero => intro a; simp [fieldN]
  | succ w ih => intro a; have := ih (a + 1); rw [fieldN, Nat.pow_succ]; split <;> omega
theorem fieldN_bit (W : Nat → Nat) (w : Nat) : ∀ a j, (fieldN W a w).testBit j = (decide (j < w) && bitN W (a + j)) := by
  induction w with
  | zero => intro a j; simp [fieldN]
  | succ w ih =>
    intro a j
    cases j with
    | zero =>
      rw [fieldN, Nat.testBit_zero]
      by_cases h : bitN W a = true
      · simp [h]
      · simp [h]
    | succ j =>
      have e : ((if bitN W a = true then 1 else 0) + 2 * fieldN W (a + 1) w) / 2 = fieldN W (a + 1) w := by split <;> omega
      rw [fieldN, Nat.testBit_succ, e, ih (a + 1) j]
      simp only [Nat.add_lt_add_iff_right, show a + 1 + j = a + (j + 1) by omega]
theorem fieldN_one (W : Nat → Nat) (a : Nat) : fieldN W a 1 = if bitN W a then 1 else 0 := by simp [fieldN]

/-- A word's quotient by a power of two, its last digit. -/
theorem quot_bit (x k : Nat) : x / 2 ^ k % 2 = if x.testBit k then 1 else 0 := by
  rw [Nat.testBit_eq_decide_div_mod_eq]
  by_cases h : x / 2 ^ k % 2 = 1
  · simp [h]
  · simp [h]; omega
theorem cast_quot (x k : Nat) : ((x : Int) / 2 ^ k) = ((x / 2 ^ k : Nat) : Int) := by push_cast; rfl
theorem bit_and_one (x k : Nat) (hx : x < 65536) : (bits .and .i64 ((x : Int) / 2 ^ k) 1 == 1) = x.testBit k := by
  have hq : x / 2 ^ k < 65536 := Nat.lt_of_le_of_lt (Nat.div_le_self _ _) hx
  have h := i64_and_nat (x / 2 ^ k) 1 (by omega) (by omega)
  rw [cast_quot]
  rw [show ((1 : Nat) : Int) = 1 from rfl] at h
  rw [h, Nat.and_one_is_mod, quot_bit]
  cases x.testBit k <;> rfl

theorem testBit_quot_mul (x s D j : Nat) : (x / 2 ^ s * 2 ^ D).testBit j = (decide (D ≤ j) && x.testBit (s + (j - D))) := by
  rw [← Nat.shiftRight_eq_div_pow, ← Nat.shiftLeft_eq, Nat.testBit_shiftLeft, Nat.testBit_shiftRight]
theorem quot_mul_lt (x s D : Nat) (hx : x < 65536) (hs : s < 16) : x / 2 ^ s * 2 ^ D < 2 ^ (16 - s + D) := by
  rw [Nat.pow_add]
  apply Nat.mul_lt_mul_of_pos_right _ (Nat.pow_pos (by omega))
  rw [Nat.div_lt_iff_lt_mul (Nat.pow_pos (by omega)), ← Nat.pow_add, show 16 - s + s = 16 by omega]
  exact hx
theorem wrap_small (x : Nat) (h : x < 9223372036854775808) : wrap64 (x : Int) = (x : Int) := by
  unfold wrap64; omega
theorem field_step (W : Nat → Nat) (V a D : Nat) (hV : V < 1099511627776) (hD : D < 24) (hx : W ((a + D) / 16) < 65536) (hp : ∀ j, V.testBit j = (decide (j < D) && bitN W (a + j))) :
    ∃ V' : Nat, V' < 1099511627776 ∧ bits .or .i64 (V : Int) (wrap64 ((W ((a + D) / 16) : Int) / 2 ^ ((a + D) % 16) * 2 ^ D)) = (V' : Int) ∧
      ∀ j, V'.testBit j = (decide (j < D + (16 - (a + D) % 16)) && bitN W (a + j)) := by
  have hs : (a + D) % 16 < 16 := Nat.mod_lt _ (by omega)
  have h1 := quot_mul_lt (W ((a + D) / 16)) ((a + D) % 16) D hx hs
  have h2 : 2 ^ (16 - (a + D) % 16 + D) ≤ 2 ^ 39 := Nat.pow_le_pow_right (by omega) (by omega)
  have h3 : W ((a + D) / 16) / 2 ^ ((a + D) % 16) * 2 ^ D < 1099511627776 := by
    have : (2 : Nat) ^ 39 = 549755813888 := by decide
    omega
  refine ⟨V ||| W ((a + D) / 16) / 2 ^ ((a + D) % 16) * 2 ^ D, Nat.or_lt_two_pow (n := 40) hV h3, ?_, fun j => ?_⟩
  · rw [show ((W ((a + D) / 16) : Int) / 2 ^ ((a + D) % 16) * 2 ^ D) = ((W ((a + D) / 16) / 2 ^ ((a + D) % 16) * 2 ^ D : Nat) : Int) by push_cast; rfl, wrap_small _ (by omega)]
    exact i64_or_nat _ _ (by omega) (by omega)
  · rw [Nat.testBit_or, hp, testBit_quot_mul]
    by_cases c1 : j < D
    · have c2 : ¬ D ≤ j := by omega
      have c3 : j < D + (16 - (a + D) % 16) := by omega
      simp [c1, c2, c3]
    · by_cases c3 : j < D + (16 - (a + D) % 16)
      · have e1 : (a + j) / 16 = (a + D) / 16 := by omega
        have e2 : (a + j) % 16 = (a + D) % 16 + (j - D) := by omega
        simp [c1, c3, show D ≤ j by omega, bitN, e1, e2]
      · have : (W ((a + D) / 16)).testBit ((a + D) % 16 + (j - D)) = false := Nat.testBit_lt_two_pow (Nat.lt_of_lt_of_le hx (Nat.pow_le_pow_right (n := 2) (i := 16) (by omega) (by omega)))
        simp [c1, c3, this]
theorem field_end (W : Nat → Nat) (V a D w : Nat) (hV : V < 1099511627776) (hD : w ≤ D) (hw : w ≤ 24) (hp : ∀ j, V.testBit j = (decide (j < D) && bitN W (a + j))) :
    bits .and .i64 (V : Int) (2 ^ w - 1) = (fieldN W a w : Int) := by
  have h2 : 2 ^ w ≤ 2 ^ 24 := Nat.pow_le_pow_right (by omega) hw
  have h3 : 0 < 2 ^ w := Nat.pow_pos (by omega)
  have h4 : (2 : Nat) ^ 24 = 16777216 := by decide
  rw [show ((2 : Int) ^ w - 1) = ((2 ^ w - 1 : Nat) : Int) by rw [Int.natCast_sub h3]; push_cast; rfl, i64_and_nat _ _ (by omega) (by omega)]
  congr 1
  apply Nat.eq_of_testBit_eq
  intro j
  rw [Nat.testBit_and, Nat.testBit_two_pow_sub_one, hp, fieldN_bit]
  by_cases c : j < w
  · simp [c, show j < D by omega]
  · simp [c]
theorem fieldN_snoc (W : Nat → Nat) (a w : Nat) : fieldN W a (w + 1) = (if bitN W a then 1 else 0) + 2 * fieldN W (a + 1) w := rfl

theorem i64_andNot_nat (a b : Nat) (ha : a < 9223372036854775808) (hb : b < 9223372036854775808) : bits .andNot .i64 (a : Int) (b : Int) = ((a ^^^ (a &&& b) : Nat) : Int) := by
  have hx : a ^^^ (a &&& b) < 2 ^ 63 := Nat.xor_lt_two_pow (by omega) (Nat.and_lt_two_pow _ (by omega))
  have hy : (BitVec.ofInt 64 (a : Int) &&& ~~~(BitVec.ofInt 64 (b : Int))) = BitVec.ofInt 64 (a : Int) ^^^ (BitVec.ofInt 64 (a : Int) &&& BitVec.ofInt 64 (b : Int)) := by
    apply BitVec.eq_of_getLsbD_eq
    intro i hi
    simp only [BitVec.getLsbD_and, BitVec.getLsbD_not, BitVec.getLsbD_xor, hi]
    cases (BitVec.ofInt 64 (a : Int)).getLsbD i <;> cases (BitVec.ofInt 64 (b : Int)).getLsbD i <;> rfl
  show IntKind.i64.wrap ((BitVec.ofInt 64 (a : Int) &&& ~~~(BitVec.ofInt 64 (b : Int))).toNat : Int) = _
  rw [hy, BitVec.toNat_xor, BitVec.toNat_and, ofInt_i64 a ha, ofInt_i64 b hb, IntKind.wrap_i64]
  omega

/-- A mask of P bits from s on. -/
theorem mask_bit (P s j : Nat) : ((2 ^ P - 1) * 2 ^ s).testBit j = (decide (s ≤ j) && decide (j - s < P)) := by
  rw [← Nat.shiftLeft_eq, Nat.testBit_shiftLeft, Nat.testBit_two_pow_sub_one]
theorem mask_lt (P s : Nat) (h : s + P ≤ 16) : (2 ^ P - 1) * 2 ^ s < 65536 := by
  have h1 : 2 ^ P * 2 ^ s ≤ 2 ^ 16 := by rw [← Nat.pow_add]; exact Nat.pow_le_pow_right (by omega) (by omega)
  have h2 : 0 < 2 ^ P := Nat.pow_pos (by omega)
  have h3 : 0 < 2 ^ s := Nat.pow_pos (by omega)
  have h4 : (2 ^ P - 1) * 2 ^ s < 2 ^ P * 2 ^ s := Nat.mul_lt_mul_of_pos_right (by omega) h3
  have h5 : (2 : Nat) ^ 16 = 65536 := by decide
  omega
theorem shl_lt (V s : Nat) (hV : V < 16777216) (hs : s < 16) : V * 2 ^ s < 1099511627776 := by
  have h1 : 2 ^ s ≤ 2 ^ 15 := Nat.pow_le_pow_right (by omega) (by omega)
  have h2 : V * 2 ^ s ≤ 16777216 * 2 ^ 15 := Nat.mul_le_mul (by omega) h1
  have h3 : (2 : Nat) ^ 15 = 32768 := by decide
  omega
/-- One word after P bits of V have been put into it from s on. -/
theorem put_word (x V P s : Nat) (hx : x < 65536) (hV : V < 16777216) (hs : s < 16) (hP : s + P ≤ 16) :
    ∃ N : Nat, N < 65536 ∧ bits .or .i64 (bits .andNot .i64 (x : Int) (((2 ^ P - 1) * 2 ^ s : Nat) : Int)) (bits .and .i64 ((V * 2 ^ s : Nat) : Int) (((2 ^ P - 1) * 2 ^ s : Nat) : Int)) = (N : Int) ∧
      ∀ j, N.testBit j = if s ≤ j ∧ j < s + P then V.testBit (j - s) else x.testBit j := by
  have hM := mask_lt P s hP
  have hQ := shl_lt V s hV hs
  have h1 : x ^^^ (x &&& (2 ^ P - 1) * 2 ^ s) < 2 ^ 16 := Nat.xor_lt_two_pow (by omega) (Nat.and_lt_two_pow _ (by omega))
  have h2 : V * 2 ^ s &&& (2 ^ P - 1) * 2 ^ s < 2 ^ 16 := Nat.and_lt_two_pow _ (by omega)
  have h5 : (2 : Nat) ^ 16 = 65536 := by decide
  refine ⟨(x ^^^ (x &&& (2 ^ P - 1) * 2 ^ s)) ||| (V * 2 ^ s &&& (2 ^ P - 1) * 2 ^ s), by have := Nat.or_lt_two_pow h1 h2; omega, ?_, fun j => ?_⟩
  · rw [i64_andNot_nat _ _ (by omega) (by omega), i64_and_nat _ _ (by omega) (by omega), i64_or_nat _ _ (by omega) (by omega)]
  · rw [Nat.testBit_or, Nat.testBit_xor, Nat.testBit_and, Nat.testBit_and, mask_bit, ← Nat.shiftLeft_eq, Nat.testBit_shiftLeft]
    by_cases c1 : s ≤ j
    · by_cases c2 : j < s + P
      · have c3 : j - s < P := by omega
        simp [c1, c2, c3]
      · have c3 : ¬ j - s < P := by omega
        simp [c1, c2, c3]
    · simp [c1]

/-- The words W1 are W but for the bits a0 .. A - 1, which are those of v. -/
def PutSt (W : Nat → Nat) (m a0 v A : Nat) (W1 : Nat → Nat) : Prop :=
  (∀ i, i < m → W1 i < 65536) ∧ ∀ i, i < 16 * m → bitN W1 i = if a0 ≤ i ∧ i < A then v.testBit (i - a0) else bitN W i
theorem PutSt.start (W : Nat → Nat) (m a0 v : Nat) (h : ∀ i, i < m → W i < 65536) : PutSt W m a0 v a0 W := ⟨h, fun i _ => by rw [if_neg (by omega)]⟩
theorem PutSt.step {W : Nat → Nat} {m a0 v A : Nat} {W1 : Nat → Nat} (h : PutSt W m a0 v A W1) (hA : a0 ≤ A) {P N : Nat} (hP : A % 16 + P ≤ 16) (hN : N < 65536)
    (hb : ∀ j, N.testBit j = if A % 16 ≤ j ∧ j < A % 16 + P then (v / 2 ^ (A - a0)).testBit (j - A % 16) else (W1 (A / 16)).testBit j) :
    PutSt W m a0 v (A + P) (fun j => if j = A / 16 then N else W1 j) := by
  refine ⟨fun i hi => ?_, fun i hi => ?_⟩
  · by_cases e : i = A / 16
    · simp [e, hN]
    · simpa [e] using h.1 i hi
  · have h0 := h.2 i hi
    unfold bitN at h0 ⊢
    simp only []
    by_cases e : i / 16 = A / 16
    · rw [if_pos e, hb]
      by_cases c : A % 16 ≤ i % 16 ∧ i % 16 < A % 16 + P
      · rw [if_pos c, if_pos (by omega), ← Nat.shiftRight_eq_div_pow, Nat.testBit_shiftRight]
        congr 1; omega
      · rw [if_neg c, ← e, h0]
        by_cases c2 : a0 ≤ i ∧ i < A
        · rw [if_pos c2, if_pos (by omega)]
        · rw [if_neg c2, if_neg (by omega)]
    · rw [if_neg e, h0]
      by_cases c2 : a0 ≤ i ∧ i < A
      · rw [if_pos c2, if_pos (by omega)]
      · rw [if_neg c2, if_neg (by omega)]
end Go.Proofs.Ythaipemgndahfaa
