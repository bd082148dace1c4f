/- Sorted numbers by halves of their digits, plain: widths, the bits of both vectors. -/
import Derived.Test.YtffdkfhnlgfigaaSome
namespace Go.Proofs.Ytffdkfhnlgfigaa
open Go.RowKit

/-- w is the width of c numbers for a limit L. -/
def IsW (c L w : Nat) : Prop := (w = 0 ∨ max c 1 * 2 ^ w ≤ L) ∧ L < max c 1 * 2 ^ (w + 1)
theorem isW_ex (c L : Nat) : ∃ w, IsW c L w := by
  have key : ∀ d w, (w = 0 ∨ max c 1 * 2 ^ w ≤ L) → L ≤ w + d → ∃ w, IsW c L w := by
    intro d
    induction d with
    | zero =>
      intro w h1 h2
      refine ⟨w, h1, ?_⟩
      have h3 : w + 1 < 2 ^ (w + 1) := Nat.lt_two_pow_self
      have h4 : 1 * 2 ^ (w + 1) ≤ max c 1 * 2 ^ (w + 1) := Nat.mul_le_mul_right _ (by omega)
      omega
    | succ d ih =>
      intro w h1 h2
      by_cases h : max c 1 * 2 ^ (w + 1) ≤ L
      · exact ih (w + 1) (.inr h) (by omega)
      · exact ⟨w, h1, by omega⟩
  exact key L 0 (.inl rfl) (by omega)
theorem isW_step {c L w v : Nat} (h : IsW c L w) (hv : v < w) : max c 1 * 2 ^ (v + 1) ≤ L := by
  rcases h.1 with h0 | h1
  · omega
  · exact Nat.le_trans (Nat.mul_le_mul_left _ (Nat.pow_le_pow_right (by omega) (by omega))) h1
theorem isW_uniq {c L w v : Nat} (h : IsW c L w) (k : IsW c L v) : w = v := by
  rcases Nat.lt_trichotomy w v with e | e | e
  · have := isW_step k e; have := h.2; omega
  · exact e
  · have := isW_step h e; have := k.2; omega
theorem isW_le {c L w : Nat} (h : IsW c L w) (hL : L ≤ 100000) : w ≤ 16 := by
  rcases Nat.lt_or_ge 16 w with e | e
  · have h1 := isW_step h e
    have h2 : 1 * 2 ^ (16 + 1) ≤ max c 1 * 2 ^ (16 + 1) := Nat.mul_le_mul_right _ (by omega)
    have h3 : (2 : Nat) ^ (16 + 1) = 131072 := by decide
    omega
  · exact e
/-- The number of bits of the second vector. -/
def hzN (c L w : Nat) : Nat := c + (L - 1) / 2 ^ w + 1
theorem hzN_le {c L w : Nat} (h : IsW c L w) (hc : c ≤ 60) : hzN c L w ≤ 200 := by
  unfold hzN
  have h1 : (L - 1) / 2 ^ w < 2 * max c 1 := by
    rw [Nat.div_lt_iff_lt_mul (Nat.pow_pos (by omega))]
    have := h.2
    rw [Nat.pow_succ] at this
    have e : 2 * max c 1 * 2 ^ w = max c 1 * (2 ^ w * 2) := by rw [Nat.mul_comm 2, Nat.mul_assoc, Nat.mul_comm 2]
    have h2 : 0 < 2 * max c 1 * 2 ^ w := Nat.mul_pos (by omega) (Nat.pow_pos (by omega))
    omega
  omega

/-- Sorted numbers f 0 .. f (c - 1) for a limit L, of the width w. -/
structure SpN (c L w : Nat) (f : Nat → Nat) : Prop where
  hc : c ≤ 60
  h1 : 1 ≤ L
  hL : L ≤ 100000
  wd : IsW c L w
  low : ∀ i, i < c → f i < L
  up : ∀ i, i + 1 < c → f i ≤ f (i + 1)
/-- The bits of the first vector when k numbers have been put into it, and those of the second one. -/
def lowB (f : Nat → Nat) (w k : Nat) (i : Nat) : Bool := decide (i < k * w) && (f (i / w) % 2 ^ w).testBit (i % w)
def highB (f : Nat → Nat) (w k : Nat) (i : Nat) : Bool := (List.range k).any fun j => f j / 2 ^ w + j == i
theorem highB_iff {f : Nat → Nat} {w k i : Nat} : highB f w k i = true ↔ ∃ j, j < k ∧ f j / 2 ^ w + j = i := by
  unfold highB; simp [List.any_eq_true]
theorem highB_succ (f : Nat → Nat) (w k i : Nat) : highB f w (k + 1) i = (highB f w k i || (f k / 2 ^ w + k == i)) := by
  unfold highB; rw [List.range_succ, List.any_append]; simp
theorem lowB_succ (f : Nat → Nat) (w k i : Nat) : lowB f w (k + 1) i = if k * w ≤ i ∧ i < k * w + w then (f k % 2 ^ w).testBit (i - k * w) else lowB f w k i := by
  unfold lowB
  rw [Nat.succ_mul]
  by_cases h : k * w ≤ i ∧ i < k * w + w
  · rw [if_pos h]
    have hw : 0 < w := by omega
    have e1 : i / w = k := by
      rw [Nat.div_eq_iff hw]; constructor
      · omega
      · omega
    have e2 : i % w = i - k * w := by
      have := Nat.div_add_mod i w; rw [e1, Nat.mul_comm] at this; omega
    rw [e1, e2]; simp [h.2]
  · rw [if_neg h]
    by_cases h2 : i < k * w
    · simp [h2, show i < k * w + w by omega]
    · simp [h2, show ¬ i < k * w + w by omega]
theorem lowB_zero (f : Nat → Nat) (w i : Nat) : lowB f w 0 i = false := by unfold lowB; simp
theorem highB_zero (f : Nat → Nat) (w i : Nat) : highB f w 0 i = false := by unfold highB; simp
section
variable {c L w : Nat} {f : Nat → Nat}
theorem SpN.mono (h : SpN c L w f) : ∀ {i j}, i ≤ j → j < c → f i ≤ f j := by
  intro i j hij
  induction hij with
  | refl => intro _; exact Nat.le_refl _
  | @step m hm ih => intro hj; exact Nat.le_trans (ih (by omega)) (h.up m hj)
/-- The place of the number with the index j in the second vector. -/
theorem SpN.at_lt (h : SpN c L w f) {i j : Nat} (hij : i < j) (hj : j < c) : f i / 2 ^ w + i < f j / 2 ^ w + j := by
  have := Nat.div_le_div_right (c := 2 ^ w) (h.mono (Nat.le_of_lt hij) hj)
  omega
theorem SpN.at_top (h : SpN c L w f) {j : Nat} (hj : j < c) : f j / 2 ^ w + j < hzN c L w := by
  unfold hzN
  have h1 : f j / 2 ^ w ≤ (L - 1) / 2 ^ w := Nat.div_le_div_right (by have := h.low j hj; omega)
  omega
theorem SpN.width (h : SpN c L w f) : w ≤ 16 := isW_le h.wd h.hL
theorem SpN.high (h : SpN c L w f) : hzN c L w ≤ 200 := hzN_le h.wd h.hc
theorem SpN.lows (h : SpN c L w f) : c * w ≤ 960 := Nat.mul_le_mul h.hc h.width
/-- The bit at the place of a number is on, and none between it and the one before. -/
theorem SpN.on (_h : SpN c L w f) {j : Nat} (hj : j < c) : highB f w c (f j / 2 ^ w + j) = true := highB_iff.2 ⟨j, hj, rfl⟩
theorem SpN.off (h : SpN c L w f) {j i : Nat} (hj : j ≤ c) (h1 : 0 < j → f (j - 1) / 2 ^ w + (j - 1) < i) (h2 : j < c → i < f j / 2 ^ w + j) : highB f w c i = false := by
  rw [Bool.eq_false_iff]
  intro hc
  obtain ⟨k, hk, e⟩ := highB_iff.1 hc
  by_cases c1 : k < j
  · by_cases c2 : k = j - 1
    · subst c2; have := h1 (by omega); omega
    · have := h.at_lt (show k < j - 1 by omega) (by omega); have := h1 (by omega); omega
  · by_cases c2 : k = j
    · subst c2; have := h2 hk; omega
    · have := h.at_lt (show j < k by omega) hk; have := h2 (by omega); omega
end
theorem split_num (n w : Nat) : n / 2 ^ w * 2 ^ w + n % 2 ^ w = n := by have := Nat.div_add_mod n (2 ^ w); rw [Nat.mul_comm] at this; exact this

/-! Words of told bits. -/
theorem words_lt (f : Nat → Bool) (k : Nat) : wordsOf f k < 65536 := ofB_lt f 16 _
theorem words_bit (f : Nat → Bool) (i : Nat) : bitN (fun k => wordsOf f k) i = f i := by
  unfold bitN wordsOf
  rw [ofB_bit, show 16 * (i / 16) + i % 16 = i by omega]
  simp [Nat.mod_lt]
theorem words_ext {f g : Nat → Bool} {m : Nat} (h : ∀ i, i < 16 * m → f i = g i) {k : Nat} (hk : k < m) : wordsOf f k = wordsOf g k := by
  apply Nat.eq_of_testBit_eq
  intro j
  unfold wordsOf
  rw [ofB_bit, ofB_bit]
  by_cases c : j < 16
  · rw [h _ (by omega)]
  · simp [c]
/-- Words of bits that are off from z on are a valid vector of z bits. -/
theorem words_good {z m : Nat} {F : Nat → Bool} (hz : z ≤ 4096) (hm : m = (z + 15) / 16) (hoff : ∀ i, z ≤ i → i < 16 * m → F i = false) : Good (z : Int) m (fun i => (wordsOf F i : Int)) := by
  have h : ∀ i, i < m → wordsOf F i < 2 ^ (min 16 (z - 16 * i)) := fun i hi => by
    apply Nat.lt_pow_two_of_testBit
    intro j hj
    unfold wordsOf
    rw [ofB_bit]
    by_cases c : j < 16
    · rw [hoff _ (by omega) (by omega)]; simp
    · simp [c]
  generalize wordsOf F = G at h ⊢
  refine ⟨by omega, by omega, by omega, fun i hi => ?_⟩
  show 0 ≤ (G i : Int) ∧ (G i : Int) < cap z i
  refine ⟨by omega, ?_⟩
  have h1 := h i hi
  unfold cap
  rw [show ((z : Int).toNat - 16 * i) = z - 16 * i by omega]
  exact_mod_cast h1
theorem field_words {F : Nat → Bool} {a w v : Nat} (hv : v < 2 ^ w) (h : ∀ j, j < w → F (a + j) = v.testBit j) : fieldN (fun k => wordsOf F k) a w = v := by
  apply Nat.eq_of_testBit_eq
  intro j
  rw [fieldN_bit]
  by_cases c : j < w
  · rw [words_bit, h j c]; simp [c]
  · have : v.testBit j = false := Nat.testBit_lt_two_pow (Nat.lt_of_lt_of_le hv (Nat.pow_le_pow_right (by omega) (by omega)))
    simp [c, this]
theorem low_field {f : Nat → Nat} {w c j : Nat} (hj : j < c) : fieldN (fun k => wordsOf (lowB f w c) k) (j * w) w = f j % 2 ^ w := by
  apply field_words (Nat.mod_lt _ (Nat.pow_pos (by omega)))
  intro i hi
  have hw : 0 < w := by omega
  have h1 : j * w + i < c * w := by
    have : (j + 1) * w ≤ c * w := Nat.mul_le_mul_right _ hj
    rw [Nat.succ_mul] at this; omega
  have e1 : (j * w + i) / w = j := by rw [Nat.mul_comm, Nat.mul_add_div hw, Nat.div_eq_of_lt hi, Nat.add_zero]
  have e2 : (j * w + i) % w = i := by rw [Nat.mul_comm, Nat.mul_add_mod, Nat.mod_eq_of_lt hi]
  unfold lowB
  rw [e1, e2]; simp [h1]
theorem low_off {f : Nat → Nat} {w c i : Nat} (h : c * w ≤ i) : lowB f w c i = false := by unfold lowB; simp [show ¬ i < c * w by omega]
theorem SpN.high_off {c L w : Nat} {f : Nat → Nat} (h : SpN c L w f) {i : Nat} (hi : hzN c L w ≤ i) : highB f w c i = false := by
  rw [Bool.eq_false_iff]
  intro hc
  obtain ⟨k, hk, e⟩ := highB_iff.1 hc
  have := h.at_top hk; omega

/-- What a valid Sparse holds. -/
structure SpIs (zc zL zw zl : Int) (nl : Nat) (Xl : Nat → Int) (zh : Int) (nh : Nat) (Xh : Nat → Int) (c L w : Nat) (f : Nat → Nat) : Prop where
  num : SpN c L w f
  ec : zc = c
  eL : zL = L
  ew : zw = w
  el : zl = (c * w : Nat)
  enl : nl = (c * w + 15) / 16
  xl : ∀ i, i < nl → Xl i = (wordsOf (lowB f w c) i : Int)
  eh : zh = (hzN c L w : Nat)
  enh : nh = (hzN c L w + 15) / 16
  xh : ∀ i, i < nh → Xh i = (wordsOf (highB f w c) i : Int)
section
variable {zc zL zw zl : Int} {nl : Nat} {Xl : Nat → Int} {zh : Int} {nh : Nat} {Xh : Nat → Int} {c L w : Nat} {f : Nat → Nat}
theorem good_congr {z : Int} {n : Nat} {X Y : Nat → Int} (h : Good z n X) (e : ∀ i, i < n → Y i = X i) : Good z n Y := ⟨h.1, h.2.1, h.2.2.1, fun i hi => by rw [e i hi]; exact h.2.2.2 i hi⟩
theorem SpIs.goodl (h : SpIs zc zL zw zl nl Xl zh nh Xh c L w f) : Good zl nl Xl := by
  rw [h.el]
  exact good_congr (words_good (by have := h.num.lows; omega) h.enl (fun i hi _ => low_off hi)) h.xl
theorem SpIs.goodh (h : SpIs zc zL zw zl nl Xl zh nh Xh c L w f) : Good zh nh Xh := by
  rw [h.eh]
  exact good_congr (words_good (by have := h.num.high; omega) h.enh (fun i hi _ => h.num.high_off hi)) h.xh
theorem field_congr {W V : Nat → Nat} : ∀ (w a : Nat), (∀ i, a ≤ i → i < a + w → bitN W i = bitN V i) → fieldN W a w = fieldN V a w
  | 0, _, _ => rfl
  | w + 1, a, h => by rw [fieldN, fieldN, h a (by omega) (by omega), field_congr w (a + 1) (fun i h1 h2 => h i (by omega) (by omega))]
theorem SpIs.field (h : SpIs zc zL zw zl nl Xl zh nh Xh c L w f) {j : Nat} (hj : j < c) : fieldN (fun i => (Xl i).toNat) (j * w) w = f j % 2 ^ w := by
  rw [← low_field hj]
  refine field_congr w (j * w) fun i h1 h2 => ?_
  have h3 : (j + 1) * w ≤ c * w := Nat.mul_le_mul_right _ hj
  rw [Nat.succ_mul] at h3
  show (Xl (i / 16)).toNat.testBit (i % 16) = (wordsOf (lowB f w c) (i / 16)).testBit (i % 16)
  rw [h.xl (i / 16) (by rw [h.enl]; omega)]; rfl
theorem SpIs.bit (h : SpIs zc zL zw zl nl Xl zh nh Xh c L w f) {i : Nat} (hi : i < 16 * nh) : bitN (fun i => (Xh i).toNat) i = highB f w c i := by
  rw [← words_bit (highB f w c) i]
  show (Xh (i / 16)).toNat.testBit (i % 16) = (wordsOf (highB f w c) (i / 16)).testBit (i % 16)
  rw [h.xh (i / 16) (by omega)]; rfl
theorem SpIs.hz (h : SpIs zc zL zw zl nl Xl zh nh Xh c L w f) : hzN c L w ≤ 16 * nh := by rw [h.enh]; omega
/-- From behind one number's place the next one's place is the first bit that is on. -/
theorem SpIs.found (h : SpIs zc zL zw zl nl Xl zh nh Xh c L w f) {j a : Nat} (hj : j < c) (hb : 0 < j → f (j - 1) / 2 ^ w + (j - 1) < a) :
    ∀ i, a ≤ i → i < f j / 2 ^ w + j → bitN (fun i => (Xh i).toNat) i = false := fun i h1 h2 => by
  have := h.num.at_top hj; have := h.hz
  rw [h.bit (by omega)]
  exact h.num.off (by omega) (fun h0 => by have := hb h0; omega) (fun _ => h2)
theorem SpIs.hit (h : SpIs zc zL zw zl nl Xl zh nh Xh c L w f) {j : Nat} (hj : j < c) : bitN (fun i => (Xh i).toNat) (f j / 2 ^ w + j) = true := by
  have := h.num.at_top hj; have := h.hz
  rw [h.bit (by omega)]; exact h.num.on hj
theorem SpIs.uniq (h : SpIs zc zL zw zl nl Xl zh nh Xh c L w f) {c' L' w' : Nat} {g : Nat → Nat} (k : SpIs zc zL zw zl nl Xl zh nh Xh c' L' w' g) : c = c' ∧ L = L' ∧ w = w' := by
  have h1 := h.ec; have h2 := k.ec; have h3 := h.eL; have h4 := k.eL; have h5 := h.ew; have h6 := k.ew
  omega
end
end Go.Proofs.Ytffdkfhnlgfigaa
