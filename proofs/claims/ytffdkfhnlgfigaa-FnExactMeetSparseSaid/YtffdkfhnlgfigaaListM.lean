/- The numbers that a Sparse tells, plain: the bits that are on, in order. -/
import Derived.Test.YtffdkfhnlgfigaaSpM
namespace Go.Proofs.Ytffdkfhnlgfigaa
open Go.RowKit

/-- Behind the place of the m-th bit. -/
def aft (P : Nat → Nat) (m : Nat) : Nat := if m = 0 then 0 else P (m - 1) + 1
theorem aft_succ (P : Nat → Nat) (m : Nat) : aft P (m + 1) = P m + 1 := by unfold aft; simp
theorem aft_zero (P : Nat → Nat) : aft P 0 = 0 := rfl
/-- P 0 .. P (m - 1) are the first m bits that are on, and none is on from there up to p. -/
structure OnesTo (W : Nat → Nat) (p m : Nat) (P : Nat → Nat) : Prop where
  on : ∀ i, i < m → P i < p ∧ aft P i ≤ P i ∧ bitN W (P i) = true
  gap : ∀ i, i < m → ∀ j, aft P i ≤ j → j < P i → bitN W j = false
  tail : ∀ j, aft P m ≤ j → j < p → bitN W j = false
def putP (P : Nat → Nat) (m p : Nat) (i : Nat) : Nat := if i = m then p else P i
theorem putP_lt {P : Nat → Nat} {m p i : Nat} (h : i < m) : putP P m p i = P i := by unfold putP; rw [if_neg (by omega)]
theorem putP_at {P : Nat → Nat} {m p : Nat} : putP P m p m = p := by unfold putP; simp
theorem aft_put {P : Nat → Nat} {m p i : Nat} (h : i ≤ m) : aft (putP P m p) i = aft P i := by
  unfold aft
  by_cases e : i = 0
  · simp [e]
  · rw [if_neg e, if_neg e, putP_lt (by omega)]
section
variable {W : Nat → Nat} {p m : Nat} {P : Nat → Nat}
theorem OnesTo.start (W : Nat → Nat) (P : Nat → Nat) : OnesTo W 0 0 P := ⟨fun i h => absurd h (by omega), fun i h => absurd h (by omega), fun j _ h => absurd h (by omega)⟩
theorem OnesTo.skip (h : OnesTo W p m P) (hb : bitN W p = false) : OnesTo W (p + 1) m P :=
  ⟨fun i hi => ⟨Nat.lt_succ_of_lt (h.on i hi).1, (h.on i hi).2⟩, h.gap, fun j h1 h2 => by
    by_cases e : j = p
    · rw [e]; exact hb
    · exact h.tail j h1 (by omega)⟩
theorem OnesTo.aft_le (h : OnesTo W p m P) : aft P m ≤ p := by
  unfold aft
  by_cases e : m = 0
  · simp [e]
  · rw [if_neg e]; have := (h.on (m - 1) (by omega)).1; omega
theorem OnesTo.take (h : OnesTo W p m P) (hb : bitN W p = true) : OnesTo W (p + 1) (m + 1) (putP P m p) := by
  refine ⟨fun i hi => ?_, fun i hi j h1 h2 => ?_, fun j h1 h2 => ?_⟩
  · by_cases e : i = m
    · subst e; rw [putP_at, aft_put (Nat.le_refl _)]; exact ⟨by omega, h.aft_le, hb⟩
    · rw [putP_lt (by omega), aft_put (by omega)]; have := h.on i (by omega); exact ⟨by omega, this.2⟩
  · by_cases e : i = m
    · subst e; rw [putP_at] at h2; rw [aft_put (Nat.le_refl _)] at h1; exact h.tail j h1 h2
    · rw [putP_lt (by omega)] at h2; rw [aft_put (by omega)] at h1; exact h.gap i (by omega) j h1 h2
  · rw [aft_succ, putP_at] at h1; omega
theorem OnesTo.jump (h : OnesTo W p m P) (hp : p = aft P m) {k : Nat} (hk : p ≤ k) (hb : bitN W k = true) (hg : ∀ j, p ≤ j → j < k → bitN W j = false) : OnesTo W (k + 1) (m + 1) (putP P m k) := by
  have h2 : OnesTo W k m P := ⟨fun i hi => ⟨by have := (h.on i hi).1; omega, (h.on i hi).2⟩, h.gap, fun j h1 h3 => hg j (by omega) h3⟩
  exact h2.take hb
theorem OnesTo.ge (h : OnesTo W p m P) : ∀ i, i < m → i ≤ P i := by
  intro i
  induction i with
  | zero => intro _; omega
  | succ i ih => intro hi; have := ih (by omega); have := (h.on (i + 1) hi).2.1; rw [aft_succ] at this; omega
end
/-- The number that the i-th place tells. -/
def gv (V : Nat → Nat) (w : Nat) (P : Nat → Nat) (i : Nat) : Nat := (P i - i) * 2 ^ w + fieldN V (i * w) w
theorem gv_put {V : Nat → Nat} {w : Nat} {P : Nat → Nat} {m p i : Nat} (h : i < m) : gv V w (putP P m p) i = gv V w P i := by unfold gv; rw [putP_lt h]
theorem gv_at {V : Nat → Nat} {w : Nat} {P : Nat → Nat} {m p : Nat} : gv V w (putP P m p) m = (p - m) * 2 ^ w + fieldN V (m * w) w := by unfold gv; rw [putP_at]
section
variable {zc zL zw zl : Int} {nl : Nat} {Xl : Nat → Int} {zh : Int} {nh : Nat} {Xh : Nat → Int} {c L w p m : Nat} {f P : Nat → Nat}
/-- In a valid Sparse the places are those of its numbers. -/
theorem SpIs.places (h : SpIs zc zL zw zl nl Xl zh nh Xh c L w f) (o : OnesTo (fun i => (Xh i).toNat) p m P) (hp : p ≤ hzN c L w) : m ≤ c ∧ ∀ i, i < m → P i = f i / 2 ^ w + i := by
  have key : ∀ i, i < m → i < c ∧ P i = f i / 2 ^ w + i := by
    intro i
    induction i using Nat.strongRecOn with
    | ind i ih =>
      intro hi
      have hon := o.on i hi
      have hz := h.hz
      have hbit := hon.2.2
      rw [h.bit (by omega)] at hbit
      have hprev : 0 < i → f (i - 1) / 2 ^ w + (i - 1) < P i := fun h0 => by
        have h1 := (ih (i - 1) (by omega) (by omega)).2
        have h2 := hon.2.1
        unfold aft at h2; rw [if_neg (by omega)] at h2; omega
      have hic : i < c := by
        rcases Nat.lt_or_ge i c with hl | hg
        · exact hl
        · exfalso
          have hi' : i = c ∨ c < i := by omega
          have hlt : ∀ j, j < i → j < c := fun j hj => (ih j hj (by omega)).1
          have : i ≤ c := by
            rcases Nat.eq_zero_or_pos i with e | e
            · omega
            · have := hlt (i - 1) (by omega); omega
          obtain rfl : i = c := by omega
          have := h.num.off (j := i) (i := P i) (Nat.le_refl _) hprev (fun hh => absurd hh (by omega))
          rw [this] at hbit; cases hbit
      refine ⟨hic, ?_⟩
      have hb : 0 < i → f (i - 1) / 2 ^ w + (i - 1) < aft P i := fun h0 => by
        have h1 := (ih (i - 1) (by omega) (by omega)).2
        unfold aft; rw [if_neg (by omega)]; omega
      have hat := h.hit hic
      have htop := h.num.at_top hic
      rcases Nat.lt_trichotomy (P i) (f i / 2 ^ w + i) with e | e | e
      · have := h.found hic hb (P i) hon.2.1 e
        rw [hon.2.2] at this; cases this
      · exact e
      · have h3 : aft P i ≤ f i / 2 ^ w + i := by
          unfold aft
          by_cases e0 : i = 0
          · simp [e0]
          · rw [if_neg e0]
            have h1 := (ih (i - 1) (by omega) (by omega)).2
            have := h.num.at_lt (i := i - 1) (j := i) (by omega) hic; omega
        have := o.gap i hi _ h3 e
        rw [hat] at this; cases this
  refine ⟨?_, fun i hi => (key i hi).2⟩
  rcases Nat.eq_zero_or_pos m with e | e
  · omega
  · have := (key (m - 1) (by omega)).1; omega
theorem SpIs.value (h : SpIs zc zL zw zl nl Xl zh nh Xh c L w f) (o : OnesTo (fun i => (Xh i).toNat) p m P) (hp : p ≤ hzN c L w) {i : Nat} (hi : i < m) : gv (fun i => (Xl i).toNat) w P i = f i := by
  have h1 := h.places o hp
  unfold gv
  rw [h1.2 i hi, h.field (by omega), Nat.add_sub_cancel]; exact split_num _ _
theorem SpIs.full (h : SpIs zc zL zw zl nl Xl zh nh Xh c L w f) (o : OnesTo (fun i => (Xh i).toNat) p m P) (hp : p = hzN c L w) : m = c := by
  have h1 := h.places o (by omega)
  rcases Nat.lt_or_ge m c with e | e
  · exfalso
    have h2 := o.tail (f m / 2 ^ w + m) (by
      unfold aft
      by_cases e0 : m = 0
      · simp [e0]
      · rw [if_neg e0, h1.2 (m - 1) (by omega)]; have := h.num.at_lt (i := m - 1) (j := m) (by omega) e; omega) (by rw [hp]; exact h.num.at_top e)
    rw [h.hit e] at h2; cases h2
  · omega
/-- What is told and built again is a valid Sparse. -/
theorem SpIs.mk' (hS : SpN c L w f) (ec : zc = c) (eL : zL = L) (ew : zw = w) (gl : Good zl nl Xl) (gh : Good zh nh Xh) (el : zl = (c * w : Nat)) (eh : zh = (hzN c L w : Nat))
    (xl : ∀ i, i < nl → Xl i = (wordsOf (lowB f w c) i : Int)) (xh : ∀ i, i < nh → Xh i = (wordsOf (highB f w c) i : Int)) : SpIs zc zL zw zl nl Xl zh nh Xh c L w f :=
  ⟨hS, ec, eL, ew, el, by have := gl.2.2.1; omega, xl, eh, by have := gh.2.2.1; omega, xh⟩
/-- A value of the type is valid. -/
def SpV (zc zL zw zl : Int) (nl : Nat) (Xl : Nat → Int) (zh : Int) (nh : Nat) (Xh : Nat → Int) : Prop := ∃ c L w f, SpIs zc zL zw zl nl Xl zh nh Xh c L w f
/-- Numbers and widths that fit, ahead of any look into the vectors. -/
def SpHead (zc zL zw : Int) (c L w : Nat) : Prop := zc = c ∧ zL = L ∧ zw = w ∧ c ≤ 60 ∧ 1 ≤ L ∧ L ≤ 100000 ∧ IsW c L w
theorem SpIs.head (h : SpIs zc zL zw zl nl Xl zh nh Xh c L w f) : SpHead zc zL zw c L w := ⟨h.ec, h.eL, h.ew, h.num.hc, h.num.h1, h.num.hL, h.num.wd⟩
theorem gv_lt (o : OnesTo (fun i => (Xh i).toNat) p m P) (hp : p ≤ 4096) (hw : w ≤ 16) {i : Nat} (hi : i < m) {V : Nat → Nat} : gv V w P i < 268500992 := by
  unfold gv
  have h1 := fieldN_lt V w (i * w)
  have h2 : 2 ^ w ≤ 2 ^ 16 := Nat.pow_le_pow_right (by omega) hw
  have h3 : (2 : Nat) ^ 16 = 65536 := by decide
  have h4 : (P i - i) * 2 ^ w ≤ 4096 * 65536 := Nat.mul_le_mul (by have := (o.on i hi).1; omega) (by omega)
  omega
theorem lowB_congr {f g : Nat → Nat} {w c : Nat} (h : ∀ i, i < c → f i = g i) : lowB f w c = lowB g w c := by
  funext i
  unfold lowB
  by_cases e : i < c * w
  · have hw : 0 < w := by rcases Nat.eq_zero_or_pos w with e0 | e0; · subst e0; omega
                          · exact e0
    rw [h (i / w) ((Nat.div_lt_iff_lt_mul hw).2 e)]
  · simp [e]
theorem highB_congr {f g : Nat → Nat} {w c : Nat} (h : ∀ i, i < c → f i = g i) : highB f w c = highB g w c := by
  funext i
  rw [Bool.eq_iff_iff, highB_iff, highB_iff]
  constructor
  · rintro ⟨j, hj, e⟩; exact ⟨j, hj, by rw [← h j hj]; exact e⟩
  · rintro ⟨j, hj, e⟩; exact ⟨j, hj, by rw [h j hj]; exact e⟩
theorem SpN.congr {g : Nat → Nat} (h : SpN c L w f) (e : ∀ i, i < c → f i = g i) : SpN c L w g :=
  ⟨h.hc, h.h1, h.hL, h.wd, fun i hi => by rw [← e i hi]; exact h.low i hi, fun i hi => by rw [← e i (by omega), ← e (i + 1) hi]; exact h.up i hi⟩
theorem SpIs.congr {g : Nat → Nat} (h : SpIs zc zL zw zl nl Xl zh nh Xh c L w f) (e : ∀ i, i < c → f i = g i) : SpIs zc zL zw zl nl Xl zh nh Xh c L w g :=
  ⟨h.num.congr e, h.ec, h.eL, h.ew, h.el, h.enl, by rw [← lowB_congr e]; exact h.xl, h.eh, h.enh, by rw [← highB_congr e]; exact h.xh⟩
theorem SpV.at {v : Nat} (h : SpV (c : Int) (L : Int) (v : Int) zl nl Xl zh nh Xh) : ∃ f, SpIs (c : Int) (L : Int) (v : Int) zl nl Xl zh nh Xh c L v f := by
  obtain ⟨c', L', w', f, h⟩ := h
  have h1 := h.ec; have h2 := h.eL; have h3 := h.ew
  obtain rfl : c = c' := by omega
  obtain rfl : L = L' := by omega
  obtain rfl : v = w' := by omega
  exact ⟨f, h⟩
/-- What the places tell is what a valid Sparse holds. -/
theorem SpV.told {v : Nat} (h : SpV (c : Int) (L : Int) (v : Int) zl nl Xl zh nh Xh) (o : OnesTo (fun i => (Xh i).toNat) p m P) (hp : p ≤ hzN c L v) (hf : m = c ∨ p = hzN c L v) : m = c ∧ SpIs (c : Int) (L : Int) (v : Int) zl nl Xl zh nh Xh c L v (gv (fun i => (Xl i).toNat) v P) := by
  obtain ⟨f, h⟩ := h.at
  have e : m = c := by
    rcases hf with e | e
    · exact e
    · exact h.full o e
  subst e
  exact ⟨rfl, h.congr fun i hi => (h.value o hp hi).symm⟩
end
end Go.Proofs.Ytffdkfhnlgfigaa
