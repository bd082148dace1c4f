/- Bits that open and close, plain: the excess at a place, mates, the stack of open bits. -/
import Derived.Test.YtmampgkhobbdcabPop
namespace Go.Proofs.Ytmampgkhobbdcab

/-- The bits that are on less those that are off, among the first k. -/
def exc (W : Nat → Nat) (k : Nat) : Int := 2 * (cntN W 0 k : Int) - k
theorem exc_zero (W : Nat → Nat) : exc W 0 = 0 := by simp [exc, cntN]
theorem exc_succ (W : Nat → Nat) (k : Nat) : exc W (k + 1) = exc W k + (if bitN W k then 1 else -1) := by
  unfold exc
  rw [cntN_snoc, Nat.zero_add]
  split <;> push_cast <;> omega
theorem exc_on {W : Nat → Nat} {k : Nat} (h : bitN W k = true) : exc W (k + 1) = exc W k + 1 := by rw [exc_succ, if_pos h]
theorem exc_off {W : Nat → Nat} {k : Nat} (h : bitN W k = false) : exc W (k + 1) = exc W k - 1 := by rw [exc_succ, if_neg (by simp [h])]; omega
theorem exc_le (W : Nat → Nat) (k : Nat) : exc W k ≤ k ∧ -(k : Int) ≤ exc W k := by
  have := cntN_le W k 0; unfold exc; omega
def Bal (W : Nat → Nat) (z : Nat) : Prop := (∀ k, k ≤ z → 0 ≤ exc W k) ∧ exc W z = 0
/-- The bit q closes the bit p. -/
def Mate (W : Nat → Nat) (p q : Nat) : Prop := p < q ∧ exc W (q + 1) = exc W p ∧ ∀ k, p < k → k ≤ q → exc W p < exc W k
section
variable {W : Nat → Nat} {p q i z d : Nat} {S : Nat → Nat}
theorem Mate.on (h : Mate W p q) : bitN W p = true := by
  have := h.2.2 (p + 1) (by omega) h.1
  cases hb : bitN W p
  · rw [exc_off hb] at this; omega
  · rfl
theorem Mate.off (h : Mate W p q) : bitN W q = false := by
  have h1 := h.2.2 q h.1 (Nat.le_refl _)
  have h2 := h.2.1
  cases hb : bitN W q
  · rfl
  · rw [exc_on hb] at h2; omega
/-- The bits that are open behind the first i ones: d of them, the t-th one at S t. -/
structure Stk (W : Nat → Nat) (i d : Nat) (S : Nat → Nat) : Prop where
  pos : ∀ k, k ≤ i → 0 ≤ exc W k
  dep : exc W i = d
  lt : ∀ t, t < d → S t < i
  at_ : ∀ t, t < d → exc W (S t) = t
  up : ∀ t, t < d → ∀ k, S t < k → k ≤ i → (t : Int) < exc W k
theorem Stk.zero (W S) : Stk W 0 0 S :=
  ⟨fun k hk => by obtain rfl : k = 0 := by omega
                  rw [exc_zero]; omega, exc_zero W, fun t h => by omega, fun t h => by omega, fun t h => by omega⟩
theorem Stk.push (h : Stk W i d S) (hb : bitN W i = true) : Stk W (i + 1) (d + 1) (fun t => if t < d then S t else i) := by
  have e := exc_on hb
  have hd := h.dep
  refine ⟨fun k hk => ?_, by rw [e, hd]; push_cast; rfl, fun t ht => ?_, fun t ht => ?_, fun t ht k h1 h2 => ?_⟩
  · by_cases c : k ≤ i
    · exact h.pos k c
    · obtain rfl : k = i + 1 := by omega
      rw [e, hd]; omega
  · show (if t < d then S t else i) < _
    split
    · have := h.lt t (by omega); omega
    · omega
  · show exc W (if t < d then S t else i) = _
    split
    · exact h.at_ t (by omega)
    · rw [hd]; omega
  · by_cases c : k ≤ i
    · by_cases c2 : t < d
      · exact h.up t c2 k (by simpa [c2] using h1) c
      · simp [c2] at h1; omega
    · obtain rfl : k = i + 1 := by omega
      rw [e, hd]; omega
theorem Stk.mate (h : Stk W i (d + 1) S) (hb : bitN W i = false) : Mate W (S d) i := by
  have e := exc_off hb
  have hd := h.dep
  have ha := h.at_ d (by omega)
  exact ⟨h.lt d (by omega), by rw [e, hd, ha]; omega, fun k h1 h2 => by rw [ha]; exact h.up d (by omega) k h1 h2⟩
theorem Stk.pop (h : Stk W i (d + 1) S) (hb : bitN W i = false) : Stk W (i + 1) d S := by
  have e := exc_off hb
  have hd := h.dep
  refine ⟨fun k hk => ?_, by rw [e, hd]; omega, fun t ht => ?_, fun t ht => h.at_ t (by omega), fun t ht k h1 h2 => ?_⟩
  · by_cases c : k ≤ i
    · exact h.pos k c
    · obtain rfl : k = i + 1 := by omega
      rw [e, hd]; omega
  · have := h.lt t (by omega); omega
  · by_cases c : k ≤ i
    · exact h.up t (by omega) k h1 c
    · obtain rfl : k = i + 1 := by omega
      rw [e, hd]; omega
theorem Stk.bad (h : Stk W i 0 S) (hb : bitN W i = false) (hz : i < z) : ¬ Bal W z := fun hB => by
  have e := exc_off hb
  have := hB.1 (i + 1) (by omega)
  have := h.dep
  omega
theorem Stk.bal (h : Stk W z 0 S) : Bal W z := ⟨h.pos, h.dep⟩
theorem Stk.unbal (h : Stk W z (d + 1) S) : ¬ Bal W z := fun hB => by have := h.dep; have := hB.2; omega
theorem Stk.on (h : Stk W i d S) (t : Nat) (ht : t < d) : bitN W (S t) = true := by
  have h1 := h.lt t ht
  have h2 := h.up t ht (S t + 1) (by omega) (by omega)
  have h3 := h.at_ t ht
  cases hb : bitN W (S t)
  · rw [exc_off hb] at h2; omega
  · rfl
theorem Stk.le (h : Stk W i d S) : d ≤ i := by have := h.dep; have := exc_le W i; omega
/-- What is known of the mates of the first i bits. -/
structure Par (W : Nat → Nat) (i d : Nat) (S : Nat → Nat) (P : Nat → Int) : Prop where
  off : ∀ q, q < i → bitN W q = false → ∃ p : Nat, P q = p ∧ Mate W p q
  on : ∀ p, p < i → bitN W p = true → (∃ t, t < d ∧ S t = p) ∨ ∃ q : Nat, P p = q ∧ q < i ∧ Mate W p q
variable {P : Nat → Int}
theorem Par.zero (W S P) : Par W 0 0 S P := ⟨fun q h => by omega, fun p h => by omega⟩
theorem Par.push (h : Par W i d S P) (hb : bitN W i = true) : Par W (i + 1) (d + 1) (fun t => if t < d then S t else i) P := by
  refine ⟨fun q hq hf => ?_, fun p hp hf => ?_⟩
  · by_cases c : q = i
    · subst c; rw [hb] at hf; cases hf
    · exact h.off q (by omega) hf
  · by_cases c : p = i
    · exact .inl ⟨d, by omega, by simp [c]⟩
    · rcases h.on p (by omega) hf with ⟨t, ht, hS⟩ | ⟨q, h2, h3, h4⟩
      · exact .inl ⟨t, by omega, by simp [ht, hS]⟩
      · exact .inr ⟨q, h2, by omega, h4⟩
/-- One place of a row written over. -/
def set1 (P : Nat → Int) (a : Nat) (v : Int) : Nat → Int := fun k => if k = a then v else P k
theorem Par.pop (h : Par W i (d + 1) S P) (hs : Stk W i (d + 1) S) (hb : bitN W i = false) : Par W (i + 1) d S (set1 (set1 P i (S d)) (S d) i) := by
  have hm := hs.mate hb
  have hon := hm.on
  have hne : i ≠ S d := by have := hm.1; omega
  refine ⟨fun q hq hf => ?_, fun p hp hf => ?_⟩
  · have c2 : q ≠ S d := fun e => by rw [e, hon] at hf; cases hf
    by_cases c : q = i
    · subst c; exact ⟨S d, by simp [set1, c2], hm⟩
    · obtain ⟨p, h1, h2⟩ := h.off q (by omega) hf
      exact ⟨p, by simp [set1, c2, c, h1], h2⟩
  · have c : p ≠ i := fun e => by rw [e, hb] at hf; cases hf
    by_cases c2 : p = S d
    · subst c2; exact .inr ⟨i, by simp [set1], by omega, hm⟩
    · rcases h.on p (by omega) hf with ⟨t, ht, hS⟩ | ⟨q, h1, h3, h2⟩
      · refine .inl ⟨t, ?_, hS⟩
        by_cases c3 : t = d
        · subst c3; exact absurd hS.symm c2
        · omega
      · exact .inr ⟨q, by simp [set1, c2, c, h1], by omega, h2⟩
/-- The partners of all bits of a balanced vector. -/
structure Mates (W : Nat → Nat) (z : Nat) (P : Nat → Int) : Prop where
  off : ∀ q, q < z → bitN W q = false → ∃ p : Nat, P q = p ∧ Mate W p q
  on : ∀ p, p < z → bitN W p = true → ∃ q : Nat, P p = q ∧ q < z ∧ Mate W p q
theorem Par.all (h : Par W z 0 S P) : Mates W z P := ⟨h.off, fun p hp hf => by
  rcases h.on p hp hf with ⟨t, ht, _⟩ | h2
  · omega
  · exact h2⟩
theorem stk_all (hB : Bal W z) : ∀ i, i ≤ z → ∃ d S P, Stk W i d S ∧ Par W i d S P := by
  intro i
  induction i with
  | zero => intro _; exact ⟨0, fun _ => 0, fun _ => 0, Stk.zero _ _, Par.zero _ _ _⟩
  | succ i ih =>
    intro hi
    obtain ⟨d, S, P, h1, h2⟩ := ih (by omega)
    cases hb : bitN W i
    · cases d with
      | zero => exact absurd hB (h1.bad hb (by omega))
      | succ d => exact ⟨d, S, _, h1.pop hb, h2.pop h1 hb⟩
    · exact ⟨d + 1, _, P, h1.push hb, h2.push hb⟩
theorem mates_all (hB : Bal W z) : ∃ P, Mates W z P := by
  obtain ⟨d, S, P, h1, h2⟩ := stk_all hB z (Nat.le_refl _)
  cases d with
  | zero => exact ⟨P, h2.all⟩
  | succ d => exact absurd hB h1.unbal
theorem Mate.uniq_r {q' : Nat} (h : Mate W p q) (k : Mate W p q') : q = q' := by
  have h1 := h.2.1; have h2 := k.2.1; have h3 := h.1; have h4 := k.1
  by_cases c : q < q'
  · have := k.2.2 (q + 1) (by omega) (by omega); omega
  · by_cases c2 : q' < q
    · have := h.2.2 (q' + 1) (by omega) (by omega); omega
    · omega
theorem Mate.uniq_l {p' : Nat} (h : Mate W p q) (k : Mate W p' q) : p = p' := by
  have h1 := h.2.1; have h2 := k.2.1; have h3 := h.1; have h4 := k.1
  by_cases c : p < p'
  · have := h.2.2 p' (by omega) (by omega); omega
  · by_cases c2 : p' < p
    · have := k.2.2 p (by omega) (by omega); omega
    · omega
/-- The last bit that encloses the one at i. -/
def Above (W : Nat → Nat) (i a : Nat) : Prop := a < i ∧ exc W a = exc W i - 1 ∧ ∀ k, a < k → k ≤ i → exc W i ≤ exc W k
def NoAbove (W : Nat → Nat) (i : Nat) : Prop := ∀ k, k ≤ i → exc W i ≤ exc W k
theorem above_or (W : Nat → Nat) (i : Nat) : ∀ d, d ≤ i → (∀ k, i - d ≤ k → k ≤ i → exc W i ≤ exc W k) → (∃ a, Above W i a) ∨ NoAbove W i := by
  intro d hd
  induction h : i - d generalizing d with
  | zero => intro hk; exact .inr fun k hk2 => hk k (by omega) hk2
  | succ n ih =>
    intro hk
    by_cases c : exc W i ≤ exc W n
    · exact ih (d + 1) (by omega) (by omega) (fun k h1 h2 => by
        by_cases e : k = n
        · subst e; exact c
        · exact hk k (by omega) h2)
    · have h1 := hk (n + 1) (by omega) (by omega)
      have h2 := exc_succ W n
      refine .inl ⟨n, by omega, ?_, fun k h3 h4 => hk k (by omega) h4⟩
      split at h2 <;> omega
theorem above_all (W : Nat → Nat) (i : Nat) : (∃ a, Above W i a) ∨ NoAbove W i := above_or W i 0 (by omega) (fun k h1 h2 => by
  obtain rfl : k = i := by omega
  exact Int.le_refl _)
theorem Above.on {a : Nat} (h : Above W i a) : bitN W a = true := by
  have h1 := h.2.2 (a + 1) (by omega) h.1
  have h2 := h.2.1
  cases hb : bitN W a
  · rw [exc_off hb] at h1; omega
  · rfl
/-- What is behind the last bit that encloses i has its mate before i. -/
theorem Mates.behind {a : Nat} (h : Mates W z P) (hi : i < z) (hon : bitN W i = true) (lo : ∀ k, a < k → k ≤ i → exc W i ≤ exc W k) (b : Nat) (h1 : a < b) (h2 : b < i) : P b < (i : Int) := by
  cases hb : bitN W b
  · obtain ⟨p, e, hm⟩ := h.off b (by omega) hb
    have := hm.1; omega
  · obtain ⟨q, e, _, hm⟩ := h.on b (by omega) hb
    rw [e]
    have h3 := lo b h1 (by omega)
    have h4 : q ≠ i := fun e => by have := hm.off; rw [e, hon] at this; cases this
    have h5 : ¬ i < q := fun c => by have := hm.2.2 i h2 (by omega); omega
    omega
theorem Mates.behind0 (h : Mates W z P) (hi : i < z) (hon : bitN W i = true) (lo : NoAbove W i) (b : Nat) (h2 : b < i) : P b < (i : Int) := by
  cases hb : bitN W b
  · obtain ⟨p, e, hm⟩ := h.off b (by omega) hb
    have := hm.1; omega
  · obtain ⟨q, e, _, hm⟩ := h.on b (by omega) hb
    rw [e]
    have h3 := lo b (by omega)
    have h4 : q ≠ i := fun e => by have := hm.off; rw [e, hon] at this; cases this
    have h5 : ¬ i < q := fun c => by have := hm.2.2 i h2 (by omega); omega
    omega
theorem Mates.above {a : Nat} (h : Mates W z P) (hi : i < z) (hon : bitN W i = true) (ha : Above W i a) : (i : Int) < P a := by
  have := ha.1
  obtain ⟨q, e, _, hm⟩ := h.on a (by omega) ha.on
  rw [e]
  have h3 := hm.2.1
  have h1 := hm.1
  have h4 : q ≠ i := fun e => by have := hm.off; rw [e, hon] at this; cases this
  have h5 : ¬ q < i := fun c => by have := ha.2.2 (q + 1) (by omega) (by omega); have := ha.2.1; omega
  omega
end
end Go.Proofs.Ytmampgkhobbdcab
