/- Tries: the model's list of nodes, level by level, is that of the nodes; no program. -/
import Derived.Test.YthaipemgndahfaaTrM
namespace Go.Proofs.Ythaipemgndahfaa
open Go.RowKit

def ndStep (n : Nat) (out : List Byt) (s : Byt) : List Byt := if n ≤ s.length ∧ s.take n ≠ out.getLastD [] then out ++ [s.take n] else out
def ndLvl (n : Nat) (L out : List Byt) : List Byt := L.foldl (ndStep n) out
def ndUp (L : List Byt) : Nat → List Byt
  | 0 => [[]]
  | m + 1 => ndLvl (m + 1) L (ndUp L m)
def OldN (L : List Byt) (m : Nat) (p : Byt) : Prop := p = [] ∨ (p.length ≤ m ∧ ∃ s, s ∈ L ∧ p <+: s)
def LvlJ (L : List Byt) (m : Nat) (P out : List Byt) : Prop :=
  out.Pairwise slx ∧ (∀ p, p ∈ out ↔ OldN L m p ∨ ∃ s, s ∈ P ∧ m + 1 ≤ s.length ∧ p = s.take (m + 1)) ∧ out ≠ []
theorem le_last {out : List Byt} (h : out.Pairwise slx) : ∀ x, x ∈ out → x = out.getLastD [] ∨ slx x (out.getLastD []) := fun x hx => by
  rcases List.eq_nil_or_concat out with rfl | ⟨o, y, rfl⟩
  · cases hx
  · rw [List.concat_eq_append] at *
    have e : (o ++ [y]).getLastD [] = y := by simp
    rw [e]
    rcases List.mem_append.1 hx with hx | hx
    · exact .inr ((List.pairwise_append.1 h).2.2 x hx y (by simp))
    · exact .inl (by simpa using hx)
theorem last_mem {out : List Byt} (h : out ≠ []) : out.getLastD [] ∈ out := by
  rcases List.eq_nil_or_concat out with rfl | ⟨o, y, rfl⟩
  · exact absurd rfl h
  · simp
theorem LvlJ.step {L : List Byt} {m : Nat} {P out : List Byt} {s : Byt} (h : LvlJ L m P out) (hs : ∀ t, t ∈ P → t ≤ s) : LvlJ L m (P ++ [s]) (ndStep (m + 1) out s) := by
  obtain ⟨h1, h2, h3⟩ := h
  have hmem : ∀ p, (∃ t, t ∈ P ++ [s] ∧ m + 1 ≤ t.length ∧ p = t.take (m + 1)) ↔ (∃ t, t ∈ P ∧ m + 1 ≤ t.length ∧ p = t.take (m + 1)) ∨ (m + 1 ≤ s.length ∧ p = s.take (m + 1)) := fun p => by
    constructor
    · rintro ⟨t, ht, h⟩
      rcases List.mem_append.1 ht with ht | ht
      · exact .inl ⟨t, ht, h⟩
      · rw [List.mem_singleton] at ht; subst ht; exact .inr h
    · rintro (⟨t, ht, h⟩ | h)
      · exact ⟨t, List.mem_append_left _ ht, h⟩
      · exact ⟨s, by simp, h⟩
  unfold ndStep
  by_cases hl : m + 1 ≤ s.length
  · by_cases he : s.take (m + 1) = out.getLastD []
    · rw [if_neg (fun h => h.2 he)]
      refine ⟨h1, fun p => ?_, h3⟩
      rw [hmem, h2]
      constructor
      · rintro (h | h)
        · exact .inl h
        · exact .inr (.inl h)
      · rintro (h | h | ⟨_, rfl⟩)
        · exact .inl h
        · exact .inr h
        · rw [he]; exact (h2 _).1 (last_mem h3)
    · rw [if_pos ⟨hl, he⟩]
      refine ⟨List.pairwise_append.2 ⟨h1, by simp, fun x hx y hy => ?_⟩, fun p => ?_, by simp⟩
      · rw [List.mem_singleton] at hy; subst hy
        have hlen : (s.take (m + 1)).length = m + 1 := by simp; omega
        rcases (h2 x).1 hx with (rfl | ⟨ho, _⟩) | ⟨t, ht, htl, rfl⟩
        · exact .inl (by rw [hlen]; simp)
        · exact .inl (by omega)
        · have hle : t.take (m + 1) ≤ s.take (m + 1) := take_mono (m + 1) htl hl (hs t ht)
          have hxl : (t.take (m + 1)).length = m + 1 := by simp; omega
          refine .inr ⟨by omega, bs_lt hle (fun e => ?_)⟩
          rcases le_last h1 _ hx with k | k
          · exact he (e ▸ k)
          · rcases (h2 _).1 (last_mem h3) with (k2 | ⟨k2, _⟩) | ⟨u, hu, hul, k2⟩
            · rw [k2] at k
              rcases k with k | ⟨k, _⟩
              · simp at k
              · rw [hxl] at k; simp at k
            · rcases k with k | ⟨k, _⟩ <;> omega
            · have hle2 := take_mono (m + 1) hul hl (hs u hu)
              rw [k2] at k
              rcases k with k | ⟨_, k⟩
              · rw [hxl] at k; simp at k; omega
              · rw [e] at k
                exact bs_irr _ (bs_ltle k hle2)
      · rw [List.mem_append, h2, hmem, List.mem_singleton]
        constructor
        · rintro ((h | h) | h)
          · exact .inl h
          · exact .inr (.inl h)
          · exact .inr (.inr ⟨hl, h⟩)
        · rintro (h | h | h)
          · exact .inl (.inl h)
          · exact .inl (.inr h)
          · exact .inr h.2
  · rw [if_neg (fun h => hl h.1)]
    refine ⟨h1, fun p => ?_, h3⟩
    rw [h2, hmem]
    constructor
    · rintro (h | h)
      · exact .inl h
      · exact .inr (.inl h)
    · rintro (h | h | h)
      · exact .inl h
      · exact .inr h
      · exact absurd h.1 hl
theorem LvlJ.all {L : List Byt} {m : Nat} : ∀ {R P out : List Byt}, LvlJ L m P out → (P ++ R).Pairwise (· ≤ ·) → LvlJ L m (P ++ R) (ndLvl (m + 1) R out)
  | [], P, out, h, _ => by rw [List.append_nil]; exact h
  | s :: R, P, out, h, hp => by
    have h2 := h.step (s := s) (fun t ht => (List.pairwise_append.1 hp).2.2 t ht s (by simp))
    have := LvlJ.all (R := R) h2 (by simpa using hp)
    rw [List.append_assoc] at this
    exact this
theorem inc_le {L : List Byt} (h : Inc L) : L.Pairwise (· ≤ ·) := h.imp (fun h => List.le_of_lt h)
theorem pre_take {p s : Byt} {k : Nat} (hk : p.length = k) : p <+: s ↔ k ≤ s.length ∧ p = s.take k := by
  constructor
  · intro h; exact ⟨by have := h.length_le; omega, by rw [← hk]; exact List.prefix_iff_eq_take.1 h⟩
  · rintro ⟨_, rfl⟩; exact List.take_prefix _ _
theorem ndUp_is {L : List Byt} (h : Inc L) : ∀ m, (ndUp L m).Pairwise slx ∧ (∀ p, p ∈ ndUp L m ↔ OldN L m p) ∧ ndUp L m ≠ []
  | 0 => by
    refine ⟨by simp [ndUp], fun p => ?_, by simp [ndUp]⟩
    unfold OldN ndUp
    rw [List.mem_singleton]
    constructor
    · exact .inl
    · rintro (h | ⟨h, _⟩)
      · exact h
      · exact List.length_eq_zero_iff.1 (by omega)
  | m + 1 => by
    obtain ⟨h1, h2, h3⟩ := ndUp_is h m
    have hJ : LvlJ L m [] (ndUp L m) := ⟨h1, fun p => by rw [h2]; simp, h3⟩
    obtain ⟨a1, a2, a3⟩ := hJ.all (R := L) (by rw [List.nil_append]; exact inc_le h)
    refine ⟨a1, fun p => ?_, a3⟩
    refine (a2 p).trans ?_
    rw [List.nil_append]
    unfold OldN
    constructor
    · rintro ((h | ⟨h, k⟩) | ⟨s, hs, hl, rfl⟩)
      · exact .inl h
      · exact .inr ⟨by omega, k⟩
      · exact .inr ⟨by simp; omega, s, hs, List.take_prefix _ _⟩
    · rintro (h | ⟨h, s, hs, hp⟩)
      · exact .inl (.inl h)
      · by_cases e : p.length = m + 1
        · exact .inr ⟨s, hs, (pre_take e).1 hp⟩
        · exact .inl (.inr ⟨by omega, s, hs, hp⟩)
/-- The nodes of keys of at most 12 bytes. -/
def ndL (L : List Byt) : List Byt := ndUp L 12
theorem ndL_is {L : List Byt} (h : Inc L) (hk : ∀ s, s ∈ L → s.length ≤ 12) : IsNd L (ndL L) := by
  obtain ⟨h1, h2, _⟩ := ndUp_is h 12
  refine ⟨h1, fun p => (h2 p).trans ?_⟩
  unfold OldN
  constructor
  · rintro (h | ⟨_, h⟩)
    · exact .inl h
    · exact .inr h
  · rintro (h | ⟨s, hs, hp⟩)
    · exact .inl h
    · exact .inr ⟨Nat.le_trans hp.length_le (hk s hs), s, hs, hp⟩
theorem ndStep_len (n : Nat) (out : List Byt) (s : Byt) : (ndStep n out s).length ≤ out.length + 1 := by unfold ndStep; split <;> simp
theorem ndLvl_len (n : Nat) : ∀ (L out : List Byt), (ndLvl n L out).length ≤ out.length + L.length
  | [], out => by simp [ndLvl]
  | s :: L, out => by
    have h1 := ndLvl_len n L (ndStep n out s)
    have h2 := ndStep_len n out s
    rw [show ndLvl n (s :: L) out = ndLvl n L (ndStep n out s) from rfl, List.length_cons]; omega
theorem ndUp_len (L : List Byt) : ∀ m, (ndUp L m).length ≤ 1 + m * L.length
  | 0 => by simp [ndUp]
  | m + 1 => by
    have h1 := ndLvl_len (m + 1) L (ndUp L m)
    have h2 := ndUp_len L m
    rw [show ndUp L (m + 1) = ndLvl (m + 1) L (ndUp L m) from rfl, Nat.succ_mul]; omega
end Go.Proofs.Ythaipemgndahfaa
