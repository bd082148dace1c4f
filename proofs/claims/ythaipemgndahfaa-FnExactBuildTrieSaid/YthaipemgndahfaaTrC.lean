/- Tries: children counted while the shape is written; no program. -/
import Derived.Test.YthaipemgndahfaaTrM
namespace Go.Proofs.Ythaipemgndahfaa
open Go.RowKit

/-- All nodes below k together have c children. -/
structure ChI (N : List Byt) (k c : Nat) : Prop where
  lt : c < N.length
  lo : ∀ j, 1 ≤ j → j ≤ c → par N j < k
  hi : ∀ j, c < j → j < N.length → k ≤ par N j
/-- Of node k those children are counted that are below j. -/
structure ChJ (N : List Byt) (k j c : Nat) : Prop where
  lt : c < N.length
  lo : ∀ i, 1 ≤ i → i ≤ c → par N i ≤ k
  hi : ∀ i, c < i → i < N.length → k ≤ par N i
  no : ∀ i, c < i → i < j → i < N.length → par N i ≠ k
  or : c < j ∨ ∀ i, 1 ≤ i → i ≤ c → par N i < k
section
variable {L N : List Byt} {k j c : Nat}
theorem ChI.start (h : IsNd L N) : ChI N 0 0 := ⟨h.pos, fun _ _ _ => by omega, fun _ _ _ => Nat.zero_le _⟩
theorem ChJ.start (hN : IsNd L N) (h : ChI N k c) : ChJ N k (k + 1) c :=
  ⟨h.lt, fun i h1 h2 => Nat.le_of_lt (h.lo i h1 h2), h.hi, fun i h1 h2 h3 e => by
    have := hN.par_lt (j := i) (by omega) h3; omega, .inr h.lo⟩
theorem ChJ.yes (hN : IsNd L N) (h : ChJ N k j c) (h1 : 1 ≤ j) (hj : j < N.length) (hp : par N j = k) : j = c + 1 ∧ ChJ N k (j + 1) j := by
  have hcj : c < j := by
    rcases h.or with e | e
    · exact e
    · rcases Nat.lt_or_ge c j with e2 | e2
      · exact e2
      · have := e j h1 e2; omega
  have hjc : j = c + 1 := by
    rcases Nat.lt_or_ge (c + 1) j with e | e
    · have h2 := h.hi (c + 1) (by omega) (by omega)
      have h3 := h.no (c + 1) (by omega) e (by omega)
      have h4 := hN.par_mono (i := c + 1) (j := j) (by omega) (by omega) hj
      omega
    · omega
  refine ⟨hjc, hj, fun i a b => ?_, fun i a b => ?_, fun i a b => by omega, .inl (by omega)⟩
  · have := hN.par_mono (i := i) (j := j) a b hj; omega
  · have := hN.par_mono (i := j) (j := i) h1 (by omega) b; omega
theorem ChJ.skip (h : ChJ N k j c) (hp : par N j ≠ k) : ChJ N k (j + 1) c :=
  ⟨h.lt, h.lo, h.hi, fun i a b d => by
    by_cases e : i = j
    · subst e; exact hp
    · exact h.no i a (by omega) d, by
    rcases h.or with e | e
    · exact .inl (by omega)
    · exact .inr e⟩
theorem ChJ.done (h : ChJ N k N.length c) : ChI N (k + 1) c :=
  ⟨h.lt, fun i a b => by have := h.lo i a b; omega, fun i a b => by have := h.hi i a b; have := h.no i a b b; omega⟩
theorem ChJ.on (hj : j < N.length) (hp : par N j = k) (hjc : j = c + 1) : shB N (k + c) = true := shB_iff.2 ⟨j, by omega, hj, by unfold shP; omega⟩
theorem ChI.off (h : ChI N (k + 1) c) : shB N (k + c) = false := by
  rw [Bool.eq_false_iff]
  intro e
  obtain ⟨i, a, b, hp⟩ := shB_iff.1 e
  unfold shP at hp
  rcases Nat.lt_or_ge c i with g | g
  · have := h.hi i g b; omega
  · have := h.lo i a g; omega
theorem ChI.full (hN : IsNd L N) (h : ChI N N.length c) : c + 1 = N.length := by
  have hl := h.lt
  rcases Nat.lt_or_ge (c + 1) N.length with e | e
  · have h1 := h.hi (c + 1) (by omega) e
    have h2 := hN.par_lt (j := c + 1) (by omega) e
    omega
  · omega
theorem par_iff (hN : IsNd L N) (hj : j < N.length) (hk : k < N.length) : par N j = k ↔ (ndA N j).dropLast = ndA N k := by
  constructor
  · intro e; rw [← hN.par_at hj, e]
  · intro e; exact nd_inj hN.1 (hN.par_in hj) hk (by rw [hN.par_at hj, e])
theorem child_iff {x y : Byt} : (y.length = x.length + 1 ∧ x <+: y) ↔ (y ≠ [] ∧ y.dropLast = x) := by
  constructor
  · rintro ⟨h1, h2⟩
    have h3 : y ≠ [] := fun e => by subst e; simp at h1
    refine ⟨h3, ?_⟩
    rw [List.dropLast_eq_take, h1]
    exact (List.prefix_iff_eq_take.1 h2).symm
  · rintro ⟨h1, rfl⟩
    have := List.length_pos_iff.2 h1
    exact ⟨by simp; omega, List.dropLast_prefix y⟩
end
end Go.Proofs.Ythaipemgndahfaa
