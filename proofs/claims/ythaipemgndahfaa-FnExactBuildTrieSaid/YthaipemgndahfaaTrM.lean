/- Tries: the nodes of keys in their order, parents, and where bits of the shape lie; no program. -/
import Derived.Test.YthaipemgndahfaaStrP
namespace Go.Proofs.Ythaipemgndahfaa
open Go.RowKit

theorem bs_ltle {x y z : Byt} (h : x < y) (k : y ≤ z) : x < z := Decidable.byContradiction fun n => bs_le.2 (List.le_trans k (bs_le.1 n)) h
/-- Shorter ones first, those of the same length in increasing order. -/
def slx (x y : Byt) : Prop := x.length < y.length ∨ (x.length = y.length ∧ x < y)
theorem slx_irr (x : Byt) : ¬ slx x x := by rintro (h | ⟨_, h⟩); exact Nat.lt_irrefl _ h; exact bs_irr _ h
theorem slx_tr {x y z : Byt} (h : slx x y) (k : slx y z) : slx x z := by
  rcases h with h | ⟨h1, h2⟩ <;> rcases k with k | ⟨k1, k2⟩
  · exact .inl (Nat.lt_trans h k)
  · exact .inl (by omega)
  · exact .inl (by omega)
  · exact .inr ⟨by omega, bs_tr h2 k2⟩
theorem slx_tri (x y : Byt) : slx x y ∨ x = y ∨ slx y x := by
  rcases Nat.lt_trichotomy x.length y.length with h | h | h
  · exact .inl (.inl h)
  · by_cases e : x = y
    · exact .inr (.inl e)
    · rcases List.le_total x y with k | k
      · exact .inl (.inr ⟨h, bs_lt k e⟩)
      · exact .inr (.inr (.inr ⟨h.symm, bs_lt k (fun e' => e e'.symm)⟩))
  · exact .inr (.inr (.inl h))
theorem slx_asym {x y : Byt} (h : slx x y) : ¬ slx y x := fun k => slx_irr _ (slx_tr h k)
theorem slx_eq : ∀ {l m : List Byt}, l.Pairwise slx → m.Pairwise slx → (∀ x, x ∈ l ↔ x ∈ m) → l = m
  | [], [], _, _, _ => rfl
  | [], y :: m, _, _, h => absurd ((h y).2 (by simp)) (by simp)
  | x :: l, [], _, _, h => absurd ((h x).1 (by simp)) (by simp)
  | x :: l, y :: m, h1, h2, h => by
    have a1 := (List.pairwise_cons.1 h1).1
    have a2 := (List.pairwise_cons.1 h2).1
    have e : x = y := by
      rcases List.mem_cons.1 ((h x).1 (by simp)) with e | hx
      · exact e
      · rcases List.mem_cons.1 ((h y).2 (by simp)) with e | hy
        · exact e.symm
        · exact absurd (slx_tr (a1 y hy) (a2 x hx)) (slx_irr x)
    subst e
    refine congrArg _ (slx_eq (List.pairwise_cons.1 h1).2 (List.pairwise_cons.1 h2).2 (fun z => ?_))
    constructor
    · intro hz
      rcases List.mem_cons.1 ((h z).1 (List.mem_cons_of_mem _ hz)) with e | hz'
      · subst e; exact absurd (a1 z hz) (slx_irr z)
      · exact hz'
    · intro hz
      rcases List.mem_cons.1 ((h z).2 (List.mem_cons_of_mem _ hz)) with e | hz'
      · subst e; exact absurd (a2 z hz) (slx_irr z)
      · exact hz'
/-- The nodes of keys. -/
def IsNd (L N : List Byt) : Prop := N.Pairwise slx ∧ ∀ p, p ∈ N ↔ p = [] ∨ ∃ s, s ∈ L ∧ p <+: s
theorem IsNd.same {L N M : List Byt} (h : IsNd L N) (k : IsNd L M) : N = M := slx_eq h.1 k.1 (fun x => (h.2 x).trans (k.2 x).symm)

/-! Beginnings of strings of the same length. -/
theorem lt_pre : ∀ {a b c d : Byt}, a.length = b.length → a < b → a ++ c < b ++ d
  | [], [], _, _, _, h => absurd h (bs_irr _)
  | [], _ :: _, _, _, h, _ => absurd h (by simp)
  | _ :: _, [], _, _, h, _ => absurd h (by simp)
  | x :: a, y :: b, c, d, hl, h => by
    rw [List.cons_append, List.cons_append, List.cons_lt_cons_iff]
    rcases List.cons_lt_cons_iff.1 h with h | ⟨e, h⟩
    · exact .inl h
    · exact .inr ⟨e, lt_pre (by simpa using hl) h⟩
theorem take_mono {x y : Byt} (n : Nat) (hx : n ≤ x.length) (hy : n ≤ y.length) (h : x ≤ y) : x.take n ≤ y.take n := by
  refine bs_le.1 (fun k => ?_)
  have := lt_pre (c := y.drop n) (d := x.drop n) (by simp; omega) k
  rw [List.take_append_drop, List.take_append_drop] at this
  exact bs_le.2 h this
theorem dropLast_slx {x y : Byt} (h : slx x y) (hx : x ≠ []) : x.dropLast = y.dropLast ∨ slx x.dropLast y.dropLast := by
  have hxl : 0 < x.length := List.length_pos_iff.2 hx
  rcases h with h | ⟨h1, h2⟩
  · exact .inr (.inl (by simp; omega))
  · rw [List.dropLast_eq_take, List.dropLast_eq_take]
    have := take_mono (x := x) (y := y) (x.length - 1) (by omega) (by omega) (List.le_of_lt h2)
    rw [← h1]
    by_cases e : x.take (x.length - 1) = y.take (x.length - 1)
    · exact .inl e
    · exact .inr (.inr ⟨by simp; omega, bs_lt this e⟩)
theorem slx_dropLast {x : Byt} (hx : x ≠ []) : slx x.dropLast x := .inl (by have := List.length_pos_iff.2 hx; simp; omega)

/-! The nodes by their numbers. -/
section
variable {L N : List Byt}
abbrev ndA (N : List Byt) (k : Nat) : Byt := N.getD k []
theorem nd_mem {k : Nat} (h : k < N.length) : ndA N k ∈ N := by
  unfold ndA; rw [List.getD_eq_getElem?_getD, List.getElem?_eq_getElem h]; exact List.getElem_mem h
theorem nd_lt (hN : N.Pairwise slx) {i j : Nat} (h : i < j) (hj : j < N.length) : slx (ndA N i) (ndA N j) := by
  have := List.pairwise_iff_getElem.1 hN i j (by omega) hj h
  unfold ndA
  rw [List.getD_eq_getElem?_getD, List.getD_eq_getElem?_getD, List.getElem?_eq_getElem hj, List.getElem?_eq_getElem (by omega)]
  exact this
theorem nd_lt' (hN : N.Pairwise slx) {i j : Nat} (hi : i < N.length) (hj : j < N.length) : slx (ndA N i) (ndA N j) ↔ i < j := by
  constructor
  · intro h
    rcases Nat.lt_trichotomy i j with k | k | k
    · exact k
    · subst k; exact absurd h (slx_irr _)
    · exact absurd (nd_lt hN k hi) (slx_asym h)
  · intro h; exact nd_lt hN h hj
theorem nd_inj (hN : N.Pairwise slx) {i j : Nat} (hi : i < N.length) (hj : j < N.length) (h : ndA N i = ndA N j) : i = j := by
  rcases Nat.lt_trichotomy i j with k | k | k
  · exact absurd (nd_lt hN k hj) (by rw [h]; exact slx_irr _)
  · exact k
  · exact absurd (nd_lt hN k hi) (by rw [h]; exact slx_irr _)
theorem nd_ex {p : Byt} (h : p ∈ N) : ∃ k, k < N.length ∧ ndA N k = p := by
  obtain ⟨k, hk, e⟩ := List.getElem_of_mem h
  exact ⟨k, hk, by unfold ndA; rw [List.getD_eq_getElem?_getD, List.getElem?_eq_getElem hk]; exact e⟩
theorem IsNd.empty (h : IsNd L N) : [] ∈ N := (h.2 []).2 (.inl rfl)
theorem IsNd.pos (h : IsNd L N) : 0 < N.length := List.length_pos_of_mem h.empty
theorem IsNd.zero (h : IsNd L N) : ndA N 0 = [] := by
  obtain ⟨k, hk, e⟩ := nd_ex h.empty
  rcases Nat.eq_zero_or_pos k with rfl | hp
  · exact e
  · have := nd_lt h.1 hp hk
    rw [e] at this
    rcases this with h1 | ⟨h1, h2⟩
    · simp at h1
    · simpa using h1
theorem IsNd.ne (h : IsNd L N) {j : Nat} (h0 : 1 ≤ j) (hj : j < N.length) : ndA N j ≠ [] := fun e => by
  have := nd_inj h.1 hj h.pos (by rw [e, h.zero])
  omega
theorem IsNd.up (h : IsNd L N) {p q : Byt} (hp : p ∈ N) (hq : q <+: p) : q ∈ N := by
  rcases (h.2 p).1 hp with rfl | ⟨s, hs, hps⟩
  · rw [List.prefix_nil.1 hq]; exact h.empty
  · exact (h.2 q).2 (.inr ⟨s, hs, hq.trans hps⟩)
/-- The number of a string among the nodes. -/
def ndI (N : List Byt) (p : Byt) : Nat := N.idxOf p
theorem ndI_lt {p : Byt} (h : p ∈ N) : ndI N p < N.length := List.idxOf_lt_length_of_mem h
theorem ndI_at {p : Byt} (h : p ∈ N) : ndA N (ndI N p) = p := by
  have hl : N.idxOf p < N.length := List.idxOf_lt_length_of_mem h
  show N.getD (N.idxOf p) [] = p
  rw [List.getD_eq_getElem?_getD, List.getElem?_eq_getElem hl]
  exact List.getElem_idxOf hl
theorem ndI_of (hN : N.Pairwise slx) {k : Nat} (h : k < N.length) : ndI N (ndA N k) = k := nd_inj hN (ndI_lt (nd_mem h)) h (ndI_at (nd_mem h))
/-- The parent of a node. -/
def par (N : List Byt) (j : Nat) : Nat := ndI N (ndA N j).dropLast
theorem IsNd.par_at (h : IsNd L N) {j : Nat} (hj : j < N.length) : ndA N (par N j) = (ndA N j).dropLast := ndI_at (h.up (nd_mem hj) (List.dropLast_prefix _))
theorem IsNd.par_in (h : IsNd L N) {j : Nat} (hj : j < N.length) : par N j < N.length := ndI_lt (h.up (nd_mem hj) (List.dropLast_prefix _))
theorem IsNd.par_lt (h : IsNd L N) {j : Nat} (h0 : 1 ≤ j) (hj : j < N.length) : par N j < j := by
  refine (nd_lt' h.1 (h.par_in hj) hj).1 ?_
  rw [h.par_at hj]; exact slx_dropLast (h.ne h0 hj)
theorem IsNd.par_mono (h : IsNd L N) {i j : Nat} (h0 : 1 ≤ i) (hij : i ≤ j) (hj : j < N.length) : par N i ≤ par N j := by
  rcases Nat.eq_or_lt_of_le hij with rfl | hl
  · exact Nat.le_refl _
  · rcases dropLast_slx (nd_lt h.1 hl hj) (h.ne h0 (by omega)) with e | e
    · unfold par; rw [e]; exact Nat.le_refl _
    · refine Nat.le_of_lt ((nd_lt' h.1 (h.par_in (by omega)) (h.par_in hj)).1 ?_)
      rw [h.par_at (by omega), h.par_at hj]; exact e
/-- Where the bit of node j lies in the shape. -/
def shP (N : List Byt) (j : Nat) : Nat := j - 1 + par N j
theorem IsNd.shP_lt (h : IsNd L N) {i j : Nat} (h0 : 1 ≤ i) (hij : i < j) (hj : j < N.length) : shP N i < shP N j := by
  have := h.par_mono h0 (Nat.le_of_lt hij) hj
  unfold shP; omega
theorem IsNd.shP_top (h : IsNd L N) {j : Nat} (h0 : 1 ≤ j) (hj : j < N.length) : shP N j < 2 * N.length - 1 := by
  have := h.par_lt h0 hj
  unfold shP; omega
/-- The bits of the shape, of the ends; the labels. -/
def shB (N : List Byt) (p : Nat) : Bool := (List.range (N.length - 1)).any fun i => decide (shP N (i + 1) = p)
theorem shB_iff {p : Nat} : shB N p = true ↔ ∃ j, 1 ≤ j ∧ j < N.length ∧ shP N j = p := by
  unfold shB
  rw [List.any_eq_true]
  constructor
  · rintro ⟨i, hi, e⟩
    rw [List.mem_range] at hi
    exact ⟨i + 1, by omega, by omega, by simpa using e⟩
  · rintro ⟨j, h0, hj, e⟩
    exact ⟨j - 1, List.mem_range.2 (by omega), by rw [show j - 1 + 1 = j by omega]; simpa using e⟩
def enB (L N : List Byt) (k : Nat) : Bool := decide (ndA N k ∈ L)
def laB (N : List Byt) : Byt := (List.range (N.length - 1)).map fun i => (ndA N (i + 1)).getLastD 0
end
end Go.Proofs.Ythaipemgndahfaa
