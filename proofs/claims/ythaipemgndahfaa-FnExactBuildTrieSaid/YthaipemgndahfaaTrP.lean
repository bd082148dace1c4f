/- Tries: the program's list of nodes, made breadth first; no program. -/
import Derived.Test.YthaipemgndahfaaTrN
namespace Go.Proofs.Ythaipemgndahfaa
open Go.RowKit

/-- A node: how many keys are less, how many begin with it, what it is, its parent. -/
structure NdR where
  less : Nat
  beg : Nat
  path : Byt
  up : Nat
def ndD : NdR := ⟨0, 0, [], 0⟩
def lastP (R : List NdR) : Byt := (R.getLastD ndD).path
def bumpR : List NdR → List NdR
  | [] => []
  | [r] => [{ r with beg := r.beg + 1 }]
  | r :: s :: R => r :: bumpR (s :: R)
/-- The i-th key of a parent. -/
def ndS (pl d at_ : Nat) (R : List NdR) (i : Nat) (key : Byt) : List NdR :=
  if key.length = d then R else if key.take (d + 1) = lastP R then bumpR R else R ++ [⟨pl + i, 1, key.take (d + 1), at_⟩]
def ndKeys (L : List Byt) (pl d at_ : Nat) (R : List NdR) : Nat → List NdR
  | 0 => R
  | i + 1 => ndS pl d at_ (ndKeys L pl d at_ R i) i (L.getD (pl + i) [])
def ndRound (L : List Byt) (R : List NdR) (a : Nat) : List NdR := ndKeys L (R.getD a ndD).less (R.getD a ndD).path.length a R (R.getD a ndD).beg
def ndRun (L : List Byt) : Nat → List NdR
  | 0 => [⟨0, L.length, [], 0⟩]
  | a + 1 => ndRound L (ndRun L a) a
theorem bumpR_concat : ∀ (R : List NdR) (r : NdR), bumpR (R ++ [r]) = R ++ [{ r with beg := r.beg + 1 }]
  | [], r => rfl
  | [s], r => rfl
  | s :: t :: R, r => by
    show s :: bumpR (t :: R ++ [r]) = _
    rw [show t :: R ++ [r] = (t :: R) ++ [r] from rfl, bumpR_concat (t :: R) r]; rfl
theorem lastP_concat (R : List NdR) (r : NdR) : lastP (R ++ [r]) = r.path := by unfold lastP; simp
/-- The keys with a beginning are those of a block. -/
def Blk3 (L : List Byt) (p : Byt) (l b : Nat) : Prop := l + b ≤ L.length ∧ ∀ t, t < L.length → ((l ≤ t ∧ t < l + b) ↔ p <+: L.getD t [])
theorem pre_conv : ∀ {q x y z : Byt}, x ≤ y → y ≤ z → q <+: x → q <+: z → q <+: y
  | [], x, y, z, _, _, _, _ => List.nil_prefix
  | a :: q, x, y, z, h1, h2, hx, hz => by
    obtain ⟨x', rfl⟩ := hx
    obtain ⟨z', rfl⟩ := hz
    cases y with
    | nil => exact absurd (show ([] : Byt) < a :: (q ++ x') by simp) (bs_le.2 h1)
    | cons b y =>
      have h3 : ¬ (b :: y < a :: (q ++ x')) := bs_le.2 h1
      have h4 : ¬ (a :: (q ++ z') < b :: y) := bs_le.2 h2
      rw [List.cons_lt_cons_iff] at h3 h4
      have hab : b = a := by
        have h5 : ¬ b < a := fun h => h3 (.inl h)
        have h6 : ¬ a < b := fun h => h4 (.inl h)
        exact UInt8.le_antisymm (UInt8.not_lt.1 h6) (UInt8.not_lt.1 h5)
      subst hab
      have h7 : q ++ x' ≤ y := bs_le.1 (fun h => h3 (.inr ⟨rfl, h⟩))
      have h8 : y ≤ q ++ z' := bs_le.1 (fun h => h4 (.inr ⟨rfl, h⟩))
      have := pre_conv h7 h8 (List.prefix_append q x') (List.prefix_append q z')
      exact (List.cons_prefix_cons).2 ⟨rfl, this⟩
theorem getD_le {L : List Byt} (h : Inc L) {i j : Nat} (hij : i ≤ j) (hj : j < L.length) : L.getD i [] ≤ L.getD j [] := by
  rcases Nat.eq_or_lt_of_le hij with rfl | hl
  · exact List.le_refl _
  · have := List.pairwise_iff_getElem.1 h i j (by omega) hj hl
    rw [List.getD_eq_getElem?_getD, List.getD_eq_getElem?_getD, List.getElem?_eq_getElem hj, List.getElem?_eq_getElem (by omega)]
    exact List.le_of_lt this
theorem getD_mem {L : List Byt} {i : Nat} (h : i < L.length) : L.getD i [] ∈ L := by
  rw [List.getD_eq_getElem?_getD, List.getElem?_eq_getElem h]; exact List.getElem_mem h
/-- Up to key u the block of a child is right. -/
def BlkT (L : List Byt) (u : Nat) (c : NdR) : Prop := 1 ≤ c.beg ∧ c.less + c.beg ≤ u ∧ ∀ t, t < u → ((c.less ≤ t ∧ t < c.less + c.beg) ↔ c.path <+: L.getD t [])
/-- Of the parent p (number a, with keys l .. l + b) the first i keys are done: the nodes before, and the children. -/
structure KidJ (L : List Byt) (p : Byt) (l b a i : Nat) (R0 C : List NdR) : Prop where
  srt : (C.map NdR.path).Pairwise (· < ·)
  one : ∀ c, c ∈ C → c.path.length = p.length + 1 ∧ p <+: c.path ∧ c.up = a ∧ l ≤ c.less
  blk : ∀ c, c ∈ C → BlkT L (l + i) c
  all : ∀ t, t < i → p.length + 1 ≤ (L.getD (l + t) []).length → (L.getD (l + t) []).take (p.length + 1) ∈ C.map NdR.path
  mem : ∀ c, c ∈ C → ∃ t, t < i ∧ c.path <+: L.getD (l + t) []
theorem blkT_le {L : List Byt} {u : Nat} {c : NdR} (h : BlkT L u c) (hno : ¬ c.path <+: L.getD u []) : BlkT L (u + 1) c := by
  obtain ⟨h1, h2, h3⟩ := h
  refine ⟨h1, by omega, fun t ht => ?_⟩
  by_cases e : t = u
  · subst e
    exact ⟨fun ⟨a, b⟩ => by omega, fun k => absurd k hno⟩
  · exact h3 t (by omega)
theorem KidJ.step {L : List Byt} {p : Byt} {l b a i : Nat} {R0 C : List NdR} (hL : Inc L) (hB : Blk3 L p l b) (hi : i < b) (hR : C = [] → lastP R0 ≠ (L.getD (l + i) []).take (p.length + 1) ∨ (L.getD (l + i) []).length = p.length) (h : KidJ L p l b a i R0 C) :
    ∃ C', ndS l p.length a (R0 ++ C) i (L.getD (l + i) []) = R0 ++ C' ∧ KidJ L p l b a (i + 1) R0 C' := by
  have hlt : l + i < L.length := by have := hB.1; omega
  have hpre := (hB.2 (l + i) hlt).1 (by omega)
  obtain ⟨key, hkey⟩ : ∃ key, key = L.getD (l + i) [] := ⟨_, rfl⟩
  rw [← hkey] at hpre hR ⊢
  have hlen := hpre.length_le
  unfold ndS
  by_cases hd : key.length = p.length
  · rw [if_pos hd]
    have hno : ∀ c, c ∈ C → ¬ c.path <+: L.getD (l + i) [] := fun c hc k => by
      have := k.length_le; rw [← hkey] at this; have := (h.one c hc).1; omega
    refine ⟨C, rfl, h.srt, h.one, fun c hc => ?_, fun t ht hl => ?_, fun c hc => ?_⟩
    · rw [← Nat.add_assoc]; exact blkT_le (h.blk c hc) (hno c hc)
    · by_cases e : t = i
      · subst e; rw [← hkey] at hl; omega
      · exact h.all t (by omega) hl
    · obtain ⟨t, ht, k⟩ := h.mem c hc
      exact ⟨t, by omega, k⟩
  · rw [if_neg hd]
    have hdl : p.length + 1 ≤ key.length := by omega
    have htl : (key.take (p.length + 1)).length = p.length + 1 := by simp; omega
    have hpt : p <+: key.take (p.length + 1) := by
      rw [List.prefix_take_iff]; exact ⟨hpre, by omega⟩
    have hle : ∀ c, c ∈ C → c.path ≤ key.take (p.length + 1) := fun c hc => by
      obtain ⟨t, ht, k⟩ := h.mem c hc
      have h1 := (h.one c hc).1
      have h2 := (pre_take h1).1 k
      rw [h2.2]
      refine take_mono _ h2.1 hdl ?_
      rw [hkey]
      exact getD_le hL (by omega) hlt
    rcases List.eq_nil_or_concat C with hC | ⟨D, c, hC⟩
    · subst hC
      rw [List.append_nil]
      have hne : ¬ key.take (p.length + 1) = lastP R0 := fun e => by
        rcases hR rfl with k | k
        · exact k e.symm
        · omega
      rw [if_neg hne]
      refine ⟨[⟨l + i, 1, key.take (p.length + 1), a⟩], rfl, by simp, fun c hc => ?_, fun c hc => ?_, fun t ht hl => ?_, fun c hc => ?_⟩
      · rw [List.mem_singleton] at hc; subst hc; exact ⟨htl, hpt, rfl, by simp⟩
      · rw [List.mem_singleton] at hc; subst hc
        refine ⟨Nat.le_refl _, by show l + i + 1 ≤ l + (i + 1); omega, fun t ht => ?_⟩
        show (l + i ≤ t ∧ t < l + i + 1) ↔ key.take (p.length + 1) <+: L.getD t []
        constructor
        · rintro ⟨h1, h2⟩
          obtain rfl : t = l + i := by omega
          rw [← hkey]; exact List.take_prefix _ _
        · intro k
          by_cases e : t = l + i
          · omega
          · have htp : p <+: L.getD t [] := hpt.trans k
            have h5 := (hB.2 t (by omega)).2 htp
            have h6 := h.all (t - l) (by omega) (by rw [show l + (t - l) = t by omega]; have := k.length_le; omega)
            simp at h6
      · by_cases e : t = i
        · subst e; rw [← hkey]; simp
        · have := h.all t (by omega) hl; simp at this
      · rw [List.mem_singleton] at hc; subst hc
        exact ⟨i, by omega, by rw [← hkey]; exact List.take_prefix _ _⟩
    · rw [List.concat_eq_append] at hC
      subst hC
      rw [← List.append_assoc, lastP_concat]
      have hmapS := h.srt
      rw [List.map_append, List.map_cons, List.map_nil] at hmapS
      have hDc := (List.pairwise_append.1 hmapS).2.2
      have hcb := h.blk c (by simp)
      by_cases he : key.take (p.length + 1) = c.path
      · rw [if_pos he, bumpR_concat]
        have hcont : c.less + c.beg = l + i := by
          rcases Nat.lt_or_ge (c.less + c.beg) (l + i) with k | k
          · exfalso
            have h7 := hcb.2.2 (c.less + c.beg) k
            have h8 : ¬ c.path <+: L.getD (c.less + c.beg) [] := fun z => by have := h7.2 z; omega
            refine h8 (pre_conv (getD_le hL (i := c.less) (by omega) (by omega)) (getD_le hL (j := l + i) (by omega) hlt) ?_ ?_)
            · exact (hcb.2.2 c.less (by have := hcb.1; omega)).1 ⟨Nat.le_refl _, by have := hcb.1; omega⟩
            · rw [← hkey, ← he]; exact List.take_prefix _ _
          · have := hcb.2.1; omega
        refine ⟨D ++ [{ c with beg := c.beg + 1 }], by rw [List.append_assoc], ?_, fun x hx => ?_, fun x hx => ?_, fun t ht hl => ?_, fun x hx => ?_⟩
        · rw [List.map_append, List.map_cons, List.map_nil]; exact hmapS
        · rcases List.mem_append.1 hx with hx | hx
          · exact h.one x (List.mem_append_left _ hx)
          · rw [List.mem_singleton] at hx; subst hx; exact h.one c (by simp)
        · rcases List.mem_append.1 hx with hx | hx
          · refine blkT_le (u := l + i) (h.blk x (List.mem_append_left _ hx)) (fun k => ?_)
            have h1 := (h.one x (List.mem_append_left _ hx)).1
            rw [← hkey] at k
            have h2 := (pre_take h1).1 k
            have h3 := hDc x.path (List.mem_map_of_mem hx) c.path (by simp)
            rw [h2.2, he] at h3; exact bs_irr _ h3
          · rw [List.mem_singleton] at hx; subst hx
            refine ⟨by show 1 ≤ c.beg + 1; omega, by show c.less + (c.beg + 1) ≤ l + (i + 1); omega, fun t ht => ?_⟩
            show (c.less ≤ t ∧ t < c.less + (c.beg + 1)) ↔ c.path <+: L.getD t []
            by_cases e : t = l + i
            · subst e
              rw [← hkey, ← he]
              exact ⟨fun _ => List.take_prefix _ _, fun _ => by have := hcb.1; omega⟩
            · have := hcb.2.2 t (by omega)
              rw [← this]; constructor <;> (rintro ⟨a1, a2⟩; omega)
        · by_cases e : t = i
          · subst e; rw [← hkey, he]; simp
          · have := h.all t (by omega) hl
            simp only [List.map_append, List.map_cons, List.map_nil] at this ⊢
            exact this
        · rcases List.mem_append.1 hx with hx | hx
          · obtain ⟨t, ht, k⟩ := h.mem x (List.mem_append_left _ hx)
            exact ⟨t, by omega, k⟩
          · rw [List.mem_singleton] at hx; subst hx
            obtain ⟨t, ht, k⟩ := h.mem c (by simp)
            exact ⟨t, by omega, k⟩
      · rw [if_neg he]
        have hcl : c.path < key.take (p.length + 1) := bs_lt (hle c (by simp)) (fun e => he e.symm)
        have hall : ∀ x, x ∈ (D ++ [c]).map NdR.path → x < key.take (p.length + 1) := fun x hx => by
          rw [List.map_append, List.map_cons, List.map_nil] at hx
          rcases List.mem_append.1 hx with hx | hx
          · exact bs_tr (hDc x hx c.path (by simp)) hcl
          · rw [List.mem_singleton] at hx; subst hx; exact hcl
        refine ⟨D ++ [c] ++ [⟨l + i, 1, key.take (p.length + 1), a⟩], by simp [List.append_assoc], ?_, fun x hx => ?_, fun x hx => ?_, fun t ht hl => ?_, fun x hx => ?_⟩
        · rw [List.map_append]
          refine List.pairwise_append.2 ⟨h.srt, by simp, fun x hx y hy => ?_⟩
          simp at hy; subst hy
          exact hall x hx
        · rcases List.mem_append.1 hx with hx | hx
          · exact h.one x hx
          · rw [List.mem_singleton] at hx; subst hx; exact ⟨htl, hpt, rfl, by simp⟩
        · rcases List.mem_append.1 hx with hx | hx
          · refine blkT_le (u := l + i) (h.blk x hx) (fun k => ?_)
            have h1 := (h.one x hx).1
            rw [← hkey] at k
            have h2 := (pre_take h1).1 k
            have h3 := hall x.path (List.mem_map_of_mem hx)
            rw [h2.2] at h3; exact bs_irr _ h3
          · rw [List.mem_singleton] at hx; subst hx
            refine ⟨Nat.le_refl _, by show l + i + 1 ≤ l + (i + 1); omega, fun t ht => ?_⟩
            show (l + i ≤ t ∧ t < l + i + 1) ↔ key.take (p.length + 1) <+: L.getD t []
            constructor
            · rintro ⟨h1, h2⟩
              obtain rfl : t = l + i := by omega
              rw [← hkey]; exact List.take_prefix _ _
            · intro k
              by_cases e : t = l + i
              · omega
              · exfalso
                have h5 := (hB.2 t (by omega)).2 (hpt.trans k)
                have h6 := h.all (t - l) (by omega) (by rw [show l + (t - l) = t by omega]; have := k.length_le; omega)
                rw [show l + (t - l) = t by omega, ← ((pre_take htl).1 k).2] at h6
                exact bs_irr _ (hall _ h6)
        · by_cases e : t = i
          · subst e; rw [← hkey]; simp
          · have := h.all t (by omega) hl
            rw [List.map_append]
            exact List.mem_append_left _ this
        · rcases List.mem_append.1 hx with hx | hx
          · obtain ⟨t, ht, k⟩ := h.mem x hx
            exact ⟨t, by omega, k⟩
          · rw [List.mem_singleton] at hx; subst hx
            exact ⟨i, by omega, by rw [← hkey]; exact List.take_prefix _ _⟩
end Go.Proofs.Ythaipemgndahfaa
