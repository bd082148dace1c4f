/- Sorted lists merged, plain: a sorted list is told by how many of its numbers are below any one. -/
import Derived.Test.YtffdkfhnlgfigaaBinS
namespace Go.Proofs.Ytffdkfhnlgfigaa
open Go.RowKit

theorem ltN_det {N : Nat} {X Y : Nat → Int} (hx : SrtN N X) (hy : SrtN N Y) (h : ∀ x, ltN X x N = ltN Y x N) : ∀ i, i < N → X i = Y i := by
  have key : ∀ {X Y : Nat → Int}, SrtN N X → SrtN N Y → (∀ x, ltN X x N = ltN Y x N) → ∀ i, i < N → ¬ X i < Y i := by
    intro X Y hx hy h i hi hlt
    have h1 := ltN_split (x := Y i) hx
    have h2 := ltN_split (x := Y i) hy
    rw [← h] at h2
    rcases Nat.lt_or_ge i (ltN X (Y i) N) with e | e
    · have := h2.1 i e; omega
    · have := h1.2 i e hi; omega
  intro i hi
  have := key hx hy h i hi
  have := key hy hx (fun x => (h x).symm) i hi
  omega
def catI (F G : Nat → Int) (n : Nat) (i : Nat) : Int := if i < n then F i else G (i - n)
theorem ltN_cat (F G : Nat → Int) (n : Nat) (x : Int) : ∀ m, ltN (catI F G n) x (n + m) = ltN F x n + ltN G x m := by
  intro m
  induction m with
  | zero => rw [Nat.add_zero, ltN_congr (Y := F) (fun i hi => by unfold catI; rw [if_pos hi])]; rfl
  | succ m ih =>
    have e : catI F G n (n + m) = G m := by unfold catI; rw [if_neg (by omega), show n + m - n = m by omega]
    rw [← Nat.add_assoc, ltN, ih, ltN, e]; omega
theorem ltN_head (F : Nat → Int) (x : Int) : ∀ n, ltN F x (n + 1) = (if F 0 < x then 1 else 0) + ltN (fun i => F (i + 1)) x n := by
  intro n
  induction n with
  | zero => simp [ltN]
  | succ n ih => rw [ltN, ih, ltN]; omega
theorem srt_tail {n : Nat} {F : Nat → Int} (h : SrtN (n + 1) F) : SrtN n (fun i => F (i + 1)) := fun i j a b => h _ _ (by omega) (by omega)
theorem srt_cat {n m : Nat} {F G : Nat → Int} (h1 : SrtN n F) (h2 : SrtN m G) (h : ∀ i j, i < n → j < m → F i ≤ G j) : SrtN (n + m) (catI F G n) := fun i j a b => by
  unfold catI
  by_cases c1 : i < n <;> by_cases c2 : j < n
  · rw [if_pos c1, if_pos c2]; exact h1 i j a c2
  · rw [if_pos c1, if_neg c2]; exact h i _ c1 (by omega)
  · omega
  · rw [if_neg c1, if_neg c2]; exact h2 _ _ (by omega) (by omega)
theorem srt_zero {F : Nat → Int} : SrtN 0 F := fun _ _ _ h => absurd h (by omega)
/-- M is the sorted list of the numbers of both. -/
structure MrgOf (n : Nat) (F : Nat → Int) (m : Nat) (G : Nat → Int) (M : Nat → Int) : Prop where
  srt : SrtN (n + m) M
  cnt : ∀ x, ltN M x (n + m) = ltN F x n + ltN G x m
theorem MrgOf.same {n m : Nat} {F G M M' : Nat → Int} (h : MrgOf n F m G M) (k : MrgOf n F m G M') : ∀ i, i < n + m → M i = M' i := ltN_det h.srt k.srt (fun x => by rw [h.cnt, k.cnt])
theorem MrgOf.swap {n m : Nat} {F G M : Nat → Int} (h : MrgOf n F m G M) : MrgOf m G n F M := ⟨by rw [Nat.add_comm]; exact h.srt, fun x => by rw [Nat.add_comm, h.cnt, Nat.add_comm]⟩
theorem MrgOf.bound {n m : Nat} {F G M : Nat → Int} (h : MrgOf n F m G M) {a b : Int} (hF : ∀ i, i < n → a ≤ F i ∧ F i < b) (hG : ∀ i, i < m → a ≤ G i ∧ G i < b) : ∀ i, i < n + m → a ≤ M i ∧ M i < b := fun i hi => by
  have h1 := h.cnt a
  rw [ltN_eq (X := F) (k := 0) (fun i hi => absurd hi (by omega)) (fun i _ hi => (hF i hi).1), ltN_eq (X := G) (k := 0) (fun i hi => absurd hi (by omega)) (fun i _ hi => (hG i hi).1)] at h1
  have h2 := h.cnt b
  rw [ltN_eq (X := F) (k := n) (fun i hi => (hF i hi).2) (fun i h1 h2 => by omega), ltN_eq (X := G) (k := m) (fun i hi => (hG i hi).2) (fun i h1 h2 => by omega)] at h2
  have s1 := ltN_split (x := a) h.srt
  have s2 := ltN_split (x := b) h.srt
  exact ⟨s1.2 i (by omega) hi, s2.1 i (by omega)⟩

/-- While two lists are merged: k numbers are out, n' and m' are still there. -/
structure Mrg (n : Nat) (F : Nat → Int) (m : Nat) (G : Nat → Int) (k : Nat) (M : Nat → Int) (n' : Nat) (F' : Nat → Int) (m' : Nat) (G' : Nat → Int) : Prop where
  len : k + n' + m' = n + m
  s0 : SrtN k M
  s1 : SrtN n' F'
  s2 : SrtN m' G'
  l1 : ∀ i j, i < k → j < n' → M i ≤ F' j
  l2 : ∀ i j, i < k → j < m' → M i ≤ G' j
  cnt : ∀ x, ltN M x k + ltN F' x n' + ltN G' x m' = ltN F x n + ltN G x m
section
variable {n m k n' m' : Nat} {F G M F' G' : Nat → Int}
theorem Mrg.start (h1 : SrtN n F) (h2 : SrtN m G) (M : Nat → Int) : Mrg n F m G 0 M n F m G := ⟨by omega, srt_zero, h1, h2, fun i _ h => absurd h (by omega), fun i _ h => absurd h (by omega), fun x => by simp [ltN]⟩
theorem Mrg.swap (h : Mrg n F m G k M n' F' m' G') : Mrg n F m G k M m' G' n' F' := ⟨by have := h.len; omega, h.s0, h.s2, h.s1, h.l2, h.l1, fun x => by rw [← h.cnt x]; omega⟩
def putI (M : Nat → Int) (k : Nat) (x : Int) (i : Nat) : Int := if i = k then x else M i
theorem putI_at {M : Nat → Int} {k : Nat} {x : Int} : putI M k x k = x := by unfold putI; simp
theorem putI_lt {M : Nat → Int} {k i : Nat} {x : Int} (h : i < k) : putI M k x i = M i := by unfold putI; rw [if_neg (by omega)]
/-- The lower of both heads goes out. -/
theorem Mrg.take (h : Mrg n F m G k M (n' + 1) F' m' G') (hle : 0 < m' → F' 0 ≤ G' 0) : Mrg n F m G (k + 1) (putI M k (F' 0)) n' (fun i => F' (i + 1)) m' G' := by
  refine ⟨by have := h.len; omega, fun i j a b => ?_, srt_tail h.s1, h.s2, fun i j a b => ?_, fun i j a b => ?_, fun x => ?_⟩
  · by_cases c1 : j = k
    · subst c1
      rw [putI_at]
      by_cases c2 : i = j
      · subst c2; rw [putI_at]; omega
      · rw [putI_lt (by omega)]; exact h.l1 i 0 (by omega) (by omega)
    · rw [putI_lt (by omega), putI_lt (by omega)]; exact h.s0 i j a (by omega)
  · show _ ≤ F' (j + 1)
    by_cases c : i = k
    · subst c; rw [putI_at]; exact h.s1 0 (j + 1) (by omega) (by omega)
    · rw [putI_lt (by omega)]; exact h.l1 i (j + 1) (by omega) (by omega)
  · by_cases c : i = k
    · subst c; rw [putI_at]
      have := hle (by omega)
      have := h.s2 0 j (by omega) b; omega
    · rw [putI_lt (by omega)]; exact h.l2 i j (by omega) b
  · rw [← h.cnt x, ltN_head F' x n', ltN, putI_at, ltN_congr (Y := M) (fun i hi => putI_lt hi)]; omega
/-- One list is out: the other one follows. -/
theorem Mrg.done (h : Mrg n F m G k M n' F' 0 G') : MrgOf n F m G (catI M F' k) := by
  have e : n + m = k + n' := by have := h.len; omega
  refine ⟨?_, fun x => ?_⟩
  · rw [e]; exact srt_cat h.s0 h.s1 h.l1
  · rw [e, ltN_cat, ← h.cnt x]; simp [ltN]
theorem mrg_ex : ∀ (d k : Nat) (M : Nat → Int) (n' : Nat) (F' : Nat → Int) (m' : Nat) (G' : Nat → Int), n' + m' ≤ d → Mrg n F m G k M n' F' m' G' → ∃ M', MrgOf n F m G M' := by
  intro d
  induction d with
  | zero =>
    intro k M n' F' m' G' hd h
    obtain rfl : m' = 0 := by omega
    exact ⟨_, h.done⟩
  | succ d ih =>
    intro k M n' F' m' G' hd h
    match n', m', h, hd with
    | n', 0, h, _ => exact ⟨_, h.done⟩
    | 0, m' + 1, h, _ => exact ⟨_, h.swap.done⟩
    | n' + 1, m' + 1, h, hd =>
      by_cases e : F' 0 ≤ G' 0
      · exact ih _ _ _ _ _ _ (by omega) (h.take (fun _ => e))
      · exact ih _ _ _ _ _ _ (by omega) (h.swap.take (fun _ => by omega))
theorem mrgOf_ex (h1 : SrtN n F) (h2 : SrtN m G) : ∃ M, MrgOf n F m G M := mrg_ex (n + m) 0 (fun _ => 0) n F m G (Nat.le_refl _) (Mrg.start h1 h2 _)
end
end Go.Proofs.Ytffdkfhnlgfigaa
