/- Strings in order: insertion into an increasing list, the sorted list of some strings; no program. -/
import Derived.Test.YthaipemgndahfaaKeyRow
import Derived.Lib.Strings
namespace Go.Proofs.Ythaipemgndahfaa
open Go.RowKit

abbrev Byt := List UInt8
theorem bl_eq : ∀ (x y : Byt), Go.Op.bytesLess x y = decide (x < y)
  | [], [] => by simp [Go.Op.bytesLess]
  | _ :: _, [] => by simp [Go.Op.bytesLess]
  | [], _ :: _ => by simp [Go.Op.bytesLess]
  | a :: x, b :: y => by
    rw [Go.Op.bytesLess, bl_eq x y]
    simp only [List.cons_lt_cons_iff]
    by_cases h1 : a < b <;> by_cases h2 : a = b <;> by_cases h3 : x < y <;> simp [h1, h2, h3]
theorem bs_irr (x : Byt) : ¬ x < x := List.lt_irrefl x
theorem bs_tr {x y z : Byt} (h : x < y) (k : y < z) : x < z := List.lt_trans h k
theorem bs_le {x y : Byt} : ¬ x < y ↔ y ≤ x := List.not_lt
theorem bs_anti {x y : Byt} (h : x ≤ y) (k : y ≤ x) : x = y := List.le_antisymm h k
theorem bs_lt {x y : Byt} (h : x ≤ y) (k : x ≠ y) : x < y := Decidable.byContradiction fun n => k (bs_anti h (bs_le.1 n))
/-- Strictly increasing. -/
abbrev Inc (l : List Byt) : Prop := l.Pairwise (· < ·)
def insS (s : Byt) : List Byt → List Byt
  | [] => [s]
  | x :: l => if x < s then x :: insS s l else if x = s then x :: l else s :: x :: l
theorem mem_insS {s y : Byt} : ∀ {l : List Byt}, y ∈ insS s l ↔ y = s ∨ y ∈ l
  | [] => by simp [insS]
  | x :: l => by
    have ih := mem_insS (s := s) (y := y) (l := l)
    rw [insS]
    split
    · simp [ih]; constructor <;> (rintro (h | h | h) <;> simp [h])
    · split
      · rename_i e; subst e; simp
      · simp
theorem inc_insS {s : Byt} : ∀ {l : List Byt}, Inc l → Inc (insS s l)
  | [], _ => by simp [insS, Inc]
  | x :: l, h => by
    have h1 := (List.pairwise_cons.1 h).1
    have h2 := (List.pairwise_cons.1 h).2
    rw [insS]
    split
    · rename_i hx
      refine List.pairwise_cons.2 ⟨fun y hy => ?_, inc_insS h2⟩
      rcases mem_insS.1 hy with rfl | hy
      · exact hx
      · exact h1 y hy
    · rename_i hx
      split
      · exact h
      · rename_i hn
        have hlt : s < x := bs_lt (bs_le.1 hx) (fun e => hn e.symm)
        refine List.pairwise_cons.2 ⟨fun y hy => ?_, h⟩
        rcases List.mem_cons.1 hy with rfl | hy
        · exact hlt
        · exact bs_tr hlt (h1 y hy)
theorem len_insS {s : Byt} : ∀ {l : List Byt}, Inc l → (insS s l).length = if s ∈ l then l.length else l.length + 1
  | [], _ => by simp [insS]
  | x :: l, h => by
    have h1 := (List.pairwise_cons.1 h).1
    have ih := len_insS (s := s) (List.pairwise_cons.1 h).2
    rw [insS]
    split
    · rename_i hx
      have hne : s ≠ x := fun e => bs_irr x (e ▸ hx)
      rw [List.length_cons, ih]
      by_cases hm : s ∈ l
      · simp [hm]
      · simp [hm, hne]
    · rename_i hx
      split
      · rename_i e; subst e; simp
      · rename_i hn
        have hm : s ∉ x :: l := fun hm => by
          rcases List.mem_cons.1 hm with e | hm
          · exact hn e.symm
          · exact hx (h1 s hm)
        rw [if_neg hm]; rfl
theorem inc_eq : ∀ {l m : List Byt}, Inc l → Inc m → (∀ x, x ∈ l ↔ x ∈ m) → l = m
  | [], [], _, _, _ => rfl
  | [], y :: m, _, _, h => absurd ((h y).2 (by simp)) (by simp)
  | x :: l, [], _, _, h => absurd ((h x).1 (by simp)) (by simp)
  | x :: l, y :: m, h1, h2, h => by
    have a1 := (List.pairwise_cons.1 h1).1
    have a2 := (List.pairwise_cons.1 h2).1
    have e : x = y := by
      rcases List.mem_cons.1 ((h x).1 (by simp)) with e | hx
      · exact e
      · rcases List.mem_cons.1 ((h y).2 (by simp)) with e | hy
        · exact e.symm
        · exact absurd (bs_tr (a1 y hy) (a2 x hx)) (bs_irr x)
    subst e
    refine congrArg _ (inc_eq (List.pairwise_cons.1 h1).2 (List.pairwise_cons.1 h2).2 (fun z => ?_))
    constructor
    · intro hz
      rcases List.mem_cons.1 ((h z).1 (List.mem_cons_of_mem _ hz)) with e | hz'
      · subst e; exact absurd (a1 z hz) (bs_irr z)
      · exact hz'
    · intro hz
      rcases List.mem_cons.1 ((h z).2 (List.mem_cons_of_mem _ hz)) with e | hz'
      · subst e; exact absurd (a2 z hz) (bs_irr z)
      · exact hz'
theorem inc_nodup {l : List Byt} (h : Inc l) : l.Nodup := List.Pairwise.imp (R := (· < ·)) (S := (· ≠ ·)) (fun {a b} hab (e : a = b) => bs_irr a (by rw [← e] at hab; exact hab)) h
def addS (a l : List Byt) : List Byt := l.foldl (fun a s => insS s a) a
def allS (l : List Byt) : List Byt := addS [] l
theorem addS_inc : ∀ {l a : List Byt}, Inc a → Inc (addS a l)
  | [], _, h => h
  | _ :: l, _, h => addS_inc (l := l) (inc_insS h)
theorem addS_mem {x : Byt} : ∀ {l a : List Byt}, x ∈ addS a l ↔ x ∈ a ∨ x ∈ l
  | [], a => by simp [addS]
  | y :: l, a => by
    rw [show addS a (y :: l) = addS (insS y a) l from rfl, addS_mem, mem_insS, List.mem_cons]
    grind
theorem addS_le : ∀ {l a : List Byt}, Inc a → (addS a l).length ≤ a.length + l.length
  | [], _, _ => Nat.le_refl _
  | y :: l, a, h => by
    have h1 := addS_le (l := l) (inc_insS (s := y) h)
    have h2 := len_insS (s := y) h
    rw [show addS a (y :: l) = addS (insS y a) l from rfl, List.length_cons]
    split at h2 <;> omega
theorem addS_len : ∀ {l a : List Byt}, Inc a → ((addS a l).length = a.length + l.length ↔ l.Nodup ∧ ∀ x, x ∈ l → x ∉ a)
  | [], a, _ => by simp [addS]
  | y :: l, a, h => by
    have h1 := addS_le (l := l) (inc_insS (s := y) h)
    have h2 := len_insS (s := y) h
    have ih := addS_len (l := l) (inc_insS (s := y) h)
    rw [show addS a (y :: l) = addS (insS y a) l from rfl, List.length_cons, List.nodup_cons]
    by_cases hm : y ∈ a
    · rw [if_pos hm] at h2
      constructor
      · intro e; omega
      · rintro ⟨_, hh⟩; exact absurd hm (hh y (by simp))
    · rw [if_neg hm] at h2
      rw [show a.length + (l.length + 1) = (insS y a).length + l.length by omega, ih]
      constructor
      · rintro ⟨hn, hh⟩
        refine ⟨⟨fun hy => hh y hy (mem_insS.2 (.inl rfl)), hn⟩, fun x hx => ?_⟩
        rcases List.mem_cons.1 hx with rfl | hx
        · exact hm
        · exact fun hxa => hh x hx (mem_insS.2 (.inr hxa))
      · rintro ⟨⟨hy, hn⟩, hh⟩
        refine ⟨hn, fun x hx hxi => ?_⟩
        rcases mem_insS.1 hxi with rfl | hxa
        · exact hy hx
        · exact hh x (List.mem_cons_of_mem _ hx) hxa
theorem allS_inc (l : List Byt) : Inc (allS l) := addS_inc List.Pairwise.nil
theorem allS_mem {x : Byt} {l : List Byt} : x ∈ allS l ↔ x ∈ l := by rw [allS, addS_mem]; simp
theorem allS_le (l : List Byt) : (allS l).length ≤ l.length := by have := addS_le (l := l) (a := []) List.Pairwise.nil; simpa [allS] using this
theorem allS_len {l : List Byt} : (allS l).length = l.length ↔ l.Nodup := by
  have := addS_len (l := l) (a := []) List.Pairwise.nil
  simpa [allS] using this
theorem allS_snoc (l : List Byt) (x : Byt) : allS (l ++ [x]) = insS x (allS l) := by simp [allS, addS, List.foldl_append]
/-- The strings in order, none left out. -/
def sortS (l : List Byt) : List Byt := l.mergeSort fun x y => decide (x ≤ y)
theorem sortS_perm (l : List Byt) : (sortS l).Perm l := List.mergeSort_perm _ _
theorem sortS_le (l : List Byt) : (sortS l).Pairwise (· ≤ ·) := by
  have h := List.pairwise_mergeSort (le := fun (x y : Byt) => decide (x ≤ y)) (fun a b c h1 h2 => by simp only [decide_eq_true_eq] at *; exact List.le_trans h1 h2) (fun a b => by simp only [Bool.or_eq_true, decide_eq_true_eq]; exact List.le_total a b) l
  exact h.imp (fun h => by simpa using h)
/-- The sorted list of the strings that are not empty. -/
def keepS (l : List Byt) : List Byt := (sortS l).filter (fun x => !x.isEmpty)
def fullS (l : List Byt) : List Byt := l.filter (fun x => !x.isEmpty)
theorem keepS_perm (l : List Byt) : (keepS l).Perm (fullS l) := (sortS_perm l).filter _
theorem keepS_le (l : List Byt) : (keepS l).Pairwise (· ≤ ·) := (sortS_le l).filter _
theorem keepS_len (l : List Byt) : (keepS l).length = (fullS l).length := (keepS_perm l).length_eq
theorem keepS_mem {x : Byt} {l : List Byt} : x ∈ keepS l ↔ x ∈ fullS l := (keepS_perm l).mem_iff
theorem inc_of_le {l : List Byt} (h : l.Pairwise (· ≤ ·)) (hn : l.Nodup) : Inc l := by
  refine List.Pairwise.imp₂ ?_ h hn
  exact fun a b h1 h2 => bs_lt h1 h2
theorem keepS_inc {l : List Byt} : Inc (keepS l) ↔ (fullS l).Nodup := by
  constructor
  · intro h; exact (keepS_perm l).nodup_iff.1 (inc_nodup h)
  · intro h; exact inc_of_le (keepS_le l) ((keepS_perm l).nodup_iff.2 h)
theorem keepS_all {l : List Byt} (h : (fullS l).Nodup) : keepS l = allS (fullS l) := inc_eq (keepS_inc.2 h) (allS_inc _) (fun x => by rw [keepS_mem, allS_mem])

/-! Rows of strings as lists. -/
def lsOf (S : Nat → ByteArray) (n : Nat) : List Byt := (List.range n).map fun i => (S i).data.toList
theorem lsOf_len (S : Nat → ByteArray) (n : Nat) : (lsOf S n).length = n := by simp [lsOf]
theorem lsOf_succ (S : Nat → ByteArray) (n : Nat) : lsOf S (n + 1) = lsOf S n ++ [(S n).data.toList] := by simp [lsOf, List.range_succ]
theorem lsOf_mem {S : Nat → ByteArray} {n : Nat} {x : Byt} : x ∈ lsOf S n ↔ ∃ i, i < n ∧ (S i).data.toList = x := by simp [lsOf]
theorem lsOf_at {S : Nat → ByteArray} {n i : Nat} (h : i < n) : (lsOf S n)[i]? = some (S i).data.toList := by simp [lsOf, h]
/-- A list of strings as a row. -/
def rowS (l : List Byt) (i : Nat) : ByteArray := ⟨(l.getD i []).toArray⟩
theorem rowS_ls (l : List Byt) : lsOf (rowS l) l.length = l := by
  apply List.ext_getElem?
  intro i
  by_cases h : i < l.length
  · rw [lsOf_at h]; simp [rowS, h]
  · rw [List.getElem?_eq_none (by rw [lsOf_len]; omega), List.getElem?_eq_none (by omega)]
theorem ba_toList (s : ByteArray) : s.toList = s.data.toList := by
  exact Lib.toList_data s
theorem stepK_at {S : Nat → ByteArray} {i : Nat} (h0 : i ≠ 0) : stepK S i = (isKeyB (S i).data.toList && decide ((S (i - 1)).data.toList < (S i).data.toList)) := by
  unfold stepK
  rw [bl_eq, ba_toList, ba_toList]; simp [h0]
theorem allK_inc {S : Nat → ByteArray} : ∀ {n : Nat}, allK S n = true ↔ (∀ x, x ∈ lsOf S n → isKeyB x = true) ∧ Inc (lsOf S n)
  | 0 => by simp [allK, lsOf, Inc]
  | n + 1 => by
    have ih := allK_inc (S := S) (n := n)
    rw [allK_succ, Bool.and_eq_true, ih, lsOf_succ]
    rcases Nat.eq_zero_or_pos n with rfl | hp
    · simp [stepK, lsOf, Inc]
    · rw [stepK_at (by omega), Bool.and_eq_true, decide_eq_true_eq]
      have hlast : (S (n - 1)).data.toList ∈ lsOf S n := lsOf_mem.2 ⟨n - 1, by omega, rfl⟩
      constructor
      · rintro ⟨⟨h1, h2⟩, h3, h4⟩
        refine ⟨fun x hx => ?_, List.pairwise_append.2 ⟨h2, by simp, fun x hx y hy => ?_⟩⟩
        · rcases List.mem_append.1 hx with hx | hx
          · exact h1 x hx
          · simp at hx; subst hx; exact h3
        · simp at hy; subst hy
          obtain ⟨m, rfl⟩ : ∃ m, n = m + 1 := ⟨n - 1, by omega⟩
          rw [lsOf_succ] at hx h2
          rcases List.mem_append.1 hx with hx | hx
          · exact bs_tr ((List.pairwise_append.1 h2).2.2 x hx _ (by simp)) h4
          · simp at hx; subst hx; exact h4
      · rintro ⟨h1, h2⟩
        have h5 := List.pairwise_append.1 h2
        exact ⟨⟨fun x hx => h1 x (List.mem_append_left _ hx), h5.1⟩, h1 _ (by simp), h5.2.2 _ hlast _ (by simp)⟩
theorem keysB_inc {S : Nat → ByteArray} {n : Nat} : keysB S n = true ↔ n ≤ 40 ∧ (∀ x, x ∈ lsOf S n → isKeyB x = true) ∧ Inc (lsOf S n) := by
  rw [keysB, Bool.and_eq_true, allK_inc, decide_eq_true_eq]
theorem key_ne {x : Byt} (h : isKeyB x = true) : x ≠ [] := fun e => by subst e; simp [isKeyB] at h
theorem fullS_keys {l : List Byt} (h : ∀ x, x ∈ l → isKeyB x = true) : fullS l = l := List.filter_eq_self.2 (fun x hx => by have := key_ne (h x hx); cases x <;> simp_all)
end Go.Proofs.Ythaipemgndahfaa
