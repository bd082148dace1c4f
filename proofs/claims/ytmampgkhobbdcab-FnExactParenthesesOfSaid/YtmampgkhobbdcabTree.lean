/- Tree lists, plain: the nodes that are open, the bits that are written. -/
import Derived.Test.YtmampgkhobbdcabExcess
namespace Go.Proofs.Ytmampgkhobbdcab

/-- The open nodes, the last one first, down to the node v; nothing if v is none of them and no -1. -/
def popTo (v : Int) : List Nat → Option (List Nat)
  | [] => if v = -1 then some [] else none
  | s :: r => if (s : Int) = v then some (s :: r) else popTo v r
/-- The open nodes behind node i - 1, the last one first; nothing if a node has no such parent. -/
def stkOf (p : Nat → Int) : Nat → Option (List Nat)
  | 0 => some []
  | i + 1 => ((stkOf p i).bind (popTo (p i))).map (fun l => i :: l)
def top : List Nat → Int
  | [] => -1
  | s :: _ => s
def Chain (p : Nat → Int) : List Nat → Prop
  | [] => True
  | s :: r => p s = top r ∧ top r < s ∧ Chain p r
section
variable {p : Nat → Int} {v : Int} {l l' : List Nat} {i N : Nat}
theorem popTo_facts : ∀ {l : List Nat}, popTo v l = some l' → (Chain p l → Chain p l') ∧ top l' = v ∧ (∀ s, s ∈ l' → s ∈ l) ∧ l'.length ≤ l.length
  | [], h => by
    unfold popTo at h
    split at h
    · rename_i e; injection h with h; subst h; exact ⟨id, e.symm, fun s h => h, Nat.le_refl _⟩
    · cases h
  | s :: r, h => by
    unfold popTo at h
    split at h
    · rename_i e; injection h with h; subst h; exact ⟨id, e, fun s h => h, Nat.le_refl _⟩
    · obtain ⟨h1, h2, h3, h4⟩ := popTo_facts (l := r) h
      exact ⟨fun hc => h1 hc.2.2, h2, fun s hs => List.mem_cons_of_mem _ (h3 s hs), by simp; omega⟩
theorem stk_succ (h : stkOf p (i + 1) = some l') : ∃ l k, stkOf p i = some l ∧ popTo (p i) l = some k ∧ l' = i :: k := by
  unfold stkOf at h
  cases h1 : stkOf p i with
  | none => rw [h1] at h; cases h
  | some l =>
    rw [h1] at h
    simp only [Option.bind_some] at h
    cases h2 : popTo (p i) l with
    | none => rw [h2] at h; cases h
    | some k => rw [h2] at h; injection h with h; exact ⟨l, k, rfl, h2, h.symm⟩
theorem stk_some (h1 : stkOf p i = some l) (h2 : popTo (p i) l = some l') : stkOf p (i + 1) = some (i :: l') := by
  unfold stkOf; rw [h1]; simp [h2]
theorem stk_no (h1 : stkOf p i = some l) (h2 : popTo (p i) l = none) : stkOf p (i + 1) = none := by
  unfold stkOf; rw [h1]; simp [h2]
theorem stk_none (h : stkOf p i = none) : ∀ k, stkOf p (i + k) = none
  | 0 => h
  | k + 1 => by show stkOf p (i + k + 1) = none; unfold stkOf; rw [stk_none h k]; rfl
theorem stk_before {N : Nat} (h : (stkOf p N).isSome = true) (hi : i ≤ N) : ∃ l, stkOf p i = some l := by
  cases h1 : stkOf p i with
  | none => have := stk_none h1 (N - i); rw [show i + (N - i) = N by omega] at this; rw [this] at h; cases h
  | some l => exact ⟨l, rfl⟩
theorem top_lt : ∀ {l : List Nat}, (∀ s, s ∈ l → s < i) → top l < i
  | [], _ => by show (-1 : Int) < i; omega
  | s :: _, h => by have := h s (List.mem_cons_self ..); show (s : Int) < i; omega
theorem stk_facts : ∀ {i : Nat} {l : List Nat}, stkOf p i = some l → Chain p l ∧ top l = (i : Int) - 1 ∧ ∀ s, s ∈ l → s < i
  | 0, l, h => by unfold stkOf at h; injection h with h; subst h; exact ⟨trivial, rfl, fun s h => by cases h⟩
  | i + 1, l, h => by
    obtain ⟨l0, k, h1, h2, rfl⟩ := stk_succ h
    obtain ⟨f1, f2, f3⟩ := stk_facts h1
    obtain ⟨g1, g2, g3, _⟩ := popTo_facts (p := p) h2
    refine ⟨⟨g2.symm, top_lt fun s hs => f3 s (g3 s hs), g1 f1⟩, by show (i : Int) = _; omega, fun s hs => ?_⟩
    rcases List.mem_cons.1 hs with rfl | hs
    · omega
    · have := f3 s (g3 s hs); omega
/-- What is written before node i. -/
def outN (p : Nat → Int) : Nat → List Bool
  | 0 => []
  | i + 1 => match stkOf p i with
    | none => []
    | some l => match popTo (p i) l with
      | none => []
      | some k => outN p i ++ List.replicate (l.length - k.length) false ++ [true]
theorem out_succ {k : List Nat} (h1 : stkOf p i = some l) (h2 : popTo (p i) l = some k) : outN p (i + 1) = outN p i ++ List.replicate (l.length - k.length) false ++ [true] := by
  rw [outN]; simp [h1, h2]
theorem out_len : ∀ {i : Nat} {l : List Nat}, stkOf p i = some l → (outN p i).length + l.length = 2 * i
  | 0, l, h => by unfold stkOf at h; injection h with h; subst h; rfl
  | i + 1, l, h => by
    obtain ⟨l0, k, h1, h2, rfl⟩ := stk_succ h
    have := out_len h1
    have := (popTo_facts (p := p) h2).2.2.2
    rw [out_succ h1 h2]
    simp
    omega
/-- A bit of a list; off behind its end. -/
def bitL (l : List Bool) (k : Nat) : Bool := l.getD k false
theorem bitL_app (l m : List Bool) (k : Nat) : bitL (l ++ m) k = if k < l.length then bitL l k else bitL m (k - l.length) := by
  unfold bitL
  by_cases h : k < l.length
  · rw [if_pos h, List.getD_eq_getElem?_getD, List.getD_eq_getElem?_getD, List.getElem?_append_left h]
  · rw [if_neg h, List.getD_eq_getElem?_getD, List.getD_eq_getElem?_getD, List.getElem?_append_right (by omega)]
theorem bitL_off (n k : Nat) : bitL (List.replicate n false) k = false := by
  unfold bitL
  rw [List.getD_eq_getElem?_getD, List.getElem?_replicate]
  split <;> rfl
theorem bitL_end (l : List Bool) (k : Nat) (h : l.length ≤ k) : bitL l k = false := by
  unfold bitL; rw [List.getD_eq_getElem?_getD, List.getElem?_eq_none h]; rfl
theorem bitL_offs (l : List Bool) (n k : Nat) : bitL (l ++ List.replicate n false) k = bitL l k := by
  rw [bitL_app]
  split
  · rfl
  · rw [bitL_off, bitL_end l k (by omega)]
theorem bitL_on (l : List Bool) (n k : Nat) : bitL (l ++ List.replicate n false ++ [true]) k = if k = l.length + n then true else bitL l k := by
  rw [bitL_app]
  simp only [List.length_append, List.length_replicate]
  by_cases h : k < l.length + n
  · rw [if_pos h, if_neg (by omega), bitL_offs]
  · rw [if_neg h]
    by_cases e : k = l.length + n
    · rw [if_pos e, e, Nat.sub_self]; rfl
    · rw [if_neg e, bitL_end l k (by omega), bitL_end _ _ (by simp; omega)]
end
end Go.Proofs.Ytmampgkhobbdcab
