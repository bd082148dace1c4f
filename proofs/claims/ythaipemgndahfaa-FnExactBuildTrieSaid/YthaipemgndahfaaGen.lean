/- Rows of values of one cell each, of any type. -/
import Derived.Test.YthaipemgndahfaaLists
namespace Go.Proofs.Ythaipemgndahfaa
open Go.RowKit

/-- The slice value '.slice A n _' reads as F 0 .. F (n - 1). -/
def GRow (w : World) (A : Option Addr) (n : Nat) (F : Nat → Value) : Prop :=
  0 < n → ∃ b off, A = some ⟨b, off, none⟩ ∧ b < w.heap.size ∧ ∀ k, k < n → w.cell? ⟨b, off + k, none⟩ = some (F k)
/-- Block g holds values of type t, none frozen, the first n of them F. -/
def GOwn (w : World) (t : TypeId) (g n : Nat) (F : Nat → Value) : Prop :=
  ∃ c : Array Value, w.heap[g]? = some (.cells c t (0, 0)) ∧ n ≤ c.size ∧ ∀ i, i < n → c[i]? = some (F i)
section
variable {w w' : World} {A : Option Addr} {n g : Nat} {t : TypeId} {F G : Nat → Value}
theorem GRow.below (h : GRow w A n F) {B : Nat} (hb : Below B w w') (hB : w.heap.size ≤ B) : GRow w' A n F := fun hn => by
  obtain ⟨b, off, hA, hlt, hc⟩ := h hn
  exact ⟨b, off, hA, Nat.lt_of_lt_of_le hlt hb.size, fun k hk => by rw [hb.cell (show (⟨b, off + k, none⟩ : Addr).block < B by show b < B; omega)]; exact hc k hk⟩
theorem GRow.b (h : GRow w A n F) (hb : Below w.heap.size w w') : GRow w' A n F := h.below hb (Nat.le_refl _)
theorem GRow.congr (h : GRow w A n F) (e : ∀ i, i < n → F i = G i) : GRow w A n G := fun hn => by
  obtain ⟨b, off, hA, hlt, hc⟩ := h hn
  exact ⟨b, off, hA, hlt, fun k hk => by rw [hc k hk, e k hk]⟩
theorem GRow.mono (h : GRow w A n F) {m : Nat} (hm : m ≤ n) : GRow w A m F := fun hn => by
  obtain ⟨b, off, hA, hlt, hc⟩ := h (by omega)
  exact ⟨b, off, hA, hlt, fun k hk => hc k (by omega)⟩
theorem GRow.zero : GRow w A 0 F := fun h => absurd h (by omega)
theorem GOwn.lt (h : GOwn w t g n F) : g < w.heap.size := by
  obtain ⟨c, hb, _⟩ := h
  exact (Array.getElem?_eq_some_iff.1 hb).1
theorem GOwn.cell (h : GOwn w t g n F) {i : Nat} (hi : i < n) : w.cell? ⟨g, i, none⟩ = some (F i) := by
  obtain ⟨c, hb, _, hc⟩ := h
  simp [World.cell?, hb, hc i hi]
theorem GOwn.frozen (h : GOwn w t g n F) (i : Nat) : w.frozen? ⟨g, i, none⟩ = false := by
  obtain ⟨c, hb, _, _⟩ := h
  simp [World.frozen?, hb]
theorem GOwn.row (h : GOwn w t g n F) : GRow w (some ⟨g, 0, none⟩) n F := fun _ => ⟨g, 0, rfl, h.lt, fun k hk => by rw [Nat.zero_add]; exact h.cell hk⟩
theorem GOwn.of_block (h : GOwn w t g n F) (e : w'.heap[g]? = w.heap[g]?) : GOwn w' t g n F := by
  obtain ⟨c, hb, hn, hc⟩ := h
  exact ⟨c, e.trans hb, hn, hc⟩
theorem GOwn.b (h : GOwn w t g n F) (hb : Below w.heap.size w w') : GOwn w' t g n F := h.of_block (hb.block g h.lt)
theorem GOwn.congr (h : GOwn w t g n F) (e : ∀ i, i < n → F i = G i) : GOwn w t g n G := by
  obtain ⟨c, hb, hn, hc⟩ := h
  exact ⟨c, hb, hn, fun i hi => by rw [hc i hi, e i hi]⟩
theorem GOwn.mono (h : GOwn w t g n F) {m : Nat} (hm : m ≤ n) : GOwn w t g m F := by
  obtain ⟨c, hb, hn, hc⟩ := h
  exact ⟨c, hb, by omega, fun i hi => hc i (by omega)⟩
theorem GOwn.set (h : GOwn w t g n F) (i : Nat) (x : Value) : GOwn (w.setCell ⟨g, i, none⟩ x) t g n (fun j => if j = i then x else F j) := by
  obtain ⟨c, hb, hn, hc⟩ := h
  refine ⟨c.setIfInBounds i x, ?_, by simpa using hn, fun j hj => ?_⟩
  · simp [World.setCell, Array.getElem?_modify, hb]
  · rw [Array.getElem?_setIfInBounds]
    by_cases e : j = i
    · subst e
      have : j < c.size := by omega
      simp [this]
    · rw [if_neg (fun h => e h.symm)]
      show c[j]? = some (if j = i then x else F j)
      rw [if_neg e]
      exact hc j hj
theorem GOwn.setOther (h : GOwn w t g n F) {a : Addr} (ha : g ≠ a.block) (v : Value) : GOwn (w.setCell a v) t g n F := h.of_block (Go.Deep.blk_setCell_other _ _ _ _ ha)
theorem GOwn.setAt (h : GOwn w t g n F) {b o : Nat} (ha : g ≠ b) (v : Value) : GOwn (w.setCell ⟨b, o, none⟩ v) t g n F := h.setOther ha v
theorem GOwn.alloc (h : GOwn w t g n F) (o : Obj) : GOwn (w.alloc o) t g n F := h.of_block (Go.Deep.blk_alloc_lt _ _ _ h.lt)
theorem GOwn.grown (h : GOwn w t g n F) {row : Option Nat} (hg : w.grownBy w' row) (hne : some g ≠ row) : GOwn w' t g n F := h.of_block (hg.block g h.lt hne)
theorem GOwn.made (w : World) (t : TypeId) (z : Value) (n : Nat) : GOwn (w.alloc (.cells (madeCells #[z] n) t)) t w.heap.size n (fun _ => z) :=
  ⟨_, Go.Deep.blk_alloc_new _ _, by simp [madeCells], fun i hi => by simp [madeCells, hi, Nat.mod_one]⟩
theorem GOwn.drewN (h : GOwn w t g n F) (k : Nat) : GOwn (w.drewN k) t g n F := h
end
/-- A row of the call's own, from block B on; nothing is said where it has no values. -/
def GVec (w : World) (B : Nat) (t : TypeId) (A : Option Addr) (n : Nat) (F : Nat → Value) : Prop := n = 0 ∨ ∃ g, A = some ⟨g, 0, none⟩ ∧ B ≤ g ∧ GOwn w t g n F
def vals (F : Nat → Value) (n : Nat) : List Value := (List.range n).map F
theorem vals_snoc (F : Nat → Value) (k : Nat) : vals F (k + 1) = vals F k ++ [F k] := by simp [vals, List.range_succ]
theorem vals_len (F : Nat → Value) (k : Nat) : (vals F k).length = k := by simp [vals]
theorem vals_at (F : Nat → Value) (k i : Nat) (h : i < k) : (vals F k)[i]? = some (F i) := by unfold vals; rw [range_at, if_pos h]
section
variable {w w' : World} {A : Option Addr} {B n c : Nat} {t : TypeId} {F G : Nat → Value}
theorem owned_vec (h : w.ownsRow B t 1 (.slice A n c) n (vals F n)) : GVec w B t A n F := by
  rcases h.2 with ⟨_, h0⟩ | ⟨g, cap, cur, hv, hg, hh, hc1, hc2, hc3, hc4⟩
  · exact .inl h0
  · injection hv with hA
    subst hA
    refine .inr ⟨g, rfl, hg, cur, hh, by omega, fun i hi => ?_⟩
    have h5 := vals_at F n i hi
    rw [← hc4, Nat.mul_one, List.getElem?_take_of_lt hi] at h5
    simpa using h5
theorem owned_slice {v : Value} {xs : List Value} (h : w.ownsRow B t 1 v n xs) : ∃ A c, v = .slice A n c ∧ n ≤ c ∧ c ≤ maxLen := by
  rcases h.2 with ⟨rfl, h0⟩ | ⟨g, cap, cur, rfl, _, _, h1, h2, _⟩
  · exact ⟨none, 0, by rw [h0], by omega, by simp [maxLen]⟩
  · exact ⟨_, cap, rfl, h1, h2⟩
theorem GVec.row (h : GVec w B t A n F) : GRow w A n F := by
  rcases h with rfl | ⟨g, rfl, _, ho⟩
  · exact GRow.zero
  · exact ho.row
theorem GVec.b (h : GVec w B t A n F) (hb : Below w.heap.size w w') : GVec w' B t A n F := by
  rcases h with h | ⟨g, hA, hg, ho⟩
  · exact .inl h
  · exact .inr ⟨g, hA, hg, ho.b hb⟩
theorem GVec.congr (h : GVec w B t A n F) (e : ∀ i, i < n → F i = G i) : GVec w B t A n G := by
  rcases h with h | ⟨g, hA, hg, ho⟩
  · exact .inl h
  · exact .inr ⟨g, hA, hg, ho.congr e⟩
end

theorem owned_b {w w' : World} {B : Nat} {e : TypeId} {v : Value} {n : Nat} {xs : List Value} (h : w.ownsRow B e 1 v n xs) (hb : Below w.heap.size w w') : w'.ownsRow B e 1 v n xs :=
  h.kept (grown_of_below hb none) (by cases v.ownBlock <;> simp)
theorem owned_low {w : World} {B B' : Nat} {e : TypeId} {v : Value} {n : Nat} {xs : List Value} (h : w.ownsRow B e 1 v n xs) (hB : B' ≤ B) : w.ownsRow B' e 1 v n xs := by
  refine ⟨h.1, ?_⟩
  rcases h.2 with h | ⟨g, cap, cur, hv, hg, rest⟩
  · exact .inl h
  · exact .inr ⟨g, cap, cur, hv, by omega, rest⟩
/-- One element put behind a row of the call's own: the element lies in a block made for it. -/
theorem wpList_push {ops : Array Oper} {rest : List Oper} {o : Oper} {a : Act} {Q : Exit → Act → World → Prop} (hgd : o.guard = none) (s x : Operand) (t : TypeId)
    (ho : o.op = .call { callee := .builtin .append, args := #[s, x], argTypes := #[t, t] }) (B : Nat) (e : TypeId) (z : Value) (bytes : Nat)
    (ht : Try.prog.underlying t = some (.slice e)) (hinfo : (Try.prog.info? e).map (fun i => (i.zero, i.size, i.bytes)) = some (some z, 1, bytes)) (hz1 : z.cells.size = 1)
    (A : Option Addr) (k c : Nat) (F : Nat → Value) (u : Value) (wr : World) (hs : a.eval s = .slice A k c) (hown : wr.ownsRow B e 1 (.slice A k c) k (vals F k))
    (hx : a.eval x = .slice (some ⟨wr.heap.size, 0, none⟩) 1 1) (hF : F k = u) (hu : u.oneCell' = true) (hk : (k + 1) * bytes ≤ 140737488355328) (hk2 : k < 16777216) (hB : B ≤ wr.heap.size)
    (h : ∀ A' c' w3, w3.ownsRow B e 1 (.slice A' (k + 1) c') (k + 1) (vals F (k + 1)) → Below B wr w3 → wpList Try.prog ops Q rest (a.put o.dst (.slice A' (k + 1) c')) w3) :
    wpList Try.prog ops Q (o :: rest) a (wr.alloc (.cells #[u] e)) := by
  obtain ⟨i0, hi, hz0, hz1', hz2⟩ := info_parts hinfo
  refine wpList_append_own _ hgd s x t ho B e i0 z 1 bytes ht hi hz0 hz1' hz2 hz1 (by decide) _ _ _ hs (hown.alloc _) ⟨wr.heap.size, 0, none⟩ 1 1 [u] hx rfl ?_ ?_ ?_ hk ?_ ?_
  · intro j v hj
    match j, hj with
    | 0, hj => simp at hj; subst hj; simp [Addr.add]
  · intro v hv; simp at hv; subst hv; exact hu
  · unfold maxLen; omega
  · simp; omega
  · intro v' w3 hown' hgrow _
    obtain ⟨A', c', rfl, _, _⟩ := owned_slice hown'
    refine h A' c' w3 (by rw [vals_snoc, hF]; exact hown') (((Below.refl _ _).alloc hB _).grown hgrow (by simp; omega) (fun g hg => (hown.lt g hg).1))

/-- n signs, 1 where f is on and 0 where it is off. -/
def digN (b : Bool) : Int := if b then 49 else 48
def digV (f : Nat → Bool) (i : Nat) : Value := .int .u8 (digN (f i))
def textOf (f : Nat → Bool) (n : Nat) : ByteArray := strOfNums ((List.range n).map fun i => digN (f i))
theorem conv_dig {w : World} {A : Option Addr} {n c : Nat} {f : Nat → Bool} (h : GRow w A n (digV f)) (h0 : 0 < n) :
    (convert 80 9 (.slice A n c)).run Try.prog w = .ok (.string (textOf f n)) w := by
  obtain ⟨b, off, rfl, _, hc⟩ := h h0
  refine run_convert_bytes_arg w 80 5 Try.underlying80 Try.underlying5 b off n c _ (by simp) (fun i hi => ?_) 9 Try.underlying9
  rw [hc i hi]
  simp [digV, List.getD_eq_getElem?_getD, hi]
end Go.Proofs.Ythaipemgndahfaa
