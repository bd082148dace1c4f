/- Copies of edges, the program's way. -/
import Derived.Test.YtijlpbcgkecinabHypO
import Derived.Test.YtijlpbcgkecinabCont
import Derived.Lib.SliceRun
namespace Go.Proofs.Ytijlpbcgkecinab
open Go.RowKit

/-- A made row, all of its cells known. -/
def GX (w : World) (t : TypeId) (g n : Nat) (F : Nat → Value) : Prop := ∃ c : Array Value, w.heap[g]? = some (.cells c t (0, 0)) ∧ c.size = n ∧ ∀ i, i < n → c[i]? = some (F i)
section
variable {w w' : World} {t : TypeId} {g n : Nat} {F G : Nat → Value}
theorem GX.own (h : GX w t g n F) : GOwn w t g n F := by
  obtain ⟨c, h1, h2, h3⟩ := h
  exact ⟨c, h1, by omega, h3⟩
theorem GX.of_block (h : GX w t g n F) (e : w'.heap[g]? = w.heap[g]?) : GX w' t g n F := by
  obtain ⟨c, h1, h2⟩ := h
  exact ⟨c, e.trans h1, h2⟩
theorem GX.b (h : GX w t g n F) (hb : Below w.heap.size w w') : GX w' t g n F := h.of_block (hb.block g h.own.lt)
theorem GX.congr (h : GX w t g n F) (e : ∀ i, i < n → F i = G i) : GX w t g n G := by
  obtain ⟨c, h1, h2, h3⟩ := h
  exact ⟨c, h1, h2, fun i hi => by rw [h3 i hi, e i hi]⟩
theorem GX.set (h : GX w t g n F) (i : Nat) (x : Value) : GX (w.setCell ⟨g, i, none⟩ x) t g n (fun j => if j = i then x else F j) := by
  obtain ⟨c, h1, h2, h3⟩ := h
  refine ⟨c.setIfInBounds i x, by simp [World.setCell, Array.getElem?_modify, h1], by simpa using h2, fun j hj => ?_⟩
  rw [Array.getElem?_setIfInBounds]
  by_cases e : j = i
  · subst e
    rw [if_pos rfl, if_pos (by omega)]; simp
  · rw [if_neg (by omega)]
    show c[j]? = some (if j = i then x else F j)
    rw [if_neg e]; exact h3 j hj
theorem GX.made (w : World) (t : TypeId) (z : Value) (n : Nat) : GX (w.alloc (.cells (madeCells #[z] n) t)) t w.heap.size n (fun _ => z) :=
  ⟨_, Go.Deep.blk_alloc_new _ _, by simp [madeCells], fun i hi => by simp [madeCells, hi, Nat.mod_one]⟩
theorem GX.row (h : GX w t g n F) {B : Nat} (hB : B ≤ g) (hn : n ≤ 1048576) : w.ownsRow B t 1 (.slice (some ⟨g, 0, none⟩) n n) n (vals F n) := by
  obtain ⟨c, h1, h2, h3⟩ := h
  refine ⟨by rw [vals_len, Nat.mul_one], .inr ⟨g, n, c, rfl, hB, h1, Nat.le_refl _, by unfold maxLen; omega, by omega, ?_⟩⟩
  apply List.ext_getElem?
  intro i
  rw [Nat.mul_one, List.getElem?_take]
  by_cases hi : i < n
  · rw [if_pos hi, Array.getElem?_toList, h3 i hi]
    unfold vals; simp [hi]
  · rw [if_neg hi, List.getElem?_eq_none (by rw [vals_len]; omega)]
/-- Rows that lie in blocks made one after another. -/
theorem apart_new {w w2 : World} {B n n' c c' : Nat} {e e' : TypeId} {A A' : Option Addr} {xs xs' : List Value} (h : w.ownsRow B e 1 (.slice A n c) n xs) (h' : w2.ownsRow w.heap.size e' 1 (.slice A' n' c') n' xs') : Apart n A n' A' := fun _ _ b o b' o' hA hB he => by
  subst hA hB
  have h1 := (h.lt b rfl).2
  have h2 := (h'.lt b' rfl).1
  omega
end
set_option maxRecDepth 100000 in
set_option maxHeartbeats 1000000 in
theorem clone_is (A : Option Addr) (n c : Nat) (X : Nat → Int) (w : World) (hn : n ≤ 4096) (h0 : 0 < n) (hr : IRow w A n X) :
    Calls Try.prog 51 #[.slice A n c] w fun e w' => ∃ A' c', e = .returned (.slice A' n c') ∧ w'.ownsRow w.heap.size 3 1 (.slice A' n c') n (vals (intV X) n) ∧ Below w.heap.size w w' := by
  obtain ⟨b, off, rfl, _, _⟩ := hr h0
  have HR := Lib.hid (hr.b ((Below.refl _ _).alloc (Nat.le_refl _) (.cells #[] 3)))
  have HO := Lib.hid (World.ownsRow_made (e := 3) (size := 1) w #[] 0 (Nat.le_refl _) (by simp [maxLen]) (by simp))
  have hnil : ∀ W, (binOp .eql 22 (.slice (some ⟨b, off, none⟩) n c) (.slice none 0 0)).run Try.prog W = .ok (.bool false) W := fun W => Lib.run_eql_slice_nil W _ _ _ n c 0 0 Try.underlying22
  clear hr
  go_enter Try.func51, Try.ntmps51
  go_wp2_with (at_builtin; refine wpList_append_vals rfl _ _ 22 rfl w.heap.size 3 (.int .i64 0) 8 Try.underlying22 infoI rfl (F := intV X) (G := intV X) rfl rfl HO.out HR.out (fun _ _ => rfl) (by omega) (by omega) (by simp) ?_)
  intro A' c' w' hown hb
  have HO2 := Lib.hid hown
  have HB := Lib.hid (((Below.refl w.heap.size w).alloc (Nat.le_refl _) (.cells #[] 3)).trans hb)
  clear hown hb
  go_wp2_with fail
  go_ret
  refine ⟨A', c', by first | rfl | (rw [Nat.zero_add]), ?_, HB.out⟩
  have h := HO2.out
  rw [vals_congr (F := catV (intV X) (intV X) 0) (G := intV X) (fun i _ => by unfold catV; simp)] at h
  exact h
end Go.Proofs.Ytijlpbcgkecinab
