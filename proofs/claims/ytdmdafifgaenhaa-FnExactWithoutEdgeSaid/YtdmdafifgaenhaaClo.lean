/- Copies of edges, the program's way. -/
import Derived.Test.YtdmdafifgaenhaaHypO
import Derived.Test.YtdmdafifgaenhaaCont
import Derived.Lib.SliceRun
namespace Go.Proofs.Ytdmdafifgaenhaa
open Go.RowKit

/-- A made row, all of its cells known. -/
def GX (w : World) (t : TypeId) (g n : Nat) (F : Nat → Value) : Prop := ∃ c : Array Value, w.heap[g]? = some (.cells c t (0, 0)) ∧ c.size = n ∧ ∀ i, i < n → c[i]? = some (F i)
section
variable {w w' : World} {t : TypeId} {g n : Nat} {F G : Nat → Value}
theorem GX.own (h : GX w t g n F) : GOwn w t g n F := by
  obtain ⟨c, h1, h2, h3⟩ := h
  exact ⟨c, h1, by omega, h3⟩
theorem GX.of_block (h : GX w t g n F) (e : w'.heap[g]? = w.heap[g]?) : GX w' t g n F := by
  obtain ⟨c, h1, h2⟩ := h
  exact ⟨c, e.trans h1, h2⟩
theorem GX.b (h : GX w t g n F) (hb : Below w.heap.size w w') : GX w' t g n F := h.of_block (hb.block g h.own.lt)
theorem GX.congr (h : GX w t g n F) (e : ∀ i, i < n → F i = G i) : GX w t g n G := by
  obtain ⟨c, h1, h2, h3⟩ := h
  exact ⟨c, h1, h2, fun i hi => by rw [h3 i hi, e i hi]⟩
theorem GX.set (h : GX w t g n F) (i : Nat) (x : Value) : GX (w.setCell ⟨g, i, none⟩ x) t g n (fun j => if j = i then x else F j) := by
  obtain ⟨c, h1, h2, h3⟩ := h
  refine ⟨c.setIfInBounds i x, by simp [World.setCell, Array.getElem?_modify, h1], by simpa using h2, fun j hj => ?_⟩
  rw [Array.getElem?_setIfInBounds]
  by_cases e : j = i
  · subst e
    rw [if_pos rfl, if_pos (by omega)]; simp
  · rw [if_neg (by omega)]
    show c[j]? = some (if j = i then x else F j)
    rw [if_neg e]; exact h3 j hj
theorem GX.made (w : World) (t : TypeId) (z : Value) (n : Nat) : GX (w.alloc (.cells (madeCells #[z] n) t)) t w.heap.size n (fun _ => z) :=
  ⟨_, Go.Deep.blk_alloc_new _ _, by simp [madeCells], fun i hi => by simp [madeCells, hi, Nat.mod_one]⟩
theorem GX.row (h : GX w t g n F) {B : Nat} (hB : B ≤ g) (hn : n ≤ 1048576) : w.ownsRow B t 1 (.slice (some ⟨g, 0, none⟩) n n) n (vals F n) := by
  obtain ⟨c, h1, h2, h3⟩ := h
  refine ⟨by rw [vals_len, Nat.mul_one], .inr ⟨g, n, c, rfl, hB, h1, Nat.le_refl _, by unfold maxLen; omega, by omega, ?_⟩⟩
  apply List.ext_getElem?
  intro i
  rw [Nat.mul_one, List.getElem?_take]
  by_cases hi : i < n
  · rw [if_pos hi, Array.getElem?_toList, h3 i hi]
    unfold vals; simp [hi]
  · rw [if_neg hi, List.getElem?_eq_none (by rw [vals_len]; omega)]
/-- Rows that lie in blocks made one after another. -/
theorem apart_new {w w2 : World} {B n n' c c' : Nat} {e e' : TypeId} {A A' : Option Addr} {xs xs' : List Value} (h : w.ownsRow B e 1 (.slice A n c) n xs) (h' : w2.ownsRow w.heap.size e' 1 (.slice A' n' c') n' xs') : Apart n A n' A' := fun _ _ b o b' o' hA hB he => by
  subst hA hB
  have h1 := (h.lt b rfl).2
  have h2 := (h'.lt b' rfl).1
  omega
end
set_option maxRecDepth 100000 in
set_option maxHeartbeats 1000000 in
theorem clone_is (A : Option Addr) (n c : Nat) (X : Nat → Int) (w : World) (hn : n ≤ 4096) (h0 : 0 < n) (hr : IRow w A n X) :
    Calls Try.prog 95 #[.slice A n c] w fun e w' => ∃ A' c', e = .returned (.slice A' n c') ∧ w'.ownsRow w.heap.size 3 1 (.slice A' n c') n (vals (intV X) n) ∧ Below w.heap.size w w' := by
  obtain ⟨b, off, rfl, _, _⟩ := hr h0
  have HR := Lib.hid (hr.b ((Below.refl _ _).alloc (Nat.le_refl _) (.cells #[] 3)))
  have HO := Lib.hid (World.ownsRow_made (e := 3) (size := 1) w #[] 0 (Nat.le_refl _) (by simp [maxLen]) (by simp))
  have hnil : ∀ W, (binOp .eql 39 (.slice (some ⟨b, off, none⟩) n c) (.slice none 0 0)).run Try.prog W = .ok (.bool false) W := fun W => Lib.run_eql_slice_nil W _ _ _ n c 0 0 Try.underlying39
  clear hr
  go_enter Try.func95, Try.ntmps95
  go_wp2_with (at_builtin; refine wpList_append_vals rfl _ _ 39 rfl w.heap.size 3 (.int .i64 0) 8 Try.underlying39 infoI rfl (F := intV X) (G := intV X) rfl rfl HO.out HR.out (fun _ _ => rfl) (by omega) (by omega) (by simp) ?_)
  intro A' c' w' hown hb
  have HO2 := Lib.hid hown
  have HB := Lib.hid (((Below.refl w.heap.size w).alloc (Nat.le_refl _) (.cells #[] 3)).trans hb)
  clear hown hb
  go_wp2_with fail
  go_ret
  refine ⟨A', c', by first | rfl | (rw [Nat.zero_add]), ?_, HB.out⟩
  have h := HO2.out
  rw [vals_congr (F := catV (intV X) (intV X) 0) (G := intV X) (fun i _ => by unfold catV; simp)] at h
  exact h
set_option maxRecDepth 100000 in
set_option maxHeartbeats 4000000 in
theorem impl_cloneEdges (A : Option Addr) (n c : Nat) (B : Nat → Option Addr) (l d : Nat → Nat) (X : Nat → Nat → Int) (w : World) (hn : n ≤ 64) (hl : ∀ i, i < n → 0 < l i ∧ l i ≤ 4096) (hr : HR w A n B l d X) :
    Calls Try.prog 94 #[.slice A n c] w fun e w' => ∃ D dd, e = .returned (.slice (some ⟨w.heap.size, 0, none⟩) n n) ∧ HOwn w.heap.size (some ⟨w.heap.size, 0, none⟩) n n D dd l X w' ∧ (∀ i j, i < j → j < n → Apart (l i) (D i) (l j) (D j)) ∧ Below w.heap.size w w' := by
  have HRw := Lib.hid hr
  have HL := Lib.hid hl
  have hmk := fun W => run_make_row' (P := Try.prog) 22 39 (.slice none 0 0) 24 Try.underlying22 infoSl rfl .i64 .i64 n (by omega) (by omega) W
  clear hr hl
  go_enter Try.func94, Try.ntmps94
  go_wp2_with fail
  go_loopw [11] (fun i wr => ∃ (k : Nat) (D : Nat → Option Addr) (dd : Nat → Nat), k ≤ n ∧ i = .int .i64 k ∧ Hid (GX wr 39 w.heap.size n (fun j => if j < k then sliceV D l dd j else .slice none 0 0)) ∧ Hid (∀ j, j < k → wr.ownsRow w.heap.size 3 1 (.slice (D j) (l j) (dd j)) (l j) (vals (intV (X j)) (l j))) ∧ Hid (∀ i j, i < j → j < k → Apart (l i) (D i) (l j) (D j)) ∧ Hid (Below w.heap.size w wr)) (fun i _ => n - (intOf i).toNat)
  case atStart => exact ⟨0, fun _ => none, fun _ => 0, Nat.zero_le _, rfl, Lib.hid ((GX.made _ _ _ _).congr (fun _ _ => by simp)), Lib.hid (fun j hj => absurd hj (by omega)), Lib.hid (fun i j _ hj => absurd hj (by omega)), Lib.hid ((Below.refl _ _).alloc (Nat.le_refl _) _)⟩
  case round =>
    obtain ⟨k, D, dd, hk, rfl, HO, HI, HA, HB⟩ := hrel
    by_cases hlt : k < n
    · have HRr := Lib.hid (HRw.out.b HB.out)
      obtain ⟨bk, off, rfl, hbl, hc⟩ := HRr.out.1 (by omega)
      have hcq := hc k hlt
      unfold sliceV at hcq
      have HX := Lib.hid (HRr.out.2 k hlt)
      obtain ⟨hl0, hl1⟩ := HL.out k hlt
      have hsz := HB.out.size
      clear hc
      go_wp2_with fail
      refine (clone_is (B k) (l k) (d k) (X k) wr hl1 hl0 HX.out).mono ?_; rintro e w2 ⟨A2, c2, rfl, ho2, hb⟩
      have HO2 := Lib.hid (HO.out.b hb)
      have HB2 := Lib.hid (HB.out.trans (hb.mono hsz))
      have HI2 := Lib.hid (fun j (hj : j < k) => owned_b (HI.out j hj) hb)
      have HN := Lib.hid ho2
      have HAN := Lib.hid (fun j (hj : j < k) => apart_new (HI.out j hj) ho2)
      have hok := HO2.out.own.cell hlt
      have hfr := HO2.out.own.frozen k
      have hng := HO.out.own.lt
      rw [if_neg (Nat.lt_irrefl k)] at hok
      clear ho2 hb HO HB
      go_wp2_with fail
      go_roundw
      case rel =>
        have hset : ∀ {v : Value} {m : Nat} {xs : List Value}, w2.ownsRow w.heap.size 3 1 v m xs → (w2.setCell ⟨w.heap.size, k, none⟩ (.slice A2 (l k) c2)).ownsRow w.heap.size 3 1 v m xs := fun ho =>
          ho.kept (grown_setCell (World.grownBy.refl w2 (some w.heap.size)) _ _) (by
            rcases ho.2 with ⟨rfl, _⟩ | ⟨g, cap, cur, rfl, _, hh, _⟩
            · exact .inl rfl
            · refine .inr fun e => ?_
              injection e with e
              change g = w.heap.size at e
              subst e
              obtain ⟨c, h1, _⟩ := HO2.out
              rw [hh] at h1
              injection h1 with h1; injection h1 with _ h1 _
              exact absurd h1 (by decide))
        refine ⟨k + 1, upd D k A2, upd dd k c2, by omega, by go_num, Lib.hid ((HO2.out.set k _).congr (fun j hj => ?_)), Lib.hid (fun j hj => ?_), Lib.hid (fun i j hij hj => ?_), Lib.hid (below_setAt HB2.out (Nat.le_refl _) _)⟩
        · unfold upd sliceV
          by_cases e1 : j = k
          · subst e1; simp
          · by_cases e2 : j < k <;> simp [e1, e2] <;> omega
        · unfold upd
          by_cases e1 : j = k
          · subst e1
            simp only [if_true]
            exact hset (owned_low HN.out hsz)
          · simp only [e1, if_false]
            exact hset (HI2.out j (by omega))
        · unfold upd
          by_cases e1 : j = k
          · subst e1
            simp only [if_true, show ¬ i = j by omega, if_false]
            exact HAN.out i hij
          · simp only [e1, show ¬ i = k by omega, if_false]
            exact HA.out i j hij (by omega)
      case measure => simp [intOf]; omega
    · obtain rfl : k = n := by omega
      go_wp2_with fail
      go_ret
      exact ⟨D, dd, rfl, ⟨(HO.out.congr (fun j hj => by rw [if_pos hj])).row (Nat.le_refl _) (by omega), HI.out⟩, HA.out, HB.out⟩
end Go.Proofs.Ytdmdafifgaenhaa
