/- WithEdge: both sides. -/
import Derived.Test.YtdmdafifgaenhaaOwnM
namespace Go.Proofs.Ytdmdafifgaenhaa
open Go.RowKit

section
variable {w w' : World} {base q B n c m : Nat} {e t : TypeId} {v : Value} {cs : Array Value} {xs : List Value}
theorem nbx_grownT (h : NBX base q cs t w) (ho : w.ownsRow B e 1 v n xs) (hg : w.grownBy w' v.ownBlock) (hne : t ≠ e) : NBX base q cs t w' :=
  ⟨(hg.block q h.lt (fun e1 => by
    rcases ho.2 with ⟨rfl, _⟩ | ⟨g, cap, cur, rfl, _, hh, _⟩
    · simp [Value.ownBlock] at e1
    · simp [Value.ownBlock] at e1
      subst e1
      rw [h.blk] at hh
      injection hh with h1; injection h1 with _ h2 _
      exact hne h2)).trans h.blk, h.ge⟩
theorem own_awayT {o : Nat} (ho : w.ownsRow B e 1 v n xs) (h : NBX base q cs t w) (hne : t ≠ e) (x : Value) : (w.setCell ⟨q, o, none⟩ x).ownsRow B e 1 v n xs :=
  ho.kept (grown_setCell (World.grownBy.refl w (some q)) _ _) (by
    rcases ho.2 with ⟨rfl, _⟩ | ⟨g, cap, cur, rfl, _, hh, _⟩
    · exact .inl rfl
    · refine .inr fun e1 => ?_
      injection e1 with e1
      change g = q at e1
      subst e1
      rw [h.blk] at hh
      injection hh with h1; injection h1 with _ h2 _
      exact hne h2)
theorem ow_ofG {A : Option Addr} {F : Nat → Value} (h : w.ownsRow B e 1 (.slice A n c) n (vals F n)) : Ow B w.heap.size e A n F w := by
  rcases owned_vec h with rfl | ⟨g, rfl, hg, ho⟩
  · exact ow_zero _ _ _ _ _ _
  · exact ow_of_own ho hg (Nat.le_refl n)
end
section
variable {w wj : World} {B n c : Nat} {A : Option Addr} {D : Nat → Option Addr} {dd L L' : Nat → Nat} {V V' : Nat → Nat → Int}
theorem HOwn.b (h : HOwn B A n c D dd L V w) (hb : Below w.heap.size w wj) : HOwn B A n c D dd L V wj := ⟨owned_b h.out hb, fun j hj => owned_b (h.inn j hj) hb⟩
theorem HOwn.al (h : HOwn B A n c D dd L V w) (o : Obj) : HOwn B A n c D dd L V (w.alloc o) := h.b ((Below.refl _ _).alloc (Nat.le_refl _) o)
theorem HOwn.congr (h : HOwn B A n c D dd L V w) (hl : ∀ j, j < n → L j = L' j) (hv : ∀ j, j < n → V j = V' j) : HOwn B A n c D dd L' V' w :=
  ⟨by rw [vals_congr (F := sliceV D L' dd) (G := sliceV D L dd) (fun i hi => by unfold sliceV; rw [hl i hi])]; exact h.out, fun j hj => by rw [← hl j hj, ← hv j hj]; exact h.inn j hj⟩
theorem HOwn.ext (h : HOwn B A n c D dd L V w) (x : Option Addr) (y m : Nat) : w.ownsRow B 39 1 (.slice A n c) n (vals (sliceV (upd D n x) (upd L n m) (upd dd n y)) n) := by
  rw [vals_congr (F := sliceV (upd D n x) (upd L n m) (upd dd n y)) (G := sliceV D L dd) (fun i hi => by unfold sliceV upd; rw [if_neg (by omega), if_neg (by omega), if_neg (by omega)])]
  exact h.out
theorem HOwn.push (h : HOwn B A n c D dd L V w) {x A' : Option Addr} {y m c' : Nat} {Y : Nat → Int} (ho : wj.ownsRow B 39 1 (.slice A' (n + 1) c') (n + 1) (vals (sliceV (upd D n x) (upd L n m) (upd dd n y)) (n + 1)))
    (hg : w.grownBy wj (Value.slice A n c).ownBlock) (hx : w.ownsRow B 3 1 (.slice x m y) m (vals (intV Y) m)) : HOwn B A' (n + 1) c' (upd D n x) (upd dd n y) (upd L n m) (upd V n Y) wj :=
  ⟨ho, fun j hj => by
    unfold upd
    by_cases e : j = n
    · subst e
      simp only [if_true]
      exact hx.kept hg (own_apartG hx h.out (by decide))
    · simp only [e, if_false]
      exact (h.inn j (by omega)).kept hg (own_apartG (h.inn j (by omega)) h.out (by decide))⟩
theorem HOwn.ow2 (h : HOwn B A n c D dd L V w) (ha : ∀ i j, i < j → j < n → Apart (L i) (D i) (L j) (D j)) {lo : Nat} (hlo : lo ≤ B) : Ow2 lo w.heap.size A n L V w :=
  ⟨D, dd, (ow_ofG h.out).mono hlo (Nat.le_refl _), fun i hi => (ow_ofG (h.inn i hi)).mono hlo (Nat.le_refl _), ha⟩
end
theorem apart_upd {D : Nat → Option Addr} {L : Nat → Nat} {n m : Nat} {x : Option Addr} (ha : ∀ i j, i < j → j < n → Apart (L i) (D i) (L j) (D j)) (hx : ∀ i, i < n → Apart (L i) (D i) m x) : ∀ i j, i < j → j < n + 1 → Apart (upd L n m i) (upd D n x i) (upd L n m j) (upd D n x j) := fun i j hij hj => by
  unfold upd
  by_cases e : j = n
  · subst e
    simp only [if_true, show ¬ i = j by omega, if_false]
    exact hx i hij
  · simp only [e, show ¬ i = n by omega, if_false]
    exact ha i j hij (by omega)

theorem nbx_two' (w : World) (o : Obj) : NBX w.heap.size (w.heap.size + 1) #[.int .i64 0, .slice none 0 0] 27 ((w.alloc o).alloc (.cells #[.int .i64 0, .slice none 0 0] 27)) :=
  ⟨by have := Go.Deep.blk_alloc_new (w.alloc o) (.cells #[.int .i64 0, .slice none 0 0] 27); simpa using this, by omega⟩
set_option maxRecDepth 100000 in
set_option maxHeartbeats 4000000 in
theorem impl_withEdge (z : Nat) (A : Option Addr) (n c : Nat) (l : Nat → Nat) (X : Nat → Nat → Int) (EA : Option Addr) (m ec : Nat) (Y : Nat → Int) (w : World) (hn : n + sumL l n ≤ 1048576) (hr : HRow w A n l X) (he : IRow w EA m Y) (h : HyperOk z n l X) (h40 : n ≠ 40) (hE : EdgeOk z m Y) :
    Calls Try.prog 42 #[.agg #[.int .i64 z, .slice A n c], .slice EA m ec] w fun e w' => ∃ A' c', e = .returned (.tuple #[.agg #[.int .i64 z, .slice A' (n + 1) c'], .bool true]) ∧ Ow2 w.heap.size w'.heap.size A' (n + 1) (upd l n m) (upd X n Y) w' ∧ Below w.heap.size w w' := by
  obtain ⟨B, d, hr⟩ := hr
  have L0 := Lib.hid ((LH.start (z := (z : Int)) (c := c) hr 27).step ((Below.refl _ _).alloc (Nat.le_refl _) (.cells #[.int .i64 0, .slice none 0 0] 27)))
  have N0 := Lib.hid (nbx_two' w (.cells #[.int .i64 z, .slice A n c] 27))
  have HR0 := Lib.hid hr
  have HG := Lib.hid h
  have HEr := Lib.hid he
  have HE := Lib.hid hE
  have hn40 := h.2.2.1
  have hm3 : m ≤ 4096 := by have := hE.1; omega
  have hm0 : 0 < m := by have := hE.1; omega
  have d0 : ((n : Int) == 40) = false := by simp; omega
  have HEL := Lib.hid (fun i (hi : i < n) => (show 0 < l i ∧ l i ≤ 4096 by have := HG.out.three i hi; omega))
  clear hr h he hE
  go_enter Try.func42, Try.ntmps42
  go_wp2_with fail
  refine (impl_isHyper_is z A n c l X _ true hn ⟨B, d, L0.out.row⟩ (by simp only [true_iff]; exact HG.out)).mono ?_; rintro e w1 ⟨rfl, hb⟩
  have L1 := Lib.hid (L0.out.step hb)
  have N1 := Lib.hid (N0.out.b hb)
  clear hb L0 N0
  obtain ⟨hsz, b0, b1⟩ := L1.out.box
  go_wp2_with fail
  refine (impl_isEdge EA m ec Y z w1 (by omega) (HEr.out.b L1.out.below)).mono ?_; rintro e w2 ⟨b, rfl, hbb, k, rfl⟩
  have hb1 := hbb.2 HE.out
  subst hb1
  have L2 := Lib.hid (L1.out.drewN k)
  have N2 := Lib.hid (N1.out.b (below_drewN (Below.refl _ _) k))
  clear hbb L1 N1 b0 b1 hsz
  obtain ⟨hsz, b0, b1⟩ := L2.out.box
  generalize w1.drewN k = w2 at *
  have r0 := N2.out.cell 0 _ rfl
  have r1 := N2.out.cell 1 _ rfl
  have f0 := N2.out.free 0
  have f1 := N2.out.free 1
  have hN2 := N2.out.lt
  have HY2 := Lib.hid (HEr.out.b L2.out.below)
  have hdd : w2.heap.size ≤ w2.drew.heap.size := Nat.le_refl _
  go_upto_region 3 with fail
  go_region_law (first
    | (have hz := H4; clear hz; (try go_simp); go_at_call 95; (refine (clone_is EA m ec Y _ hm3 hm0 HY4.out).mono ?_); rintro e w5 ⟨A5, c5, rfl, ho5, hb⟩; have H5 := Lib.hid (H4.out.b hb); have L5 := Lib.hid (L4.out.step hb); have N5 := Lib.hid (N4.out.b hb); have HA5 := Lib.hid (fun i (hi : i < n) => apart_new (H4.out.inn i hi) ho5); have H6 := Lib.hid (H5.out.al (.cells #[.slice A5 m c5] 39)); have L6 := Lib.hid (L5.out.step ((Below.refl _ _).alloc (Nat.le_refl _) (.cells #[.slice A5 m c5] 39))); have N6 := Lib.hid (N5.out.b ((Below.refl _ _).alloc (Nat.le_refl _) (.cells #[.slice A5 m c5] 39))); obtain ⟨_, b05, b15⟩ := L5.out.box; obtain ⟨_, b06, b16⟩ := L6.out.box; have hsb := hb.size; have HX6 := Lib.hid (owned_low (owned_b ho5 ((Below.refl w5.heap.size w5).alloc (Nat.le_refl _) (.cells #[.slice A5 m c5] 39))) hs4); have hs6 : w2.drew.heap.size ≤ (w5.alloc (.cells #[.slice A5 m c5] 39)).heap.size := (by have h1 := hs4; simp only [World.size_alloc]; omega); have CY := Lib.hid ((boxed w5 #[.slice A5 m c5] 39).now 0 _ rfl); have HFV := Lib.hid (show sliceV (upd D n A5) (upd l n m) (upd dd n c5) n = .slice A5 m c5 by unfold sliceV upd; rw [if_pos rfl, if_pos rfl, if_pos rfl]); clear hb ho5)
    | ((try go_simp); go_at_call 94; (refine (impl_cloneEdges A n c B l d X w2.drew (by omega) HEL.out L2.out.drew.row).mono ?_); rintro e w4 ⟨D, dd, rfl, ho4, ha4, hb'⟩; have hb := of_drew hb'; have H4 := Lib.hid ho4; have HA4 := Lib.hid ha4; have L4 := Lib.hid (L2.out.step hb); have N4 := Lib.hid (N2.out.b hb); have HY4 := Lib.hid (HY2.out.b hb); obtain ⟨_, b04, b14⟩ := L4.out.box; have hs4 : w2.drew.heap.size ≤ w4.heap.size := hb'.size; clear hb hb' ho4 ha4)
    | (have hz := H6; clear hz; refine step_pushG rfl (.tmp 27) (.tmp 30) 22 39 (.slice none 0 0) 24 Try.underlying22 infoSl rfl rfl rfl rfl (H6.out.ext A5 c5 m) CY.out HFV.out rfl ?_ ?_ ?_ ?_; omega; omega; exact hs6; intro A' c' w7 ho7 hg7; have H7 := Lib.hid (H6.out.push ho7 hg7 HX6.out); have hb7 := below_ownG H6.out.out hg7 hs6; have L7 := Lib.hid (L6.out.low hb7 HR0.out (by omega) (by omega)); have N7 := Lib.hid (nbx_grownG N6.out H6.out.out hg7 (by omega)); obtain ⟨_, b07, b17⟩ := L7.out.box; have r07 := N7.out.cell 0 _ rfl; have r17 := N7.out.cell 1 _ rfl; have f07 := N7.out.free 0; have f17 := N7.out.free 1; clear ho7 hg7 hb7))
  all_goals
    go_wp2_with fail
    refine bodyPost_ret (v := .tuple #[.agg #[.int .i64 z, .slice A' (n + 1) c'], .bool true]) (by simp [results, Try.results42, go_sem, r07, r17]) rfl ?_
    refine ⟨A', c', rfl, ?_, below_setAt (below_setAt L7.out.below (by omega) _) (by omega) _⟩
    have hB : w.heap.size + 1 < w2.drew.heap.size := hN2
    have ho := (H7.out.away (show w.heap.size + 1 < w2.drew.heap.size from hB) (.int .i64 z) (o := 0)).away (show w.heap.size + 1 < w2.drew.heap.size from hB) (.slice A' (n + 1) c') (o := 1)
    exact ho.ow2 (apart_upd HA4.out HA5.out) (by omega)
end Go.Proofs.Ytdmdafifgaenhaa
