/- WithEdge: the model's, and what both refuse. -/
import Derived.Test.YtdmdafifgaenhaaWithE
namespace Go.Proofs.Ytdmdafifgaenhaa
open Go.RowKit

set_option maxRecDepth 100000 in
set_option maxHeartbeats 4000000 in
theorem spec_withEdge (z : Nat) (A : Option Addr) (n c : Nat) (l : Nat → Nat) (X : Nat → Nat → Int) (EA : Option Addr) (m ec : Nat) (Y : Nat → Int) (w : World) (hn : n + sumL l n ≤ 1048576) (hr : HRow w A n l X) (he : IRow w EA m Y) (h : HyperOk z n l X) (h40 : n ≠ 40) (hE : EdgeOk z m Y) :
    Calls Try.prog 40 #[.agg #[.int .i64 z, .slice A n c], .slice EA m ec] w fun e w' => ∃ A' c', e = .returned (.tuple #[.agg #[.int .i64 z, .slice A' (n + 1) c'], .bool true]) ∧ HRow w' A' (n + 1) (upd l n m) (upd X n Y) ∧ Below w.heap.size w w' := by
  obtain ⟨B, d, hr⟩ := hr
  have L0 := Lib.hid ((LH.start (z := (z : Int)) (c := c) hr 27).step ((Below.refl _ _).alloc (Nat.le_refl _) (.cells #[.int .i64 0, .slice none 0 0] 27)))
  have N0 := Lib.hid (nbx_two' w (.cells #[.int .i64 z, .slice A n c] 27))
  have HG := Lib.hid h
  have HEr := Lib.hid he
  have HE := Lib.hid hE
  have hn40 := h.2.2.1
  have hz72 : 1 ≤ z ∧ z ≤ 72 := ⟨by have := h.1; omega, by have := h.2.1; omega⟩
  have hm3 : m ≤ 4096 := by have := hE.1; omega
  have d0 : ((n : Int) == 40) = false := by simp; omega
  have HEL := Lib.hid (fun i (hi : i < n) => (show l i ≤ 4096 by have := HG.out.three i hi; omega))
  clear hr h he hE
  go_enter Try.func40, Try.ntmps40
  go_wp2_with fail
  refine (spec_peGood_is z A n c l X _ true hn ⟨B, d, L0.out.row⟩ (by simp only [true_iff]; exact HG.out)).mono ?_; rintro e w1 ⟨rfl, hb⟩
  have L1 := Lib.hid (L0.out.step hb)
  have N1 := Lib.hid (N0.out.b hb)
  clear hb L0 N0
  obtain ⟨hsz, b0, b1⟩ := L1.out.box
  go_wp2_with fail
  refine (spec_peEdge EA m ec Y z w1 (by omega) (HEr.out.b L1.out.below) ⟨by omega, by omega⟩).mono ?_; rintro e w2 ⟨b, rfl, hbb, k, rfl⟩
  have hb1 := hbb.2 HE.out
  subst hb1
  have L2 := Lib.hid (L1.out.drewN k)
  have N2 := Lib.hid (N1.out.b (below_drewN (Below.refl _ _) k))
  clear hbb L1 N1 b0 b1 hsz
  obtain ⟨hsz, b0, b1⟩ := L2.out.box
  generalize w1.drewN k = w2 at *
  go_wp2_with fail
  refine (spec_peOwn z A n c B l d X w2 (by omega) HEL.out L2.out.row).mono ?_; rintro e w3 ⟨A1, c1, D, dd, rfl, ho3, hB3, hb⟩
  have L3 := Lib.hid ((L2.out.step hb).step ((Below.refl _ _).alloc (Nat.le_refl _) (.cells #[.int .i64 z, .slice A1 n c1] 27)))
  have N3 := Lib.hid ((N2.out.b hb).b ((Below.refl _ _).alloc (Nat.le_refl _) (.cells #[.int .i64 z, .slice A1 n c1] 27)))
  have H3 := Lib.hid (ho3.al (.cells #[.int .i64 z, .slice A1 n c1] 27))
  have X3 := Lib.hid (nbx0 w3 #[.int .i64 z, .slice A1 n c1] 27)
  have hs3 := hb.size
  have hN2 := N2.out.lt
  have hlo : w2.heap.size + 1 + 1 ≤ (w3.alloc (.cells #[.int .i64 z, .slice A1 n c1] 27)).heap.size := by simp only [World.size_alloc]; omega
  have q0 := X3.out.cell 0 _ rfl
  have q1 := X3.out.cell 1 _ rfl
  have g1 := X3.out.free 1
  have HY3 := Lib.hid (HEr.out.b L3.out.below)
  clear hb ho3 b0 b1
  go_upto_region 4 with fail
  go_region_law (first
    | ((try go_simp); go_at_call 93; (first | refine (spec_l1OwnR EA m ec Y _ hm3 HY3.out).mono ?_ | refine (spec_l1OwnR EA m ec Y _ hm3 (irow (GRow.drew (grow_of HY3.out)))).mono ?_); rintro e w5 ⟨A5, c5, rfl, ho5, hb'⟩; have hb := of_drew hb'; have H5 := Lib.hid (H3.out.b hb); have L5 := Lib.hid (L3.out.step hb); have N5 := Lib.hid (N3.out.b hb); have X5 := Lib.hid (X3.out.b hb); have H6 := Lib.hid (H5.out.al (.cells #[.slice A5 m c5] 39)); have L6 := Lib.hid (L5.out.step ((Below.refl _ _).alloc (Nat.le_refl _) (.cells #[.slice A5 m c5] 39))); have N6 := Lib.hid (N5.out.b ((Below.refl _ _).alloc (Nat.le_refl _) (.cells #[.slice A5 m c5] 39))); have X6 := Lib.hid (X5.out.b ((Below.refl _ _).alloc (Nat.le_refl _) (.cells #[.slice A5 m c5] 39))); have q15 := X5.out.cell 1 _ rfl; have q16 := X6.out.cell 1 _ rfl; have hsb := Nat.le_trans hlo hb.size; have hs6 : w2.heap.size + 1 + 1 ≤ (w5.alloc (.cells #[.slice A5 m c5] 39)).heap.size := (by simp only [World.size_alloc]; omega); have HX6 := Lib.hid (owned_low (B' := w2.heap.size + 1 + 1) (owned_b ho5 ((Below.refl w5.heap.size w5).alloc (Nat.le_refl _) (.cells #[.slice A5 m c5] 39))) hlo); have CY := Lib.hid ((boxed w5 #[.slice A5 m c5] 39).now 0 _ rfl); have HFV := Lib.hid (show sliceV (upd D n A5) (upd l n m) (upd dd n c5) n = .slice A5 m c5 by unfold sliceV upd; rw [if_pos rfl, if_pos rfl, if_pos rfl]); clear hb hb' ho5)
    | (have hz := H6; clear hz; refine step_pushG rfl (.tmp 27) (.tmp 30) 22 39 (.slice none 0 0) 24 Try.underlying22 infoSl rfl rfl rfl rfl (H6.out.ext A5 c5 m) CY.out HFV.out rfl ?_ ?_ ?_ ?_; omega; omega; exact hs6; intro A' c' w7 ho7 hg7; have H7 := Lib.hid (H6.out.push ho7 hg7 HX6.out); have hb7 := below_ownG H6.out.out hg7 hs6; have F7 := Lib.hid (L6.out.below.trans (hb7.mono (by omega))); have N7 := Lib.hid (nbx_grownG N6.out H6.out.out hg7 (by omega)); have X7 := Lib.hid (nbx_grownT X6.out H6.out.out hg7 (by decide)); have q17 := X7.out.cell 1 _ rfl; have q07 := X7.out.cell 0 _ rfl; have g17 := X7.out.free 1; clear ho7 hg7 hb7))
  all_goals
    have H8 := Lib.hid (show HOwn (w2.heap.size + 1 + 1) A' (n + 1) c' (upd D n A5) (upd dd n c5) (upd l n m) (upd X n Y) (w7.setCell ⟨w3.heap.size, 1, none⟩ (.slice A' (n + 1) c')) from ⟨own_awayT H7.out.out X7.out (by decide) _, fun j hj => own_awayT (H7.out.inn j hj) X7.out (by decide) _⟩)
    have N8 := Lib.hid (nbx_farG N7.out (only_set w7 w3.heap.size 1 (.slice A' (n + 1) c')) (.inl (by omega)))
    have X8 := Lib.hid (show NBX _ w3.heap.size #[.int .i64 z, .slice A' (n + 1) c'] 27 (w7.setCell ⟨w3.heap.size, 1, none⟩ (.slice A' (n + 1) c')) by have := X7.out.set 1 (.slice A' (n + 1) c'); simpa using this)
    have F8 := Lib.hid (below_setAt F7.out (show w.heap.size ≤ w3.heap.size by omega) (o := 1) (.slice A' (n + 1) c'))
    have p0 := X8.out.cell 0 _ rfl
    have p1 := X8.out.cell 1 _ rfl
    have r07 := N8.out.cell 0 _ rfl
    have r17 := N8.out.cell 1 _ rfl
    have f07 := N8.out.free 0
    have f17 := N8.out.free 1
    go_wp2_with fail
    refine bodyPost_ret (v := .tuple #[.agg #[.int .i64 z, .slice A' (n + 1) c'], .bool true]) (by simp [results, Try.results40, go_sem, r07, r17]) rfl ?_
    exact ⟨A', c', rfl, ((H8.out.away (by omega) _).away (by omega) _).row, below_setAt (below_setAt F8.out (by omega) _) (by omega) _⟩
end Go.Proofs.Ytdmdafifgaenhaa
