/- WithoutEdge: the model's, and what both refuse. -/
import Derived.Test.YtdmdafifgaenhaaWout
namespace Go.Proofs.Ytdmdafifgaenhaa
open Go.RowKit

theorem own_prefix {w : World} {B n c i : Nat} {e : TypeId} {A : Option Addr} {F : Nat → Value} (h : w.ownsRow B e 1 (.slice A n c) n (vals F n)) (hi : i < n) : w.ownsRow B e 1 (.slice A i c) i (vals F i) := by
  rcases h.2 with ⟨_, h0⟩ | ⟨g, cap, cur, hv, hB, hh, hnc, hcm, hcs, htake⟩
  · omega
  · injection hv with e1 e2 e3
    subst e1 e3
    refine ⟨by rw [vals_len, Nat.mul_one], .inr ⟨g, c, cur, rfl, hB, hh, by omega, hcm, hcs, ?_⟩⟩
    have h1 : cur.toList.take (i * 1) = (cur.toList.take (n * 1)).take i := by rw [List.take_take]; congr 1; omega
    rw [h1, htake]
    unfold vals
    rw [← List.map_take, List.take_range]
    congr 2; omega
theorem HOwn.skip {w wj : World} {B n c i c' : Nat} {A A' : Option Addr} {D : Nat → Option Addr} {dd L : Nat → Nat} {V : Nat → Nat → Int} (h : HOwn B A n c D dd L V w) (hi : i < n)
    (ho : wj.ownsRow B 39 1 (.slice A' (i + (n - (i + 1))) c') (i + (n - (i + 1))) (vals (catV (sliceV D L dd) (fun j => sliceV D L dd (i + 1 + j)) i) (i + (n - (i + 1))))) (hg : w.grownBy wj (Value.slice A i c).ownBlock) :
    HOwn B A' (i + (n - (i + 1))) c' (fun j => D (skp i j)) (fun j => dd (skp i j)) (fun j => L (skp i j)) (fun j => V (skp i j)) wj :=
  ⟨by
    rw [vals_congr (F := sliceV (fun j => D (skp i j)) (fun j => L (skp i j)) (fun j => dd (skp i j))) (G := catV (sliceV D L dd) (fun j => sliceV D L dd (i + 1 + j)) i) (fun j hj => by
      unfold sliceV catV skp
      by_cases e : j < i
      · simp [e]
      · simp only [e, if_false]
        rw [show i + 1 + (j - i) = j + 1 by omega])]
    exact ho, fun j hj => by
    have hk : skp i j < n := by unfold skp; split <;> omega
    exact (h.inn _ hk).kept hg (own_apartG (h.inn _ hk) (own_prefix h.out hi) (by decide))⟩
set_option maxRecDepth 100000 in
set_option maxHeartbeats 4000000 in
theorem spec_withoutEdge (z : Nat) (A : Option Addr) (n c : Nat) (l : Nat → Nat) (X : Nat → Nat → Int) (i : Nat) (w : World) (hn : n + sumL l n ≤ 1048576) (hr : HRow w A n l X) (h : HyperOk z n l X) (hi : i < n) :
    Calls Try.prog 43 #[.agg #[.int .i64 z, .slice A n c], .int .i64 i] w fun e w' => ∃ A' c', e = .returned (.tuple #[.agg #[.int .i64 z, .slice A' (i + (n - (i + 1))) c'], .bool true]) ∧ HRow w' A' (i + (n - (i + 1))) (fun j => l (skp i j)) (fun j => X (skp i j)) ∧ Below w.heap.size w w' := by
  obtain ⟨B, d, hr⟩ := hr
  have L0 := Lib.hid ((LH.start (z := (z : Int)) (c := c) hr 27).step ((Below.refl _ _).alloc (Nat.le_refl _) (.cells #[.int .i64 0, .slice none 0 0] 27)))
  have N0 := Lib.hid (nbx_two' w (.cells #[.int .i64 z, .slice A n c] 27))
  have HG := Lib.hid h
  have hn40 := h.2.2.1
  have HEL := Lib.hid (fun j (hj : j < n) => (show l j ≤ 4096 by have := HG.out.three j hj; omega))
  clear hr h
  go_enter Try.func43, Try.ntmps43
  go_wp2_with fail
  refine (spec_peGood_is z A n c l X _ true hn ⟨B, d, L0.out.row⟩ (by simp only [true_iff]; exact HG.out)).mono ?_; rintro e w1 ⟨rfl, hb⟩
  have L2 := Lib.hid (L0.out.step hb)
  have N2 := Lib.hid (N0.out.b hb)
  clear hb L0 N0
  obtain ⟨hsz, b0, b1⟩ := L2.out.box
  go_wp2_with fail
  refine (l1In_yes _ _ _ _ (show (0 : Int) ≤ (i : Int) by omega) (show (i : Int) ≤ (n : Int) - 1 by omega)).mono ?_; rintro e w' ⟨rfl, rfl⟩
  go_wp2_with fail
  refine (spec_peOwn z A n c B l d X w1 (by omega) HEL.out L2.out.row).mono ?_; rintro e w3 ⟨A1, c1, D, dd, rfl, ho3, hB3, hb⟩
  have hnc : n ≤ c1 := by obtain ⟨_, _, hv, hle, _⟩ := owned_slice ho3.out; injection hv with _ _ h3; omega
  have hsl1 := fun W => run_sliceS_head A1 n c1 i (by omega) W
  have hsl2 := fun W => run_sliceS_tail A1 n c1 i (by omega) hnc W
  have F3 := Lib.hid ((L2.out.step hb).step ((Below.refl _ _).alloc (Nat.le_refl _) (.cells #[.int .i64 z, .slice A1 n c1] 27))).below
  have N3 := Lib.hid ((N2.out.b hb).b ((Below.refl _ _).alloc (Nat.le_refl _) (.cells #[.int .i64 z, .slice A1 n c1] 27)))
  have H3 := Lib.hid (ho3.al (.cells #[.int .i64 z, .slice A1 n c1] 27))
  have X3 := Lib.hid (nbx0 w3 #[.int .i64 z, .slice A1 n c1] 27)
  have HRT := Lib.hid ((owned_vec H3.out.out).row.tailS (a := i + 1) (k := c1) (by omega) hnc)
  have hs3 := hb.size
  have hN2 := N2.out.lt
  have hlo : w1.heap.size + 1 + 1 ≤ (w3.alloc (.cells #[.int .i64 z, .slice A1 n c1] 27)).drew.heap.size := by show _ ≤ (w3.alloc (.cells #[.int .i64 z, .slice A1 n c1] 27)).heap.size; simp only [World.size_alloc]; omega
  have q0 := X3.out.cell 0 _ rfl
  have q1 := X3.out.cell 1 _ rfl
  have g1 := X3.out.free 1
  have e1 : IntKind.i64.wrap ((i : Int) + 1) = (i : Int) + 1 := IntWalk.i64_in _ (by omega)
  clear hb ho3 b0 b1
  go_upto_region 4 with fail
  go_region_law (first
    | (have hz := H3; clear hz; refine step_appendG rfl (.tmp 25) (.tmp 30) 22 39 (.slice none 0 0) 24 Try.underlying22 infoSl rfl rfl rfl rfl (own_prefix (owned_b H3.out.out (Below.drew (Below.refl _ _))) hi) (GRow.drew HRT.out) ?_ ?_ ?_ ?_ ?_; exact fun _ _ => rfl; omega; omega; exact hlo; intro A' c' w7 ho7 hg7; have H7 := Lib.hid ((H3.out.b (Below.drew (Below.refl _ _))).skip hi ho7 hg7); have HP := Lib.hid (own_prefix (owned_b H3.out.out (Below.drew (Below.refl _ _))) hi); have hb7 := below_ownG HP.out hg7 hlo; have F7 := Lib.hid ((F3.out.drew).trans (hb7.mono (by omega))); have N7 := Lib.hid (nbx_grownG (N3.out.b (Below.drew (Below.refl _ _))) HP.out hg7 (by omega)); have X7 := Lib.hid (nbx_grownT (X3.out.b (Below.drew (Below.refl _ _))) HP.out hg7 (by decide)); have q17 := X7.out.cell 1 _ rfl; have q07 := X7.out.cell 0 _ rfl; have g17 := X7.out.free 1; clear ho7 hg7 hb7))
  all_goals
    have H8 := Lib.hid (show HOwn (w1.heap.size + 1 + 1) A' (i + (n - (i + 1))) c' (fun j => D (skp i j)) (fun j => dd (skp i j)) (fun j => l (skp i j)) (fun j => X (skp i j)) (w7.setCell ⟨w3.heap.size, 1, none⟩ (.slice A' (i + (n - (i + 1))) c')) from ⟨own_awayT H7.out.out X7.out (by decide) _, fun j hj => own_awayT (H7.out.inn j hj) X7.out (by decide) _⟩)
    have N8 := Lib.hid (nbx_farG N7.out (only_set w7 w3.heap.size 1 (.slice A' (i + (n - (i + 1))) c')) (.inl (by omega)))
    have X8 := Lib.hid (show NBX _ w3.heap.size #[.int .i64 z, .slice A' (i + (n - (i + 1))) c'] 27 (w7.setCell ⟨w3.heap.size, 1, none⟩ (.slice A' (i + (n - (i + 1))) c')) by have := X7.out.set 1 (.slice A' (i + (n - (i + 1))) c'); simpa using this)
    have F8 := Lib.hid (below_setAt F7.out (show w.heap.size ≤ w3.heap.size by omega) (o := 1) (.slice A' (i + (n - (i + 1))) c'))
    have p0 := X8.out.cell 0 _ rfl
    have p1 := X8.out.cell 1 _ rfl
    have r07 := N8.out.cell 0 _ rfl
    have r17 := N8.out.cell 1 _ rfl
    have f07 := N8.out.free 0
    have f17 := N8.out.free 1
    go_wp2_with fail
    refine bodyPost_ret (v := .tuple #[.agg #[.int .i64 z, .slice A' (i + (n - (i + 1))) c'], .bool true]) (by simp [results, Try.results43, go_sem, r07, r17]) rfl ?_
    exact ⟨A', c', rfl, ((H8.out.away (by omega) _).away (by omega) _).row, below_setAt (below_setAt F8.out (by omega) _) (by omega) _⟩
end Go.Proofs.Ytdmdafifgaenhaa
