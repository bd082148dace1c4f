/- Copies of a filter, both sides; filters whose bits are off. -/
import Derived.Test.YtpajbcgdoedleaaBlH
import Derived.Deep.DeepCutAuto
import Derived.Deep.RegionHeld3
import Derived.OrdersHeld
import Derived.Deep.RegionHeld
import Derived.Lib.SliceRun
namespace Go.Proofs.Ytpajbcgdoedleaa
open Go.RowKit

theorem vec_posB {w : World} {B n c : Nat} {A : Option Addr} {F : Nat → Value} (h : w.ownsRow B 3 1 (.slice A n c) n (vals F n)) (h0 : 0 < n) : ∃ g, A = some ⟨g, 0, none⟩ ∧ B ≤ g ∧ GOwn w 3 g n F := by
  rcases owned_vec h with e | h
  · omega
  · exact h
theorem gvec_pos {w : World} {B n : Nat} {A : Option Addr} {F : Nat → Value} (h : GVec w B 3 A n F) (h0 : 0 < n) : ∃ g, A = some ⟨g, 0, none⟩ ∧ B ≤ g ∧ GOwn w 3 g n F := by
  rcases h with e | h
  · omega
  · exact h
theorem irow_al {w : World} {A : Option Addr} {n : Nat} {X : Nat → Int} (h : IRow w A n X) (o : Obj) : IRow (w.alloc o) A n X := h.b ((Below.refl _ _).alloc (Nat.le_refl _) o)
theorem irow_alD {w : World} {A : Option Addr} {n : Nat} {X : Nat → Int} (h : IRow w A n X) (o : Obj) : IRow (w.alloc o).drew A n X := irow_al h o
theorem irow_dal {w : World} {A : Option Addr} {n : Nat} {X : Nat → Int} (h : IRow w A n X) (o : Obj) : IRow (w.drew.alloc o) A n X := irow_al (w := w.drew) h o
set_option maxRecDepth 100000 in
set_option maxHeartbeats 1000000 in
theorem clone_row {A : Option Addr} {n c : Nat} {X : Nat → Int} {w : World} (hn : n ≤ 4096) (h0 : 0 < n) (hr : IRow w A n X) :
    Calls Try.prog 94 #[.slice A n c] w fun e w' => ∃ A' c', e = .returned (.slice A' n c') ∧ w'.ownsRow w.heap.size 3 1 (.slice A' n c') n (vals (intV X) n) ∧ Below w.heap.size w w' := by
  obtain ⟨b, off, rfl, _, _⟩ := hr h0
  have HR := Lib.hid (hr.b ((Below.refl _ _).alloc (Nat.le_refl _) (.cells #[] 3)))
  have HO := Lib.hid (World.ownsRow_made (e := 3) (size := 1) w #[] 0 (Nat.le_refl _) (by simp [maxLen]) (by simp))
  have hnil : ∀ W, (binOp .eql 22 (.slice (some ⟨b, off, none⟩) n c) (.slice none 0 0)).run Try.prog W = .ok (.bool false) W := fun W => Lib.run_eql_slice_nil W _ _ _ n c 0 0 Try.underlying22
  clear hr
  go_enter Try.func94, Try.ntmps94
  go_wp2_with (at_builtin; refine wpList_append_vals rfl _ _ 22 rfl w.heap.size 3 (.int .i64 0) 8 Try.underlying22 infoI rfl (F := intV X) (G := intV X) rfl rfl HO.out HR.out (fun _ _ => rfl) (by omega) (by omega) (by simp) ?_)
  intro A' c' w' hown hb
  have HO2 := Lib.hid hown
  have HB := Lib.hid (((Below.refl w.heap.size w).alloc (Nat.le_refl _) (.cells #[] 3)).trans hb)
  clear hown hb
  go_wp2_with fail
  go_ret
  refine ⟨A', c', by first | rfl | (rw [Nat.zero_add]), ?_, HB.out⟩
  have h := HO2.out
  rw [vals_congr (F := catV (intV X) (intV X) 0) (G := intV X) (fun i _ => by unfold catV; simp)] at h
  exact h
/-- A filter in its own memory, its bits F. -/
def BlO (z0 p z : Int) (m : Nat) (F : Nat → Bool) (w : World) (e : Ending) (w' : World) : Prop :=
  ∃ g cc, e = .returned (.agg #[.int .i64 z0, .int .i64 p, .int .i64 z, .slice (some ⟨g, 0, none⟩) m cc]) ∧ w.heap.size ≤ g ∧ OB w' g m F ∧ Below w.heap.size w w'
section
variable {z0 : Int} {p z : Nat} {A : Option Addr} {n c : Nat} {X : Nat → Int} {s : ByteArray} {w : World}
set_option maxRecDepth 100000 in
set_option maxHeartbeats 4000000 in
theorem impl_cloneBloom (hz : 1 ≤ z ∧ z ≤ 512) (hg : Good z n X) (hr : IRow w A n X) :
    Calls Try.prog 64 #[.agg #[.int .i64 z0, .int .i64 p, .int .i64 z, .slice A n c]] w (BlO z0 p z n (bitX X) w) := by
  have S0 := BlC.start (z0 := z0) (z1 := p) (z2 := z) (c := c) hr
  have hal := (Below.refl (w.alloc (.cells #[.int .i64 z0, .int .i64 p, .int .i64 z, .slice A n c] 31)).heap.size (w.alloc (.cells #[.int .i64 z0, .int .i64 p, .int .i64 z, .slice A n c] 31))).alloc (Nat.le_refl _) (.cells #[.int .i64 0, .int .i64 0, .int .i64 0, .slice none 0 0] 31)
  have S1 := Lib.hid (S0.step hal)
  have N1 := Lib.hid (nbx0 (w.alloc (.cells #[.int .i64 z0, .int .i64 p, .int .i64 z, .slice A n c] 31)) #[.int .i64 0, .int .i64 0, .int .i64 0, .slice none 0 0] 31)
  have hn0 : 0 < n := by have := hg.2.2.1; omega
  have hn1 : n ≤ 4096 := by have := hg.2.2.1; omega
  have HG := Lib.hid hg
  clear hg hr hal S0
  rw [World.size_alloc] at N1
  go_enter Try.func64, Try.ntmps64
  go_wp2_with fail
  generalize hw1 : (w.alloc (.cells #[.int .i64 z0, .int .i64 p, .int .i64 z, .slice A n c] 31)).alloc (.cells #[.int .i64 0, .int .i64 0, .int .i64 0, .slice none 0 0] 31) = w1 at *
  have hs1 : w.heap.size + 2 ≤ w1.heap.size := by rw [← hw1]; simp
  clear hw1
  have HK := Lib.hid (show ∀ W, Below w1.heap.size w1 W → W.cell? ⟨w.heap.size, 0, none⟩ = some (.int .i64 z0) ∧ W.cell? ⟨w.heap.size, 1, none⟩ = some (.int .i64 p) ∧ W.cell? ⟨w.heap.size, 2, none⟩ = some (.int .i64 z) ∧ W.cell? ⟨w.heap.size, 3, none⟩ = some (.slice A n c) from fun W hW => ⟨(S1.out.step hW).box.cell 0 _ rfl, (S1.out.step hW).box.cell 1 _ rfl, (S1.out.step hW).box.cell 2 _ rfl, (S1.out.step hW).box.cell 3 _ rfl⟩)
  have x0 := S1.out.box.cell 0 _ rfl
  have x1 := S1.out.box.cell 1 _ rfl
  have x2 := S1.out.box.cell 2 _ rfl
  have x3 := S1.out.box.cell 3 _ rfl
  go_region_held3 (fun w' => w'.cell? ⟨w.heap.size, 0, none⟩ = some (.int .i64 z0) ∧ w'.cell? ⟨w.heap.size, 1, none⟩ = some (.int .i64 p) ∧ w'.cell? ⟨w.heap.size, 2, none⟩ = some (.int .i64 z) ∧ w'.cell? ⟨w.heap.size, 3, none⟩ = some (.slice A n c))
    (first | with_reducible exact HK.out _ hb2 | (go_keep; done))
    (first
      | (go_at_call 94; refine (clone_row hn1 hn0 S1.out.drew.row).mono ?_; rintro e w2 ⟨A2, c2, rfl, ho2, hb2'⟩; obtain ⟨g, rfl, hgg, hgo⟩ := vec_posB ho2 hn0; have hb2 := of_drew hb2'; have O2 := Lib.hid hgo; have NB := N1.out.b hb2; have y0 := NB.cell 0 _ rfl; have y1 := NB.cell 1 _ rfl; have y2 := NB.cell 2 _ rfl; have y3 := NB.cell 3 _ rfl; have f0 := NB.free 0; have f1 := NB.free 1; have f2 := NB.free 2; have f3 := NB.free 3; clear ho2 hb2' hgo))
  go_wp2_with fail
  refine bodyPost_ret (v := .agg #[.int .i64 z0, .int .i64 p, .int .i64 z, .slice (some ⟨g, 0, none⟩) n c2]) (by simp [results, Try.results64, go_sem, y0, y1, y2, y3]) rfl ?_
  have hgw : w1.heap.size ≤ g := hgg
  exact ⟨g, c2, rfl, by omega, ob_good (show ORow _ g n X from (((O2.out.setAt (by omega) _).setAt (by omega) _).setAt (by omega) _).setAt (by omega) _) HG.out, below_setAt (below_setAt (below_setAt (below_setAt (S1.out.below.trans (hb2.mono (by omega))) (by omega) _) (by omega) _) (by omega) _) (by omega) _⟩
set_option maxRecDepth 100000 in
set_option maxHeartbeats 1000000 in
theorem spec_fiNew (hz : 1 ≤ z ∧ z ≤ 512) :
    Calls Try.prog 55 #[.int .i64 z0, .int .i64 p, .int .i64 z] w fun e w' => ∃ g, e = .returned (.agg #[.int .i64 z0, .int .i64 p, .int .i64 z, .slice (some ⟨g, 0, none⟩) ((z + 15) / 16) ((z + 15) / 16)]) ∧ w.heap.size ≤ g ∧ ORow w' g ((z + 15) / 16) (fun _ => 0) ∧ Below w.heap.size w w' := by
  have N1 := Lib.hid (nbx0 w #[.int .i64 0, .int .i64 0, .int .i64 0, .slice none 0 0] 31)
  have hal := Lib.hid ((Below.refl w.heap.size w).alloc (Nat.le_refl _) (.cells #[.int .i64 0, .int .i64 0, .int .i64 0, .slice none 0 0] 31))
  obtain ⟨m, hm⟩ : ∃ m, m = (z + 15) / 16 := ⟨_, rfl⟩
  rw [← hm]
  have HM := Lib.hid hm
  clear hm
  go_enter Try.func55, Try.ntmps55
  go_wp2_with fail
  refine (spec_biNew z m _ (by omega) HM.out).mono ?_; rintro e w1 ⟨g, rfl, hgg, ho, hb⟩
  rw [World.size_alloc] at hgg
  have NB := N1.out.b hb
  have HB := Lib.hid (hal.out.trans (hb.mono (by simp)))
  have O := Lib.hid ho
  have y0 := NB.cell 0 _ rfl
  have y1 := NB.cell 1 _ rfl
  have y2 := NB.cell 2 _ rfl
  have y3 := NB.cell 3 _ rfl
  have f0 := NB.free 0
  have f1 := NB.free 1
  have f2 := NB.free 2
  have f3 := NB.free 3
  clear hb ho NB
  go_wp2_with fail
  refine bodyPost_ret (v := .agg #[.int .i64 z0, .int .i64 p, .int .i64 z, .slice (some ⟨g, 0, none⟩) m m]) (by simp [results, Try.results55, go_sem, y0, y1, y2, y3]) rfl ?_
  exact ⟨g, rfl, by omega, (((O.out.setAt (by omega) _).setAt (by omega) _).setAt (by omega) _).setAt (by omega) _, below_setAt (below_setAt (below_setAt (below_setAt HB.out (by omega) _) (by omega) _) (by omega) _) (by omega) _⟩
set_option maxRecDepth 100000 in
set_option linter.unusedSimpArgs false in
set_option maxHeartbeats 8000000 in
theorem spec_fiAdd {KA : Option Addr} {k kc : Nat} {S : Nat → ByteArray} (h : fiB z0 p z = true) (hg : Good z n X) (hr : IRow w A n X) (hk : k ≤ 1048576) (hs : ∀ i, i < k → (S i).size ≤ maxLen) (hK : GRow w KA k (strV S)) :
    Calls Try.prog 63 #[.agg #[.int .i64 z0, .int .i64 p, .int .i64 z, .slice A n c], .slice KA k kc] w (BlO z0 p z n (onK (bitX X) z0 p z S k) w) := by
  obtain ⟨h0, h1, h2⟩ := fiB_out h
  have S0 := BlC.start (z0 := z0) (z1 := p) (z2 := z) (c := c) hr
  have hal := (Below.refl (w.alloc (.cells #[.int .i64 z0, .int .i64 p, .int .i64 z, .slice A n c] 31)).heap.size (w.alloc (.cells #[.int .i64 z0, .int .i64 p, .int .i64 z, .slice A n c] 31))).alloc (Nat.le_refl _) (.cells #[.int .i64 0, .int .i64 0, .int .i64 0, .slice none 0 0] 31)
  have S1 := Lib.hid (S0.step hal)
  have N1 := Lib.hid (nbx0 (w.alloc (.cells #[.int .i64 z0, .int .i64 p, .int .i64 z, .slice A n c] 31)) #[.int .i64 0, .int .i64 0, .int .i64 0, .slice none 0 0] 31)
  have hn0 : 0 < n := by have := hg.2.2.1; omega
  have hn1 : n ≤ 256 := by have := hg.2.2.1; omega
  have hzn : z ≤ 16 * n := by have := hg.2.2.1; omega
  have HG := Lib.hid hg
  have HS := Lib.hid hs
  have HK0 := Lib.hid (hK.b ((Below.refl w.heap.size w).alloc (Nat.le_refl _) (.cells #[.int .i64 z0, .int .i64 p, .int .i64 z, .slice A n c] 31)))
  have HK1 := Lib.hid (HK0.out.b hal)
  clear hg hr hal S0 hs hK HK0
  rw [World.size_alloc] at N1
  go_enter Try.func63, Try.ntmps63
  go_wp2_with fail
  generalize hw1 : (w.alloc (.cells #[.int .i64 z0, .int .i64 p, .int .i64 z, .slice A n c] 31)).alloc (.cells #[.int .i64 0, .int .i64 0, .int .i64 0, .slice none 0 0] 31) = w1 at *
  have hs1 : w.heap.size + 2 ≤ w1.heap.size := by rw [← hw1]; simp
  clear hw1
  have hcur : w1.heap.size ≤ w1.heap.size := Nat.le_refl _
  have HK := Lib.hid (show ∀ W, Below w1.heap.size w1 W → W.cell? ⟨w.heap.size, 0, none⟩ = some (.int .i64 z0) ∧ W.cell? ⟨w.heap.size, 1, none⟩ = some (.int .i64 p) ∧ W.cell? ⟨w.heap.size, 2, none⟩ = some (.int .i64 z) ∧ W.cell? ⟨w.heap.size, 3, none⟩ = some (.slice A n c) from fun W hW => ⟨(S1.out.step hW).box.cell 0 _ rfl, (S1.out.step hW).box.cell 1 _ rfl, (S1.out.step hW).box.cell 2 _ rfl, (S1.out.step hW).box.cell 3 _ rfl⟩)
  have SD := Lib.hid (S1.out.drew)
  have x0 := S1.out.box.cell 0 _ rfl
  have x1 := S1.out.box.cell 1 _ rfl
  have x2 := S1.out.box.cell 2 _ rfl
  have x3 := S1.out.box.cell 3 _ rfl
  go_cut [5] (fun s5 wx => ∃ (q g cc : Nat), s5 = .pointer (some ⟨q, 0, none⟩) ∧ w1.heap.size ≤ q ∧ w1.heap.size ≤ g ∧ q ≠ g ∧ At q (q + 1) (BoxC q [.int .i64 z0, .int .i64 p, .int .i64 z, .slice (some ⟨g, 0, none⟩) n cc]) wx ∧ ORow wx g n X ∧ Below w1.heap.size w1 wx)
  case first =>
    have hmix : Try.prog.follows .mixedOrders = true := by kernel_rfl
    refine wp_region_held_drew (S := fun W => W.cell? ⟨w.heap.size, 0, none⟩ = some (.int .i64 z0) ∧ W.cell? ⟨w.heap.size, 1, none⟩ = some (.int .i64 p) ∧ W.cell? ⟨w.heap.size, 2, none⟩ = some (.int .i64 z) ∧ W.cell? ⟨w.heap.size, 3, none⟩ = some (.slice A n c)) hmix ⟨x0, x1, x2, x3⟩ (fun hHeld => ?_)
    refine wpAnyH_take (i := 0) (v := ?_) rfl (by kernel_rfl) (by kernel_rfl) (by kernel_rfl) (fun _ _ _ h => h) (Or.inl ⟨by rfl, ?_⟩) hHeld ?_
    rotate_left
    · (intro w hSw; (try dsimp only at hSw); go_simp; try with_reducible rfl)
    try simp only [Act.put, List.setIfInBounds_toArray, List.set_cons_zero, List.set_cons_succ]
    refine wpAnyH_take (i := 1) (v := ?_) rfl (by kernel_rfl) (by kernel_rfl) (by kernel_rfl) (fun _ _ _ h => h) (Or.inl ⟨by rfl, ?_⟩) hHeld ?_
    rotate_left
    · (intro w hSw; (try dsimp only at hSw); go_simp; try with_reducible rfl)
    try simp only [Act.put, List.setIfInBounds_toArray, List.set_cons_zero, List.set_cons_succ]
    refine wpAnyH_take (i := 2) (v := ?_) rfl (by kernel_rfl) (by kernel_rfl) (by kernel_rfl) (fun _ _ _ h => h) (Or.inl ⟨by rfl, ?_⟩) hHeld ?_
    rotate_left
    · (intro w hSw; (try dsimp only at hSw); go_simp; try with_reducible rfl)
    try simp only [Act.put, List.setIfInBounds_toArray, List.set_cons_zero, List.set_cons_succ]
    refine wpAnyH_take (i := 3) (v := ?_) rfl (by kernel_rfl) (by kernel_rfl) (by kernel_rfl) (fun _ _ _ h => h) (Or.inl ⟨by rfl, ?_⟩) hHeld ?_
    rotate_left
    · (intro w hSw; (try dsimp only at hSw); go_simp; try with_reducible rfl)
    try simp only [Act.put, List.setIfInBounds_toArray, List.set_cons_zero, List.set_cons_succ]
    refine wpAnyH_take (i := 4) (v := ?_) rfl (by kernel_rfl) (by kernel_rfl) (by kernel_rfl) (fun _ _ _ h => h) (Or.inl ⟨by rfl, ?_⟩) hHeld ?_
    rotate_left
    · (intro w hSw; (try dsimp only at hSw); go_simp; try with_reducible rfl)
    try simp only [Act.put, List.setIfInBounds_toArray, List.set_cons_zero, List.set_cons_succ]
    refine wpAnyH_take (i := 5) (v := ?_) rfl (by kernel_rfl) (by kernel_rfl) (by kernel_rfl) (fun _ _ _ h => h) (Or.inl ⟨by rfl, ?_⟩) hHeld ?_
    rotate_left
    · (intro w hSw; (try dsimp only at hSw); go_simp; try with_reducible rfl)
    try simp only [Act.put, List.setIfInBounds_toArray, List.set_cons_zero, List.set_cons_succ]
    refine wpAnyH_ready (rs := [6, 8]) (by kernel_rfl) (by simp) ?_
    refine AllReadyH.cons rfl (fun K hK => ?_) (AllReadyH.cons rfl (fun K hK => ?_) AllReadyH.nil)
    · go_simp
      go_at_call 93
      refine (spec_biOwn z A n c X _ (by omega) SD.out.row).mono ?_
      rintro e w4 ⟨A', cc, rfl, ho, hb'⟩
      obtain ⟨g, rfl, hgg, hgo⟩ := gvec_pos ho hn0
      have hgs := hgo.lt
      have hq1 := of_drew hb'
      have hgg2 : w1.heap.size ≤ g := hgg
      clear hb' ho
      refine hK.out _ _ (HK.out _ hq1) (fun hHeld => ?_)
      clear hK K
      try simp only [Act.put, List.setIfInBounds_toArray, List.set_cons_zero, List.set_cons_succ]
      refine wpAnyH_take (i := 7) (v := ?_) rfl (by kernel_rfl) (by kernel_rfl) (by kernel_rfl) (fun _ _ _ h => h) (Or.inl ⟨by rfl, ?_⟩) hHeld ?_
      rotate_left
      · (intro w hSw; (try dsimp only at hSw); go_simp; try with_reducible rfl)
      try simp only [Act.put, List.setIfInBounds_toArray, List.set_cons_zero, List.set_cons_succ]
      refine wpAnyH_ready (rs := [8]) (by kernel_rfl) (by simp) ?_
      refine AllReadyH.cons rfl (fun K hK => ?_) AllReadyH.nil
      go_simp
      refine hK.out _ _ (HK.out _ (hq1.alloc hq1.size _)) (fun hHeld => ?_)
      clear hK K
      try simp only [Act.put, List.setIfInBounds_toArray, List.set_cons_zero, List.set_cons_succ]
      refine wpAnyH_ready (rs := [9]) (by kernel_rfl) (by simp) ?_
      refine AllReadyH.cons rfl (fun K hK => ?_) AllReadyH.nil
      go_simp
      refine hK.out _ _ (HK.out _ (hq1.alloc hq1.size _)) (fun hHeld => ?_)
      clear hK K
      try simp only [Act.put, List.setIfInBounds_toArray, List.set_cons_zero, List.set_cons_succ]
      refine wpAnyH_done (by kernel_rfl) ?_ _
      go_wp2_with fail
      go_meet
      exact ⟨_, _, _, rfl, hq1.size, by omega, by omega, boxed _ _ _, hgo.alloc _, hq1.alloc hq1.size _⟩
    · go_simp
      refine hK.out _ _ (HK.out _ ((Below.refl w1.heap.size w1).alloc (Nat.le_refl _) _).drew) (fun hHeld => ?_)
      clear hK K
      try simp only [Act.put, List.setIfInBounds_toArray, List.set_cons_zero, List.set_cons_succ]
      refine wpAnyH_ready (rs := [6]) (by kernel_rfl) (by simp) ?_
      refine AllReadyH.cons rfl (fun K hK => ?_) AllReadyH.nil
      go_simp
      go_at_call 93
      refine (spec_biOwn z A n c X _ (by omega) (irow_alD S1.out.row _)).mono ?_
      rintro e w4 ⟨A', cc, rfl, ho, hb'⟩
      obtain ⟨g, rfl, hgg, hgo⟩ := gvec_pos ho hn0
      have hgs := hgo.lt
      have NB := NBX.new hcur (show Below (w1.alloc (.cells #[.int .i64 0, .int .i64 0, .int .i64 0, .slice none 0 0] 31)).heap.size (w1.alloc (.cells #[.int .i64 0, .int .i64 0, .int .i64 0, .slice none 0 0] 31)) w4 from of_drew hb')
      have hq1 : Below w1.heap.size w1 w4 := below_al (show Below (w1.alloc (.cells #[.int .i64 0, .int .i64 0, .int .i64 0, .slice none 0 0] 31)).heap.size (w1.alloc (.cells #[.int .i64 0, .int .i64 0, .int .i64 0, .slice none 0 0] 31)) w4 from of_drew hb')
      have hgg2 : w1.heap.size + 1 ≤ g := by have h := hgg; simp at h; exact h
      clear hb' ho
      have dd0 := NB.cell 0 _ rfl
      have ff0 := NB.free 0
      have dd1 := NB.cell 1 _ rfl
      have ff1 := NB.free 1
      have dd2 := NB.cell 2 _ rfl
      have ff2 := NB.free 2
      have dd3 := NB.cell 3 _ rfl
      have ff3 := NB.free 3
      refine hK.out _ _ (HK.out _ hq1) (fun hHeld => ?_)
      clear hK K
      try simp only [Act.put, List.setIfInBounds_toArray, List.set_cons_zero, List.set_cons_succ]
      refine wpAnyH_take (i := 7) (v := ?_) rfl (by kernel_rfl) (by kernel_rfl) (by kernel_rfl) (fun _ _ _ h => h) (Or.inl ⟨by rfl, ?_⟩) hHeld ?_
      rotate_left
      · (intro w hSw; (try dsimp only at hSw); go_simp; try with_reducible rfl)
      try simp only [Act.put, List.setIfInBounds_toArray, List.set_cons_zero, List.set_cons_succ]
      refine wpAnyH_ready (rs := [9]) (by kernel_rfl) (by simp) ?_
      refine AllReadyH.cons rfl (fun K hK => ?_) AllReadyH.nil
      go_simp
      refine hK.out _ _ (HK.out _ (below_setAt (below_setAt (below_setAt (below_setAt (hq1) NB.ge _) NB.ge _) NB.ge _) NB.ge _)) (fun hHeld => ?_)
      clear hK K
      try simp only [Act.put, List.setIfInBounds_toArray, List.set_cons_zero, List.set_cons_succ]
      refine wpAnyH_done (by kernel_rfl) ?_ _
      go_wp2_with fail
      go_meet
      exact ⟨_, _, _, rfl, NB.ge, by omega, by omega, ((((NB.set 0 _).set 1 _).set 2 _).set 3 _).box, (((hgo.setAt (by omega) _).setAt (by omega) _).setAt (by omega) _).setAt (by omega) _, below_setAt (below_setAt (below_setAt (below_setAt (hq1) NB.ge _) NB.ge _) NB.ge _) NB.ge _⟩
  case rest =>
  obtain ⟨q, g, cc, rfl, hq, hg, hqg, hbx, hgo, hbl⟩ := hcut
  have BX := Lib.hid hbx
  have HO := Lib.hid (ob_good hgo HG.out)
  have HL := Lib.hid hbl
  clear hbx hgo hbl HK SD x0 x1 x2 x3 hcur
  go_wp2_with fail
  go_loopw [20] (fun i wr => ∃ t : Nat, t ≤ k ∧ i = .int .i64 t ∧ Hid (OB wr g n (onK (bitX X) z0 p z S t)) ∧ Hid (At q (q + 1) (BoxC q [.int .i64 z0, .int .i64 p, .int .i64 z, .slice (some ⟨g, 0, none⟩) n cc]) wr) ∧ Hid (Below w1.heap.size w1 wr)) (fun i _ => k - (intOf i).toNat)
  case atStart => exact ⟨0, Nat.zero_le _, rfl, HO, BX, HL⟩
  case round =>
    obtain ⟨t, ht, rfl, HO, BX, HL⟩ := hrel
    have hLs := HL.out.size
    by_cases hlt : t < k
    · obtain ⟨bk, ok, hKA, _, hc⟩ := HK1.out.b HL.out (by omega)
      have hck := hc t hlt
      unfold strV at hck
      have S2 := Lib.hid (S1.out.step HL.out)
      have x0 := S2.out.box.cell 0 _ rfl
      have x1 := S2.out.box.cell 1 _ rfl
      have x2 := S2.out.box.cell 2 _ rfl
      have HC := Lib.hid (spec_fiProbes (p := p) (z := z) (s := S t) (w := wr) h0 (by omega) (by omega) (HS.out t hlt))
      have hgl := HO.out.lt
      have hbt := BX.out.top
      clear hc
      subst hKA
      go_wp2_with fail
      refine HC.out.mono ?_; rintro e w5 ⟨PA, pc, rfl, hop, hb⟩
      obtain ⟨gp, rfl, hgp, hop⟩ := vec_posB hop (by omega)
      have hgpl := hop.lt
      have R5 := Lib.hid hop
      have O5 := Lib.hid (HO.out.b hb)
      have BX5 := Lib.hid (BX.out.b hb)
      have HL5 := Lib.hid (HL.out.trans (hb.mono hLs))
      have hs5 := hb.size
      clear hop hb x0 x1 x2 hck HC HO BX
      go_wp2_with fail
      go_loopw [34] (fun i wr2 => ∃ j : Nat, j ≤ p ∧ i = .int .i64 j ∧ Hid (OB wr2 g n (onP (onK (bitX X) z0 p z S t) (prN z0 (S t) z) j)) ∧ Hid (w5.grownBy wr2 (some g))) (fun i _ => p - (intOf i).toNat)
      case atStart => exact ⟨0, Nat.zero_le _, rfl, O5, Lib.hid (World.grownBy.refl w5 _)⟩
      case round =>
        obtain ⟨j, hj, rfl, HO, HGr⟩ := hrel
        have BX6 := Lib.hid (BX5.out.far (only_grown HGr.out) (by omega))
        by_cases hlt2 : j < p
        · obtain ⟨v1, v2⟩ := prI_nat z0 (S t) (z := z) (by omega) j
          have hx := (R5.out.grown HGr.out (by intro e; injection e with e; omega)).cell hlt2
          unfold intV at hx
          rw [v1] at hx
          have y2 := BX6.out.now 2 _ rfl
          have y3 := BX6.out.now 3 _ rfl
          have HC := Lib.hid (fun W (h : OB W g n (onP (onK (bitX X) z0 p z S t) (prN z0 (S t) z) j)) => spec_setOn (z := z) (c := cc) (i := prN z0 (S t) z j) h hn1 (by omega))
          clear v1
          go_wp2_with fail
          refine (HC.out _ HO.out).mono ?_; rintro e w7 ⟨rfl, ho7, hg7⟩
          have HO7 := Lib.hid (show OB w7 g n (onP (onK (bitX X) z0 p z S t) (prN z0 (S t) z) (j + 1)) from ho7)
          have HG7 := Lib.hid (grown_two HGr.out hg7)
          clear ho7 hg7 y2 y3 hx
          go_wp2_with fail
          go_roundw
          case rel => exact ⟨j + 1, by omega, by go_num, HO7, HG7⟩
          case measure => simp [intOf]; omega
        · obtain rfl : j = p := by omega
          have HL7 := Lib.hid (HL5.out.trans (below_of_grown HGr.out HL5.out.size (by omega)))
          go_wp2_with fail
          go_roundw
          case rel => exact ⟨t + 1, by omega, by go_num, HO, BX6, HL7⟩
          case measure => simp [intOf]; omega
    · obtain rfl : t = k := by omega
      have N2 := N1.out.b HL.out
      have y0 := BX.out.now 0 _ rfl
      have y1 := BX.out.now 1 _ rfl
      have y2 := BX.out.now 2 _ rfl
      have y3 := BX.out.now 3 _ rfl
      have d0 := N2.cell 0 _ rfl
      have d1 := N2.cell 1 _ rfl
      have d2 := N2.cell 2 _ rfl
      have d3 := N2.cell 3 _ rfl
      have f0 := N2.free 0
      have f1 := N2.free 1
      have f2 := N2.free 2
      have f3 := N2.free 3
      clear N2
      go_wp2_with fail
      refine bodyPost_ret (v := .agg #[.int .i64 z0, .int .i64 p, .int .i64 z, .slice (some ⟨g, 0, none⟩) n cc]) (by simp [results, Try.results63, go_sem, d0, d1, d2, d3]) rfl ?_
      exact ⟨g, cc, rfl, by omega, (((HO.out.setAt (by omega) _).setAt (by omega) _).setAt (by omega) _).setAt (by omega) _, below_setAt (below_setAt (below_setAt (below_setAt (S1.out.below.trans (HL.out.mono S1.out.below.size)) (by omega) _) (by omega) _) (by omega) _) (by omega) _⟩
end
end Go.Proofs.Ytpajbcgdoedleaa
