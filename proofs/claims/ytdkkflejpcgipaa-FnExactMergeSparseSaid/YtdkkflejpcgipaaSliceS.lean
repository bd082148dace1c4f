/- SliceSparse: both ways. -/
import Derived.Test.YtdkkflejpcgipaaListV
namespace Go.Proofs.Ytdkkflejpcgipaa
open Go.RowKit

def subA (A : Option Addr) (a k : Nat) : Option Addr := if k = a then A else A.map (·.add a)
theorem run_slice_ints (A : Option Addr) (n k a u : Nat) (hau : a ≤ u) (hu : u ≤ n) (hnk : n ≤ k) (W : World) :
    (Instr.slice 25 (.slice A n k) (some (.int .i64 a)) (some (.int .i64 u)) none).run Try.prog W = .ok (.slice (subA A a k) (u - a) (k - a)) W := by
  have h1 : u ≤ k := by omega
  unfold Instr.slice
  simp [go_sem, Instr.sliceBounds, Instr.sliceBound, run_underlying Try.underlying25, h1, hau, subA]
theorem subA_row {w : World} {A : Option Addr} {n k a u : Nat} {X : Nat → Int} (h : IRow w A n X) (hu : u ≤ n) (hnk : n ≤ k) : IRow w (subA A a k) (u - a) (fun i => X (a + i)) := fun h0 => by
  obtain ⟨b, off, rfl, hl, hc⟩ := h (by omega)
  refine ⟨b, off + a, ?_, hl, fun i hi => ?_⟩
  · unfold subA; rw [if_neg (by omega)]; simp [addr_add]
  · rw [show off + a + i = off + (a + i) by omega]; exact hc (a + i) (by omega)
theorem run_slice_as (A : Option Addr) (n k a u m : Nat) (hau : a ≤ u) (hu : u ≤ n) (hnk : n ≤ k) (hm : m = u - a) (W : World) :
    (Instr.slice 25 (.slice A n k) (some (.int .i64 a)) (some (.int .i64 u)) none).run Try.prog W = .ok (.slice (subA A a k) m (k - a)) W := by rw [hm]; exact run_slice_ints A n k a u hau hu hnk W
theorem subA_as {w : World} {A : Option Addr} {n k a u m : Nat} {f g : Nat → Nat} (h : IRow w A n (numI f)) (hu : u ≤ n) (hnk : n ≤ k) (hm : m = u - a) (hg : g = fun i => f (a + i)) : IRow w (subA A a k) m (numI g) := by rw [hm, hg]; exact subA_row h hu hnk
theorem SpN.sub {c L w : Nat} {f : Nat → Nat} (h : SpN c L w f) {a u : Nat} (_hau : a ≤ u) (hu : u ≤ c) : ∃ v, SpN (u - a) L v (fun i => f (a + i)) := by
  obtain ⟨v, hv⟩ := isW_ex (u - a) L
  exact ⟨v, by have := h.hc; omega, h.h1, h.hL, hv, fun i hi => h.low _ (by omega), fun i hi => h.up _ (by omega)⟩

section
variable (A1 : Option Addr) (n1 c1 : Nat) (X1 : Nat → Int) (A2 : Option Addr) (n2 c2 : Nat) (X2 : Nat → Int) (w : World)
variable {z0 z1 z2 z3 z4 : Int} {c L v : Nat} {f : Nat → Nat}
theorem nbx_above {w : World} (o : Obj) : NBX w.heap.size (w.heap.size + 1) (spC 0 0 0 0 none 0 0 0 none 0 0) 29 ((w.alloc o).alloc (.cells (spC 0 0 0 0 none 0 0 0 none 0 0) 29)) :=
  ⟨by have := Go.Deep.blk_alloc_new (w.alloc o) (.cells (spC 0 0 0 0 none 0 0 0 none 0 0) 29); simpa using this, by omega⟩
set_option maxRecDepth 100000 in
set_option maxHeartbeats 4000000 in
theorem spec_slice_inv (a u : Int) (hn1 : n1 ≤ 1048576) (hn2 : n2 ≤ 1048576) (h1 : IRow w A1 n1 X1) (h2 : IRow w A2 n2 X2) (h : ¬ SpV z0 z1 z2 z3 n1 X1 z4 n2 X2) :
    Calls Try.prog 45 #[.agg (spC z0 z1 z2 z3 A1 n1 c1 z4 A2 n2 c2), .int .i64 a, .int .i64 u] w (SpOwn 0 0 0 0 0 (fun _ => 0) 0 0 (fun _ => 0) false w) := by
  have HV := Lib.hid h
  clear h
  have S0 := Lib.hid ((SL.start (z0 := z0) (z1 := z1) (z2 := z2) (z3 := z3) (z4 := z4) (c1 := c1) (c2 := c2) h1 h2).al (.cells (spC 0 0 0 0 none 0 0 0 none 0 0) 29))
  have N0 := Lib.hid (nbx_above (w := w) (.cells (spC z0 z1 z2 z3 A1 n1 c1 z4 A2 n2 c2) 29))
  have R1 := Lib.hid h1
  have R2 := Lib.hid h2
  clear h1 h2
  obtain ⟨q0, q1, q2, q3, q4, q5, q6⟩ := S0.out.cells
  go_enter Try.func45, Try.ntmps45
  unfold spC
  go_wp2_with fail
  refine (good_no A1 n1 c1 X1 A2 n2 c2 X2 _ hn1 hn2 S0.out.low S0.out.high HV.out).mono ?_; rintro e w1 ⟨rfl, hb⟩
  have S1 := Lib.hid (S0.out.step hb)
  have N1 := Lib.hid (N0.out.b hb)
  clear hb S0 N0 q0 q1 q2 q3 q4 q5 q6
  have r0 := N1.out.cell 0 _ rfl
  have g0 := N1.out.free 0
  have r1 := N1.out.cell 1 _ rfl
  have g1 := N1.out.free 1
  have r2 := N1.out.cell 2 _ rfl
  have g2 := N1.out.free 2
  have r3 := N1.out.cell 3 _ rfl
  have g3 := N1.out.free 3
  have r4 := N1.out.cell 4 _ rfl
  have g4 := N1.out.free 4
  have r5 := N1.out.cell 5 _ rfl
  have g5 := N1.out.free 5
  have r6 := N1.out.cell 6 _ rfl
  have g6 := N1.out.free 6
  go_wp2_with fail
  change bodyPost _ _ _ _ _ (fin7 w1 (w.heap.size + 1) (.int .i64 0) (.int .i64 0) (.int .i64 0) (.int .i64 0) (.slice none 0 0) (.int .i64 0) (.slice none 0 0))
  have NF := fin7_box (v0 := .int .i64 0) (v1 := .int .i64 0) (v2 := .int .i64 0) (v3 := .int .i64 0) (v4 := .slice none 0 0) (v5 := .int .i64 0) (v6 := .slice none 0 0) N1.out
  have hon := fin7_only w1 (w.heap.size + 1) (.int .i64 0) (.int .i64 0) (.int .i64 0) (.int .i64 0) (.slice none 0 0) (.int .i64 0) (.slice none 0 0)
  clear r0 g0 r1 g1 r2 g2 r3 g3 r4 g4 r5 g5 r6 g6
  generalize fin7 w1 (w.heap.size + 1) (.int .i64 0) (.int .i64 0) (.int .i64 0) (.int .i64 0) (.slice none 0 0) (.int .i64 0) (.slice none 0 0) = wf at *
  have r0 := NF.cell 0 _ rfl
  have r1 := NF.cell 1 _ rfl
  have r2 := NF.cell 2 _ rfl
  have r3 := NF.cell 3 _ rfl
  have r4 := NF.cell 4 _ rfl
  have r5 := NF.cell 5 _ rfl
  have r6 := NF.cell 6 _ rfl
  refine bodyPost_ret (v := .tuple #[.agg #[.int .i64 0, .int .i64 0, .int .i64 0, .int .i64 0, .slice none 0 0, .int .i64 0, .slice none 0 0], .bool false]) (by simp [results, Try.results45, go_sem, r0, r1, r2, r3, r4, r5, r6]) rfl ?_
  exact spOwn_none rfl (S1.out.below.trans (hon.below S1.out.below.size (by omega)))

set_option maxRecDepth 100000 in
set_option maxHeartbeats 4000000 in
theorem spec_slice_out1 (a u : Int) (hn1 : n1 ≤ 1048576) (hn2 : n2 ≤ 1048576) (h1 : IRow w A1 n1 X1) (h2 : IRow w A2 n2 X2) (h : SpIs z0 z1 z2 z3 n1 X1 z4 n2 X2 c L v f) (hx : ¬ (0 ≤ a ∧ a ≤ u)) :
    Calls Try.prog 45 #[.agg (spC z0 z1 z2 z3 A1 n1 c1 z4 A2 n2 c2), .int .i64 a, .int .i64 u] w (SpOwn 0 0 0 0 0 (fun _ => 0) 0 0 (fun _ => 0) false w) := by
  have HX := Lib.hid hx
  clear hx
  have HI := Lib.hid h
  have HV := Lib.hid (show SpV z0 z1 z2 z3 n1 X1 z4 n2 X2 from ⟨c, L, v, f, h⟩)
  have hc := h.num.hc
  have hL := h.num.hL
  have hL1 := h.num.h1
  have e0 := h.ec
  have e1 := h.eL
  subst e0 e1
  clear h
  have S0 := Lib.hid ((SL.start (z0 := c) (z1 := L) (z2 := z2) (z3 := z3) (z4 := z4) (c1 := c1) (c2 := c2) h1 h2).al (.cells (spC 0 0 0 0 none 0 0 0 none 0 0) 29))
  have N0 := Lib.hid (nbx_above (w := w) (.cells (spC c L z2 z3 A1 n1 c1 z4 A2 n2 c2) 29))
  have R1 := Lib.hid h1
  have R2 := Lib.hid h2
  clear h1 h2
  obtain ⟨q0, q1, q2, q3, q4, q5, q6⟩ := S0.out.cells
  go_enter Try.func45, Try.ntmps45
  unfold spC
  go_wp2_with fail
  refine (good_yes A1 n1 c1 X1 A2 n2 c2 X2 _ hn1 hn2 S0.out.low S0.out.high HV.out).mono ?_; rintro e w1 ⟨rfl, hb⟩
  have S1 := Lib.hid (S0.out.step hb)
  have N1 := Lib.hid (N0.out.b hb)
  clear hb S0 N0 q0 q1 q2 q3 q4 q5 q6
  obtain ⟨q0, q1, q2, q3, q4, q5, q6⟩ := S1.out.cells
  go_wp2_with fail
  refine (l1In_no _ _ _ _ HX.out).mono ?_; rintro e w' ⟨rfl, rfl⟩
  have r0 := N1.out.cell 0 _ rfl
  have g0 := N1.out.free 0
  have r1 := N1.out.cell 1 _ rfl
  have g1 := N1.out.free 1
  have r2 := N1.out.cell 2 _ rfl
  have g2 := N1.out.free 2
  have r3 := N1.out.cell 3 _ rfl
  have g3 := N1.out.free 3
  have r4 := N1.out.cell 4 _ rfl
  have g4 := N1.out.free 4
  have r5 := N1.out.cell 5 _ rfl
  have g5 := N1.out.free 5
  have r6 := N1.out.cell 6 _ rfl
  have g6 := N1.out.free 6
  go_wp2_with fail
  change bodyPost _ _ _ _ _ (fin7 w1 (w.heap.size + 1) (.int .i64 0) (.int .i64 0) (.int .i64 0) (.int .i64 0) (.slice none 0 0) (.int .i64 0) (.slice none 0 0))
  have NF := fin7_box (v0 := .int .i64 0) (v1 := .int .i64 0) (v2 := .int .i64 0) (v3 := .int .i64 0) (v4 := .slice none 0 0) (v5 := .int .i64 0) (v6 := .slice none 0 0) N1.out
  have hon := fin7_only w1 (w.heap.size + 1) (.int .i64 0) (.int .i64 0) (.int .i64 0) (.int .i64 0) (.slice none 0 0) (.int .i64 0) (.slice none 0 0)
  clear r0 g0 r1 g1 r2 g2 r3 g3 r4 g4 r5 g5 r6 g6
  generalize fin7 w1 (w.heap.size + 1) (.int .i64 0) (.int .i64 0) (.int .i64 0) (.int .i64 0) (.slice none 0 0) (.int .i64 0) (.slice none 0 0) = wf at *
  have r0 := NF.cell 0 _ rfl
  have r1 := NF.cell 1 _ rfl
  have r2 := NF.cell 2 _ rfl
  have r3 := NF.cell 3 _ rfl
  have r4 := NF.cell 4 _ rfl
  have r5 := NF.cell 5 _ rfl
  have r6 := NF.cell 6 _ rfl
  refine bodyPost_ret (v := .tuple #[.agg #[.int .i64 0, .int .i64 0, .int .i64 0, .int .i64 0, .slice none 0 0, .int .i64 0, .slice none 0 0], .bool false]) (by simp [results, Try.results45, go_sem, r0, r1, r2, r3, r4, r5, r6]) rfl ?_
  exact spOwn_none rfl (S1.out.below.trans (hon.below S1.out.below.size (by omega)))

set_option maxRecDepth 100000 in
set_option maxHeartbeats 4000000 in
theorem spec_slice_out2 (a u : Int) (hn1 : n1 ≤ 1048576) (hn2 : n2 ≤ 1048576) (h1 : IRow w A1 n1 X1) (h2 : IRow w A2 n2 X2) (h : SpIs z0 z1 z2 z3 n1 X1 z4 n2 X2 c L v f) (a0 : 0 ≤ a) (a1 : a ≤ u) (hx : (c : Int) < u) :
    Calls Try.prog 45 #[.agg (spC z0 z1 z2 z3 A1 n1 c1 z4 A2 n2 c2), .int .i64 a, .int .i64 u] w (SpOwn 0 0 0 0 0 (fun _ => 0) 0 0 (fun _ => 0) false w) := by
  have d1 : decide ((c : Int) < u) = true := by simpa using hx
  have HI := Lib.hid h
  have HV := Lib.hid (show SpV z0 z1 z2 z3 n1 X1 z4 n2 X2 from ⟨c, L, v, f, h⟩)
  have hc := h.num.hc
  have hL := h.num.hL
  have hL1 := h.num.h1
  have e0 := h.ec
  have e1 := h.eL
  subst e0 e1
  clear h
  have S0 := Lib.hid ((SL.start (z0 := c) (z1 := L) (z2 := z2) (z3 := z3) (z4 := z4) (c1 := c1) (c2 := c2) h1 h2).al (.cells (spC 0 0 0 0 none 0 0 0 none 0 0) 29))
  have N0 := Lib.hid (nbx_above (w := w) (.cells (spC c L z2 z3 A1 n1 c1 z4 A2 n2 c2) 29))
  have R1 := Lib.hid h1
  have R2 := Lib.hid h2
  clear h1 h2
  obtain ⟨q0, q1, q2, q3, q4, q5, q6⟩ := S0.out.cells
  go_enter Try.func45, Try.ntmps45
  unfold spC
  go_wp2_with fail
  refine (good_yes A1 n1 c1 X1 A2 n2 c2 X2 _ hn1 hn2 S0.out.low S0.out.high HV.out).mono ?_; rintro e w1 ⟨rfl, hb⟩
  have S1 := Lib.hid (S0.out.step hb)
  have N1 := Lib.hid (N0.out.b hb)
  clear hb S0 N0 q0 q1 q2 q3 q4 q5 q6
  obtain ⟨q0, q1, q2, q3, q4, q5, q6⟩ := S1.out.cells
  go_wp2_with fail
  refine (l1In_yes _ _ _ _ a0 a1).mono ?_; rintro e w' ⟨rfl, rfl⟩
  have r0 := N1.out.cell 0 _ rfl
  have g0 := N1.out.free 0
  have r1 := N1.out.cell 1 _ rfl
  have g1 := N1.out.free 1
  have r2 := N1.out.cell 2 _ rfl
  have g2 := N1.out.free 2
  have r3 := N1.out.cell 3 _ rfl
  have g3 := N1.out.free 3
  have r4 := N1.out.cell 4 _ rfl
  have g4 := N1.out.free 4
  have r5 := N1.out.cell 5 _ rfl
  have g5 := N1.out.free 5
  have r6 := N1.out.cell 6 _ rfl
  have g6 := N1.out.free 6
  go_wp2_with fail
  change bodyPost _ _ _ _ _ (fin7 w1 (w.heap.size + 1) (.int .i64 0) (.int .i64 0) (.int .i64 0) (.int .i64 0) (.slice none 0 0) (.int .i64 0) (.slice none 0 0))
  have NF := fin7_box (v0 := .int .i64 0) (v1 := .int .i64 0) (v2 := .int .i64 0) (v3 := .int .i64 0) (v4 := .slice none 0 0) (v5 := .int .i64 0) (v6 := .slice none 0 0) N1.out
  have hon := fin7_only w1 (w.heap.size + 1) (.int .i64 0) (.int .i64 0) (.int .i64 0) (.int .i64 0) (.slice none 0 0) (.int .i64 0) (.slice none 0 0)
  clear r0 g0 r1 g1 r2 g2 r3 g3 r4 g4 r5 g5 r6 g6
  generalize fin7 w1 (w.heap.size + 1) (.int .i64 0) (.int .i64 0) (.int .i64 0) (.int .i64 0) (.slice none 0 0) (.int .i64 0) (.slice none 0 0) = wf at *
  have r0 := NF.cell 0 _ rfl
  have r1 := NF.cell 1 _ rfl
  have r2 := NF.cell 2 _ rfl
  have r3 := NF.cell 3 _ rfl
  have r4 := NF.cell 4 _ rfl
  have r5 := NF.cell 5 _ rfl
  have r6 := NF.cell 6 _ rfl
  refine bodyPost_ret (v := .tuple #[.agg #[.int .i64 0, .int .i64 0, .int .i64 0, .int .i64 0, .slice none 0 0, .int .i64 0, .slice none 0 0], .bool false]) (by simp [results, Try.results45, go_sem, r0, r1, r2, r3, r4, r5, r6]) rfl ?_
  exact spOwn_none rfl (S1.out.below.trans (hon.below S1.out.below.size (by omega)))

set_option maxRecDepth 100000 in
set_option maxHeartbeats 4000000 in
theorem spec_slice_yes (a u m x : Nat) (g : Nat → Nat) (nl nh : Nat) (hn1 : n1 ≤ 1048576) (hn2 : n2 ≤ 1048576) (h1 : IRow w A1 n1 X1) (h2 : IRow w A2 n2 X2) (h : SpIs z0 z1 z2 z3 n1 X1 z4 n2 X2 c L v f) (hau : a ≤ u) (huc : u ≤ c) (hm : m = u - a) (hg : g = fun i => f (a + i)) (hS : SpN m L x g) (hnl : nl = (m * x + 15) / 16) (hnh : nh = (hzN m L x + 15) / 16) :
    Calls Try.prog 45 #[.agg (spC z0 z1 z2 z3 A1 n1 c1 z4 A2 n2 c2), .int .i64 a, .int .i64 u] w (SpOwn m L x (m * x : Nat) nl (fun i => (wordsOf (lowB g x m) i : Int)) (hzN m L x : Nat) nh (fun i => (wordsOf (highB g x m) i : Int)) true w) := by
  have HSN := Lib.hid hS
  have HNL := Lib.hid hnl
  have HNH := Lib.hid hnh
  have HG := Lib.hid hg
  have HM := Lib.hid hm
  clear hS hnl hnh hg hm
  obtain ⟨zl, hzl⟩ : ∃ zl, zl = m * x := ⟨_, rfl⟩
  obtain ⟨zh, hzh⟩ : ∃ zh, zh = hzN m L x := ⟨_, rfl⟩
  rw [← hzl, ← hzh]
  have HZL := Lib.hid hzl
  have HZH := Lib.hid hzh
  clear hzl hzh
  have hcall := fun (W : World) (A' : Option Addr) (k' : Nat) (h : IRow W A' m (numI g)) => spec_spOf A' m k' L x g W HSN.out h nl nh HNL.out HNH.out
  rw [← HZL.out, ← HZH.out] at hcall
  have HC := Lib.hid hcall
  clear hcall
  have HI := Lib.hid h
  have HV := Lib.hid (show SpV z0 z1 z2 z3 n1 X1 z4 n2 X2 from ⟨c, L, v, f, h⟩)
  have hc := h.num.hc
  have hL := h.num.hL
  have hL1 := h.num.h1
  have e0 := h.ec
  have e1 := h.eL
  subst e0 e1
  clear h
  have S0 := Lib.hid ((SL.start (z0 := c) (z1 := L) (z2 := z2) (z3 := z3) (z4 := z4) (c1 := c1) (c2 := c2) h1 h2).al (.cells (spC 0 0 0 0 none 0 0 0 none 0 0) 29))
  have N0 := Lib.hid (nbx_above (w := w) (.cells (spC c L z2 z3 A1 n1 c1 z4 A2 n2 c2) 29))
  have R1 := Lib.hid h1
  have R2 := Lib.hid h2
  clear h1 h2
  obtain ⟨q0, q1, q2, q3, q4, q5, q6⟩ := S0.out.cells
  have d1 : decide ((c : Int) < (u : Int)) = false := by simp; omega
  clear R1 R2
  go_enter Try.func45, Try.ntmps45
  unfold spC
  go_wp2_with fail
  refine (good_yes A1 n1 c1 X1 A2 n2 c2 X2 _ hn1 hn2 S0.out.low S0.out.high HV.out).mono ?_; rintro e w1 ⟨rfl, hb⟩
  have S1 := Lib.hid (S0.out.step hb)
  have N1 := Lib.hid (N0.out.b hb)
  clear hb S0 N0 q0 q1 q2 q3 q4 q5 q6
  obtain ⟨q0, q1, q2, q3, q4, q5, q6⟩ := S1.out.cells
  go_wp2_with fail
  refine (l1In_yes _ _ _ _ (by omega) (by omega)).mono ?_; rintro e w' ⟨rfl, rfl⟩
  go_wp2_with fail
  have S1D := Lib.hid S1.out.drew
  have hle := N1.out.lt
  go_region_held3 (fun w' => w'.cell? ⟨w.heap.size, 0, none⟩ = some (.int .i64 c) ∧ w'.cell? ⟨w.heap.size, 1, none⟩ = some (.int .i64 L) ∧ w'.cell? ⟨w.heap.size, 2, none⟩ = some (.int .i64 z2) ∧ w'.cell? ⟨w.heap.size, 3, none⟩ = some (.int .i64 z3) ∧ w'.cell? ⟨w.heap.size, 4, none⟩ = some (.slice A1 n1 c1) ∧ w'.cell? ⟨w.heap.size, 5, none⟩ = some (.int .i64 z4) ∧ w'.cell? ⟨w.heap.size, 6, none⟩ = some (.slice A2 n2 c2))
    (first | (go_keep; done) | with_reducible exact S3.out.cells | with_reducible exact S2.out.cells)
    (first
      | (have hz := S2; clear hz; go_at_call 55; refine (HC.out _ _ _ HR2.out).mono ?_; rintro e w3 ⟨B1, b1, B2, b2, rfl, o1, o2, ap, hb⟩; unfold spC; have S3 := Lib.hid (S2.out.step hb); have N3 := Lib.hid (N2.out.b hb); have O1 := Lib.hid o1; have O2 := Lib.hid o2; have AP := Lib.hid ap; have r0 := N3.out.cell 0 _ rfl; have g0 := N3.out.free 0; have r1 := N3.out.cell 1 _ rfl; have g1 := N3.out.free 1; have r2 := N3.out.cell 2 _ rfl; have g2 := N3.out.free 2; have r3 := N3.out.cell 3 _ rfl; have g3 := N3.out.free 3; have r4 := N3.out.cell 4 _ rfl; have g4 := N3.out.free 4; have r5 := N3.out.cell 5 _ rfl; have g5 := N3.out.free 5; have r6 := N3.out.cell 6 _ rfl; have g6 := N3.out.free 6; clear hb o1 o2 ap)
      | (go_at_call 65; (first | refine (spList_valid A1 n1 c1 X1 A2 n2 c2 X2 _ c L z2 z3 z4 c L v f hn1 hn2 S1D.out.low S1D.out.high HI.out).mono ?_ | refine (spList_valid A1 n1 c1 X1 A2 n2 c2 X2 _ c L z2 z3 z4 c L v f hn1 hn2 S1.out.low S1.out.high HI.out).mono ?_); rintro e w2 ⟨A, k, rfl, ho, hk, hb'⟩; have hb : Below w1.heap.size w1 w2 := (by first | exact hb' | exact of_drew hb'); have S2 := Lib.hid (S1.out.step hb); have N2 := Lib.hid (N1.out.b hb); have HR2 := Lib.hid (subA_as (a := a) (show IRow w2 A c (numI f) from ho.rd.row (Nat.le_refl _)) huc hk HM.out HG.out); have hsl := run_slice_as A c k a u m hau huc hk HM.out; clear hb hb' ho))
  change Exit.then _ _ _ _ (fin7 w3 (w.heap.size + 1) (.int .i64 m) (.int .i64 L) (.int .i64 x) (.int .i64 zl) (.slice B1 nl b1) (.int .i64 zh) (.slice B2 nh b2))
  have NF := fin7_box (v0 := .int .i64 m) (v1 := .int .i64 L) (v2 := .int .i64 x) (v3 := .int .i64 zl) (v4 := .slice B1 nl b1) (v5 := .int .i64 zh) (v6 := .slice B2 nh b2) N3.out
  have hon := fin7_only w3 (w.heap.size + 1) (.int .i64 m) (.int .i64 L) (.int .i64 x) (.int .i64 zl) (.slice B1 nl b1) (.int .i64 zh) (.slice B2 nh b2)
  clear r0 g0 r1 g1 r2 g2 r3 g3 r4 g4 r5 g5 r6 g6
  generalize fin7 w3 (w.heap.size + 1) (.int .i64 m) (.int .i64 L) (.int .i64 x) (.int .i64 zl) (.slice B1 nl b1) (.int .i64 zh) (.slice B2 nh b2) = wf at *
  have r0 := NF.cell 0 _ rfl
  have r1 := NF.cell 1 _ rfl
  have r2 := NF.cell 2 _ rfl
  have r3 := NF.cell 3 _ rfl
  have r4 := NF.cell 4 _ rfl
  have r5 := NF.cell 5 _ rfl
  have r6 := NF.cell 6 _ rfl
  go_wp2_with fail
  refine bodyPost_ret (v := .tuple #[.agg #[.int .i64 m, .int .i64 L, .int .i64 x, .int .i64 zl, .slice B1 nl b1, .int .i64 zh, .slice B2 nh b2], .bool true]) (by simp [results, Try.results45, go_sem, r0, r1, r2, r3, r4, r5, r6]) rfl ?_
  have hl1 := S1.out.box.lt
  have hb2 := S2.out.below.size
  have n2 := N2.out.lt
  exact ⟨B1, b1, B2, b2, rfl, (O1.out.same hon (.inr (by omega)) (Nat.le_refl _)).mono (by omega) hon.size, (O2.out.same hon (.inr (by omega)) (Nat.le_refl _)).mono (by omega) hon.size, AP.out, S3.out.below.trans (hon.below S3.out.below.size (by omega))⟩

set_option maxRecDepth 100000 in
set_option maxHeartbeats 4000000 in
theorem impl_slice_inv (a u : Int) (hn1 : n1 ≤ 1048576) (hn2 : n2 ≤ 1048576) (h1 : IRow w A1 n1 X1) (h2 : IRow w A2 n2 X2) (h : ¬ SpV z0 z1 z2 z3 n1 X1 z4 n2 X2) :
    Calls Try.prog 46 #[.agg (spC z0 z1 z2 z3 A1 n1 c1 z4 A2 n2 c2), .int .i64 a, .int .i64 u] w (SpOwn 0 0 0 0 0 (fun _ => 0) 0 0 (fun _ => 0) false w) := by
  have HV := Lib.hid h
  clear h
  have S0 := Lib.hid ((SL.start (z0 := z0) (z1 := z1) (z2 := z2) (z3 := z3) (z4 := z4) (c1 := c1) (c2 := c2) h1 h2).al (.cells (spC 0 0 0 0 none 0 0 0 none 0 0) 29))
  have N0 := Lib.hid (nbx_above (w := w) (.cells (spC z0 z1 z2 z3 A1 n1 c1 z4 A2 n2 c2) 29))
  have R1 := Lib.hid h1
  have R2 := Lib.hid h2
  clear h1 h2
  obtain ⟨q0, q1, q2, q3, q4, q5, q6⟩ := S0.out.cells
  go_enter Try.func46, Try.ntmps46
  unfold spC
  go_wp2_with fail
  refine (impl_sparseList A1 n1 c1 X1 A2 n2 c2 X2 _ z0 z1 z2 z3 z4 hn1 hn2 S0.out.low S0.out.high).mono ?_; rintro e w1 ha
  obtain ⟨rfl, hb⟩ := ha.not (h := HV.out)
  clear ha
  have S1 := Lib.hid (S0.out.step hb)
  have N1 := Lib.hid (N0.out.b hb)
  clear hb S0 N0 q0 q1 q2 q3 q4 q5 q6
  have r0 := N1.out.cell 0 _ rfl
  have g0 := N1.out.free 0
  have r1 := N1.out.cell 1 _ rfl
  have g1 := N1.out.free 1
  have r2 := N1.out.cell 2 _ rfl
  have g2 := N1.out.free 2
  have r3 := N1.out.cell 3 _ rfl
  have g3 := N1.out.free 3
  have r4 := N1.out.cell 4 _ rfl
  have g4 := N1.out.free 4
  have r5 := N1.out.cell 5 _ rfl
  have g5 := N1.out.free 5
  have r6 := N1.out.cell 6 _ rfl
  have g6 := N1.out.free 6
  go_wp2_with fail
  change bodyPost _ _ _ _ _ (fin7 w1 (w.heap.size + 1) (.int .i64 0) (.int .i64 0) (.int .i64 0) (.int .i64 0) (.slice none 0 0) (.int .i64 0) (.slice none 0 0))
  have NF := fin7_box (v0 := .int .i64 0) (v1 := .int .i64 0) (v2 := .int .i64 0) (v3 := .int .i64 0) (v4 := .slice none 0 0) (v5 := .int .i64 0) (v6 := .slice none 0 0) N1.out
  have hon := fin7_only w1 (w.heap.size + 1) (.int .i64 0) (.int .i64 0) (.int .i64 0) (.int .i64 0) (.slice none 0 0) (.int .i64 0) (.slice none 0 0)
  clear r0 g0 r1 g1 r2 g2 r3 g3 r4 g4 r5 g5 r6 g6
  generalize fin7 w1 (w.heap.size + 1) (.int .i64 0) (.int .i64 0) (.int .i64 0) (.int .i64 0) (.slice none 0 0) (.int .i64 0) (.slice none 0 0) = wf at *
  have r0 := NF.cell 0 _ rfl
  have r1 := NF.cell 1 _ rfl
  have r2 := NF.cell 2 _ rfl
  have r3 := NF.cell 3 _ rfl
  have r4 := NF.cell 4 _ rfl
  have r5 := NF.cell 5 _ rfl
  have r6 := NF.cell 6 _ rfl
  refine bodyPost_ret (v := .tuple #[.agg #[.int .i64 0, .int .i64 0, .int .i64 0, .int .i64 0, .slice none 0 0, .int .i64 0, .slice none 0 0], .bool false]) (by simp [results, Try.results46, go_sem, r0, r1, r2, r3, r4, r5, r6]) rfl ?_
  exact spOwn_none rfl (S1.out.below.trans (hon.below S1.out.below.size (by omega)))

set_option maxRecDepth 100000 in
set_option maxHeartbeats 4000000 in
theorem impl_slice_out0 (a u : Int) (hn1 : n1 ≤ 1048576) (hn2 : n2 ≤ 1048576) (h1 : IRow w A1 n1 X1) (h2 : IRow w A2 n2 X2) (h : SpIs z0 z1 z2 z3 n1 X1 z4 n2 X2 c L v f) (a0 : a < 0) :
    Calls Try.prog 46 #[.agg (spC z0 z1 z2 z3 A1 n1 c1 z4 A2 n2 c2), .int .i64 a, .int .i64 u] w (SpOwn 0 0 0 0 0 (fun _ => 0) 0 0 (fun _ => 0) false w) := by
  have HI := Lib.hid h
  have HV := Lib.hid (show SpV z0 z1 z2 z3 n1 X1 z4 n2 X2 from ⟨c, L, v, f, h⟩)
  have hc := h.num.hc
  have hL := h.num.hL
  have hL1 := h.num.h1
  have e0 := h.ec
  have e1 := h.eL
  subst e0 e1
  have d0 : decide (a < 0) = true := by simpa using a0
  clear h
  have S0 := Lib.hid ((SL.start (z0 := c) (z1 := L) (z2 := z2) (z3 := z3) (z4 := z4) (c1 := c1) (c2 := c2) h1 h2).al (.cells (spC 0 0 0 0 none 0 0 0 none 0 0) 29))
  have N0 := Lib.hid (nbx_above (w := w) (.cells (spC c L z2 z3 A1 n1 c1 z4 A2 n2 c2) 29))
  have R1 := Lib.hid h1
  have R2 := Lib.hid h2
  clear h1 h2
  obtain ⟨q0, q1, q2, q3, q4, q5, q6⟩ := S0.out.cells
  go_enter Try.func46, Try.ntmps46
  unfold spC
  go_wp2_with fail
  refine (impl_sparseList A1 n1 c1 X1 A2 n2 c2 X2 _ c L z2 z3 z4 hn1 hn2 S0.out.low S0.out.high).mono ?_; rintro e w1 ha
  obtain ⟨A, k, rfl, ho, hk, hb⟩ := ha.yes (h := HI.out)
  have S1 := Lib.hid (S0.out.step hb)
  have N1 := Lib.hid (N0.out.b hb)
  clear hb S0 N0 q0 q1 q2 q3 q4 q5 q6
  have HR := Lib.hid (show IRow w1 A c (numI f) from ho.rd.row (Nat.le_refl _))
  clear ha ho
  obtain ⟨q0, q1, q2, q3, q4, q5, q6⟩ := S1.out.cells
  have r0 := N1.out.cell 0 _ rfl
  have g0 := N1.out.free 0
  have r1 := N1.out.cell 1 _ rfl
  have g1 := N1.out.free 1
  have r2 := N1.out.cell 2 _ rfl
  have g2 := N1.out.free 2
  have r3 := N1.out.cell 3 _ rfl
  have g3 := N1.out.free 3
  have r4 := N1.out.cell 4 _ rfl
  have g4 := N1.out.free 4
  have r5 := N1.out.cell 5 _ rfl
  have g5 := N1.out.free 5
  have r6 := N1.out.cell 6 _ rfl
  have g6 := N1.out.free 6
  go_wp2_with fail
  change bodyPost _ _ _ _ _ (fin7 w1 (w.heap.size + 1) (.int .i64 0) (.int .i64 0) (.int .i64 0) (.int .i64 0) (.slice none 0 0) (.int .i64 0) (.slice none 0 0))
  have NF := fin7_box (v0 := .int .i64 0) (v1 := .int .i64 0) (v2 := .int .i64 0) (v3 := .int .i64 0) (v4 := .slice none 0 0) (v5 := .int .i64 0) (v6 := .slice none 0 0) N1.out
  have hon := fin7_only w1 (w.heap.size + 1) (.int .i64 0) (.int .i64 0) (.int .i64 0) (.int .i64 0) (.slice none 0 0) (.int .i64 0) (.slice none 0 0)
  clear r0 g0 r1 g1 r2 g2 r3 g3 r4 g4 r5 g5 r6 g6
  generalize fin7 w1 (w.heap.size + 1) (.int .i64 0) (.int .i64 0) (.int .i64 0) (.int .i64 0) (.slice none 0 0) (.int .i64 0) (.slice none 0 0) = wf at *
  have r0 := NF.cell 0 _ rfl
  have r1 := NF.cell 1 _ rfl
  have r2 := NF.cell 2 _ rfl
  have r3 := NF.cell 3 _ rfl
  have r4 := NF.cell 4 _ rfl
  have r5 := NF.cell 5 _ rfl
  have r6 := NF.cell 6 _ rfl
  refine bodyPost_ret (v := .tuple #[.agg #[.int .i64 0, .int .i64 0, .int .i64 0, .int .i64 0, .slice none 0 0, .int .i64 0, .slice none 0 0], .bool false]) (by simp [results, Try.results46, go_sem, r0, r1, r2, r3, r4, r5, r6]) rfl ?_
  exact spOwn_none rfl (S1.out.below.trans (hon.below S1.out.below.size (by omega)))

set_option maxRecDepth 100000 in
set_option maxHeartbeats 4000000 in
theorem impl_slice_out1 (a u : Int) (hn1 : n1 ≤ 1048576) (hn2 : n2 ≤ 1048576) (h1 : IRow w A1 n1 X1) (h2 : IRow w A2 n2 X2) (h : SpIs z0 z1 z2 z3 n1 X1 z4 n2 X2 c L v f) (a0 : 0 ≤ a) (hx : u < a) :
    Calls Try.prog 46 #[.agg (spC z0 z1 z2 z3 A1 n1 c1 z4 A2 n2 c2), .int .i64 a, .int .i64 u] w (SpOwn 0 0 0 0 0 (fun _ => 0) 0 0 (fun _ => 0) false w) := by
  have HI := Lib.hid h
  have HV := Lib.hid (show SpV z0 z1 z2 z3 n1 X1 z4 n2 X2 from ⟨c, L, v, f, h⟩)
  have hc := h.num.hc
  have hL := h.num.hL
  have hL1 := h.num.h1
  have e0 := h.ec
  have e1 := h.eL
  subst e0 e1
  have d0 : decide (a < 0) = false := by simpa using a0
  have d1 : decide (u < a) = true := by simpa using hx
  clear h
  have S0 := Lib.hid ((SL.start (z0 := c) (z1 := L) (z2 := z2) (z3 := z3) (z4 := z4) (c1 := c1) (c2 := c2) h1 h2).al (.cells (spC 0 0 0 0 none 0 0 0 none 0 0) 29))
  have N0 := Lib.hid (nbx_above (w := w) (.cells (spC c L z2 z3 A1 n1 c1 z4 A2 n2 c2) 29))
  have R1 := Lib.hid h1
  have R2 := Lib.hid h2
  clear h1 h2
  obtain ⟨q0, q1, q2, q3, q4, q5, q6⟩ := S0.out.cells
  go_enter Try.func46, Try.ntmps46
  unfold spC
  go_wp2_with fail
  refine (impl_sparseList A1 n1 c1 X1 A2 n2 c2 X2 _ c L z2 z3 z4 hn1 hn2 S0.out.low S0.out.high).mono ?_; rintro e w1 ha
  obtain ⟨A, k, rfl, ho, hk, hb⟩ := ha.yes (h := HI.out)
  have S1 := Lib.hid (S0.out.step hb)
  have N1 := Lib.hid (N0.out.b hb)
  clear hb S0 N0 q0 q1 q2 q3 q4 q5 q6
  have HR := Lib.hid (show IRow w1 A c (numI f) from ho.rd.row (Nat.le_refl _))
  clear ha ho
  obtain ⟨q0, q1, q2, q3, q4, q5, q6⟩ := S1.out.cells
  have r0 := N1.out.cell 0 _ rfl
  have g0 := N1.out.free 0
  have r1 := N1.out.cell 1 _ rfl
  have g1 := N1.out.free 1
  have r2 := N1.out.cell 2 _ rfl
  have g2 := N1.out.free 2
  have r3 := N1.out.cell 3 _ rfl
  have g3 := N1.out.free 3
  have r4 := N1.out.cell 4 _ rfl
  have g4 := N1.out.free 4
  have r5 := N1.out.cell 5 _ rfl
  have g5 := N1.out.free 5
  have r6 := N1.out.cell 6 _ rfl
  have g6 := N1.out.free 6
  go_wp2_with fail
  change bodyPost _ _ _ _ _ (fin7 w1 (w.heap.size + 1) (.int .i64 0) (.int .i64 0) (.int .i64 0) (.int .i64 0) (.slice none 0 0) (.int .i64 0) (.slice none 0 0))
  have NF := fin7_box (v0 := .int .i64 0) (v1 := .int .i64 0) (v2 := .int .i64 0) (v3 := .int .i64 0) (v4 := .slice none 0 0) (v5 := .int .i64 0) (v6 := .slice none 0 0) N1.out
  have hon := fin7_only w1 (w.heap.size + 1) (.int .i64 0) (.int .i64 0) (.int .i64 0) (.int .i64 0) (.slice none 0 0) (.int .i64 0) (.slice none 0 0)
  clear r0 g0 r1 g1 r2 g2 r3 g3 r4 g4 r5 g5 r6 g6
  generalize fin7 w1 (w.heap.size + 1) (.int .i64 0) (.int .i64 0) (.int .i64 0) (.int .i64 0) (.slice none 0 0) (.int .i64 0) (.slice none 0 0) = wf at *
  have r0 := NF.cell 0 _ rfl
  have r1 := NF.cell 1 _ rfl
  have r2 := NF.cell 2 _ rfl
  have r3 := NF.cell 3 _ rfl
  have r4 := NF.cell 4 _ rfl
  have r5 := NF.cell 5 _ rfl
  have r6 := NF.cell 6 _ rfl
  refine bodyPost_ret (v := .tuple #[.agg #[.int .i64 0, .int .i64 0, .int .i64 0, .int .i64 0, .slice none 0 0, .int .i64 0, .slice none 0 0], .bool false]) (by simp [results, Try.results46, go_sem, r0, r1, r2, r3, r4, r5, r6]) rfl ?_
  exact spOwn_none rfl (S1.out.below.trans (hon.below S1.out.below.size (by omega)))

set_option maxRecDepth 100000 in
set_option maxHeartbeats 4000000 in
theorem impl_slice_out2 (a u : Int) (hn1 : n1 ≤ 1048576) (hn2 : n2 ≤ 1048576) (h1 : IRow w A1 n1 X1) (h2 : IRow w A2 n2 X2) (h : SpIs z0 z1 z2 z3 n1 X1 z4 n2 X2 c L v f) (a0 : 0 ≤ a) (a1 : a ≤ u) (hx : (c : Int) < u) :
    Calls Try.prog 46 #[.agg (spC z0 z1 z2 z3 A1 n1 c1 z4 A2 n2 c2), .int .i64 a, .int .i64 u] w (SpOwn 0 0 0 0 0 (fun _ => 0) 0 0 (fun _ => 0) false w) := by
  have HI := Lib.hid h
  have HV := Lib.hid (show SpV z0 z1 z2 z3 n1 X1 z4 n2 X2 from ⟨c, L, v, f, h⟩)
  have hc := h.num.hc
  have hL := h.num.hL
  have hL1 := h.num.h1
  have e0 := h.ec
  have e1 := h.eL
  subst e0 e1
  have d0 : decide (a < 0) = false := by simpa using a0
  have d1 : decide (u < a) = false := by simp; omega
  have d2 : decide ((c : Int) < u) = true := by simpa using hx
  clear h
  have S0 := Lib.hid ((SL.start (z0 := c) (z1 := L) (z2 := z2) (z3 := z3) (z4 := z4) (c1 := c1) (c2 := c2) h1 h2).al (.cells (spC 0 0 0 0 none 0 0 0 none 0 0) 29))
  have N0 := Lib.hid (nbx_above (w := w) (.cells (spC c L z2 z3 A1 n1 c1 z4 A2 n2 c2) 29))
  have R1 := Lib.hid h1
  have R2 := Lib.hid h2
  clear h1 h2
  obtain ⟨q0, q1, q2, q3, q4, q5, q6⟩ := S0.out.cells
  go_enter Try.func46, Try.ntmps46
  unfold spC
  go_wp2_with fail
  refine (impl_sparseList A1 n1 c1 X1 A2 n2 c2 X2 _ c L z2 z3 z4 hn1 hn2 S0.out.low S0.out.high).mono ?_; rintro e w1 ha
  obtain ⟨A, k, rfl, ho, hk, hb⟩ := ha.yes (h := HI.out)
  have S1 := Lib.hid (S0.out.step hb)
  have N1 := Lib.hid (N0.out.b hb)
  clear hb S0 N0 q0 q1 q2 q3 q4 q5 q6
  have HR := Lib.hid (show IRow w1 A c (numI f) from ho.rd.row (Nat.le_refl _))
  clear ha ho
  obtain ⟨q0, q1, q2, q3, q4, q5, q6⟩ := S1.out.cells
  have r0 := N1.out.cell 0 _ rfl
  have g0 := N1.out.free 0
  have r1 := N1.out.cell 1 _ rfl
  have g1 := N1.out.free 1
  have r2 := N1.out.cell 2 _ rfl
  have g2 := N1.out.free 2
  have r3 := N1.out.cell 3 _ rfl
  have g3 := N1.out.free 3
  have r4 := N1.out.cell 4 _ rfl
  have g4 := N1.out.free 4
  have r5 := N1.out.cell 5 _ rfl
  have g5 := N1.out.free 5
  have r6 := N1.out.cell 6 _ rfl
  have g6 := N1.out.free 6
  go_wp2_with fail
  change bodyPost _ _ _ _ _ (fin7 w1 (w.heap.size + 1) (.int .i64 0) (.int .i64 0) (.int .i64 0) (.int .i64 0) (.slice none 0 0) (.int .i64 0) (.slice none 0 0))
  have NF := fin7_box (v0 := .int .i64 0) (v1 := .int .i64 0) (v2 := .int .i64 0) (v3 := .int .i64 0) (v4 := .slice none 0 0) (v5 := .int .i64 0) (v6 := .slice none 0 0) N1.out
  have hon := fin7_only w1 (w.heap.size + 1) (.int .i64 0) (.int .i64 0) (.int .i64 0) (.int .i64 0) (.slice none 0 0) (.int .i64 0) (.slice none 0 0)
  clear r0 g0 r1 g1 r2 g2 r3 g3 r4 g4 r5 g5 r6 g6
  generalize fin7 w1 (w.heap.size + 1) (.int .i64 0) (.int .i64 0) (.int .i64 0) (.int .i64 0) (.slice none 0 0) (.int .i64 0) (.slice none 0 0) = wf at *
  have r0 := NF.cell 0 _ rfl
  have r1 := NF.cell 1 _ rfl
  have r2 := NF.cell 2 _ rfl
  have r3 := NF.cell 3 _ rfl
  have r4 := NF.cell 4 _ rfl
  have r5 := NF.cell 5 _ rfl
  have r6 := NF.cell 6 _ rfl
  refine bodyPost_ret (v := .tuple #[.agg #[.int .i64 0, .int .i64 0, .int .i64 0, .int .i64 0, .slice none 0 0, .int .i64 0, .slice none 0 0], .bool false]) (by simp [results, Try.results46, go_sem, r0, r1, r2, r3, r4, r5, r6]) rfl ?_
  exact spOwn_none rfl (S1.out.below.trans (hon.below S1.out.below.size (by omega)))

set_option maxRecDepth 100000 in
set_option maxHeartbeats 4000000 in
theorem impl_slice_yes (a u m x : Nat) (g : Nat → Nat) (nl nh : Nat) (hn1 : n1 ≤ 1048576) (hn2 : n2 ≤ 1048576) (h1 : IRow w A1 n1 X1) (h2 : IRow w A2 n2 X2) (h : SpIs z0 z1 z2 z3 n1 X1 z4 n2 X2 c L v f) (hau : a ≤ u) (huc : u ≤ c) (hm : m = u - a) (hg : g = fun i => f (a + i)) (hS : SpN m L x g) (hnl : nl = (m * x + 15) / 16) (hnh : nh = (hzN m L x + 15) / 16) :
    Calls Try.prog 46 #[.agg (spC z0 z1 z2 z3 A1 n1 c1 z4 A2 n2 c2), .int .i64 a, .int .i64 u] w (SpOwn m L x (m * x : Nat) nl (fun i => (wordsOf (lowB g x m) i : Int)) (hzN m L x : Nat) nh (fun i => (wordsOf (highB g x m) i : Int)) true w) := by
  have HSN := Lib.hid hS
  have HNL := Lib.hid hnl
  have HNH := Lib.hid hnh
  have HG := Lib.hid hg
  have HM := Lib.hid hm
  clear hS hnl hnh hg hm
  obtain ⟨zl, hzl⟩ : ∃ zl, zl = m * x := ⟨_, rfl⟩
  obtain ⟨zh, hzh⟩ : ∃ zh, zh = hzN m L x := ⟨_, rfl⟩
  rw [← hzl, ← hzh]
  have HZL := Lib.hid hzl
  have HZH := Lib.hid hzh
  clear hzl hzh
  have hcall := fun (W : World) (A' : Option Addr) (k' : Nat) (h : IRow W A' m (numI g)) => impl_build_yes A' m k' L x g W HSN.out h nl nh HNL.out HNH.out
  rw [← HZL.out, ← HZH.out] at hcall
  have HC := Lib.hid hcall
  clear hcall
  have HI := Lib.hid h
  have HV := Lib.hid (show SpV z0 z1 z2 z3 n1 X1 z4 n2 X2 from ⟨c, L, v, f, h⟩)
  have hc := h.num.hc
  have hL := h.num.hL
  have hL1 := h.num.h1
  have e0 := h.ec
  have e1 := h.eL
  subst e0 e1
  clear h
  have S0 := Lib.hid ((SL.start (z0 := c) (z1 := L) (z2 := z2) (z3 := z3) (z4 := z4) (c1 := c1) (c2 := c2) h1 h2).al (.cells (spC 0 0 0 0 none 0 0 0 none 0 0) 29))
  have N0 := Lib.hid (nbx_above (w := w) (.cells (spC c L z2 z3 A1 n1 c1 z4 A2 n2 c2) 29))
  have R1 := Lib.hid h1
  have R2 := Lib.hid h2
  clear h1 h2
  obtain ⟨q0, q1, q2, q3, q4, q5, q6⟩ := S0.out.cells
  have d0 : decide ((a : Int) < 0) = false := by simp
  have d1 : decide ((u : Int) < (a : Int)) = false := by simp; omega
  have d2 : decide ((c : Int) < (u : Int)) = false := by simp; omega
  clear R1 R2
  go_enter Try.func46, Try.ntmps46
  unfold spC
  go_wp2_with fail
  refine (impl_sparseList A1 n1 c1 X1 A2 n2 c2 X2 _ c L z2 z3 z4 hn1 hn2 S0.out.low S0.out.high).mono ?_; rintro e w1 ha
  obtain ⟨A, k, rfl, ho, hk, hb⟩ := ha.yes (h := HI.out)
  have S1 := Lib.hid (S0.out.step hb)
  have N1 := Lib.hid (N0.out.b hb)
  clear hb S0 N0 q0 q1 q2 q3 q4 q5 q6
  have HR2 := Lib.hid (subA_as (a := a) (show IRow w1 A c (numI f) from ho.rd.row (Nat.le_refl _)) huc hk HM.out HG.out)
  have hsl := run_slice_as A c k a u m hau huc hk HM.out
  clear ha ho
  obtain ⟨q0, q1, q2, q3, q4, q5, q6⟩ := S1.out.cells
  go_wp2_with fail
  have hle := N1.out.lt
  go_region_held3 (fun w' => w'.cell? ⟨w.heap.size, 0, none⟩ = some (.int .i64 c) ∧ w'.cell? ⟨w.heap.size, 1, none⟩ = some (.int .i64 L) ∧ w'.cell? ⟨w.heap.size, 2, none⟩ = some (.int .i64 z2) ∧ w'.cell? ⟨w.heap.size, 3, none⟩ = some (.int .i64 z3) ∧ w'.cell? ⟨w.heap.size, 4, none⟩ = some (.slice A1 n1 c1) ∧ w'.cell? ⟨w.heap.size, 5, none⟩ = some (.int .i64 z4) ∧ w'.cell? ⟨w.heap.size, 6, none⟩ = some (.slice A2 n2 c2))
    (first | (go_keep; done) | with_reducible exact S3.out.cells)
    (first
      | (go_at_call 20; (first | refine (HC.out _ _ _ (IRow.b HR2.out (Below.drew (Below.refl _ _)))).mono ?_ | refine (HC.out _ _ _ HR2.out).mono ?_); rintro e w3 ⟨B1, b1, B2, b2, rfl, o1, o2, ap, hb'⟩; unfold spC; have hb : Below w1.heap.size w1 w3 := (by first | exact hb' | exact of_drew hb'); have S3 := Lib.hid (S1.out.step hb); have N3 := Lib.hid (N1.out.b hb); have O1 := Lib.hid o1; have O2 := Lib.hid o2; have AP := Lib.hid ap; have r0 := N3.out.cell 0 _ rfl; have g0 := N3.out.free 0; have r1 := N3.out.cell 1 _ rfl; have g1 := N3.out.free 1; have r2 := N3.out.cell 2 _ rfl; have g2 := N3.out.free 2; have r3 := N3.out.cell 3 _ rfl; have g3 := N3.out.free 3; have r4 := N3.out.cell 4 _ rfl; have g4 := N3.out.free 4; have r5 := N3.out.cell 5 _ rfl; have g5 := N3.out.free 5; have r6 := N3.out.cell 6 _ rfl; have g6 := N3.out.free 6; clear hb hb' o1 o2 ap))
  change Exit.then _ _ _ _ (fin7 w3 (w.heap.size + 1) (.int .i64 m) (.int .i64 L) (.int .i64 x) (.int .i64 zl) (.slice B1 nl b1) (.int .i64 zh) (.slice B2 nh b2))
  have NF := fin7_box (v0 := .int .i64 m) (v1 := .int .i64 L) (v2 := .int .i64 x) (v3 := .int .i64 zl) (v4 := .slice B1 nl b1) (v5 := .int .i64 zh) (v6 := .slice B2 nh b2) N3.out
  have hon := fin7_only w3 (w.heap.size + 1) (.int .i64 m) (.int .i64 L) (.int .i64 x) (.int .i64 zl) (.slice B1 nl b1) (.int .i64 zh) (.slice B2 nh b2)
  clear r0 g0 r1 g1 r2 g2 r3 g3 r4 g4 r5 g5 r6 g6
  generalize fin7 w3 (w.heap.size + 1) (.int .i64 m) (.int .i64 L) (.int .i64 x) (.int .i64 zl) (.slice B1 nl b1) (.int .i64 zh) (.slice B2 nh b2) = wf at *
  have r0 := NF.cell 0 _ rfl
  have r1 := NF.cell 1 _ rfl
  have r2 := NF.cell 2 _ rfl
  have r3 := NF.cell 3 _ rfl
  have r4 := NF.cell 4 _ rfl
  have r5 := NF.cell 5 _ rfl
  have r6 := NF.cell 6 _ rfl
  go_wp2_with fail
  refine bodyPost_ret (v := .tuple #[.agg #[.int .i64 m, .int .i64 L, .int .i64 x, .int .i64 zl, .slice B1 nl b1, .int .i64 zh, .slice B2 nh b2], .bool true]) (by simp [results, Try.results46, go_sem, r0, r1, r2, r3, r4, r5, r6]) rfl ?_
  have hl1 := S1.out.box.lt
  have hsz : w1.drew.heap.size = w1.heap.size := rfl
  have n2 := N1.out.lt
  exact ⟨B1, b1, B2, b2, rfl, (O1.out.same hon (.inr (by omega)) (Nat.le_refl _)).mono (by omega) hon.size, (O2.out.same hon (.inr (by omega)) (Nat.le_refl _)).mono (by omega) hon.size, AP.out, S3.out.below.trans (hon.below S3.out.below.size (by omega))⟩

end
end Go.Proofs.Ytdkkflejpcgipaa

