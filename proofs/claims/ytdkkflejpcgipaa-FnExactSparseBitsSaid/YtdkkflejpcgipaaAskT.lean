/- Questions to a Sparse: what each answers, both ways. -/
import Derived.Test.YtdkkflejpcgipaaAskS
namespace Go.Proofs.Ytdkkflejpcgipaa
open Go.RowKit

section
variable (A1 : Option Addr) (n1 c1 : Nat) (X1 : Nat → Int) (A2 : Option Addr) (n2 c2 : Nat) (X2 : Nat → Int) (w : World)
variable {z0 z1 z2 z3 z4 : Int} {c L v : Nat} {f : Nat → Nat}
theorem SpV.lim (h : SpV z0 z1 z2 z3 n1 X1 z4 n2 X2) : 1 ≤ z1 ∧ z1 ≤ 100000 ∧ 0 ≤ z0 ∧ z0 ≤ 60 := by
  obtain ⟨c, L, v, f, h⟩ := h
  have := h.eL; have := h.num.h1; have := h.num.hL; have := h.ec; have := h.num.hc; omega
set_option maxRecDepth 100000 in
set_option maxHeartbeats 1000000 in
theorem spec_SparseAt_inv (x : Int) (hn1 : n1 ≤ 1048576) (hn2 : n2 ≤ 1048576) (h1 : IRow w A1 n1 X1) (h2 : IRow w A2 n2 X2) (h : ¬ SpV z0 z1 z2 z3 n1 X1 z4 n2 X2) :
    Calls Try.prog 30 #[.agg (spC z0 z1 z2 z3 A1 n1 c1 z4 A2 n2 c2), .int .i64 x] w fun e w' => e = .returned (.tuple #[.int .i64 0, .bool false]) ∧ Below w.heap.size w w' := by
  have S0 := Lib.hid (SL.start (z0 := z0) (z1 := z1) (z2 := z2) (z3 := z3) (z4 := z4) (c1 := c1) (c2 := c2) h1 h2)
  clear h1 h2
  have HV := Lib.hid h
  clear h
  go_enter Try.func30, Try.ntmps30
  unfold spC
  go_wp2_with fail
  refine (good_no A1 n1 c1 X1 A2 n2 c2 X2 _ hn1 hn2 S0.out.low S0.out.high HV.out).mono ?_; rintro e w1 ⟨rfl, hb⟩
  have S1 := Lib.hid (S0.out.step hb)
  clear hb S0
  go_wp2_with fail
  go_ret2
  exact ⟨rfl, S1.out.below⟩

set_option maxRecDepth 100000 in
set_option maxHeartbeats 1000000 in
theorem impl_SparseAt_inv (x : Int) (hn1 : n1 ≤ 1048576) (hn2 : n2 ≤ 1048576) (h1 : IRow w A1 n1 X1) (h2 : IRow w A2 n2 X2) (h : ¬ SpV z0 z1 z2 z3 n1 X1 z4 n2 X2) :
    Calls Try.prog 31 #[.agg (spC z0 z1 z2 z3 A1 n1 c1 z4 A2 n2 c2), .int .i64 x] w fun e w' => e = .returned (.tuple #[.int .i64 0, .bool false]) ∧ Below w.heap.size w w' := by
  have S0 := Lib.hid (SL.start (z0 := z0) (z1 := z1) (z2 := z2) (z3 := z3) (z4 := z4) (c1 := c1) (c2 := c2) h1 h2)
  clear h1 h2
  have HV := Lib.hid h
  clear h
  go_enter Try.func31, Try.ntmps31
  unfold spC
  go_wp2_with fail
  refine (impl_sparseList A1 n1 c1 X1 A2 n2 c2 X2 _ z0 z1 z2 z3 z4 hn1 hn2 S0.out.low S0.out.high).mono ?_; rintro e w1 ha
  obtain ⟨rfl, hb⟩ := ha.not (h := HV.out)
  have S1 := Lib.hid (S0.out.step hb)
  clear hb S0 ha
  go_wp2_with fail
  go_ret2
  exact ⟨rfl, S1.out.below⟩

set_option maxRecDepth 100000 in
set_option maxHeartbeats 1000000 in
theorem spec_CountBelow_inv (x : Int) (hn1 : n1 ≤ 1048576) (hn2 : n2 ≤ 1048576) (h1 : IRow w A1 n1 X1) (h2 : IRow w A2 n2 X2) (h : ¬ SpV z0 z1 z2 z3 n1 X1 z4 n2 X2) :
    Calls Try.prog 35 #[.agg (spC z0 z1 z2 z3 A1 n1 c1 z4 A2 n2 c2), .int .i64 x] w fun e w' => e = .returned (.tuple #[.int .i64 0, .bool false]) ∧ Below w.heap.size w w' := by
  have S0 := Lib.hid (SL.start (z0 := z0) (z1 := z1) (z2 := z2) (z3 := z3) (z4 := z4) (c1 := c1) (c2 := c2) h1 h2)
  clear h1 h2
  have HV := Lib.hid h
  clear h
  go_enter Try.func35, Try.ntmps35
  unfold spC
  go_wp2_with fail
  refine (good_no A1 n1 c1 X1 A2 n2 c2 X2 _ hn1 hn2 S0.out.low S0.out.high HV.out).mono ?_; rintro e w1 ⟨rfl, hb⟩
  have S1 := Lib.hid (S0.out.step hb)
  clear hb S0
  go_wp2_with fail
  go_ret2
  exact ⟨rfl, S1.out.below⟩

set_option maxRecDepth 100000 in
set_option maxHeartbeats 1000000 in
theorem impl_CountBelow_inv (x : Int) (hn1 : n1 ≤ 1048576) (hn2 : n2 ≤ 1048576) (h1 : IRow w A1 n1 X1) (h2 : IRow w A2 n2 X2) (h : ¬ SpV z0 z1 z2 z3 n1 X1 z4 n2 X2) :
    Calls Try.prog 36 #[.agg (spC z0 z1 z2 z3 A1 n1 c1 z4 A2 n2 c2), .int .i64 x] w fun e w' => e = .returned (.tuple #[.int .i64 0, .bool false]) ∧ Below w.heap.size w w' := by
  have S0 := Lib.hid (SL.start (z0 := z0) (z1 := z1) (z2 := z2) (z3 := z3) (z4 := z4) (c1 := c1) (c2 := c2) h1 h2)
  clear h1 h2
  have HV := Lib.hid h
  clear h
  go_enter Try.func36, Try.ntmps36
  unfold spC
  go_wp2_with fail
  refine (impl_sparseList A1 n1 c1 X1 A2 n2 c2 X2 _ z0 z1 z2 z3 z4 hn1 hn2 S0.out.low S0.out.high).mono ?_; rintro e w1 ha
  obtain ⟨rfl, hb⟩ := ha.not (h := HV.out)
  have S1 := Lib.hid (S0.out.step hb)
  clear hb S0 ha
  go_wp2_with fail
  go_ret2
  exact ⟨rfl, S1.out.below⟩

set_option maxRecDepth 100000 in
set_option maxHeartbeats 1000000 in
theorem spec_SparseAt_yes (i : Nat) (hn1 : n1 ≤ 1048576) (hn2 : n2 ≤ 1048576) (h1 : IRow w A1 n1 X1) (h2 : IRow w A2 n2 X2) (h : SpIs z0 z1 z2 z3 n1 X1 z4 n2 X2 c L v f) (hi : i < c) :
    Calls Try.prog 30 #[.agg (spC z0 z1 z2 z3 A1 n1 c1 z4 A2 n2 c2), .int .i64 i] w fun e w' => e = .returned (.tuple #[.int .i64 (f i : Nat), .bool true]) ∧ Below w.heap.size w w' := by
  have S0 := Lib.hid (SL.start (z0 := z0) (z1 := z1) (z2 := z2) (z3 := z3) (z4 := z4) (c1 := c1) (c2 := c2) h1 h2)
  clear h1 h2
  have HI := Lib.hid h
  have HV := Lib.hid (show SpV z0 z1 z2 z3 n1 X1 z4 n2 X2 from ⟨c, L, v, f, h⟩)
  have lm := SpV.lim n1 X1 n2 X2 HV.out
  have hc := h.num.hc
  have hL := h.num.hL
  have e0 := h.ec
  have e1 := h.eL
  obtain ⟨l1, l2, l3, l4⟩ := lm
  subst e0 e1
  clear h
  go_enter Try.func30, Try.ntmps30
  unfold spC
  go_wp2_with fail
  refine (good_yes A1 n1 c1 X1 A2 n2 c2 X2 _ hn1 hn2 S0.out.low S0.out.high HV.out).mono ?_; rintro e w1 ⟨rfl, hb⟩
  have S1 := Lib.hid (S0.out.step hb)
  clear hb S0
  obtain ⟨q0, q1, q2, q3, q4, q5, q6⟩ := S1.out.cells
  go_wp2_with fail
  refine (l1In_yes _ _ _ _ (by omega) (by omega)).mono ?_; rintro e w' ⟨rfl, rfl⟩
  go_wp2_with fail
  refine (spList_valid A1 n1 c1 X1 A2 n2 c2 X2 _ c L z2 z3 z4 c L v f hn1 hn2 S1.out.low S1.out.high HI.out).mono ?_; rintro e w2 ⟨A, k, rfl, ho, hb⟩
  have S2 := Lib.hid (S1.out.step hb)
  obtain ⟨b, off, rfl, hbl, hcl⟩ := (show IRow w2 A c (numI f) from ho.rd.row (Nat.le_refl _)) (by omega)
  have hx := hcl i hi
  unfold numI at hx
  clear hb ho hcl q0 q1 q2 q3 q4 q5 q6
  go_wp2_with fail
  go_ret2
  exact ⟨rfl, S2.out.below⟩

set_option maxRecDepth 100000 in
set_option maxHeartbeats 1000000 in
theorem spec_SparseAt_out (x : Int) (hn1 : n1 ≤ 1048576) (hn2 : n2 ≤ 1048576) (h1 : IRow w A1 n1 X1) (h2 : IRow w A2 n2 X2) (h : SpIs z0 z1 z2 z3 n1 X1 z4 n2 X2 c L v f) (hx : ¬ (0 ≤ x ∧ x < c)) :
    Calls Try.prog 30 #[.agg (spC z0 z1 z2 z3 A1 n1 c1 z4 A2 n2 c2), .int .i64 x] w fun e w' => e = .returned (.tuple #[.int .i64 0, .bool false]) ∧ Below w.heap.size w w' := by
  have S0 := Lib.hid (SL.start (z0 := z0) (z1 := z1) (z2 := z2) (z3 := z3) (z4 := z4) (c1 := c1) (c2 := c2) h1 h2)
  clear h1 h2
  have HX := Lib.hid (show ¬ (0 ≤ x ∧ x ≤ (c : Int) - 1) by omega)
  clear hx
  have HI := Lib.hid h
  have HV := Lib.hid (show SpV z0 z1 z2 z3 n1 X1 z4 n2 X2 from ⟨c, L, v, f, h⟩)
  have lm := SpV.lim n1 X1 n2 X2 HV.out
  have hc := h.num.hc
  have hL := h.num.hL
  have e0 := h.ec
  have e1 := h.eL
  obtain ⟨l1, l2, l3, l4⟩ := lm
  subst e0 e1
  clear h
  go_enter Try.func30, Try.ntmps30
  unfold spC
  go_wp2_with fail
  refine (good_yes A1 n1 c1 X1 A2 n2 c2 X2 _ hn1 hn2 S0.out.low S0.out.high HV.out).mono ?_; rintro e w1 ⟨rfl, hb⟩
  have S1 := Lib.hid (S0.out.step hb)
  clear hb S0
  obtain ⟨q0, q1, q2, q3, q4, q5, q6⟩ := S1.out.cells
  go_wp2_with fail
  refine (l1In_no _ _ _ _ HX.out).mono ?_; rintro e w' ⟨rfl, rfl⟩
  go_wp2_with fail
  go_ret2
  exact ⟨rfl, S1.out.below⟩

set_option maxRecDepth 100000 in
set_option maxHeartbeats 1000000 in
theorem impl_SparseAt_yes (i : Nat) (hn1 : n1 ≤ 1048576) (hn2 : n2 ≤ 1048576) (h1 : IRow w A1 n1 X1) (h2 : IRow w A2 n2 X2) (h : SpIs z0 z1 z2 z3 n1 X1 z4 n2 X2 c L v f) (hi : i < c) :
    Calls Try.prog 31 #[.agg (spC z0 z1 z2 z3 A1 n1 c1 z4 A2 n2 c2), .int .i64 i] w fun e w' => e = .returned (.tuple #[.int .i64 (f i : Nat), .bool true]) ∧ Below w.heap.size w w' := by
  have S0 := Lib.hid (SL.start (z0 := z0) (z1 := z1) (z2 := z2) (z3 := z3) (z4 := z4) (c1 := c1) (c2 := c2) h1 h2)
  clear h1 h2
  have HI := Lib.hid h
  have HV := Lib.hid (show SpV z0 z1 z2 z3 n1 X1 z4 n2 X2 from ⟨c, L, v, f, h⟩)
  have lm := SpV.lim n1 X1 n2 X2 HV.out
  have hc := h.num.hc
  have hL := h.num.hL
  have e0 := h.ec
  have e1 := h.eL
  obtain ⟨l1, l2, l3, l4⟩ := lm
  subst e0 e1
  clear h
  go_enter Try.func31, Try.ntmps31
  unfold spC
  go_wp2_with fail
  refine (impl_sparseList A1 n1 c1 X1 A2 n2 c2 X2 _ c L z2 z3 z4 hn1 hn2 S0.out.low S0.out.high).mono ?_; rintro e w1 ha
  obtain ⟨A, k, rfl, ho, hk, hb⟩ := ha.yes (h := HI.out)
  have S1 := Lib.hid (S0.out.step hb)
  have HR := Lib.hid (show IRow w1 A c (numI f) from ho.rd.row (Nat.le_refl _))
  clear hb S0 ha ho
  obtain ⟨q0, q1, q2, q3, q4, q5, q6⟩ := S1.out.cells
  obtain ⟨b, off, rfl, hbl, hcl⟩ := HR.out (by omega)
  have hx := hcl i hi
  unfold numI at hx
  have d1 : decide ((c : Int) ≤ (i : Int)) = false := by simp; omega
  have d0 : decide ((i : Int) < 0) = false := by simp
  clear hcl
  go_wp2_with fail
  go_ret2
  exact ⟨rfl, S1.out.below⟩

set_option maxRecDepth 100000 in
set_option maxHeartbeats 1000000 in
theorem impl_SparseAt_out (x : Int) (hn1 : n1 ≤ 1048576) (hn2 : n2 ≤ 1048576) (h1 : IRow w A1 n1 X1) (h2 : IRow w A2 n2 X2) (h : SpIs z0 z1 z2 z3 n1 X1 z4 n2 X2 c L v f) (hx : ¬ (0 ≤ x ∧ x < c)) :
    Calls Try.prog 31 #[.agg (spC z0 z1 z2 z3 A1 n1 c1 z4 A2 n2 c2), .int .i64 x] w fun e w' => e = .returned (.tuple #[.int .i64 0, .bool false]) ∧ Below w.heap.size w w' := by
  have S0 := Lib.hid (SL.start (z0 := z0) (z1 := z1) (z2 := z2) (z3 := z3) (z4 := z4) (c1 := c1) (c2 := c2) h1 h2)
  clear h1 h2
  have HI := Lib.hid h
  have HV := Lib.hid (show SpV z0 z1 z2 z3 n1 X1 z4 n2 X2 from ⟨c, L, v, f, h⟩)
  have lm := SpV.lim n1 X1 n2 X2 HV.out
  have hc := h.num.hc
  have hL := h.num.hL
  have e0 := h.ec
  have e1 := h.eL
  obtain ⟨l1, l2, l3, l4⟩ := lm
  subst e0 e1
  clear h
  by_cases hx0 : x < 0
  · have d0 : decide (x < 0) = true := by simpa using hx0
    clear hx
    go_enter Try.func31, Try.ntmps31
    unfold spC
    go_wp2_with fail
    refine (impl_sparseList A1 n1 c1 X1 A2 n2 c2 X2 _ c L z2 z3 z4 hn1 hn2 S0.out.low S0.out.high).mono ?_; rintro e w1 ha
    obtain ⟨A, k, rfl, ho, hk, hb⟩ := ha.yes (h := HI.out)
    have S1 := Lib.hid (S0.out.step hb)
    have HR := Lib.hid (show IRow w1 A c (numI f) from ho.rd.row (Nat.le_refl _))
    clear hb S0 ha ho
    obtain ⟨q0, q1, q2, q3, q4, q5, q6⟩ := S1.out.cells
    go_wp2_with fail
    go_ret2
    exact ⟨rfl, S1.out.below⟩
  · have d0 : decide (x < 0) = false := by simpa using hx0
    have d1 : decide ((c : Int) ≤ x) = true := by simp; omega
    clear hx
    go_enter Try.func31, Try.ntmps31
    unfold spC
    go_wp2_with fail
    refine (impl_sparseList A1 n1 c1 X1 A2 n2 c2 X2 _ c L z2 z3 z4 hn1 hn2 S0.out.low S0.out.high).mono ?_; rintro e w1 ha
    obtain ⟨A, k, rfl, ho, hk, hb⟩ := ha.yes (h := HI.out)
    have S1 := Lib.hid (S0.out.step hb)
    have HR := Lib.hid (show IRow w1 A c (numI f) from ho.rd.row (Nat.le_refl _))
    clear hb S0 ha ho
    obtain ⟨q0, q1, q2, q3, q4, q5, q6⟩ := S1.out.cells
    go_wp2_with fail
    go_ret2
    exact ⟨rfl, S1.out.below⟩

set_option maxRecDepth 100000 in
set_option maxHeartbeats 1000000 in
theorem spec_CountBelow_yes (x : Int) (hn1 : n1 ≤ 1048576) (hn2 : n2 ≤ 1048576) (h1 : IRow w A1 n1 X1) (h2 : IRow w A2 n2 X2) (h : SpIs z0 z1 z2 z3 n1 X1 z4 n2 X2 c L v f) (x0 : 0 ≤ x) (x1 : x ≤ L) :
    Calls Try.prog 35 #[.agg (spC z0 z1 z2 z3 A1 n1 c1 z4 A2 n2 c2), .int .i64 x] w fun e w' => e = .returned (.tuple #[.int .i64 (ltN (numI f) x c : Nat), .bool true]) ∧ Below w.heap.size w w' := by
  have S0 := Lib.hid (SL.start (z0 := z0) (z1 := z1) (z2 := z2) (z3 := z3) (z4 := z4) (c1 := c1) (c2 := c2) h1 h2)
  clear h1 h2
  have HI := Lib.hid h
  have HV := Lib.hid (show SpV z0 z1 z2 z3 n1 X1 z4 n2 X2 from ⟨c, L, v, f, h⟩)
  have lm := SpV.lim n1 X1 n2 X2 HV.out
  have hc := h.num.hc
  have hL := h.num.hL
  have e0 := h.ec
  have e1 := h.eL
  obtain ⟨l1, l2, l3, l4⟩ := lm
  subst e0 e1
  clear h
  go_enter Try.func35, Try.ntmps35
  unfold spC
  go_wp2_with fail
  refine (good_yes A1 n1 c1 X1 A2 n2 c2 X2 _ hn1 hn2 S0.out.low S0.out.high HV.out).mono ?_; rintro e w1 ⟨rfl, hb⟩
  have S1 := Lib.hid (S0.out.step hb)
  clear hb S0
  obtain ⟨q0, q1, q2, q3, q4, q5, q6⟩ := S1.out.cells
  go_wp2_with fail
  refine (l1In_yes _ _ _ _ (by omega) (by omega)).mono ?_; rintro e w' ⟨rfl, rfl⟩
  go_wp2_with fail
  refine (spec_spBelow A1 n1 c1 X1 A2 n2 c2 X2 _ x hn1 hn2 S1.out.low S1.out.high HI.out).mono ?_; rintro e w2 ⟨rfl, hb⟩
  have S2 := Lib.hid (S1.out.step hb)
  clear hb q0 q1 q2 q3 q4 q5 q6
  go_wp2_with fail
  go_ret2
  exact ⟨rfl, S2.out.below⟩

set_option maxRecDepth 100000 in
set_option maxHeartbeats 1000000 in
theorem spec_CountBelow_out (x : Int) (hn1 : n1 ≤ 1048576) (hn2 : n2 ≤ 1048576) (h1 : IRow w A1 n1 X1) (h2 : IRow w A2 n2 X2) (h : SpIs z0 z1 z2 z3 n1 X1 z4 n2 X2 c L v f) (hx : ¬ (0 ≤ x ∧ x ≤ L)) :
    Calls Try.prog 35 #[.agg (spC z0 z1 z2 z3 A1 n1 c1 z4 A2 n2 c2), .int .i64 x] w fun e w' => e = .returned (.tuple #[.int .i64 0, .bool false]) ∧ Below w.heap.size w w' := by
  have S0 := Lib.hid (SL.start (z0 := z0) (z1 := z1) (z2 := z2) (z3 := z3) (z4 := z4) (c1 := c1) (c2 := c2) h1 h2)
  clear h1 h2
  have HX := Lib.hid hx
  clear hx
  have HI := Lib.hid h
  have HV := Lib.hid (show SpV z0 z1 z2 z3 n1 X1 z4 n2 X2 from ⟨c, L, v, f, h⟩)
  have lm := SpV.lim n1 X1 n2 X2 HV.out
  have hc := h.num.hc
  have hL := h.num.hL
  have e0 := h.ec
  have e1 := h.eL
  obtain ⟨l1, l2, l3, l4⟩ := lm
  subst e0 e1
  clear h
  go_enter Try.func35, Try.ntmps35
  unfold spC
  go_wp2_with fail
  refine (good_yes A1 n1 c1 X1 A2 n2 c2 X2 _ hn1 hn2 S0.out.low S0.out.high HV.out).mono ?_; rintro e w1 ⟨rfl, hb⟩
  have S1 := Lib.hid (S0.out.step hb)
  clear hb S0
  obtain ⟨q0, q1, q2, q3, q4, q5, q6⟩ := S1.out.cells
  go_wp2_with fail
  refine (l1In_no _ _ _ _ HX.out).mono ?_; rintro e w' ⟨rfl, rfl⟩
  go_wp2_with fail
  go_ret2
  exact ⟨rfl, S1.out.below⟩

set_option maxRecDepth 100000 in
set_option maxHeartbeats 1000000 in
theorem impl_CountBelow_yes (x : Int) (hn1 : n1 ≤ 1048576) (hn2 : n2 ≤ 1048576) (h1 : IRow w A1 n1 X1) (h2 : IRow w A2 n2 X2) (h : SpIs z0 z1 z2 z3 n1 X1 z4 n2 X2 c L v f) (x0 : 0 ≤ x) (x1 : x ≤ L) :
    Calls Try.prog 36 #[.agg (spC z0 z1 z2 z3 A1 n1 c1 z4 A2 n2 c2), .int .i64 x] w fun e w' => e = .returned (.tuple #[.int .i64 (ltN (numI f) x c : Nat), .bool true]) ∧ Below w.heap.size w w' := by
  have S0 := Lib.hid (SL.start (z0 := z0) (z1 := z1) (z2 := z2) (z3 := z3) (z4 := z4) (c1 := c1) (c2 := c2) h1 h2)
  clear h1 h2
  have HI := Lib.hid h
  have HV := Lib.hid (show SpV z0 z1 z2 z3 n1 X1 z4 n2 X2 from ⟨c, L, v, f, h⟩)
  have lm := SpV.lim n1 X1 n2 X2 HV.out
  have hc := h.num.hc
  have hL := h.num.hL
  have e0 := h.ec
  have e1 := h.eL
  obtain ⟨l1, l2, l3, l4⟩ := lm
  subst e0 e1
  clear h
  have d0 : decide (x < 0) = false := by simp; omega
  have d1 : decide ((L : Int) < x) = false := by simp; omega
  go_enter Try.func36, Try.ntmps36
  unfold spC
  go_wp2_with fail
  refine (impl_sparseList A1 n1 c1 X1 A2 n2 c2 X2 _ c L z2 z3 z4 hn1 hn2 S0.out.low S0.out.high).mono ?_; rintro e w1 ha
  obtain ⟨A, k, rfl, ho, hk, hb⟩ := ha.yes (h := HI.out)
  have S1 := Lib.hid (S0.out.step hb)
  have HR := Lib.hid (show IRow w1 A c (numI f) from ho.rd.row (Nat.le_refl _))
  clear hb S0 ha ho
  obtain ⟨q0, q1, q2, q3, q4, q5, q6⟩ := S1.out.cells
  go_wp2_with fail
  refine (bin_search A c k (numI f) x _ (by omega) HR.out HI.out.num.srt).mono ?_; rintro e w' ⟨b, rfl, hbb, rfl⟩
  clear hbb
  go_wp2_with fail
  go_ret2
  exact ⟨rfl, S1.out.below⟩

set_option maxRecDepth 100000 in
set_option maxHeartbeats 1000000 in
theorem impl_CountBelow_out (x : Int) (hn1 : n1 ≤ 1048576) (hn2 : n2 ≤ 1048576) (h1 : IRow w A1 n1 X1) (h2 : IRow w A2 n2 X2) (h : SpIs z0 z1 z2 z3 n1 X1 z4 n2 X2 c L v f) (hx : ¬ (0 ≤ x ∧ x ≤ L)) :
    Calls Try.prog 36 #[.agg (spC z0 z1 z2 z3 A1 n1 c1 z4 A2 n2 c2), .int .i64 x] w fun e w' => e = .returned (.tuple #[.int .i64 0, .bool false]) ∧ Below w.heap.size w w' := by
  have S0 := Lib.hid (SL.start (z0 := z0) (z1 := z1) (z2 := z2) (z3 := z3) (z4 := z4) (c1 := c1) (c2 := c2) h1 h2)
  clear h1 h2
  have HI := Lib.hid h
  have HV := Lib.hid (show SpV z0 z1 z2 z3 n1 X1 z4 n2 X2 from ⟨c, L, v, f, h⟩)
  have lm := SpV.lim n1 X1 n2 X2 HV.out
  have hc := h.num.hc
  have hL := h.num.hL
  have e0 := h.ec
  have e1 := h.eL
  obtain ⟨l1, l2, l3, l4⟩ := lm
  subst e0 e1
  clear h
  by_cases hx0 : x < 0
  · have d0 : decide (x < 0) = true := by simpa using hx0
    clear hx
    go_enter Try.func36, Try.ntmps36
    unfold spC
    go_wp2_with fail
    refine (impl_sparseList A1 n1 c1 X1 A2 n2 c2 X2 _ c L z2 z3 z4 hn1 hn2 S0.out.low S0.out.high).mono ?_; rintro e w1 ha
    obtain ⟨A, k, rfl, ho, hk, hb⟩ := ha.yes (h := HI.out)
    have S1 := Lib.hid (S0.out.step hb)
    have HR := Lib.hid (show IRow w1 A c (numI f) from ho.rd.row (Nat.le_refl _))
    clear hb S0 ha ho
    obtain ⟨q0, q1, q2, q3, q4, q5, q6⟩ := S1.out.cells
    go_wp2_with fail
    go_ret2
    exact ⟨rfl, S1.out.below⟩
  · have d0 : decide (x < 0) = false := by simpa using hx0
    have d1 : decide ((L : Int) < x) = true := by simp; omega
    clear hx
    go_enter Try.func36, Try.ntmps36
    unfold spC
    go_wp2_with fail
    refine (impl_sparseList A1 n1 c1 X1 A2 n2 c2 X2 _ c L z2 z3 z4 hn1 hn2 S0.out.low S0.out.high).mono ?_; rintro e w1 ha
    obtain ⟨A, k, rfl, ho, hk, hb⟩ := ha.yes (h := HI.out)
    have S1 := Lib.hid (S0.out.step hb)
    have HR := Lib.hid (show IRow w1 A c (numI f) from ho.rd.row (Nat.le_refl _))
    clear hb S0 ha ho
    obtain ⟨q0, q1, q2, q3, q4, q5, q6⟩ := S1.out.cells
    go_wp2_with fail
    go_ret2
    exact ⟨rfl, S1.out.below⟩

end
end Go.Proofs.Ytdkkflejpcgipaa
