/- Questions to a Sparse: what each answers, both ways. -/
import Derived.Test.YtdkkflejpcgipaaAskT
import Derived.Test.YtdkkflejpcgipaaQuietC
namespace Go.Proofs.Ytdkkflejpcgipaa
open Go.RowKit

section
variable (A1 : Option Addr) (n1 c1 : Nat) (X1 : Nat → Int) (A2 : Option Addr) (n2 c2 : Nat) (X2 : Nat → Int) (w : World)
variable {z0 z1 z2 z3 z4 : Int} {c L v : Nat} {f : Nat → Nat}
set_option maxRecDepth 100000 in
set_option maxHeartbeats 1000000 in
theorem spec_LastAtMost_no1 (x : Int) (hn1 : n1 ≤ 1048576) (hn2 : n2 ≤ 1048576) (h1 : IRow w A1 n1 X1) (h2 : IRow w A2 n2 X2) (h : ¬ (SpV z0 z1 z2 z3 n1 X1 z4 n2 X2 ∧ 0 ≤ x ∧ x < z1)) :
    Calls Try.prog 37 #[.agg (spC z0 z1 z2 z3 A1 n1 c1 z4 A2 n2 c2), .int .i64 x] w fun e w' => e = .returned (.tuple #[.int .i64 0, .bool false]) ∧ Below w.heap.size w w' := by
  have S0 := Lib.hid (SL.start (z0 := z0) (z1 := z1) (z2 := z2) (z3 := z3) (z4 := z4) (c1 := c1) (c2 := c2) h1 h2)
  clear h1 h2
  have HF := Lib.hid h
  clear h
  go_enter Try.func37, Try.ntmps37
  unfold spC
  go_wp2_with fail
  refine ((BoolIs.two (spec_spAsked A1 n1 c1 X1 A2 n2 c2 X2 _ x hn1 hn2 S0.out.low S0.out.high)).2 HF.out).mono ?_; rintro e w1 ⟨rfl, hb⟩
  have S1 := Lib.hid (S0.out.step hb)
  clear hb S0
  go_wp2_with fail
  go_ret2
  exact ⟨rfl, S1.out.below⟩

set_option maxRecDepth 100000 in
set_option maxHeartbeats 1000000 in
theorem spec_LastAtMost_no2 (x : Int) (hn1 : n1 ≤ 1048576) (hn2 : n2 ≤ 1048576) (h1 : IRow w A1 n1 X1) (h2 : IRow w A2 n2 X2) (h : SpIs z0 z1 z2 z3 n1 X1 z4 n2 X2 c L v f) (x0 : 0 ≤ x) (x1 : x < L) (hz : ltN (numI f) (x + 1) c = 0) :
    Calls Try.prog 37 #[.agg (spC z0 z1 z2 z3 A1 n1 c1 z4 A2 n2 c2), .int .i64 x] w fun e w' => e = .returned (.tuple #[.int .i64 0, .bool false]) ∧ Below w.heap.size w w' := by
  have S0 := Lib.hid (SL.start (z0 := z0) (z1 := z1) (z2 := z2) (z3 := z3) (z4 := z4) (c1 := c1) (c2 := c2) h1 h2)
  clear h1 h2
  have HI := Lib.hid h
  have HV := Lib.hid (show SpV z0 z1 z2 z3 n1 X1 z4 n2 X2 from ⟨c, L, v, f, h⟩)
  have lm := SpV.lim n1 X1 n2 X2 HV.out
  have hc := h.num.hc
  have hL := h.num.hL
  have e0 := h.ec
  have e1 := h.eL
  obtain ⟨l1, l2, l3, l4⟩ := lm
  subst e0 e1
  clear h
  have t0 := ltN_le (numI f) (x + 1) c
  obtain ⟨t, ht⟩ : ∃ t, t = ltN (numI f) (x + 1) c := ⟨_, rfl⟩
  rw [← ht] at t0 hz
  try rw [← ht]
  have HT := Lib.hid ht
  clear ht
  have dz : ((t : Int) == 0) = true := by simp; omega
  clear hz
  go_enter Try.func37, Try.ntmps37
  unfold spC
  go_wp2_with fail
  refine ((BoolIs.two (spec_spAsked A1 n1 c1 X1 A2 n2 c2 X2 _ x hn1 hn2 S0.out.low S0.out.high)).1 ⟨HV.out, by omega, by omega⟩).mono ?_; rintro e w1 ⟨rfl, hb⟩
  have S1 := Lib.hid (S0.out.step hb)
  clear hb S0
  obtain ⟨q0, q1, q2, q3, q4, q5, q6⟩ := S1.out.cells
  go_wp2_with fail
  refine (spec_spBelow A1 n1 c1 X1 A2 n2 c2 X2 _ (x + 1) hn1 hn2 S1.out.low S1.out.high HI.out).mono ?_; rintro e w2 ⟨rfl, hb⟩
  have S2 := Lib.hid (S1.out.step hb)
  rw [← HT.out]
  clear hb S1 q0 q1 q2 q3 q4 q5 q6
  obtain ⟨q0, q1, q2, q3, q4, q5, q6⟩ := S2.out.cells
  go_wp2_with fail
  go_ret2
  exact ⟨rfl, S2.out.below⟩

set_option maxRecDepth 100000 in
set_option maxHeartbeats 1000000 in
theorem spec_LastAtMost_yes (x : Int) (hn1 : n1 ≤ 1048576) (hn2 : n2 ≤ 1048576) (h1 : IRow w A1 n1 X1) (h2 : IRow w A2 n2 X2) (h : SpIs z0 z1 z2 z3 n1 X1 z4 n2 X2 c L v f) (x0 : 0 ≤ x) (x1 : x < L) (hz : ltN (numI f) (x + 1) c ≠ 0) :
    Calls Try.prog 37 #[.agg (spC z0 z1 z2 z3 A1 n1 c1 z4 A2 n2 c2), .int .i64 x] w fun e w' => e = .returned (.tuple #[.int .i64 ((ltN (numI f) (x + 1) c : Nat) - 1), .bool true]) ∧ Below w.heap.size w w' := by
  have S0 := Lib.hid (SL.start (z0 := z0) (z1 := z1) (z2 := z2) (z3 := z3) (z4 := z4) (c1 := c1) (c2 := c2) h1 h2)
  clear h1 h2
  have HI := Lib.hid h
  have HV := Lib.hid (show SpV z0 z1 z2 z3 n1 X1 z4 n2 X2 from ⟨c, L, v, f, h⟩)
  have lm := SpV.lim n1 X1 n2 X2 HV.out
  have hc := h.num.hc
  have hL := h.num.hL
  have e0 := h.ec
  have e1 := h.eL
  obtain ⟨l1, l2, l3, l4⟩ := lm
  subst e0 e1
  clear h
  have t0 := ltN_le (numI f) (x + 1) c
  obtain ⟨t, ht⟩ : ∃ t, t = ltN (numI f) (x + 1) c := ⟨_, rfl⟩
  rw [← ht] at t0 hz
  try rw [← ht]
  have HT := Lib.hid ht
  clear ht
  have dz : ((t : Int) == 0) = false := by simp; omega
  go_enter Try.func37, Try.ntmps37
  unfold spC
  go_wp2_with fail
  refine ((BoolIs.two (spec_spAsked A1 n1 c1 X1 A2 n2 c2 X2 _ x hn1 hn2 S0.out.low S0.out.high)).1 ⟨HV.out, by omega, by omega⟩).mono ?_; rintro e w1 ⟨rfl, hb⟩
  have S1 := Lib.hid (S0.out.step hb)
  clear hb S0
  obtain ⟨q0, q1, q2, q3, q4, q5, q6⟩ := S1.out.cells
  go_wp2_with fail
  refine (spec_spBelow A1 n1 c1 X1 A2 n2 c2 X2 _ (x + 1) hn1 hn2 S1.out.low S1.out.high HI.out).mono ?_; rintro e w2 ⟨rfl, hb⟩
  have S2 := Lib.hid (S1.out.step hb)
  rw [← HT.out]
  clear hb S1 q0 q1 q2 q3 q4 q5 q6
  obtain ⟨q0, q1, q2, q3, q4, q5, q6⟩ := S2.out.cells
  go_wp2_with fail
  refine (spec_spBelow A1 n1 c1 X1 A2 n2 c2 X2 _ (x + 1) hn1 hn2 S2.out.low S2.out.high HI.out).mono ?_; rintro e w3 ⟨rfl, hb⟩
  have S3 := Lib.hid (S2.out.step hb)
  rw [← HT.out]
  clear hb S2 q0 q1 q2 q3 q4 q5 q6
  obtain ⟨q0, q1, q2, q3, q4, q5, q6⟩ := S3.out.cells
  go_wp2_with fail
  go_ret2
  exact ⟨rfl, S3.out.below⟩

set_option maxRecDepth 100000 in
set_option maxHeartbeats 1000000 in
theorem impl_LastAtMost_out (x : Int) (_hn1 : n1 ≤ 1048576) (_hn2 : n2 ≤ 1048576) (h1 : IRow w A1 n1 X1) (h2 : IRow w A2 n2 X2) (h : ¬ (0 ≤ x ∧ x < z1)) :
    Calls Try.prog 38 #[.agg (spC z0 z1 z2 z3 A1 n1 c1 z4 A2 n2 c2), .int .i64 x] w fun e w' => e = .returned (.tuple #[.int .i64 0, .bool false]) ∧ Below w.heap.size w w' := by
  have S0 := Lib.hid (SL.start (z0 := z0) (z1 := z1) (z2 := z2) (z3 := z3) (z4 := z4) (c1 := c1) (c2 := c2) h1 h2)
  clear h1 h2
  obtain ⟨q0, q1, q2, q3, q4, q5, q6⟩ := S0.out.cells
  by_cases hx : x < 0
  · have d0 : decide (x < 0) = true := by simpa using hx
    clear h
    go_enter Try.func38, Try.ntmps38
    unfold spC
    go_wp2_with fail
    go_ret2
    exact ⟨rfl, S0.out.below⟩
  · have d0 : decide (x < 0) = false := by simpa using hx
    have d1 : decide (z1 ≤ x) = true := by simp; omega
    clear h
    go_enter Try.func38, Try.ntmps38
    unfold spC
    go_wp2_with fail
    go_ret2
    exact ⟨rfl, S0.out.below⟩

set_option maxRecDepth 100000 in
set_option maxHeartbeats 1000000 in
theorem impl_LastAtMost_inv (x : Int) (hn1 : n1 ≤ 1048576) (hn2 : n2 ≤ 1048576) (h1 : IRow w A1 n1 X1) (h2 : IRow w A2 n2 X2) (h : ¬ SpV z0 z1 z2 z3 n1 X1 z4 n2 X2) (x0 : 0 ≤ x) (x1 : x < z1) :
    Calls Try.prog 38 #[.agg (spC z0 z1 z2 z3 A1 n1 c1 z4 A2 n2 c2), .int .i64 x] w fun e w' => e = .returned (.tuple #[.int .i64 0, .bool false]) ∧ Below w.heap.size w w' := by
  have S0 := Lib.hid (SL.start (z0 := z0) (z1 := z1) (z2 := z2) (z3 := z3) (z4 := z4) (c1 := c1) (c2 := c2) h1 h2)
  clear h1 h2
  have HV := Lib.hid h
  clear h
  have d0 : decide (x < 0) = false := by simp; omega
  have d1 : decide (z1 ≤ x) = false := by simp; omega
  obtain ⟨q0, q1, q2, q3, q4, q5, q6⟩ := S0.out.cells
  go_enter Try.func38, Try.ntmps38
  unfold spC
  go_wp2_with fail
  refine (impl_CountBelow_inv A1 n1 c1 X1 A2 n2 c2 X2 _ _ hn1 hn2 S0.out.low S0.out.high HV.out).mono ?_; rintro e w1 ⟨rfl, hb⟩
  have S1 := Lib.hid (S0.out.step hb)
  clear hb q0 q1 q2 q3 q4 q5 q6
  go_wp2_with fail
  go_ret2
  exact ⟨rfl, S1.out.below⟩

set_option maxRecDepth 100000 in
set_option maxHeartbeats 1000000 in
theorem impl_LastAtMost_zero (x : Int) (hn1 : n1 ≤ 1048576) (hn2 : n2 ≤ 1048576) (h1 : IRow w A1 n1 X1) (h2 : IRow w A2 n2 X2) (h : SpIs z0 z1 z2 z3 n1 X1 z4 n2 X2 c L v f) (x0 : 0 ≤ x) (x1 : x < L) (hz : ltN (numI f) (x + 1) c = 0) :
    Calls Try.prog 38 #[.agg (spC z0 z1 z2 z3 A1 n1 c1 z4 A2 n2 c2), .int .i64 x] w fun e w' => e = .returned (.tuple #[.int .i64 0, .bool false]) ∧ Below w.heap.size w w' := by
  have S0 := Lib.hid (SL.start (z0 := z0) (z1 := z1) (z2 := z2) (z3 := z3) (z4 := z4) (c1 := c1) (c2 := c2) h1 h2)
  clear h1 h2
  have HI := Lib.hid h
  have HV := Lib.hid (show SpV z0 z1 z2 z3 n1 X1 z4 n2 X2 from ⟨c, L, v, f, h⟩)
  have lm := SpV.lim n1 X1 n2 X2 HV.out
  have hc := h.num.hc
  have hL := h.num.hL
  have e0 := h.ec
  have e1 := h.eL
  obtain ⟨l1, l2, l3, l4⟩ := lm
  subst e0 e1
  clear h
  have t0 := ltN_le (numI f) (x + 1) c
  obtain ⟨t, ht⟩ : ∃ t, t = ltN (numI f) (x + 1) c := ⟨_, rfl⟩
  rw [← ht] at t0 hz
  try rw [← ht]
  have HT := Lib.hid ht
  clear ht
  have dz : ((t : Int) == 0) = true := by simp; omega
  clear hz
  have d0 : decide (x < 0) = false := by simp; omega
  have d1 : decide ((L : Int) ≤ x) = false := by simp; omega
  obtain ⟨q0, q1, q2, q3, q4, q5, q6⟩ := S0.out.cells
  go_enter Try.func38, Try.ntmps38
  unfold spC
  go_wp2_with fail
  refine (impl_CountBelow_yes A1 n1 c1 X1 A2 n2 c2 X2 _ (x + 1) hn1 hn2 S0.out.low S0.out.high HI.out (by omega) (by omega)).mono ?_; rintro e w1 ⟨rfl, hb⟩
  have S1 := Lib.hid (S0.out.step hb)
  rw [← HT.out]
  clear hb q0 q1 q2 q3 q4 q5 q6
  go_wp2_with fail
  go_ret2
  exact ⟨rfl, S1.out.below⟩

set_option maxRecDepth 100000 in
set_option maxHeartbeats 1000000 in
theorem impl_LastAtMost_yes (x : Int) (hn1 : n1 ≤ 1048576) (hn2 : n2 ≤ 1048576) (h1 : IRow w A1 n1 X1) (h2 : IRow w A2 n2 X2) (h : SpIs z0 z1 z2 z3 n1 X1 z4 n2 X2 c L v f) (x0 : 0 ≤ x) (x1 : x < L) (hz : ltN (numI f) (x + 1) c ≠ 0) :
    Calls Try.prog 38 #[.agg (spC z0 z1 z2 z3 A1 n1 c1 z4 A2 n2 c2), .int .i64 x] w fun e w' => e = .returned (.tuple #[.int .i64 ((ltN (numI f) (x + 1) c : Nat) - 1), .bool true]) ∧ Below w.heap.size w w' := by
  have S0 := Lib.hid (SL.start (z0 := z0) (z1 := z1) (z2 := z2) (z3 := z3) (z4 := z4) (c1 := c1) (c2 := c2) h1 h2)
  clear h1 h2
  have HI := Lib.hid h
  have HV := Lib.hid (show SpV z0 z1 z2 z3 n1 X1 z4 n2 X2 from ⟨c, L, v, f, h⟩)
  have lm := SpV.lim n1 X1 n2 X2 HV.out
  have hc := h.num.hc
  have hL := h.num.hL
  have e0 := h.ec
  have e1 := h.eL
  obtain ⟨l1, l2, l3, l4⟩ := lm
  subst e0 e1
  clear h
  have t0 := ltN_le (numI f) (x + 1) c
  obtain ⟨t, ht⟩ : ∃ t, t = ltN (numI f) (x + 1) c := ⟨_, rfl⟩
  rw [← ht] at t0 hz
  try rw [← ht]
  have HT := Lib.hid ht
  clear ht
  have dz : ((t : Int) == 0) = false := by simp; omega
  have d0 : decide (x < 0) = false := by simp; omega
  have d1 : decide ((L : Int) ≤ x) = false := by simp; omega
  obtain ⟨q0, q1, q2, q3, q4, q5, q6⟩ := S0.out.cells
  go_enter Try.func38, Try.ntmps38
  unfold spC
  go_wp2_with fail
  refine (impl_CountBelow_yes A1 n1 c1 X1 A2 n2 c2 X2 _ (x + 1) hn1 hn2 S0.out.low S0.out.high HI.out (by omega) (by omega)).mono ?_; rintro e w1 ⟨rfl, hb⟩
  have S1 := Lib.hid (S0.out.step hb)
  rw [← HT.out]
  clear hb q0 q1 q2 q3 q4 q5 q6
  go_wp2_with fail
  go_ret2
  exact ⟨rfl, S1.out.below⟩

set_option maxRecDepth 100000 in
set_option maxHeartbeats 1000000 in
theorem spec_FirstAtLeast_no1 (x : Int) (hn1 : n1 ≤ 1048576) (hn2 : n2 ≤ 1048576) (h1 : IRow w A1 n1 X1) (h2 : IRow w A2 n2 X2) (h : ¬ (SpV z0 z1 z2 z3 n1 X1 z4 n2 X2 ∧ 0 ≤ x ∧ x < z1)) :
    Calls Try.prog 39 #[.agg (spC z0 z1 z2 z3 A1 n1 c1 z4 A2 n2 c2), .int .i64 x] w fun e w' => e = .returned (.tuple #[.int .i64 0, .bool false]) ∧ Below w.heap.size w w' := by
  have S0 := Lib.hid (SL.start (z0 := z0) (z1 := z1) (z2 := z2) (z3 := z3) (z4 := z4) (c1 := c1) (c2 := c2) h1 h2)
  clear h1 h2
  have HF := Lib.hid h
  clear h
  go_enter Try.func39, Try.ntmps39
  unfold spC
  go_upto_region 1 with fail
  have k0 := fun u : InC (SL w z0 z1 z2 z3 A1 n1 c1 X1 z4 A2 n2 c2 X2) => u.ok.cells.1
  have k1 := fun u : InC (SL w z0 z1 z2 z3 A1 n1 c1 X1 z4 A2 n2 c2 X2) => u.ok.cells.2.1
  have k2 := fun u : InC (SL w z0 z1 z2 z3 A1 n1 c1 X1 z4 A2 n2 c2 X2) => u.ok.cells.2.2.1
  have k3 := fun u : InC (SL w z0 z1 z2 z3 A1 n1 c1 X1 z4 A2 n2 c2 X2) => u.ok.cells.2.2.2.1
  have k4 := fun u : InC (SL w z0 z1 z2 z3 A1 n1 c1 X1 z4 A2 n2 c2 X2) => u.ok.cells.2.2.2.2.1
  have k5 := fun u : InC (SL w z0 z1 z2 z3 A1 n1 c1 X1 z4 A2 n2 c2 X2) => u.ok.cells.2.2.2.2.2.1
  have k6 := fun u : InC (SL w z0 z1 z2 z3 A1 n1 c1 X1 z4 A2 n2 c2 X2) => u.ok.cells.2.2.2.2.2.2
  haveI : Nonempty (InC (SL w z0 z1 z2 z3 A1 n1 c1 X1 z4 A2 n2 c2 X2)) := ⟨⟨_, S0.out⟩⟩
  refine wp_region_class (SL w z0 z1 z2 z3 A1 n1 c1 X1 z4 A2 n2 c2 X2) (by kernel_rfl) (by kernel_rfl) S0.out.drew ?_
  repeat (go_big_quiet_step ((first
    | (go_at_call 71; exact call_class ((BoolIs.two (spec_spAsked A1 n1 c1 X1 A2 n2 c2 X2 _ x hn1 hn2 (SL.low (InC.ok _)) (SL.high (InC.ok _)))).2 HF.out) (fun _ hb => SL.step (InC.ok _) hb)))))
  refine wpQuiet_nil ?_
  rintro _ ⟨u, rfl⟩
  clear k0 k1 k2 k3 k4 k5 k6
  go_wp2_with fail
  go_ret2
  exact ⟨rfl, u.ok.below⟩

set_option maxRecDepth 100000 in
set_option maxHeartbeats 1000000 in
theorem spec_FirstAtLeast_no2 (x : Int) (hn1 : n1 ≤ 1048576) (hn2 : n2 ≤ 1048576) (h1 : IRow w A1 n1 X1) (h2 : IRow w A2 n2 X2) (h : SpIs z0 z1 z2 z3 n1 X1 z4 n2 X2 c L v f) (x0 : 0 ≤ x) (x1 : x < L) (hz : ltN (numI f) x c = c) :
    Calls Try.prog 39 #[.agg (spC z0 z1 z2 z3 A1 n1 c1 z4 A2 n2 c2), .int .i64 x] w fun e w' => e = .returned (.tuple #[.int .i64 0, .bool false]) ∧ Below w.heap.size w w' := by
  have S0 := Lib.hid (SL.start (z0 := z0) (z1 := z1) (z2 := z2) (z3 := z3) (z4 := z4) (c1 := c1) (c2 := c2) h1 h2)
  clear h1 h2
  have HI := Lib.hid h
  have HV := Lib.hid (show SpV z0 z1 z2 z3 n1 X1 z4 n2 X2 from ⟨c, L, v, f, h⟩)
  have lm := SpV.lim n1 X1 n2 X2 HV.out
  have hc := h.num.hc
  have hL := h.num.hL
  have e0 := h.ec
  have e1 := h.eL
  obtain ⟨l1, l2, l3, l4⟩ := lm
  subst e0 e1
  clear h
  have t0 := ltN_le (numI f) x c
  obtain ⟨t, ht⟩ : ∃ t, t = ltN (numI f) x c := ⟨_, rfl⟩
  rw [← ht] at t0 hz
  try rw [← ht]
  have HT := Lib.hid ht
  clear ht
  have dz : ((t : Int) == (c : Int)) = true := by simp; omega
  clear hz
  have hbl := fun (W : World) (s : SL w c L z2 z3 A1 n1 c1 X1 z4 A2 n2 c2 X2 W) => spec_spBelow A1 n1 c1 X1 A2 n2 c2 X2 W x hn1 hn2 s.low s.high HI.out
  rw [← HT.out] at hbl
  have HBL := Lib.hid hbl
  clear hbl
  have HAS := Lib.hid (show SpV c L z2 z3 n1 X1 z4 n2 X2 ∧ 0 ≤ x ∧ x < L from ⟨HV.out, x0, x1⟩)
  go_enter Try.func39, Try.ntmps39
  unfold spC
  go_upto_region 1 with fail
  have k0 := fun u : InC (SL w c L z2 z3 A1 n1 c1 X1 z4 A2 n2 c2 X2) => u.ok.cells.1
  have k1 := fun u : InC (SL w c L z2 z3 A1 n1 c1 X1 z4 A2 n2 c2 X2) => u.ok.cells.2.1
  have k2 := fun u : InC (SL w c L z2 z3 A1 n1 c1 X1 z4 A2 n2 c2 X2) => u.ok.cells.2.2.1
  have k3 := fun u : InC (SL w c L z2 z3 A1 n1 c1 X1 z4 A2 n2 c2 X2) => u.ok.cells.2.2.2.1
  have k4 := fun u : InC (SL w c L z2 z3 A1 n1 c1 X1 z4 A2 n2 c2 X2) => u.ok.cells.2.2.2.2.1
  have k5 := fun u : InC (SL w c L z2 z3 A1 n1 c1 X1 z4 A2 n2 c2 X2) => u.ok.cells.2.2.2.2.2.1
  have k6 := fun u : InC (SL w c L z2 z3 A1 n1 c1 X1 z4 A2 n2 c2 X2) => u.ok.cells.2.2.2.2.2.2
  haveI : Nonempty (InC (SL w c L z2 z3 A1 n1 c1 X1 z4 A2 n2 c2 X2)) := ⟨⟨_, S0.out⟩⟩
  refine wp_region_class (SL w c L z2 z3 A1 n1 c1 X1 z4 A2 n2 c2 X2) (by kernel_rfl) (by kernel_rfl) S0.out.drew ?_
  repeat (go_big_quiet_step ((first
    | (go_at_call 71; exact call_class ((BoolIs.two (spec_spAsked A1 n1 c1 X1 A2 n2 c2 X2 _ x hn1 hn2 (SL.low (InC.ok _)) (SL.high (InC.ok _)))).1 HAS.out) (fun _ hb => SL.step (InC.ok _) hb))
    | (go_at_call 69; exact call_class (HBL.out _ (InC.ok _)) (fun _ hb => SL.step (InC.ok _) hb)))))
  refine wpQuiet_nil ?_
  rintro _ ⟨u, rfl⟩
  clear k0 k1 k2 k3 k4 k5 k6
  go_wp2_with fail
  go_ret2
  exact ⟨rfl, u.ok.below⟩

set_option maxRecDepth 100000 in
set_option maxHeartbeats 1000000 in
theorem spec_FirstAtLeast_yes (x : Int) (hn1 : n1 ≤ 1048576) (hn2 : n2 ≤ 1048576) (h1 : IRow w A1 n1 X1) (h2 : IRow w A2 n2 X2) (h : SpIs z0 z1 z2 z3 n1 X1 z4 n2 X2 c L v f) (x0 : 0 ≤ x) (x1 : x < L) (hz : ltN (numI f) x c ≠ c) :
    Calls Try.prog 39 #[.agg (spC z0 z1 z2 z3 A1 n1 c1 z4 A2 n2 c2), .int .i64 x] w fun e w' => e = .returned (.tuple #[.int .i64 (ltN (numI f) x c : Nat), .bool true]) ∧ Below w.heap.size w w' := by
  have S0 := Lib.hid (SL.start (z0 := z0) (z1 := z1) (z2 := z2) (z3 := z3) (z4 := z4) (c1 := c1) (c2 := c2) h1 h2)
  clear h1 h2
  have HI := Lib.hid h
  have HV := Lib.hid (show SpV z0 z1 z2 z3 n1 X1 z4 n2 X2 from ⟨c, L, v, f, h⟩)
  have lm := SpV.lim n1 X1 n2 X2 HV.out
  have hc := h.num.hc
  have hL := h.num.hL
  have e0 := h.ec
  have e1 := h.eL
  obtain ⟨l1, l2, l3, l4⟩ := lm
  subst e0 e1
  clear h
  have t0 := ltN_le (numI f) x c
  obtain ⟨t, ht⟩ : ∃ t, t = ltN (numI f) x c := ⟨_, rfl⟩
  rw [← ht] at t0 hz
  try rw [← ht]
  have HT := Lib.hid ht
  clear ht
  have dz : ((t : Int) == (c : Int)) = false := by simp; omega
  have hbl := fun (W : World) (s : SL w c L z2 z3 A1 n1 c1 X1 z4 A2 n2 c2 X2 W) => spec_spBelow A1 n1 c1 X1 A2 n2 c2 X2 W x hn1 hn2 s.low s.high HI.out
  rw [← HT.out] at hbl
  have HBL := Lib.hid hbl
  clear hbl
  have HAS := Lib.hid (show SpV c L z2 z3 n1 X1 z4 n2 X2 ∧ 0 ≤ x ∧ x < L from ⟨HV.out, x0, x1⟩)
  go_enter Try.func39, Try.ntmps39
  unfold spC
  go_upto_region 1 with fail
  have k0 := fun u : InC (SL w c L z2 z3 A1 n1 c1 X1 z4 A2 n2 c2 X2) => u.ok.cells.1
  have k1 := fun u : InC (SL w c L z2 z3 A1 n1 c1 X1 z4 A2 n2 c2 X2) => u.ok.cells.2.1
  have k2 := fun u : InC (SL w c L z2 z3 A1 n1 c1 X1 z4 A2 n2 c2 X2) => u.ok.cells.2.2.1
  have k3 := fun u : InC (SL w c L z2 z3 A1 n1 c1 X1 z4 A2 n2 c2 X2) => u.ok.cells.2.2.2.1
  have k4 := fun u : InC (SL w c L z2 z3 A1 n1 c1 X1 z4 A2 n2 c2 X2) => u.ok.cells.2.2.2.2.1
  have k5 := fun u : InC (SL w c L z2 z3 A1 n1 c1 X1 z4 A2 n2 c2 X2) => u.ok.cells.2.2.2.2.2.1
  have k6 := fun u : InC (SL w c L z2 z3 A1 n1 c1 X1 z4 A2 n2 c2 X2) => u.ok.cells.2.2.2.2.2.2
  haveI : Nonempty (InC (SL w c L z2 z3 A1 n1 c1 X1 z4 A2 n2 c2 X2)) := ⟨⟨_, S0.out⟩⟩
  refine wp_region_class (SL w c L z2 z3 A1 n1 c1 X1 z4 A2 n2 c2 X2) (by kernel_rfl) (by kernel_rfl) S0.out.drew ?_
  repeat (go_big_quiet_step ((first
    | (go_at_call 71; exact call_class ((BoolIs.two (spec_spAsked A1 n1 c1 X1 A2 n2 c2 X2 _ x hn1 hn2 (SL.low (InC.ok _)) (SL.high (InC.ok _)))).1 HAS.out) (fun _ hb => SL.step (InC.ok _) hb))
    | (go_at_call 69; exact call_class (HBL.out _ (InC.ok _)) (fun _ hb => SL.step (InC.ok _) hb)))))
  refine wpQuiet_nil ?_
  rintro _ ⟨u, rfl⟩
  clear k0 k1 k2 k3 k4 k5 k6
  obtain ⟨q0, q1, q2, q3, q4, q5, q6⟩ := u.ok.cells
  have US := Lib.hid u.ok
  go_wp2_with fail
  refine (HBL.out _ US.out).mono ?_; rintro e w2 ⟨rfl, hb⟩
  have S2 := Lib.hid (US.out.step hb)
  clear hb q0 q1 q2 q3 q4 q5 q6
  go_wp2_with fail
  go_ret2
  exact ⟨rfl, S2.out.below⟩

set_option maxRecDepth 100000 in
set_option maxHeartbeats 1000000 in
theorem impl_FirstAtLeast_inv (x : Int) (hn1 : n1 ≤ 1048576) (hn2 : n2 ≤ 1048576) (h1 : IRow w A1 n1 X1) (h2 : IRow w A2 n2 X2) (h : ¬ SpV z0 z1 z2 z3 n1 X1 z4 n2 X2) :
    Calls Try.prog 40 #[.agg (spC z0 z1 z2 z3 A1 n1 c1 z4 A2 n2 c2), .int .i64 x] w fun e w' => e = .returned (.tuple #[.int .i64 0, .bool false]) ∧ Below w.heap.size w w' := by
  have S0 := Lib.hid (SL.start (z0 := z0) (z1 := z1) (z2 := z2) (z3 := z3) (z4 := z4) (c1 := c1) (c2 := c2) h1 h2)
  clear h1 h2
  have HV := Lib.hid h
  clear h
  obtain ⟨q0, q1, q2, q3, q4, q5, q6⟩ := S0.out.cells
  go_enter Try.func40, Try.ntmps40
  unfold spC
  go_wp2_with fail
  refine (impl_CountBelow_inv A1 n1 c1 X1 A2 n2 c2 X2 _ _ hn1 hn2 S0.out.low S0.out.high HV.out).mono ?_; rintro e w1 ⟨rfl, hb⟩
  have S1 := Lib.hid (S0.out.step hb)
  clear hb q0 q1 q2 q3 q4 q5 q6
  go_wp2_with fail
  go_ret2
  exact ⟨rfl, S1.out.below⟩

set_option maxRecDepth 100000 in
set_option maxHeartbeats 1000000 in
theorem impl_FirstAtLeast_out (x : Int) (hn1 : n1 ≤ 1048576) (hn2 : n2 ≤ 1048576) (h1 : IRow w A1 n1 X1) (h2 : IRow w A2 n2 X2) (h : SpIs z0 z1 z2 z3 n1 X1 z4 n2 X2 c L v f) (hx : ¬ (0 ≤ x ∧ x ≤ L)) :
    Calls Try.prog 40 #[.agg (spC z0 z1 z2 z3 A1 n1 c1 z4 A2 n2 c2), .int .i64 x] w fun e w' => e = .returned (.tuple #[.int .i64 0, .bool false]) ∧ Below w.heap.size w w' := by
  have S0 := Lib.hid (SL.start (z0 := z0) (z1 := z1) (z2 := z2) (z3 := z3) (z4 := z4) (c1 := c1) (c2 := c2) h1 h2)
  clear h1 h2
  have HX := Lib.hid hx
  clear hx
  have HI := Lib.hid h
  have HV := Lib.hid (show SpV z0 z1 z2 z3 n1 X1 z4 n2 X2 from ⟨c, L, v, f, h⟩)
  have lm := SpV.lim n1 X1 n2 X2 HV.out
  have hc := h.num.hc
  have hL := h.num.hL
  have e0 := h.ec
  have e1 := h.eL
  obtain ⟨l1, l2, l3, l4⟩ := lm
  subst e0 e1
  clear h
  obtain ⟨q0, q1, q2, q3, q4, q5, q6⟩ := S0.out.cells
  go_enter Try.func40, Try.ntmps40
  unfold spC
  go_wp2_with fail
  refine (impl_CountBelow_out A1 n1 c1 X1 A2 n2 c2 X2 _ x hn1 hn2 S0.out.low S0.out.high HI.out HX.out).mono ?_; rintro e w1 ⟨rfl, hb⟩
  have S1 := Lib.hid (S0.out.step hb)
  clear hb q0 q1 q2 q3 q4 q5 q6
  go_wp2_with fail
  go_ret2
  exact ⟨rfl, S1.out.below⟩

set_option maxRecDepth 100000 in
set_option maxHeartbeats 1000000 in
theorem impl_FirstAtLeast_full (x : Int) (hn1 : n1 ≤ 1048576) (hn2 : n2 ≤ 1048576) (h1 : IRow w A1 n1 X1) (h2 : IRow w A2 n2 X2) (h : SpIs z0 z1 z2 z3 n1 X1 z4 n2 X2 c L v f) (x0 : 0 ≤ x) (x1 : x ≤ L) (hz : ltN (numI f) x c = c) :
    Calls Try.prog 40 #[.agg (spC z0 z1 z2 z3 A1 n1 c1 z4 A2 n2 c2), .int .i64 x] w fun e w' => e = .returned (.tuple #[.int .i64 0, .bool false]) ∧ Below w.heap.size w w' := by
  have S0 := Lib.hid (SL.start (z0 := z0) (z1 := z1) (z2 := z2) (z3 := z3) (z4 := z4) (c1 := c1) (c2 := c2) h1 h2)
  clear h1 h2
  have HI := Lib.hid h
  have HV := Lib.hid (show SpV z0 z1 z2 z3 n1 X1 z4 n2 X2 from ⟨c, L, v, f, h⟩)
  have lm := SpV.lim n1 X1 n2 X2 HV.out
  have hc := h.num.hc
  have hL := h.num.hL
  have e0 := h.ec
  have e1 := h.eL
  obtain ⟨l1, l2, l3, l4⟩ := lm
  subst e0 e1
  clear h
  have t0 := ltN_le (numI f) x c
  obtain ⟨t, ht⟩ : ∃ t, t = ltN (numI f) x c := ⟨_, rfl⟩
  rw [← ht] at t0 hz
  try rw [← ht]
  have HT := Lib.hid ht
  clear ht
  have dz : ((t : Int) == (c : Int)) = true := by simp; omega
  clear hz
  obtain ⟨q0, q1, q2, q3, q4, q5, q6⟩ := S0.out.cells
  go_enter Try.func40, Try.ntmps40
  unfold spC
  go_wp2_with fail
  refine (impl_CountBelow_yes A1 n1 c1 X1 A2 n2 c2 X2 _ x hn1 hn2 S0.out.low S0.out.high HI.out x0 (by omega)).mono ?_; rintro e w1 ⟨rfl, hb⟩
  have S1 := Lib.hid (S0.out.step hb)
  rw [← HT.out]
  clear hb q0 q1 q2 q3 q4 q5 q6
  obtain ⟨q0, q1, q2, q3, q4, q5, q6⟩ := S1.out.cells
  go_wp2_with fail
  go_ret2
  exact ⟨rfl, S1.out.below⟩

set_option maxRecDepth 100000 in
set_option maxHeartbeats 1000000 in
theorem impl_FirstAtLeast_yes (x : Int) (hn1 : n1 ≤ 1048576) (hn2 : n2 ≤ 1048576) (h1 : IRow w A1 n1 X1) (h2 : IRow w A2 n2 X2) (h : SpIs z0 z1 z2 z3 n1 X1 z4 n2 X2 c L v f) (x0 : 0 ≤ x) (x1 : x ≤ L) (hz : ltN (numI f) x c ≠ c) :
    Calls Try.prog 40 #[.agg (spC z0 z1 z2 z3 A1 n1 c1 z4 A2 n2 c2), .int .i64 x] w fun e w' => e = .returned (.tuple #[.int .i64 (ltN (numI f) x c : Nat), .bool true]) ∧ Below w.heap.size w w' := by
  have S0 := Lib.hid (SL.start (z0 := z0) (z1 := z1) (z2 := z2) (z3 := z3) (z4 := z4) (c1 := c1) (c2 := c2) h1 h2)
  clear h1 h2
  have HI := Lib.hid h
  have HV := Lib.hid (show SpV z0 z1 z2 z3 n1 X1 z4 n2 X2 from ⟨c, L, v, f, h⟩)
  have lm := SpV.lim n1 X1 n2 X2 HV.out
  have hc := h.num.hc
  have hL := h.num.hL
  have e0 := h.ec
  have e1 := h.eL
  obtain ⟨l1, l2, l3, l4⟩ := lm
  subst e0 e1
  clear h
  have t0 := ltN_le (numI f) x c
  obtain ⟨t, ht⟩ : ∃ t, t = ltN (numI f) x c := ⟨_, rfl⟩
  rw [← ht] at t0 hz
  try rw [← ht]
  have HT := Lib.hid ht
  clear ht
  have dz : ((t : Int) == (c : Int)) = false := by simp; omega
  obtain ⟨q0, q1, q2, q3, q4, q5, q6⟩ := S0.out.cells
  go_enter Try.func40, Try.ntmps40
  unfold spC
  go_wp2_with fail
  refine (impl_CountBelow_yes A1 n1 c1 X1 A2 n2 c2 X2 _ x hn1 hn2 S0.out.low S0.out.high HI.out x0 (by omega)).mono ?_; rintro e w1 ⟨rfl, hb⟩
  have S1 := Lib.hid (S0.out.step hb)
  rw [← HT.out]
  clear hb q0 q1 q2 q3 q4 q5 q6
  obtain ⟨q0, q1, q2, q3, q4, q5, q6⟩ := S1.out.cells
  go_wp2_with fail
  go_ret2
  exact ⟨rfl, S1.out.below⟩

set_option maxRecDepth 100000 in
set_option maxHeartbeats 1000000 in
theorem spec_HasNumber_no (x : Int) (hn1 : n1 ≤ 1048576) (hn2 : n2 ≤ 1048576) (h1 : IRow w A1 n1 X1) (h2 : IRow w A2 n2 X2) (h : ¬ (SpV z0 z1 z2 z3 n1 X1 z4 n2 X2 ∧ 0 ≤ x ∧ x < z1)) :
    Calls Try.prog 41 #[.agg (spC z0 z1 z2 z3 A1 n1 c1 z4 A2 n2 c2), .int .i64 x] w fun e w' => e = .returned (.tuple #[.bool false, .bool false]) ∧ Below w.heap.size w w' := by
  have S0 := Lib.hid (SL.start (z0 := z0) (z1 := z1) (z2 := z2) (z3 := z3) (z4 := z4) (c1 := c1) (c2 := c2) h1 h2)
  clear h1 h2
  have HF := Lib.hid h
  clear h
  go_enter Try.func41, Try.ntmps41
  unfold spC
  go_wp2_with fail
  refine ((BoolIs.two (spec_spAsked A1 n1 c1 X1 A2 n2 c2 X2 _ x hn1 hn2 S0.out.low S0.out.high)).2 HF.out).mono ?_; rintro e w1 ⟨rfl, hb⟩
  have S1 := Lib.hid (S0.out.step hb)
  clear hb S0
  go_wp2_with fail
  go_ret2
  exact ⟨rfl, S1.out.below⟩

set_option maxRecDepth 100000 in
set_option maxHeartbeats 1000000 in
theorem spec_HasNumber_yes (x : Int) (bb : Bool) (hn1 : n1 ≤ 1048576) (hn2 : n2 ≤ 1048576) (h1 : IRow w A1 n1 X1) (h2 : IRow w A2 n2 X2) (h : SpIs z0 z1 z2 z3 n1 X1 z4 n2 X2 c L v f) (x0 : 0 ≤ x) (x1 : x < L) (hbb : bb = true ↔ ∃ i, i < c ∧ numI f i = x) :
    Calls Try.prog 41 #[.agg (spC z0 z1 z2 z3 A1 n1 c1 z4 A2 n2 c2), .int .i64 x] w fun e w' => e = .returned (.tuple #[.bool bb, .bool true]) ∧ Below w.heap.size w w' := by
  have S0 := Lib.hid (SL.start (z0 := z0) (z1 := z1) (z2 := z2) (z3 := z3) (z4 := z4) (c1 := c1) (c2 := c2) h1 h2)
  clear h1 h2
  have HBB := Lib.hid hbb
  clear hbb
  have HI := Lib.hid h
  have HV := Lib.hid (show SpV z0 z1 z2 z3 n1 X1 z4 n2 X2 from ⟨c, L, v, f, h⟩)
  have lm := SpV.lim n1 X1 n2 X2 HV.out
  have hc := h.num.hc
  have hL := h.num.hL
  have e0 := h.ec
  have e1 := h.eL
  obtain ⟨l1, l2, l3, l4⟩ := lm
  subst e0 e1
  clear h
  go_enter Try.func41, Try.ntmps41
  unfold spC
  go_wp2_with fail
  refine ((BoolIs.two (spec_spAsked A1 n1 c1 X1 A2 n2 c2 X2 _ x hn1 hn2 S0.out.low S0.out.high)).1 ⟨HV.out, by omega, by omega⟩).mono ?_; rintro e w1 ⟨rfl, hb⟩
  have S1 := Lib.hid (S0.out.step hb)
  clear hb S0
  obtain ⟨q0, q1, q2, q3, q4, q5, q6⟩ := S1.out.cells
  go_wp2_with fail
  refine (spList_valid A1 n1 c1 X1 A2 n2 c2 X2 _ c L z2 z3 z4 c L v f hn1 hn2 S1.out.low S1.out.high HI.out).mono ?_; rintro e w2 ⟨A, k, rfl, ho, hb⟩
  have S2 := Lib.hid (S1.out.step hb)
  have HR := Lib.hid (show IRow w2 A c (numI f) from ho.rd.row (Nat.le_refl _))
  clear hb ho q0 q1 q2 q3 q4 q5 q6
  go_wp2_with fail
  refine (spec_l1Has A c k (numI f) x _ (by omega) HR.out).mono ?_; rintro e w' ⟨b, rfl, hb2, rfl⟩
  obtain rfl : b = bb := by rw [Bool.eq_iff_iff, hb2, HBB.out]
  clear hb2
  go_wp2_with fail
  go_ret2
  exact ⟨rfl, S2.out.below⟩

set_option maxRecDepth 100000 in
set_option maxHeartbeats 1000000 in
theorem impl_HasNumber_inv (x : Int) (hn1 : n1 ≤ 1048576) (hn2 : n2 ≤ 1048576) (h1 : IRow w A1 n1 X1) (h2 : IRow w A2 n2 X2) (h : ¬ SpV z0 z1 z2 z3 n1 X1 z4 n2 X2) :
    Calls Try.prog 42 #[.agg (spC z0 z1 z2 z3 A1 n1 c1 z4 A2 n2 c2), .int .i64 x] w fun e w' => e = .returned (.tuple #[.bool false, .bool false]) ∧ Below w.heap.size w w' := by
  have S0 := Lib.hid (SL.start (z0 := z0) (z1 := z1) (z2 := z2) (z3 := z3) (z4 := z4) (c1 := c1) (c2 := c2) h1 h2)
  clear h1 h2
  have HV := Lib.hid h
  clear h
  go_enter Try.func42, Try.ntmps42
  unfold spC
  go_wp2_with fail
  refine (impl_sparseList A1 n1 c1 X1 A2 n2 c2 X2 _ z0 z1 z2 z3 z4 hn1 hn2 S0.out.low S0.out.high).mono ?_; rintro e w1 ha
  obtain ⟨rfl, hb⟩ := ha.not (h := HV.out)
  have S1 := Lib.hid (S0.out.step hb)
  clear hb S0 ha
  go_wp2_with fail
  go_ret2
  exact ⟨rfl, S1.out.below⟩

set_option maxRecDepth 100000 in
set_option maxHeartbeats 1000000 in
theorem impl_HasNumber_out (x : Int) (hn1 : n1 ≤ 1048576) (hn2 : n2 ≤ 1048576) (h1 : IRow w A1 n1 X1) (h2 : IRow w A2 n2 X2) (h : SpIs z0 z1 z2 z3 n1 X1 z4 n2 X2 c L v f) (hx : ¬ (0 ≤ x ∧ x < L)) :
    Calls Try.prog 42 #[.agg (spC z0 z1 z2 z3 A1 n1 c1 z4 A2 n2 c2), .int .i64 x] w fun e w' => e = .returned (.tuple #[.bool false, .bool false]) ∧ Below w.heap.size w w' := by
  have S0 := Lib.hid (SL.start (z0 := z0) (z1 := z1) (z2 := z2) (z3 := z3) (z4 := z4) (c1 := c1) (c2 := c2) h1 h2)
  clear h1 h2
  have HI := Lib.hid h
  have HV := Lib.hid (show SpV z0 z1 z2 z3 n1 X1 z4 n2 X2 from ⟨c, L, v, f, h⟩)
  have lm := SpV.lim n1 X1 n2 X2 HV.out
  have hc := h.num.hc
  have hL := h.num.hL
  have e0 := h.ec
  have e1 := h.eL
  obtain ⟨l1, l2, l3, l4⟩ := lm
  subst e0 e1
  clear h
  by_cases hx0 : x < 0
  · have d0 : decide (x < 0) = true := by simpa using hx0
    clear hx
    go_enter Try.func42, Try.ntmps42
    unfold spC
    go_wp2_with fail
    refine (impl_sparseList A1 n1 c1 X1 A2 n2 c2 X2 _ c L z2 z3 z4 hn1 hn2 S0.out.low S0.out.high).mono ?_; rintro e w1 ha
    obtain ⟨A, k, rfl, ho, hk, hb⟩ := ha.yes (h := HI.out)
    have S1 := Lib.hid (S0.out.step hb)
    have HR := Lib.hid (show IRow w1 A c (numI f) from ho.rd.row (Nat.le_refl _))
    clear hb S0 ha ho
    obtain ⟨q0, q1, q2, q3, q4, q5, q6⟩ := S1.out.cells
    go_wp2_with fail
    go_ret2
    exact ⟨rfl, S1.out.below⟩
  · have d0 : decide (x < 0) = false := by simpa using hx0
    have d1 : decide ((L : Int) ≤ x) = true := by simp; omega
    clear hx
    go_enter Try.func42, Try.ntmps42
    unfold spC
    go_wp2_with fail
    refine (impl_sparseList A1 n1 c1 X1 A2 n2 c2 X2 _ c L z2 z3 z4 hn1 hn2 S0.out.low S0.out.high).mono ?_; rintro e w1 ha
    obtain ⟨A, k, rfl, ho, hk, hb⟩ := ha.yes (h := HI.out)
    have S1 := Lib.hid (S0.out.step hb)
    have HR := Lib.hid (show IRow w1 A c (numI f) from ho.rd.row (Nat.le_refl _))
    clear hb S0 ha ho
    obtain ⟨q0, q1, q2, q3, q4, q5, q6⟩ := S1.out.cells
    go_wp2_with fail
    go_ret2
    exact ⟨rfl, S1.out.below⟩

set_option maxRecDepth 100000 in
set_option maxHeartbeats 1000000 in
theorem impl_HasNumber_yes (x : Int) (bb : Bool) (hn1 : n1 ≤ 1048576) (hn2 : n2 ≤ 1048576) (h1 : IRow w A1 n1 X1) (h2 : IRow w A2 n2 X2) (h : SpIs z0 z1 z2 z3 n1 X1 z4 n2 X2 c L v f) (x0 : 0 ≤ x) (x1 : x < L) (hbb : bb = true ↔ ∃ i, i < c ∧ numI f i = x) :
    Calls Try.prog 42 #[.agg (spC z0 z1 z2 z3 A1 n1 c1 z4 A2 n2 c2), .int .i64 x] w fun e w' => e = .returned (.tuple #[.bool bb, .bool true]) ∧ Below w.heap.size w w' := by
  have S0 := Lib.hid (SL.start (z0 := z0) (z1 := z1) (z2 := z2) (z3 := z3) (z4 := z4) (c1 := c1) (c2 := c2) h1 h2)
  clear h1 h2
  have HBB := Lib.hid hbb
  clear hbb
  have HI := Lib.hid h
  have HV := Lib.hid (show SpV z0 z1 z2 z3 n1 X1 z4 n2 X2 from ⟨c, L, v, f, h⟩)
  have lm := SpV.lim n1 X1 n2 X2 HV.out
  have hc := h.num.hc
  have hL := h.num.hL
  have e0 := h.ec
  have e1 := h.eL
  obtain ⟨l1, l2, l3, l4⟩ := lm
  subst e0 e1
  clear h
  have d0 : decide (x < 0) = false := by simp; omega
  have d1 : decide ((L : Int) ≤ x) = false := by simp; omega
  go_enter Try.func42, Try.ntmps42
  unfold spC
  go_wp2_with fail
  refine (impl_sparseList A1 n1 c1 X1 A2 n2 c2 X2 _ c L z2 z3 z4 hn1 hn2 S0.out.low S0.out.high).mono ?_; rintro e w1 ha
  obtain ⟨A, k, rfl, ho, hk, hb⟩ := ha.yes (h := HI.out)
  have S1 := Lib.hid (S0.out.step hb)
  have HR := Lib.hid (show IRow w1 A c (numI f) from ho.rd.row (Nat.le_refl _))
  clear hb S0 ha ho
  obtain ⟨q0, q1, q2, q3, q4, q5, q6⟩ := S1.out.cells
  go_wp2_with fail
  refine (bin_search A c k (numI f) x _ (by omega) HR.out HI.out.num.srt).mono ?_; rintro e w' ⟨b, rfl, hb2, rfl⟩
  obtain rfl : b = bb := by rw [Bool.eq_iff_iff, hb2, HBB.out]
  clear hb2
  go_wp2_with fail
  go_ret2
  exact ⟨rfl, S1.out.below⟩

set_option maxRecDepth 100000 in
set_option maxHeartbeats 1000000 in
theorem spec_SparseBits_no (hn1 : n1 ≤ 1048576) (hn2 : n2 ≤ 1048576) (h1 : IRow w A1 n1 X1) (h2 : IRow w A2 n2 X2) (h : ¬ SpV z0 z1 z2 z3 n1 X1 z4 n2 X2) :
    Calls Try.prog 43 #[.agg (spC z0 z1 z2 z3 A1 n1 c1 z4 A2 n2 c2)] w fun e w' => e = .returned (.tuple #[.int .i64 0, .bool false]) ∧ Below w.heap.size w w' := by
  have S0 := Lib.hid (SL.start (z0 := z0) (z1 := z1) (z2 := z2) (z3 := z3) (z4 := z4) (c1 := c1) (c2 := c2) h1 h2)
  clear h1 h2
  have HV := Lib.hid h
  clear h
  go_enter Try.func43, Try.ntmps43
  unfold spC
  go_wp2_with fail
  refine (good_no A1 n1 c1 X1 A2 n2 c2 X2 _ hn1 hn2 S0.out.low S0.out.high HV.out).mono ?_; rintro e w1 ⟨rfl, hb⟩
  have S1 := Lib.hid (S0.out.step hb)
  clear hb S0
  go_wp2_with fail
  go_ret2
  exact ⟨rfl, S1.out.below⟩

set_option maxRecDepth 100000 in
set_option maxHeartbeats 1000000 in
theorem spec_SparseBits_yes (zl zh : Nat) (hn1 : n1 ≤ 1048576) (hn2 : n2 ≤ 1048576) (h1 : IRow w A1 n1 X1) (h2 : IRow w A2 n2 X2) (h : SpV z0 z1 z2 z3 n1 X1 z4 n2 X2) (hl : z3 = zl) (hh : z4 = zh) (b1 : zl ≤ 960) (b2 : zh ≤ 200) :
    Calls Try.prog 43 #[.agg (spC z0 z1 z2 z3 A1 n1 c1 z4 A2 n2 c2)] w fun e w' => e = .returned (.tuple #[.int .i64 ((zl : Int) + (zh : Int)), .bool true]) ∧ Below w.heap.size w w' := by
  have S0 := Lib.hid (SL.start (z0 := z0) (z1 := z1) (z2 := z2) (z3 := z3) (z4 := z4) (c1 := c1) (c2 := c2) h1 h2)
  clear h1 h2
  subst hl hh
  have HV := Lib.hid h
  clear h
  go_enter Try.func43, Try.ntmps43
  unfold spC
  go_wp2_with fail
  refine (good_yes A1 n1 c1 X1 A2 n2 c2 X2 _ hn1 hn2 S0.out.low S0.out.high HV.out).mono ?_; rintro e w1 ⟨rfl, hb⟩
  have S1 := Lib.hid (S0.out.step hb)
  clear hb S0
  obtain ⟨q0, q1, q2, q3, q4, q5, q6⟩ := S1.out.cells
  go_wp2_with fail
  go_ret2
  exact ⟨rfl, S1.out.below⟩

set_option maxRecDepth 100000 in
set_option maxHeartbeats 1000000 in
theorem impl_SparseBits_no (hn1 : n1 ≤ 1048576) (hn2 : n2 ≤ 1048576) (h1 : IRow w A1 n1 X1) (h2 : IRow w A2 n2 X2) (h : ¬ SpV z0 z1 z2 z3 n1 X1 z4 n2 X2) :
    Calls Try.prog 44 #[.agg (spC z0 z1 z2 z3 A1 n1 c1 z4 A2 n2 c2)] w fun e w' => e = .returned (.tuple #[.int .i64 0, .bool false]) ∧ Below w.heap.size w w' := by
  have S0 := Lib.hid (SL.start (z0 := z0) (z1 := z1) (z2 := z2) (z3 := z3) (z4 := z4) (c1 := c1) (c2 := c2) h1 h2)
  clear h1 h2
  have HV := Lib.hid h
  clear h
  go_enter Try.func44, Try.ntmps44
  unfold spC
  go_wp2_with fail
  refine ((BoolIs.two (impl_isSparse A1 n1 c1 X1 A2 n2 c2 X2 _ z0 z1 z2 z3 z4 hn1 hn2 S0.out.low S0.out.high)).2 HV.out).mono ?_; rintro e w1 ⟨rfl, hb⟩
  have S1 := Lib.hid (S0.out.step hb)
  clear hb S0
  obtain ⟨q0, q1, q2, q3, q4, q5, q6⟩ := S1.out.cells
  go_wp2_with fail
  go_ret2
  exact ⟨rfl, S1.out.below⟩

set_option maxRecDepth 100000 in
set_option maxHeartbeats 1000000 in
theorem impl_SparseBits_yes (zl zh : Nat) (hn1 : n1 ≤ 1048576) (hn2 : n2 ≤ 1048576) (h1 : IRow w A1 n1 X1) (h2 : IRow w A2 n2 X2) (h : SpV z0 z1 z2 z3 n1 X1 z4 n2 X2) (hl : z3 = zl) (hh : z4 = zh) (b1 : zl ≤ 960) (b2 : zh ≤ 200) :
    Calls Try.prog 44 #[.agg (spC z0 z1 z2 z3 A1 n1 c1 z4 A2 n2 c2)] w fun e w' => e = .returned (.tuple #[.int .i64 ((zl : Int) + (zh : Int)), .bool true]) ∧ Below w.heap.size w w' := by
  have S0 := Lib.hid (SL.start (z0 := z0) (z1 := z1) (z2 := z2) (z3 := z3) (z4 := z4) (c1 := c1) (c2 := c2) h1 h2)
  clear h1 h2
  subst hl hh
  have HV := Lib.hid h
  clear h
  go_enter Try.func44, Try.ntmps44
  unfold spC
  go_wp2_with fail
  refine ((BoolIs.two (impl_isSparse A1 n1 c1 X1 A2 n2 c2 X2 _ z0 z1 z2 zl zh hn1 hn2 S0.out.low S0.out.high)).1 HV.out).mono ?_; rintro e w1 ⟨rfl, hb⟩
  have S1 := Lib.hid (S0.out.step hb)
  clear hb S0
  obtain ⟨q0, q1, q2, q3, q4, q5, q6⟩ := S1.out.cells
  go_wp2_with fail
  go_ret2
  exact ⟨rfl, S1.out.below⟩

end
end Go.Proofs.Ytdkkflejpcgipaa
