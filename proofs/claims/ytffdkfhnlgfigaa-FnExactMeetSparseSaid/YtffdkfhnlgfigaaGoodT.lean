/- Which Sparse is valid: spGood of the model, for any Sparse. -/
import Derived.Test.YtffdkfhnlgfigaaGoodS
import Derived.Test.YtffdkfhnlgfigaaQuietC
namespace Go.Proofs.Ytffdkfhnlgfigaa
open Go.RowKit

set_option maxRecDepth 100000 in
set_option maxHeartbeats 4000000 in
theorem spGood_no1 (z0 z1 z2 z3 z4 : Int) (A1 : Option Addr) (n1 c1 : Nat) (X1 : Nat → Int) (A2 : Option Addr) (n2 c2 : Nat) (X2 : Nat → Int) (w : World) (_hn1 : n1 ≤ 1048576) (_hn2 : n2 ≤ 1048576) (h1 : IRow w A1 n1 X1) (h2 : IRow w A2 n2 X2) (h : ¬ (0 ≤ z0 ∧ z0 ≤ 60)) :
    Calls Try.prog 75 #[.agg (spC z0 z1 z2 z3 A1 n1 c1 z4 A2 n2 c2)] w fun e w' => e = .returned (.bool false) ∧ Below w.heap.size w w' := by
  have HS0 := Lib.hid (SL.start (z0 := z0) (z1 := z1) (z2 := z2) (z3 := z3) (z4 := z4) (c1 := c1) (c2 := c2) h1 h2)
  clear h1 h2
  have HF := Lib.hid h
  clear h
  go_enter Try.func75, Try.ntmps75
  unfold spC
  go_wp2_with fail
  go_quiet ((first
    | (go_at_call 43; exact quiet_left (l1In_no _ _ _ _ HF.out))))
  have S1 : Hid (SL w z0 z1 z2 z3 A1 n1 c1 X1 z4 A2 n2 c2 X2 ((w.alloc (Obj.cells #[Value.int .i64 z0, Value.int .i64 z1, Value.int .i64 z2, Value.int .i64 z3, .slice A1 n1 c1, .int .i64 z4, .slice A2 n2 c2] 32)).drewN nq)) := Lib.hid (HS0.out.drewN nq)
  clear HS0
  generalize (w.alloc (Obj.cells #[Value.int .i64 z0, Value.int .i64 z1, Value.int .i64 z2, Value.int .i64 z3, .slice A1 n1 c1, .int .i64 z4, .slice A2 n2 c2] 32)).drewN nq = w1 at *
  go_wp2_with fail
  go_ret
  exact ⟨rfl, S1.out.below⟩

set_option maxRecDepth 100000 in
set_option maxHeartbeats 4000000 in
theorem spGood_no2 (z0 z1 z2 z3 z4 : Int) (A1 : Option Addr) (n1 c1 : Nat) (X1 : Nat → Int) (A2 : Option Addr) (n2 c2 : Nat) (X2 : Nat → Int) (w : World) (_hn1 : n1 ≤ 1048576) (_hn2 : n2 ≤ 1048576) (h1 : IRow w A1 n1 X1) (h2 : IRow w A2 n2 X2) (h0 : 0 ≤ z0 ∧ z0 ≤ 60) (h : ¬ (1 ≤ z1 ∧ z1 ≤ 100000)) :
    Calls Try.prog 75 #[.agg (spC z0 z1 z2 z3 A1 n1 c1 z4 A2 n2 c2)] w fun e w' => e = .returned (.bool false) ∧ Below w.heap.size w w' := by
  have HS0 := Lib.hid (SL.start (z0 := z0) (z1 := z1) (z2 := z2) (z3 := z3) (z4 := z4) (c1 := c1) (c2 := c2) h1 h2)
  clear h1 h2
  have HF := Lib.hid h
  have H0 := Lib.hid h0
  clear h h0
  go_enter Try.func75, Try.ntmps75
  unfold spC
  go_wp2_with fail
  go_quiet ((first
    | (go_at_call 43; exact quiet_left (l1In_yes _ _ _ _ H0.out.1 H0.out.2))
    | (go_at_call 44; exact quiet_left (spec_limit_no _ _ HF.out))))
  have S1 : Hid (SL w z0 z1 z2 z3 A1 n1 c1 X1 z4 A2 n2 c2 X2 ((w.alloc (Obj.cells #[Value.int .i64 z0, Value.int .i64 z1, Value.int .i64 z2, Value.int .i64 z3, .slice A1 n1 c1, .int .i64 z4, .slice A2 n2 c2] 32)).drewN nq)) := Lib.hid (HS0.out.drewN nq)
  clear HS0
  generalize (w.alloc (Obj.cells #[Value.int .i64 z0, Value.int .i64 z1, Value.int .i64 z2, Value.int .i64 z3, .slice A1 n1 c1, .int .i64 z4, .slice A2 n2 c2] 32)).drewN nq = w1 at *
  go_wp2_with fail
  go_ret
  exact ⟨rfl, S1.out.below⟩

set_option maxRecDepth 100000 in
set_option maxHeartbeats 4000000 in
theorem spGood_no3 (z2 z3 z4 : Int) (A1 : Option Addr) (n1 c1 : Nat) (X1 : Nat → Int) (A2 : Option Addr) (n2 c2 : Nat) (X2 : Nat → Int) (w : World) (c L v : Nat) (_hn1 : n1 ≤ 1048576) (_hn2 : n2 ≤ 1048576) (h1 : IRow w A1 n1 X1) (h2 : IRow w A2 n2 X2) (hc : c ≤ 60) (hL1 : 1 ≤ L) (hL : L ≤ 100000) (hwd : IsW c L v) (h : z2 ≠ v) :
    Calls Try.prog 75 #[.agg (spC c L z2 z3 A1 n1 c1 z4 A2 n2 c2)] w fun e w' => e = .returned (.bool false) ∧ Below w.heap.size w w' := by
  have HS0 := Lib.hid (SL.start (z0 := c) (z1 := L) (z2 := z2) (z3 := z3) (z4 := z4) (c1 := c1) (c2 := c2) h1 h2)
  clear h1 h2
  have HW := Lib.hid hwd
  have hv := isW_le hwd hL
  clear hwd
  have d1 : (z2 != (v : Int)) = true := by simpa using h
  clear h
  go_enter Try.func75, Try.ntmps75
  unfold spC
  go_wp2_with fail
  go_quiet ((first
    | (go_at_call 43; exact quiet_left (l1In_yes _ _ _ _ (by omega) (by omega)))
    | (go_at_call 44; exact quiet_left (spec_limit_yes _ _ (by omega) (by omega)))
    | (go_at_call 45; exact quiet_left (spec_spWidth c L v _ hc hL HW.out))))
  have S1 : Hid (SL w c L z2 z3 A1 n1 c1 X1 z4 A2 n2 c2 X2 ((w.alloc (Obj.cells #[Value.int .i64 c, Value.int .i64 L, Value.int .i64 z2, Value.int .i64 z3, .slice A1 n1 c1, .int .i64 z4, .slice A2 n2 c2] 32)).drewN nq)) := Lib.hid (HS0.out.drewN nq)
  clear HS0
  generalize (w.alloc (Obj.cells #[Value.int .i64 c, Value.int .i64 L, Value.int .i64 z2, Value.int .i64 z3, .slice A1 n1 c1, .int .i64 z4, .slice A2 n2 c2] 32)).drewN nq = w1 at *
  go_wp2_with fail
  go_ret
  exact ⟨rfl, S1.out.below⟩

set_option maxRecDepth 100000 in
set_option maxHeartbeats 4000000 in
theorem spGood_no4 (z3 z4 : Int) (A1 : Option Addr) (n1 c1 : Nat) (X1 : Nat → Int) (A2 : Option Addr) (n2 c2 : Nat) (X2 : Nat → Int) (w : World) (c L v : Nat) (hn1 : n1 ≤ 1048576) (_hn2 : n2 ≤ 1048576) (h1 : IRow w A1 n1 X1) (h2 : IRow w A2 n2 X2) (hc : c ≤ 60) (hL1 : 1 ≤ L) (hL : L ≤ 100000) (hwd : IsW c L v) (h : ¬ Good z3 n1 X1) :
    Calls Try.prog 75 #[.agg (spC c L v z3 A1 n1 c1 z4 A2 n2 c2)] w fun e w' => e = .returned (.bool false) ∧ Below w.heap.size w w' := by
  have HS0 := Lib.hid (SL.start (z0 := c) (z1 := L) (z2 := v) (z3 := z3) (z4 := z4) (c1 := c1) (c2 := c2) h1 h2)
  clear h1 h2
  have HW := Lib.hid hwd
  have hv := isW_le hwd hL
  clear hwd
  have HG1 := Lib.hid h
  clear h
  go_enter Try.func75, Try.ntmps75
  unfold spC
  go_wp2_with fail
  go_quiet ((first
    | (go_at_call 43; exact quiet_left (l1In_yes _ _ _ _ (by omega) (by omega)))
    | (go_at_call 44; exact quiet_left (spec_limit_yes _ _ (by omega) (by omega)))
    | (go_at_call 45; exact quiet_left (spec_spWidth c L v _ hc hL HW.out))))
  have S1 : Hid (SL w c L v z3 A1 n1 c1 X1 z4 A2 n2 c2 X2 ((w.alloc (Obj.cells #[Value.int .i64 c, Value.int .i64 L, Value.int .i64 v, Value.int .i64 z3, .slice A1 n1 c1, .int .i64 z4, .slice A2 n2 c2] 32)).drewN nq)) := Lib.hid (HS0.out.drewN nq)
  clear HS0
  generalize (w.alloc (Obj.cells #[Value.int .i64 c, Value.int .i64 L, Value.int .i64 v, Value.int .i64 z3, .slice A1 n1 c1, .int .i64 z4, .slice A2 n2 c2] 32)).drewN nq = w1 at *
  have q0 := fun u : InC (SL w c L v z3 A1 n1 c1 X1 z4 A2 n2 c2 X2) => u.ok.cells.1
  have q1 := fun u : InC (SL w c L v z3 A1 n1 c1 X1 z4 A2 n2 c2 X2) => u.ok.cells.2.1
  have q2 := fun u : InC (SL w c L v z3 A1 n1 c1 X1 z4 A2 n2 c2 X2) => u.ok.cells.2.2.1
  have q3 := fun u : InC (SL w c L v z3 A1 n1 c1 X1 z4 A2 n2 c2 X2) => u.ok.cells.2.2.2.1
  have q4 := fun u : InC (SL w c L v z3 A1 n1 c1 X1 z4 A2 n2 c2 X2) => u.ok.cells.2.2.2.2.1
  have q5 := fun u : InC (SL w c L v z3 A1 n1 c1 X1 z4 A2 n2 c2 X2) => u.ok.cells.2.2.2.2.2.1
  have q6 := fun u : InC (SL w c L v z3 A1 n1 c1 X1 z4 A2 n2 c2 X2) => u.ok.cells.2.2.2.2.2.2
  go_wp2_with fail
  haveI : Nonempty (InC (SL w c L v z3 A1 n1 c1 X1 z4 A2 n2 c2 X2)) := ⟨⟨_, S1.out⟩⟩
  refine wp_region_class (SL w c L v z3 A1 n1 c1 X1 z4 A2 n2 c2 X2) (by kernel_rfl) (by kernel_rfl) S1.out.drew ?_
  repeat (go_big_quiet_step ((first
    | (go_at_call 96; exact call_class (biGood_no hn1 (SL.low (InC.ok _)) HG1.out) (fun _ hb => SL.step (InC.ok _) hb)))))
  refine wpQuiet_nil ?_
  rintro _ ⟨u, rfl⟩
  clear q0 q1 q2 q3 q4 q5 q6
  go_wp2_with fail
  go_ret
  exact ⟨rfl, u.ok.below⟩

set_option maxRecDepth 100000 in
set_option maxHeartbeats 4000000 in
theorem spGood_no5 (z3 z4 : Int) (A1 : Option Addr) (n1 c1 : Nat) (X1 : Nat → Int) (A2 : Option Addr) (n2 c2 : Nat) (X2 : Nat → Int) (w : World) (c L v : Nat) (hn1 : n1 ≤ 1048576) (hn2 : n2 ≤ 1048576) (h1 : IRow w A1 n1 X1) (h2 : IRow w A2 n2 X2) (hc : c ≤ 60) (hL1 : 1 ≤ L) (hL : L ≤ 100000) (hwd : IsW c L v) (h0 : Good z3 n1 X1) (h : ¬ Good z4 n2 X2) :
    Calls Try.prog 75 #[.agg (spC c L v z3 A1 n1 c1 z4 A2 n2 c2)] w fun e w' => e = .returned (.bool false) ∧ Below w.heap.size w w' := by
  have HS0 := Lib.hid (SL.start (z0 := c) (z1 := L) (z2 := v) (z3 := z3) (z4 := z4) (c1 := c1) (c2 := c2) h1 h2)
  clear h1 h2
  have HW := Lib.hid hwd
  have hv := isW_le hwd hL
  clear hwd
  have HG1 := Lib.hid h0
  have HG2 := Lib.hid h
  clear h h0
  go_enter Try.func75, Try.ntmps75
  unfold spC
  go_wp2_with fail
  go_quiet ((first
    | (go_at_call 43; exact quiet_left (l1In_yes _ _ _ _ (by omega) (by omega)))
    | (go_at_call 44; exact quiet_left (spec_limit_yes _ _ (by omega) (by omega)))
    | (go_at_call 45; exact quiet_left (spec_spWidth c L v _ hc hL HW.out))))
  have S1 : Hid (SL w c L v z3 A1 n1 c1 X1 z4 A2 n2 c2 X2 ((w.alloc (Obj.cells #[Value.int .i64 c, Value.int .i64 L, Value.int .i64 v, Value.int .i64 z3, .slice A1 n1 c1, .int .i64 z4, .slice A2 n2 c2] 32)).drewN nq)) := Lib.hid (HS0.out.drewN nq)
  clear HS0
  generalize (w.alloc (Obj.cells #[Value.int .i64 c, Value.int .i64 L, Value.int .i64 v, Value.int .i64 z3, .slice A1 n1 c1, .int .i64 z4, .slice A2 n2 c2] 32)).drewN nq = w1 at *
  have q0 := fun u : InC (SL w c L v z3 A1 n1 c1 X1 z4 A2 n2 c2 X2) => u.ok.cells.1
  have q1 := fun u : InC (SL w c L v z3 A1 n1 c1 X1 z4 A2 n2 c2 X2) => u.ok.cells.2.1
  have q2 := fun u : InC (SL w c L v z3 A1 n1 c1 X1 z4 A2 n2 c2 X2) => u.ok.cells.2.2.1
  have q3 := fun u : InC (SL w c L v z3 A1 n1 c1 X1 z4 A2 n2 c2 X2) => u.ok.cells.2.2.2.1
  have q4 := fun u : InC (SL w c L v z3 A1 n1 c1 X1 z4 A2 n2 c2 X2) => u.ok.cells.2.2.2.2.1
  have q5 := fun u : InC (SL w c L v z3 A1 n1 c1 X1 z4 A2 n2 c2 X2) => u.ok.cells.2.2.2.2.2.1
  have q6 := fun u : InC (SL w c L v z3 A1 n1 c1 X1 z4 A2 n2 c2 X2) => u.ok.cells.2.2.2.2.2.2
  go_wp2_with fail
  haveI : Nonempty (InC (SL w c L v z3 A1 n1 c1 X1 z4 A2 n2 c2 X2)) := ⟨⟨_, S1.out⟩⟩
  refine wp_region_class (SL w c L v z3 A1 n1 c1 X1 z4 A2 n2 c2 X2) (by kernel_rfl) (by kernel_rfl) S1.out.drew ?_
  repeat (go_big_quiet_step ((first
    | (go_at_call 96; exact call_class (biGood_yes hn1 (SL.low (InC.ok _)) HG1.out) (fun _ hb => SL.step (InC.ok _) hb))
    | (go_at_call 96; exact call_class (biGood_no hn2 (SL.high (InC.ok _)) HG2.out) (fun _ hb => SL.step (InC.ok _) hb)))))
  refine wpQuiet_nil ?_
  rintro _ ⟨u, rfl⟩
  clear q0 q1 q2 q3 q4 q5 q6
  go_wp2_with fail
  go_ret
  exact ⟨rfl, u.ok.below⟩

set_option maxRecDepth 100000 in
set_option maxHeartbeats 4000000 in
theorem spGood_no6 (z3 z4 : Int) (A1 : Option Addr) (n1 c1 : Nat) (X1 : Nat → Int) (A2 : Option Addr) (n2 c2 : Nat) (X2 : Nat → Int) (w : World) (c L v : Nat) (hn1 : n1 ≤ 1048576) (hn2 : n2 ≤ 1048576) (h1 : IRow w A1 n1 X1) (h2 : IRow w A2 n2 X2) (hc : c ≤ 60) (hL1 : 1 ≤ L) (hL : L ≤ 100000) (hwd : IsW c L v) (h0 : Good z3 n1 X1) (h0' : Good z4 n2 X2) (h : z3 ≠ (c * v : Nat)) :
    Calls Try.prog 75 #[.agg (spC c L v z3 A1 n1 c1 z4 A2 n2 c2)] w fun e w' => e = .returned (.bool false) ∧ Below w.heap.size w w' := by
  have HS0 := Lib.hid (SL.start (z0 := c) (z1 := L) (z2 := v) (z3 := z3) (z4 := z4) (c1 := c1) (c2 := c2) h1 h2)
  clear h1 h2
  have HW := Lib.hid hwd
  have hv := isW_le hwd hL
  clear hwd
  have HG1 := Lib.hid h0
  have HG2 := Lib.hid h0'
  obtain ⟨zl, hzl⟩ : ∃ zl, zl = c * v := ⟨_, rfl⟩
  have hzl' : (c : Int) * (v : Int) = (zl : Int) := by rw [hzl]; push_cast; rfl
  have hlow : zl ≤ 960 := by rw [hzl]; exact Nat.mul_le_mul hc hv
  rw [← hzl] at h
  have d1 : (z3 != (zl : Int)) = true := by simpa using h
  have HZL' := Lib.hid hzl'
  clear h h0 h0' hzl hzl'
  go_enter Try.func75, Try.ntmps75
  unfold spC
  go_wp2_with fail
  go_quiet ((first
    | (go_at_call 43; exact quiet_left (l1In_yes _ _ _ _ (by omega) (by omega)))
    | (go_at_call 44; exact quiet_left (spec_limit_yes _ _ (by omega) (by omega)))
    | (go_at_call 45; exact quiet_left (spec_spWidth c L v _ hc hL HW.out))))
  have S1 : Hid (SL w c L v z3 A1 n1 c1 X1 z4 A2 n2 c2 X2 ((w.alloc (Obj.cells #[Value.int .i64 c, Value.int .i64 L, Value.int .i64 v, Value.int .i64 z3, .slice A1 n1 c1, .int .i64 z4, .slice A2 n2 c2] 32)).drewN nq)) := Lib.hid (HS0.out.drewN nq)
  clear HS0
  generalize (w.alloc (Obj.cells #[Value.int .i64 c, Value.int .i64 L, Value.int .i64 v, Value.int .i64 z3, .slice A1 n1 c1, .int .i64 z4, .slice A2 n2 c2] 32)).drewN nq = w1 at *
  have k1 : IntKind.i64.wrap ((c : Int) * (v : Int)) = (zl : Int) := by rw [HZL'.out]; exact IntWalk.i64_in _ (by omega)
  have q0 := fun u : InC (SL w c L v z3 A1 n1 c1 X1 z4 A2 n2 c2 X2) => u.ok.cells.1
  have q1 := fun u : InC (SL w c L v z3 A1 n1 c1 X1 z4 A2 n2 c2 X2) => u.ok.cells.2.1
  have q2 := fun u : InC (SL w c L v z3 A1 n1 c1 X1 z4 A2 n2 c2 X2) => u.ok.cells.2.2.1
  have q3 := fun u : InC (SL w c L v z3 A1 n1 c1 X1 z4 A2 n2 c2 X2) => u.ok.cells.2.2.2.1
  have q4 := fun u : InC (SL w c L v z3 A1 n1 c1 X1 z4 A2 n2 c2 X2) => u.ok.cells.2.2.2.2.1
  have q5 := fun u : InC (SL w c L v z3 A1 n1 c1 X1 z4 A2 n2 c2 X2) => u.ok.cells.2.2.2.2.2.1
  have q6 := fun u : InC (SL w c L v z3 A1 n1 c1 X1 z4 A2 n2 c2 X2) => u.ok.cells.2.2.2.2.2.2
  go_wp2_with fail
  haveI : Nonempty (InC (SL w c L v z3 A1 n1 c1 X1 z4 A2 n2 c2 X2)) := ⟨⟨_, S1.out⟩⟩
  refine wp_region_class (SL w c L v z3 A1 n1 c1 X1 z4 A2 n2 c2 X2) (by kernel_rfl) (by kernel_rfl) S1.out.drew ?_
  repeat (go_big_quiet_step ((first
    | (go_at_call 96; exact call_class (biGood_yes hn1 (SL.low (InC.ok _)) HG1.out) (fun _ hb => SL.step (InC.ok _) hb))
    | (go_at_call 96; exact call_class (biGood_yes hn2 (SL.high (InC.ok _)) HG2.out) (fun _ hb => SL.step (InC.ok _) hb)))))
  refine wpQuiet_nil ?_
  rintro _ ⟨u, rfl⟩
  clear q0 q1 q2 q3 q4 q5 q6
  clear k1
  go_wp2_with fail
  go_ret
  exact ⟨rfl, u.ok.below⟩

set_option maxRecDepth 100000 in
set_option maxHeartbeats 4000000 in
theorem spGood_no7 (z4 : Int) (A1 : Option Addr) (n1 c1 : Nat) (X1 : Nat → Int) (A2 : Option Addr) (n2 c2 : Nat) (X2 : Nat → Int) (w : World) (c L v zl : Nat) (hn1 : n1 ≤ 1048576) (hn2 : n2 ≤ 1048576) (h1 : IRow w A1 n1 X1) (h2 : IRow w A2 n2 X2) (hc : c ≤ 60) (hL1 : 1 ≤ L) (hL : L ≤ 100000) (hwd : IsW c L v) (hzl : zl = c * v) (h0 : Good (zl : Int) n1 X1) (h0' : Good z4 n2 X2) (h : z4 ≠ (hzN c L v : Nat)) :
    Calls Try.prog 75 #[.agg (spC c L v (zl : Int) A1 n1 c1 z4 A2 n2 c2)] w fun e w' => e = .returned (.bool false) ∧ Below w.heap.size w w' := by
  have HS0 := Lib.hid (SL.start (z0 := c) (z1 := L) (z2 := v) (z3 := (zl : Int)) (z4 := z4) (c1 := c1) (c2 := c2) h1 h2)
  clear h1 h2
  have HW := Lib.hid hwd
  have hv := isW_le hwd hL
  clear hwd
  have HG1 := Lib.hid h0
  have HG2 := Lib.hid h0'
  have hzl' : (c : Int) * (v : Int) = (zl : Int) := by rw [hzl]; push_cast; rfl
  have hlow : zl ≤ 960 := by rw [hzl]; exact Nat.mul_le_mul hc hv
  have hhigh : hzN c L v ≤ 200 := hzN_le HW.out hc
  have hq1 := pow_div (L - 1) v
  rw [show ((L - 1 : Nat) : Int) = (L : Int) - 1 by omega] at hq1
  obtain ⟨Q, hQ⟩ : ∃ Q, Q = (L - 1) / 2 ^ v := ⟨_, rfl⟩
  rw [← hQ] at hq1
  have hzq : hzN c L v = c + Q + 1 := by rw [hQ]; rfl
  obtain ⟨zh, hzh⟩ : ∃ zh, zh = hzN c L v := ⟨_, rfl⟩
  rw [← hzh] at h hhigh hzq
  have hzh' : (c : Int) + (Q : Int) + 1 = (zh : Int) := by omega
  have d1 : (z4 != (zh : Int)) = true := by simpa using h
  have HZL' := Lib.hid hzl'
  have HZH' := Lib.hid hzh'
  have HQ1 := Lib.hid hq1
  clear h h0 h0' hzl hzl' hzh hzh' hq1 hQ hzq
  go_enter Try.func75, Try.ntmps75
  unfold spC
  go_wp2_with fail
  go_quiet ((first
    | (go_at_call 43; exact quiet_left (l1In_yes _ _ _ _ (by omega) (by omega)))
    | (go_at_call 44; exact quiet_left (spec_limit_yes _ _ (by omega) (by omega)))
    | (go_at_call 45; exact quiet_left (spec_spWidth c L v _ hc hL HW.out))))
  have S1 : Hid (SL w c L v (zl : Int) A1 n1 c1 X1 z4 A2 n2 c2 X2 ((w.alloc (Obj.cells #[Value.int .i64 c, Value.int .i64 L, Value.int .i64 v, Value.int .i64 (zl : Int), .slice A1 n1 c1, .int .i64 z4, .slice A2 n2 c2] 32)).drewN nq)) := Lib.hid (HS0.out.drewN nq)
  clear HS0
  generalize (w.alloc (Obj.cells #[Value.int .i64 c, Value.int .i64 L, Value.int .i64 v, Value.int .i64 (zl : Int), .slice A1 n1 c1, .int .i64 z4, .slice A2 n2 c2] 32)).drewN nq = w1 at *
  have k1 : IntKind.i64.wrap ((c : Int) * (v : Int)) = (zl : Int) := by rw [HZL'.out]; exact IntWalk.i64_in _ (by omega)
  have k2 : IntKind.i64.wrap ((L : Int) - 1) = (L : Int) - 1 := IntWalk.i64_in _ (by omega)
  have k3 : ((L : Int) - 1) / 2 ^ v = (Q : Int) := HQ1.out
  have hQ0 := HZH'.out
  have k4 : IntKind.i64.wrap ((c : Int) + (Q : Int)) = (c : Int) + (Q : Int) := IntWalk.i64_in _ (by omega)
  have k5 : IntKind.i64.wrap ((c : Int) + (Q : Int) + 1) = (zh : Int) := by rw [hQ0]; exact IntWalk.i64_in _ (by omega)
  clear hQ0
  obtain ⟨c0, c1', c2', c3, c4, c5, c6⟩ := S1.out.cells
  go_wp2_with fail
  go_region_held3 (fun w' => w'.cell? ⟨w.heap.size, 0, none⟩ = some (.int .i64 c) ∧ w'.cell? ⟨w.heap.size, 1, none⟩ = some (.int .i64 L) ∧ w'.cell? ⟨w.heap.size, 2, none⟩ = some (.int .i64 v) ∧ w'.cell? ⟨w.heap.size, 3, none⟩ = some (.int .i64 (zl : Int)) ∧ w'.cell? ⟨w.heap.size, 4, none⟩ = some (.slice A1 n1 c1) ∧ w'.cell? ⟨w.heap.size, 5, none⟩ = some (.int .i64 z4) ∧ w'.cell? ⟨w.heap.size, 6, none⟩ = some (.slice A2 n2 c2))
    (first | (go_keep; done) | with_reducible exact S3.out.cells | with_reducible exact S2.out.cells)
    (first
      | (have hz := S2; clear hz; go_at_call 96; refine (biGood_yes hn2 S2.out.high HG2.out).mono ?_; rintro e w3 ⟨rfl, hb⟩; have S3 := Lib.hid (S2.out.step hb); clear hb)
      | (go_at_call 96; (first | refine (biGood_yes hn1 S1.out.low HG1.out).mono ?_ | refine (biGood_yes hn1 S1.out.drew.low HG1.out).mono ?_); rintro e w2 ⟨rfl, hb'⟩; have hb : Below w1.heap.size w1 w2 := (by first | exact hb' | exact of_drew hb'); have S2 := Lib.hid (S1.out.step hb); clear hb hb'))
  clear k1 k2 k3 k4 k5
  go_wp2_with fail
  go_ret
  exact ⟨rfl, S3.out.below⟩

theorem BoolIs.of_false {f : FuncId} {args : Array Value} {w : World} {p : Prop} (h : Calls Try.prog f args w fun e w' => e = .returned (.bool false) ∧ Below w.heap.size w w') (hp : ¬ p) : Calls Try.prog f args w (BoolIs p w) :=
  h.mono fun _ _ ⟨he, hb⟩ => ⟨false, he, by simp only [Bool.false_eq_true, false_iff]; exact hp, hb⟩
theorem spec_spGood (z0 z1 z2 z3 z4 : Int) (A1 : Option Addr) (n1 c1 : Nat) (X1 : Nat → Int) (A2 : Option Addr) (n2 c2 : Nat) (X2 : Nat → Int) (w : World) (hn1 : n1 ≤ 1048576) (hn2 : n2 ≤ 1048576) (h1 : IRow w A1 n1 X1) (h2 : IRow w A2 n2 X2) :
    Calls Try.prog 75 #[.agg (spC z0 z1 z2 z3 A1 n1 c1 z4 A2 n2 c2)] w (BoolIs (SpV z0 z1 z2 z3 n1 X1 z4 n2 X2) w) := by
  by_cases a0 : 0 ≤ z0 ∧ z0 ≤ 60
  rotate_left
  · exact BoolIs.of_false (spGood_no1 z0 z1 z2 z3 z4 A1 n1 c1 X1 A2 n2 c2 X2 w hn1 hn2 h1 h2 a0) (fun ⟨c, L, v, f, h⟩ => a0 (by have := h.ec; have := h.num.hc; omega))
  by_cases a1 : 1 ≤ z1 ∧ z1 ≤ 100000
  rotate_left
  · exact BoolIs.of_false (spGood_no2 z0 z1 z2 z3 z4 A1 n1 c1 X1 A2 n2 c2 X2 w hn1 hn2 h1 h2 a0 a1) (fun ⟨c, L, v, f, h⟩ => a1 (by have := h.eL; have := h.num.hL; have := h.num.h1; omega))
  obtain ⟨c, L, v, rfl, rfl, hc, hL1, hL, hwd⟩ := wOk_nat (show WOk z0 z1 from ⟨a0.1, a0.2, a1.1, a1.2⟩)
  by_cases a2 : z2 = v
  rotate_left
  · exact BoolIs.of_false (spGood_no3 z2 z3 z4 A1 n1 c1 X1 A2 n2 c2 X2 w c L v hn1 hn2 h1 h2 hc hL1 hL hwd a2) (fun ⟨c', L', v', f, h⟩ => a2 (by
      have e1 := h.ec; have e2 := h.eL; have e3 := h.ew
      obtain rfl : c = c' := by omega
      obtain rfl : L = L' := by omega
      rw [isW_uniq hwd h.num.wd]; exact e3))
  subst a2
  by_cases a3 : Good z3 n1 X1
  rotate_left
  · exact BoolIs.of_false (spGood_no4 z3 z4 A1 n1 c1 X1 A2 n2 c2 X2 w c L v hn1 hn2 h1 h2 hc hL1 hL hwd a3) (fun ⟨_, _, _, _, h⟩ => a3 h.goodl)
  by_cases a4 : Good z4 n2 X2
  rotate_left
  · exact BoolIs.of_false (spGood_no5 z3 z4 A1 n1 c1 X1 A2 n2 c2 X2 w c L v hn1 hn2 h1 h2 hc hL1 hL hwd a3 a4) (fun ⟨_, _, _, _, h⟩ => a4 h.goodh)
  by_cases a5 : z3 = (c * v : Nat)
  rotate_left
  · exact BoolIs.of_false (spGood_no6 z3 z4 A1 n1 c1 X1 A2 n2 c2 X2 w c L v hn1 hn2 h1 h2 hc hL1 hL hwd a3 a4 a5) (fun h => by obtain ⟨f, h⟩ := h.at; exact a5 h.el)
  by_cases a6 : z4 = (hzN c L v : Nat)
  rotate_left
  · subst a5
    exact BoolIs.of_false (spGood_no7 z4 A1 n1 c1 X1 A2 n2 c2 X2 w c L v (c * v) hn1 hn2 h1 h2 hc hL1 hL hwd rfl a3 a4 a6) (fun h => by obtain ⟨f, h⟩ := h.at; exact a6 h.eh)
  subst a5 a6
  exact spec_spGood_mid A1 n1 c1 X1 A2 n2 c2 X2 w c L v _ _ hn1 hn2 h1 h2 hc hL1 hL hwd a3 a4 rfl rfl
end Go.Proofs.Ytffdkfhnlgfigaa
