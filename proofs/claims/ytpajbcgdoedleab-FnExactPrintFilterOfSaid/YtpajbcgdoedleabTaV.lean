/- Which tables are valid: both sides, whatever the argument. -/
import Derived.Test.YtpajbcgdoedleabBx1
import Derived.Test.YtpajbcgdoedleabQuietC
namespace Go.Proofs.Ytpajbcgdoedleab
open Go.RowKit

def TaV (z0 z1 z2 : Int) (n : Nat) (X : Nat → Int) : Prop := (0 ≤ z0 ∧ z0 ≤ 9999) ∧ (1 ≤ z1 ∧ z1 ≤ 24) ∧ (1 ≤ z2 ∧ z2 ≤ 8) ∧ (n : Int) = 3 * z1 ∧ InAll n X 0 (2 ^ z2.toNat - 1)
theorem spec_reWidth {n : Int} {b : Bool} (h : decide (1 ≤ n ∧ n ≤ 8) = b) (w : World) : Calls Try.prog 73 #[.int .i64 n] w fun e w' => e = .returned (.bool b) ∧ w = w' := by
  have D := Lib.hid h
  clear h
  go_enter Try.func73, Try.ntmps73
  go_wp2_with fail
  refine (l1In_of D.out _).mono ?_; rintro e w1 ⟨rfl, rfl⟩
  go_wp2_with fail
  go_ret
  exact ⟨rfl, rfl⟩
theorem spec_reTop (v : Nat) (hv : v ≤ 8) (w : World) : Calls Try.prog 101 #[.int .i64 v] w fun e w' => e = .returned (.int .i64 (2 ^ v)) ∧ w = w' := by
  obtain ⟨p0, p1⟩ := two_bd (m := v) (k := 8) hv
  have p2 : (2 : Int) ^ v ≤ 256 := by simpa using p1
  clear p1
  go_enter Try.func101, Try.ntmps101
  go_wp2_with fail
  go_ret
  exact ⟨by go_num, rfl⟩
theorem impl_isValueWidth {n : Int} {b : Bool} (h : decide (1 ≤ n ∧ n ≤ 8) = b) (w : World) : Calls Try.prog 102 #[.int .i64 n] w fun e w' => e = .returned (.bool b) ∧ w = w' := by
  subst h
  by_cases h1 : 1 ≤ n
  · by_cases h2 : n ≤ 8
    · have d1 : decide (1 ≤ n) = true := by simpa using h1
      have d2 : decide (n ≤ 8) = true := by simpa using h2
      rw [show decide (1 ≤ n ∧ n ≤ 8) = true by simp [h1, h2]]
      go_enter Try.func102, Try.ntmps102
      go_wp2_with fail
      go_ret
      exact ⟨rfl, rfl⟩
    · have d1 : decide (1 ≤ n) = true := by simpa using h1
      have d2 : decide (n ≤ 8) = false := by simpa using h2
      rw [show decide (1 ≤ n ∧ n ≤ 8) = false by simp [h2]]
      go_enter Try.func102, Try.ntmps102
      go_wp2_with fail
      go_ret
      exact ⟨rfl, rfl⟩
  · have d1 : decide (1 ≤ n) = false := by simpa using h1
    rw [show decide (1 ≤ n ∧ n ≤ 8) = false by simp [h1]]
    go_enter Try.func102, Try.ntmps102
    go_wp2_with fail
    go_ret
    exact ⟨rfl, rfl⟩
theorem ris_val {P : Program} {f : FuncId} {args : Array Value} {w : World} {b : Bool} {Q : Prop} (hb : b = true ↔ Q) (h : Calls P f args w (RisIs Q w)) : Calls P f args w fun e w' => e = .returned (.bool b) ∧ Below w.heap.size w w' :=
  h.mono fun e w' ⟨b', he, hb', k, hk⟩ => ⟨by rw [he, show b' = b by cases b <;> cases b' <;> simp_all], hk ▸ below_drewN (Below.refl _ _) k⟩
theorem bool_val {P : Program} {f : FuncId} {args : Array Value} {w : World} {b : Bool} {Q : Prop} (hb : b = true ↔ Q) (h : Calls P f args w (BoolIs Q w)) : Calls P f args w fun e w' => e = .returned (.bool b) ∧ Below w.heap.size w w' :=
  h.mono fun e w' ⟨b', he, hb', hw⟩ => ⟨by rw [he, show b' = b by cases b <;> cases b' <;> simp_all], hw⟩
theorem bool_of (Q : Prop) : ∃ b : Bool, b = true ↔ Q := by
  by_cases h : Q
  · exact ⟨true, by simp [h]⟩
  · exact ⟨false, by simp [h]⟩
section
variable {z0 z1 z2 : Int} {A : Option Addr} {n c : Nat} {X : Nat → Int} {w : World}
abbrev TaC (w : World) (z0 z1 z2 : Int) (A : Option Addr) (n c : Nat) (X : Nat → Int) : World → Prop := BX1 w w.heap.size #[.int .i64 z0, .int .i64 z1, .int .i64 z2, .slice A n c] 57 A n X

set_option maxRecDepth 100000 in
set_option maxHeartbeats 4000000 in
theorem spec_reTable {b : Bool} (hb : b = true ↔ TaV z0 z1 z2 n X) (hn : n ≤ 1048576) (hr : IRow w A n X) :
    Calls Try.prog 77 #[.agg #[.int .i64 z0, .int .i64 z1, .int .i64 z2, .slice A n c]] w fun e w' => e = .returned (.bool b) ∧ Below w.heap.size w w' := by
  have S0 := Lib.hid (BX1.start (cs := #[.int .i64 z0, .int .i64 z1, .int .i64 z2, .slice A n c]) (t := 57) hr)
  clear hr
  haveI : Nonempty (InC (TaC w z0 z1 z2 A n c X)) := ⟨⟨_, S0.out⟩⟩
  have q0 := fun u : InC (TaC w z0 z1 z2 A n c X) => u.ok.box.cell 0 _ rfl
  have q1 := fun u : InC (TaC w z0 z1 z2 A n c X) => u.ok.box.cell 1 _ rfl
  have q2 := fun u : InC (TaC w z0 z1 z2 A n c X) => u.ok.box.cell 2 _ rfl
  have q3 := fun u : InC (TaC w z0 z1 z2 A n c X) => u.ok.box.cell 3 _ rfl
  by_cases h0 : 0 ≤ z0 ∧ z0 ≤ 9999
  rotate_left
  · have D0 := Lib.hid (decide_eq_false h0)
    obtain rfl : b = false := by cases b; rfl; exact absurd (hb.1 rfl).1 h0
    clear h0 hb
    go_enter Try.func77, Try.ntmps77
    go_wp2_with fail
    refine wp_region_class (TaC w z0 z1 z2 A n c X) (by kernel_rfl) (by kernel_rfl) S0.out.drew ?_
    repeat (go_big_quiet_step ((first
      | (go_at_call 72; exact call_class_same (l1In_of D0.out _)))))
    refine wpQuiet_nil ?_
    rintro _ ⟨u, rfl⟩
    clear q0 q1 q2 q3
    go_wp2_with fail
    go_ret
    exact ⟨rfl, u.ok.below⟩
  have D0 := Lib.hid (decide_eq_true h0)
  by_cases h1 : 1 ≤ z1 ∧ z1 ≤ 24
  rotate_left
  · have D1 := Lib.hid (decide_eq_false h1)
    obtain rfl : b = false := by cases b; rfl; exact absurd (hb.1 rfl).2.1 h1
    clear h1 hb
    go_enter Try.func77, Try.ntmps77
    go_wp2_with fail
    refine wp_region_class (TaC w z0 z1 z2 A n c X) (by kernel_rfl) (by kernel_rfl) S0.out.drew ?_
    repeat (go_big_quiet_step ((first
      | (go_at_call 72; first | with_reducible exact call_class_same (l1In_of D0.out _) | with_reducible exact call_class_same (l1In_of D1.out _)))))
    refine wpQuiet_nil ?_
    rintro _ ⟨u, rfl⟩
    clear q0 q1 q2 q3
    go_wp2_with fail
    go_ret
    exact ⟨rfl, u.ok.below⟩
  have D1 := Lib.hid (decide_eq_true h1)
  by_cases h2 : 1 ≤ z2 ∧ z2 ≤ 8
  rotate_left
  · have D2 := Lib.hid (decide_eq_false h2)
    obtain rfl : b = false := by cases b; rfl; exact absurd (hb.1 rfl).2.2.1 h2
    clear h2 hb
    go_enter Try.func77, Try.ntmps77
    go_wp2_with fail
    refine wp_region_class (TaC w z0 z1 z2 A n c X) (by kernel_rfl) (by kernel_rfl) S0.out.drew ?_
    repeat (go_big_quiet_step ((first
      | (go_at_call 72; first | with_reducible exact call_class_same (l1In_of D0.out _) | with_reducible exact call_class_same (l1In_of D1.out _))
      | (go_at_call 73; exact call_class_same (spec_reWidth D2.out _)))))
    refine wpQuiet_nil ?_
    rintro _ ⟨u, rfl⟩
    clear q0 q1 q2 q3
    go_wp2_with fail
    go_ret
    exact ⟨rfl, u.ok.below⟩
  have D2 := Lib.hid (decide_eq_true h2)
  have e1 : IntKind.i64.wrap ((3 : Int) * z1) = 3 * z1 := IntWalk.i64_in _ (by omega)
  by_cases hc : (n : Int) = 3 * z1
  rotate_left
  · have d0 : ((n : Int) == 3 * z1) = false := by simpa using hc
    obtain rfl : b = false := by cases b; rfl; exact absurd (hb.1 rfl).2.2.2.1 hc
    clear hc hb
    go_enter Try.func77, Try.ntmps77
    go_wp2_with fail
    refine wp_region_class (TaC w z0 z1 z2 A n c X) (by kernel_rfl) (by kernel_rfl) S0.out.drew ?_
    repeat (go_big_quiet_step ((first
      | (go_at_call 72; first | with_reducible exact call_class_same (l1In_of D0.out _) | with_reducible exact call_class_same (l1In_of D1.out _))
      | (go_at_call 73; exact call_class_same (spec_reWidth D2.out _)))))
    refine wpQuiet_nil ?_
    rintro _ ⟨u, rfl⟩
    clear q0 q1 q2 q3
    go_wp2_with fail
    go_ret
    exact ⟨rfl, u.ok.below⟩
  have d0 : ((n : Int) == 3 * z1) = true := by simpa using hc
  obtain ⟨v, rfl⟩ : ∃ v : Nat, z2 = v := ⟨z2.toNat, by omega⟩
  obtain ⟨p0, p1⟩ := two_bd (m := v) (k := 8) (by omega)
  have p2 : (2 : Int) ^ v ≤ 256 := by simpa using p1
  clear p1
  have e2 : IntKind.i64.wrap ((2 : Int) ^ v - 1) = 2 ^ v - 1 := IntWalk.i64_in _ (by omega)
  have HV := Lib.hid (show b = true ↔ InAll n X 0 (2 ^ v - 1) from hb.trans ⟨fun h => by simpa using h.2.2.2.2, fun h => ⟨h0, h1, h2, hc, by simpa using h⟩⟩)
  have hv8 : v ≤ 8 := by omega
  clear hc hb h0 h1 h2
  go_enter Try.func77, Try.ntmps77
  go_wp2_with fail
  refine wp_region_class (TaC w z0 z1 v A n c X) (by kernel_rfl) (by kernel_rfl) S0.out.drew ?_
  repeat (go_big_quiet_step ((first
    | (go_at_call 72; first | with_reducible exact call_class_same (l1In_of D0.out _) | with_reducible exact call_class_same (l1In_of D1.out _))
    | (go_at_call 73; exact call_class_same (spec_reWidth D2.out _))
    | (go_at_call 101; exact call_class_same (spec_reTop v hv8 _))
    | (go_at_call 88; exact call_class (ris_val HV.out (spec_l1AllG A n c X _ _ _ hn (BX1.row (InC.ok _)))) (fun _ hb => BX1.step (InC.ok _) hb)))))
  refine wpQuiet_nil ?_
  rintro _ ⟨u, rfl⟩
  clear q0 q1 q2 q3
  go_wp2_with fail
  go_ret
  exact ⟨rfl, u.ok.below⟩
set_option maxRecDepth 100000 in
set_option maxHeartbeats 4000000 in
theorem impl_isTable {b : Bool} (hb : b = true ↔ TaV z0 z1 z2 n X) (hn : n ≤ 1048576) (hr : IRow w A n X) :
    Calls Try.prog 79 #[.agg #[.int .i64 z0, .int .i64 z1, .int .i64 z2, .slice A n c]] w fun e w' => e = .returned (.bool b) ∧ Below w.heap.size w w' := by
  have S0 := Lib.hid (BX1.start (cs := #[.int .i64 z0, .int .i64 z1, .int .i64 z2, .slice A n c]) (t := 57) hr)
  clear hr
  haveI : Nonempty (InC (TaC w z0 z1 z2 A n c X)) := ⟨⟨_, S0.out⟩⟩
  have q0 := fun u : InC (TaC w z0 z1 z2 A n c X) => u.ok.box.cell 0 _ rfl
  have q1 := fun u : InC (TaC w z0 z1 z2 A n c X) => u.ok.box.cell 1 _ rfl
  have q2 := fun u : InC (TaC w z0 z1 z2 A n c X) => u.ok.box.cell 2 _ rfl
  have q3 := fun u : InC (TaC w z0 z1 z2 A n c X) => u.ok.box.cell 3 _ rfl
  by_cases h0 : heB z0 z1 = true
  rotate_left
  · have E0 := Lib.hid (fun W : World => (impl_hasEdges z0 z1 W).mono (R' := fun e w' => e = .returned (.bool false) ∧ W = w') fun e w' h => ⟨h.1.trans (by rw [show heB z0 z1 = false by simpa using h0]), h.2⟩)
    obtain rfl : b = false := by
      cases b
      · rfl
      · have := hb.1 rfl
        exact absurd (show heB z0 z1 = true by unfold heB seedB; simp only [Bool.and_eq_true, decide_eq_true_eq]; have := this.1; have h3 := this; have := (hb.1 rfl).2.1; omega) h0
    clear h0 hb
    go_enter Try.func79, Try.ntmps79
    go_wp2_with fail
    refine wp_region_class (TaC w z0 z1 z2 A n c X) (by kernel_rfl) (by kernel_rfl) S0.out.drew ?_
    repeat (go_big_quiet_step ((first
      | (go_at_call 105; exact call_class_same (E0.out _)))))
    refine wpQuiet_nil ?_
    rintro _ ⟨u, rfl⟩
    clear q0 q1 q2 q3
    go_wp2_with fail
    go_ret
    exact ⟨rfl, u.ok.below⟩
  have E0 := Lib.hid (fun W : World => (impl_hasEdges z0 z1 W).mono (R' := fun e w' => e = .returned (.bool true) ∧ W = w') fun e w' h => ⟨h.1.trans (by rw [h0]), h.2⟩)
  have H0 : (0 ≤ z0 ∧ z0 ≤ 9999) ∧ 1 ≤ z1 ∧ z1 ≤ 24 := by
    unfold heB seedB at h0; simp only [Bool.and_eq_true, decide_eq_true_eq] at h0; omega
  by_cases h2 : 1 ≤ z2 ∧ z2 ≤ 8
  rotate_left
  · have D2 := Lib.hid (decide_eq_false h2)
    obtain rfl : b = false := by cases b; rfl; exact absurd (hb.1 rfl).2.2.1 h2
    clear h0 h2 hb
    go_enter Try.func79, Try.ntmps79
    go_wp2_with fail
    refine wp_region_class (TaC w z0 z1 z2 A n c X) (by kernel_rfl) (by kernel_rfl) S0.out.drew ?_
    repeat (go_big_quiet_step ((first
      | (go_at_call 105; exact call_class_same (E0.out _))
      | (go_at_call 102; exact call_class_same (impl_isValueWidth D2.out _)))))
    refine wpQuiet_nil ?_
    rintro _ ⟨u, rfl⟩
    clear q0 q1 q2 q3
    go_wp2_with fail
    go_ret
    exact ⟨rfl, u.ok.below⟩
  have D2 := Lib.hid (decide_eq_true h2)
  have e1 : IntKind.i64.wrap ((3 : Int) * z1) = 3 * z1 := IntWalk.i64_in _ (by omega)
  obtain ⟨v, rfl⟩ : ∃ v : Nat, z2 = v := ⟨z2.toNat, by omega⟩
  obtain ⟨p0, p1⟩ := two_bd (m := v) (k := 8) (by omega)
  have p2 : (2 : Int) ^ v ≤ 256 := by simpa using p1
  clear p1
  have hv8 : v ≤ 8 := by omega
  have HV := Lib.hid (show b = true ↔ ((n : Int) = 3 * z1 ∧ InAll n X 0 (2 ^ v - 1)) from hb.trans ⟨fun h => ⟨h.2.2.2.1, by simpa using h.2.2.2.2⟩, fun h => ⟨⟨by omega, by omega⟩, ⟨by omega, by omega⟩, h2, h.1, by simpa using h.2⟩⟩)
  have HA := Lib.hid (fun W (h : IRow W A n X) => bool_val HV.out (impl_areBelow A n c X (3 * z1) (2 ^ v) W hn h))
  clear hb h0 h2
  go_enter Try.func79, Try.ntmps79
  go_wp2_with fail
  refine wp_region_class (TaC w z0 z1 v A n c X) (by kernel_rfl) (by kernel_rfl) S0.out.drew ?_
  repeat (go_big_quiet_step ((first
    | (go_at_call 105; exact call_class_same (E0.out _))
    | (go_at_call 102; exact call_class_same (impl_isValueWidth D2.out _))
    | (go_at_call 54; exact call_class (HA.out _ (BX1.row (InC.ok _))) (fun _ hb => BX1.step (InC.ok _) hb)))))
  refine wpQuiet_nil ?_
  rintro _ ⟨u, rfl⟩
  clear q0 q1 q2 q3
  go_wp2_with fail
  go_ret
  exact ⟨rfl, u.ok.below⟩
end
end Go.Proofs.Ytpajbcgdoedleab
