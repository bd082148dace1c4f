/- Prints of keys; PrintOf and PrintHas: both sides. -/
import Derived.Test.YtpajbcgdoedleabTaW
import Derived.Test.YtpajbcgdoedleabKeyRow
namespace Go.Proofs.Ytpajbcgdoedleab
open Go.RowKit

/-- The print of a key. -/
def prV (z0 : Int) (v : Nat) (s : ByteArray) : Int := placeI z0 9 s.data.toList (2 ^ v)
/-- Whether keys have prints. -/
def prB (z0 z1 : Int) : Bool := decide (0 ≤ z0 ∧ z0 ≤ 9999) && decide (1 ≤ z1 ∧ z1 ≤ 8)
theorem prB_out {z0 z1 : Int} (h : prB z0 z1 = true) : (0 ≤ z0 ∧ z0 ≤ 9999) ∧ (1 ≤ z1 ∧ z1 ≤ 8) := by
  unfold prB at h; simp only [Bool.and_eq_true, decide_eq_true_eq] at h; exact h
theorem seed9_dec {s : Int} {b : Bool} (h : decide (0 ≤ s ∧ s ≤ 9999) = b) : seedB s 9 = b := by
  rw [← h]; unfold seedB; simp
/-- Whether a table answers yes to a key. -/
def psB (z0 : Int) (g v : Nat) (X : Nat → Int) (s : ByteArray) : Bool := ((taN z0 g s X : Nat) : Int) == prV z0 v s
section
variable {z0 z1 z2 : Int} {g v : Nat} {A : Option Addr} {n c : Nat} {X : Nat → Int} {s : ByteArray} {w : World}
theorem spec_fiPrint (h : prB z0 v = true) (hs : s.size ≤ maxLen) : Calls Try.prog 74 #[.int .i64 z0, .int .i64 v, .string s] w fun e w' => e = .returned (.int .i64 (prV z0 v s)) ∧ w = w' := by
  obtain ⟨h0, h1⟩ := prB_out h
  obtain ⟨p0, p1⟩ := two_bd (m := v) (k := 8) (by omega)
  have p2 : (2 : Int) ^ v ≤ 256 := by simpa using p1
  have HC := Lib.hid (fun W : World => spec_biPlace z0 9 (2 ^ v) s W hs (seed9_dec (decide_eq_true h0)) (by omega) (by omega))
  clear p0 p1 p2
  go_enter Try.func74, Try.ntmps74
  go_wp2_with fail
  refine (spec_reTop v (by omega) _).mono ?_; rintro e w1 ⟨rfl, rfl⟩
  go_wp2_with fail
  refine (HC.out _).mono ?_; rintro e w1 ⟨rfl, rfl⟩
  go_wp2_with fail
  go_ret
  exact ⟨rfl, rfl⟩
theorem impl_printOfF (h : prB z0 v = true) (hs : s.size ≤ maxLen) : Calls Try.prog 76 #[.int .i64 z0, .int .i64 v, .string s] w fun e w' => e = .returned (.int .i64 (prV z0 v s)) ∧ w = w' := by
  obtain ⟨h0, h1⟩ := prB_out h
  obtain ⟨p0, p1⟩ := two_bd (m := v) (k := 8) (by omega)
  have p2 : (2 : Int) ^ v ≤ 256 := by simpa using p1
  have HC := Lib.hid (fun W : World => impl_placeKey z0 9 (2 ^ v) s W hs (seed9_dec (decide_eq_true h0)) (by omega) (by omega))
  have hv8 : v ≤ 8 := by omega
  clear p1
  go_enter Try.func76, Try.ntmps76
  go_wp2_with fail
  refine (HC.out _).mono ?_; rintro e w1 ⟨rfl, rfl⟩
  go_wp2_with fail
  go_ret
  exact ⟨rfl, rfl⟩
theorem impl_hasPrints : Calls Try.prog 75 #[.int .i64 z0, .int .i64 z1] w fun e w' => e = .returned (.bool (prB z0 z1)) ∧ w = w' := by
  by_cases h0 : 0 ≤ z0 ∧ z0 ≤ 9999
  rotate_left
  · have E := Lib.hid (show prB z0 z1 = false by unfold prB; rw [decide_eq_false h0]; rfl)
    have D0 := Lib.hid (seed9_dec (decide_eq_false h0))
    clear h0
    go_enter Try.func75, Try.ntmps75
    go_wp2_with fail
    refine (impl_isHashNumber _ _ _).mono ?_; rintro e w1 ⟨rfl, rfl⟩
    rw [D0.out]
    go_wp2_with fail
    go_ret
    exact ⟨by rw [E.out]; rfl, rfl⟩
  have D0 := Lib.hid (seed9_dec (decide_eq_true h0))
  obtain ⟨b, hb⟩ : ∃ b, decide (1 ≤ z1 ∧ z1 ≤ 8) = b := ⟨_, rfl⟩
  have D1 := Lib.hid hb
  have E := Lib.hid (show prB z0 z1 = b by unfold prB; rw [decide_eq_true h0, hb]; rfl)
  clear h0 hb
  go_enter Try.func75, Try.ntmps75
  go_wp2_with fail
  refine (impl_isHashNumber _ _ _).mono ?_; rintro e w1 ⟨rfl, rfl⟩
  rw [D0.out]
  go_wp2_with fail
  refine (impl_isValueWidth D1.out _).mono ?_; rintro e w1 ⟨rfl, rfl⟩
  go_wp2_with fail
  go_ret
  exact ⟨by rw [E.out]; rfl, rfl⟩
theorem spec_printOfT (h : prB z0 v = true) (hk : isKeyB s.data.toList = true) (hs : s.size ≤ maxLen) : Calls Try.prog 34 #[.int .i64 z0, .int .i64 v, .string s] w fun e w' => e = .returned (.tuple #[.int .i64 (prV z0 v s), .bool true]) ∧ Below w.heap.size w w' := by
  obtain ⟨h0, h1⟩ := prB_out h
  go_enter Try.func34, Try.ntmps34
  go_wp2_with fail
  refine (l1In_of (decide_eq_true h0) _).mono ?_; rintro e w1 ⟨rfl, rfl⟩
  go_wp2_with fail
  refine (spec_reWidth (decide_eq_true h1) _).mono ?_; rintro e w1 ⟨rfl, rfl⟩
  go_wp2_with fail
  refine (spec_isKey _ _ hs).mono ?_; rintro e w1 ⟨rfl, rfl⟩
  rw [hk]
  go_wp2_with fail
  refine (spec_fiPrint h hs).mono ?_; rintro e w1 ⟨rfl, rfl⟩
  go_wp2_with fail
  go_ret2
  exact ⟨rfl, Below.refl _ _⟩
theorem impl_printOfT (h : prB z0 v = true) (hk : isKeyB s.data.toList = true) (hs : s.size ≤ maxLen) : Calls Try.prog 35 #[.int .i64 z0, .int .i64 v, .string s] w fun e w' => e = .returned (.tuple #[.int .i64 (prV z0 v s), .bool true]) ∧ Below w.heap.size w w' := by
  go_enter Try.func35, Try.ntmps35
  go_wp2_with fail
  refine impl_hasPrints.mono ?_; rintro e w1 ⟨rfl, rfl⟩
  rw [h]
  go_wp2_with fail
  refine (impl_isKey _ _ hs).mono ?_; rintro e w1 ⟨rfl, rfl⟩
  rw [hk]
  go_wp2_with fail
  refine (impl_printOfF h hs).mono ?_; rintro e w1 ⟨rfl, rfl⟩
  go_wp2_with fail
  go_ret2
  exact ⟨rfl, Below.refl _ _⟩
theorem spec_printOf_no (h : (prB z0 z1 && isKeyB s.data.toList) = false) (hs : s.size ≤ maxLen) : Calls Try.prog 34 #[.int .i64 z0, .int .i64 z1, .string s] w fun e w' => e = .returned (.tuple #[.int .i64 0, .bool false]) ∧ Below w.heap.size w w' := by
  by_cases h0 : 0 ≤ z0 ∧ z0 ≤ 9999
  rotate_left
  · have D0 := Lib.hid (decide_eq_false h0)
    clear h0 h
    go_enter Try.func34, Try.ntmps34
    go_wp2_with fail
    refine (l1In_of D0.out _).mono ?_; rintro e w1 ⟨rfl, rfl⟩
    go_wp2_with fail
    go_ret2
    exact ⟨rfl, Below.refl _ _⟩
  have D0 := Lib.hid (decide_eq_true h0)
  by_cases h1 : 1 ≤ z1 ∧ z1 ≤ 8
  rotate_left
  · have D1 := Lib.hid (decide_eq_false h1)
    clear h0 h h1
    go_enter Try.func34, Try.ntmps34
    go_wp2_with fail
    refine (l1In_of D0.out _).mono ?_; rintro e w1 ⟨rfl, rfl⟩
    go_wp2_with fail
    refine (spec_reWidth D1.out _).mono ?_; rintro e w1 ⟨rfl, rfl⟩
    go_wp2_with fail
    go_ret2
    exact ⟨rfl, Below.refl _ _⟩
  have D1 := Lib.hid (decide_eq_true h1)
  have hk : isKeyB s.data.toList = false := by
    unfold prB at h; rw [decide_eq_true h0, decide_eq_true h1] at h; simpa using h
  clear h0 h1 h
  go_enter Try.func34, Try.ntmps34
  go_wp2_with fail
  refine (l1In_of D0.out _).mono ?_; rintro e w1 ⟨rfl, rfl⟩
  go_wp2_with fail
  refine (spec_reWidth D1.out _).mono ?_; rintro e w1 ⟨rfl, rfl⟩
  go_wp2_with fail
  refine (spec_isKey _ _ hs).mono ?_; rintro e w1 ⟨rfl, rfl⟩
  rw [hk]
  go_wp2_with fail
  go_ret2
  exact ⟨rfl, Below.refl _ _⟩
theorem impl_printOf_no (h : (prB z0 z1 && isKeyB s.data.toList) = false) (hs : s.size ≤ maxLen) : Calls Try.prog 35 #[.int .i64 z0, .int .i64 z1, .string s] w fun e w' => e = .returned (.tuple #[.int .i64 0, .bool false]) ∧ Below w.heap.size w w' := by
  cases hf : prB z0 z1 with
  | false =>
    clear h
    go_enter Try.func35, Try.ntmps35
    go_wp2_with fail
    refine impl_hasPrints.mono ?_; rintro e w1 ⟨rfl, rfl⟩
    rw [hf]
    go_wp2_with fail
    go_ret2
    exact ⟨rfl, Below.refl _ _⟩
  | true =>
    have hk : isKeyB s.data.toList = false := by rw [hf, Bool.true_and] at h; exact h
    clear h
    go_enter Try.func35, Try.ntmps35
    go_wp2_with fail
    refine impl_hasPrints.mono ?_; rintro e w1 ⟨rfl, rfl⟩
    rw [hf]
    go_wp2_with fail
    refine (impl_isKey _ _ hs).mono ?_; rintro e w1 ⟨rfl, rfl⟩
    rw [hk]
    go_wp2_with fail
    go_ret2
    exact ⟨rfl, Below.refl _ _⟩
set_option maxRecDepth 100000 in
set_option maxHeartbeats 4000000 in
theorem spec_fiPrints (hs : s.size ≤ maxLen) (hr : IRow w A n X) (hv : TaV z0 g v n X) :
    Calls Try.prog 78 #[.agg #[.int .i64 z0, .int .i64 g, .int .i64 v, .slice A n c], .string s] w fun e w' => e = .returned (.bool (psB z0 g v X s)) ∧ Below w.heap.size w w' := by
  have S0 := Lib.hid (BX1.start (cs := #[.int .i64 z0, .int .i64 g, .int .i64 v, .slice A n c]) (t := 57) hr)
  have hp : prB z0 v = true := by unfold prB; rw [decide_eq_true hv.1, decide_eq_true hv.2.2.1]; rfl
  have HV := Lib.hid hv
  have HC := Lib.hid (fun (W : World) (h : IRow W A n X) => spec_reValue (c := c) hs h hv)
  have HP := Lib.hid (fun W : World => spec_fiPrint (w := W) hp hs)
  haveI : Nonempty (InC (TaC w z0 g v A n c X)) := ⟨⟨_, S0.out⟩⟩
  have q0 := fun u : InC (TaC w z0 g v A n c X) => u.ok.box.cell 0 _ rfl
  have q1 := fun u : InC (TaC w z0 g v A n c X) => u.ok.box.cell 1 _ rfl
  have q2 := fun u : InC (TaC w z0 g v A n c X) => u.ok.box.cell 2 _ rfl
  have q3 := fun u : InC (TaC w z0 g v A n c X) => u.ok.box.cell 3 _ rfl
  have HD := Lib.hid (show psB z0 g v X s = (((taN z0 g s X : Nat) : Int) == prV z0 v s) from rfl)
  obtain ⟨V, hV⟩ : ∃ V : Nat, V = taN z0 g s X := ⟨_, rfl⟩
  obtain ⟨U, hU⟩ : ∃ U : Int, U = prV z0 v s := ⟨_, rfl⟩
  rw [← hV] at HC HD
  rw [← hU] at HP HD
  clear hr hv hp hV hU
  go_enter Try.func78, Try.ntmps78
  go_wp2_with fail
  refine wp_region_class (TaC w z0 g v A n c X) (by kernel_rfl) (by kernel_rfl) S0.out.drew ?_
  repeat (go_big_quiet_step ((first
    | (go_at_call 104; exact call_class (HC.out _ (BX1.row (InC.ok _))) (fun _ hb => BX1.step (InC.ok _) hb))
    | (go_at_call 74; exact call_class_same (HP.out _)))))
  refine wpQuiet_nil ?_
  rintro _ ⟨u, rfl⟩
  clear q0 q1 q2 q3
  go_wp2_with fail
  go_ret
  exact ⟨by rw [HD.out]; rfl, u.ok.below⟩
set_option maxRecDepth 100000 in
set_option maxHeartbeats 4000000 in
theorem impl_answersT (hs : s.size ≤ maxLen) (hr : IRow w A n X) (hv : TaV z0 g v n X) :
    Calls Try.prog 80 #[.agg #[.int .i64 z0, .int .i64 g, .int .i64 v, .slice A n c], .string s] w fun e w' => e = .returned (.bool (psB z0 g v X s)) ∧ Below w.heap.size w w' := by
  have S0 := Lib.hid (BX1.start (cs := #[.int .i64 z0, .int .i64 g, .int .i64 v, .slice A n c]) (t := 57) hr)
  have hp : prB z0 v = true := by unfold prB; rw [decide_eq_true hv.1, decide_eq_true hv.2.2.1]; rfl
  have HV := Lib.hid hv
  have HC := Lib.hid (fun (W : World) (h : IRow W A n X) => impl_valueFor (c := c) hs h hv)
  have HP := Lib.hid (fun W : World => impl_printOfF (w := W) hp hs)
  haveI : Nonempty (InC (TaC w z0 g v A n c X)) := ⟨⟨_, S0.out⟩⟩
  have q0 := fun u : InC (TaC w z0 g v A n c X) => u.ok.box.cell 0 _ rfl
  have q1 := fun u : InC (TaC w z0 g v A n c X) => u.ok.box.cell 1 _ rfl
  have q2 := fun u : InC (TaC w z0 g v A n c X) => u.ok.box.cell 2 _ rfl
  have q3 := fun u : InC (TaC w z0 g v A n c X) => u.ok.box.cell 3 _ rfl
  have HD := Lib.hid (show psB z0 g v X s = (((taN z0 g s X : Nat) : Int) == prV z0 v s) from rfl)
  obtain ⟨V, hV⟩ : ∃ V : Nat, V = taN z0 g s X := ⟨_, rfl⟩
  obtain ⟨U, hU⟩ : ∃ U : Int, U = prV z0 v s := ⟨_, rfl⟩
  rw [← hV] at HC HD
  rw [← hU] at HP HD
  clear hr hv hp hV hU
  go_enter Try.func80, Try.ntmps80
  go_wp2_with fail
  refine wp_region_class (TaC w z0 g v A n c X) (by kernel_rfl) (by kernel_rfl) S0.out.drew ?_
  repeat (go_big_quiet_step ((first
    | (go_at_call 106; exact call_class (HC.out _ (BX1.row (InC.ok _))) (fun _ hb => BX1.step (InC.ok _) hb))
    | (go_at_call 76; exact call_class_same (HP.out _)))))
  refine wpQuiet_nil ?_
  rintro _ ⟨u, rfl⟩
  clear q0 q1 q2 q3
  go_wp2_with fail
  go_ret
  exact ⟨by rw [HD.out]; rfl, u.ok.below⟩
set_option maxRecDepth 100000 in
set_option maxHeartbeats 4000000 in
theorem spec_printHas (hn : n ≤ 1048576) (hv : TaV z0 g v n X) (hk : isKeyB s.data.toList = true) (hs : s.size ≤ maxLen) (hr : IRow w A n X) :
    Calls Try.prog 37 #[.agg #[.int .i64 z0, .int .i64 g, .int .i64 v, .slice A n c], .string s] w fun e w' => e = .returned (.tuple #[.bool (psB z0 g v X s), .bool true]) ∧ Below w.heap.size w w' := by
  have S0 := Lib.hid (BX1.start (cs := #[.int .i64 z0, .int .i64 g, .int .i64 v, .slice A n c]) (t := 57) hr)
  have x0 := S0.out.box.cell 0 _ rfl
  have x1 := S0.out.box.cell 1 _ rfl
  have x2 := S0.out.box.cell 2 _ rfl
  have x3 := S0.out.box.cell 3 _ rfl
  clear hr
  go_enter Try.func37, Try.ntmps37
  go_wp2_with fail
  refine (spec_reTable (b := true) (by simp [hv]) hn S0.out.row).mono ?_; rintro e w1 ⟨rfl, hw⟩
  have S1 := Lib.hid (S0.out.step hw)
  clear hw x0 x1 x2 x3 S0
  have x0 := S1.out.box.cell 0 _ rfl
  have x1 := S1.out.box.cell 1 _ rfl
  have x2 := S1.out.box.cell 2 _ rfl
  have x3 := S1.out.box.cell 3 _ rfl
  go_wp2_with fail
  refine (spec_isKey _ _ hs).mono ?_; rintro e w2 ⟨rfl, rfl⟩
  rw [hk]
  go_wp2_with fail
  refine (spec_fiPrints hs S1.out.row hv).mono ?_; rintro e w3 ⟨rfl, hw⟩
  have S2 := Lib.hid (S1.out.step hw)
  clear hw
  go_wp2_with fail
  go_ret2
  exact ⟨rfl, S2.out.below⟩
set_option maxRecDepth 100000 in
set_option maxHeartbeats 4000000 in
theorem spec_printHas_no (hn : n ≤ 1048576) (h : ¬ (TaV z0 z1 z2 n X ∧ isKeyB s.data.toList = true)) (hs : s.size ≤ maxLen) (hr : IRow w A n X) :
    Calls Try.prog 37 #[.agg #[.int .i64 z0, .int .i64 z1, .int .i64 z2, .slice A n c], .string s] w fun e w' => e = .returned (.tuple #[.bool false, .bool false]) ∧ Below w.heap.size w w' := by
  have S0 := Lib.hid (BX1.start (cs := #[.int .i64 z0, .int .i64 z1, .int .i64 z2, .slice A n c]) (t := 57) hr)
  have x0 := S0.out.box.cell 0 _ rfl
  have x1 := S0.out.box.cell 1 _ rfl
  have x2 := S0.out.box.cell 2 _ rfl
  have x3 := S0.out.box.cell 3 _ rfl
  clear hr
  by_cases hv : TaV z0 z1 z2 n X
  · have hk : isKeyB s.data.toList = false := by
      cases e : isKeyB s.data.toList
      · rfl
      · exact absurd ⟨hv, e⟩ h
    go_enter Try.func37, Try.ntmps37
    go_wp2_with fail
    refine (spec_reTable (b := true) (by simp [hv]) hn S0.out.row).mono ?_; rintro e w1 ⟨rfl, hw⟩
    have S1 := Lib.hid (S0.out.step hw)
    clear hw x0 x1 x2 x3 S0
    go_wp2_with fail
    refine (spec_isKey _ _ hs).mono ?_; rintro e w2 ⟨rfl, rfl⟩
    rw [hk]
    go_wp2_with fail
    go_ret2
    exact ⟨rfl, S1.out.below⟩
  · go_enter Try.func37, Try.ntmps37
    go_wp2_with fail
    refine (spec_reTable (b := false) (by simp [hv]) hn S0.out.row).mono ?_; rintro e w1 ⟨rfl, hw⟩
    have S1 := Lib.hid (S0.out.step hw)
    clear hw x0 x1 x2 x3 S0
    go_wp2_with fail
    go_ret2
    exact ⟨rfl, S1.out.below⟩
set_option maxRecDepth 100000 in
set_option maxHeartbeats 4000000 in
theorem impl_printHas (hn : n ≤ 1048576) (hv : TaV z0 g v n X) (hk : isKeyB s.data.toList = true) (hs : s.size ≤ maxLen) (hr : IRow w A n X) :
    Calls Try.prog 39 #[.agg #[.int .i64 z0, .int .i64 g, .int .i64 v, .slice A n c], .string s] w fun e w' => e = .returned (.tuple #[.bool (psB z0 g v X s), .bool true]) ∧ Below w.heap.size w w' := by
  have S0 := Lib.hid (BX1.start (cs := #[.int .i64 z0, .int .i64 g, .int .i64 v, .slice A n c]) (t := 57) hr)
  have x0 := S0.out.box.cell 0 _ rfl
  have x1 := S0.out.box.cell 1 _ rfl
  have x2 := S0.out.box.cell 2 _ rfl
  have x3 := S0.out.box.cell 3 _ rfl
  clear hr
  go_enter Try.func39, Try.ntmps39
  go_wp2_with fail
  refine (impl_isTable (b := true) (by simp [hv]) hn S0.out.row).mono ?_; rintro e w1 ⟨rfl, hw⟩
  have S1 := Lib.hid (S0.out.step hw)
  clear hw x0 x1 x2 x3 S0
  have x0 := S1.out.box.cell 0 _ rfl
  have x1 := S1.out.box.cell 1 _ rfl
  have x2 := S1.out.box.cell 2 _ rfl
  have x3 := S1.out.box.cell 3 _ rfl
  go_wp2_with fail
  refine (impl_isKey _ _ hs).mono ?_; rintro e w2 ⟨rfl, rfl⟩
  rw [hk]
  go_wp2_with fail
  refine (impl_answersT hs S1.out.row hv).mono ?_; rintro e w3 ⟨rfl, hw⟩
  have S2 := Lib.hid (S1.out.step hw)
  clear hw
  go_wp2_with fail
  go_ret2
  exact ⟨rfl, S2.out.below⟩
set_option maxRecDepth 100000 in
set_option maxHeartbeats 4000000 in
theorem impl_printHas_no (hn : n ≤ 1048576) (h : ¬ (TaV z0 z1 z2 n X ∧ isKeyB s.data.toList = true)) (hs : s.size ≤ maxLen) (hr : IRow w A n X) :
    Calls Try.prog 39 #[.agg #[.int .i64 z0, .int .i64 z1, .int .i64 z2, .slice A n c], .string s] w fun e w' => e = .returned (.tuple #[.bool false, .bool false]) ∧ Below w.heap.size w w' := by
  have S0 := Lib.hid (BX1.start (cs := #[.int .i64 z0, .int .i64 z1, .int .i64 z2, .slice A n c]) (t := 57) hr)
  have x0 := S0.out.box.cell 0 _ rfl
  have x1 := S0.out.box.cell 1 _ rfl
  have x2 := S0.out.box.cell 2 _ rfl
  have x3 := S0.out.box.cell 3 _ rfl
  clear hr
  by_cases hv : TaV z0 z1 z2 n X
  · have hk : isKeyB s.data.toList = false := by
      cases e : isKeyB s.data.toList
      · rfl
      · exact absurd ⟨hv, e⟩ h
    go_enter Try.func39, Try.ntmps39
    go_wp2_with fail
    refine (impl_isTable (b := true) (by simp [hv]) hn S0.out.row).mono ?_; rintro e w1 ⟨rfl, hw⟩
    have S1 := Lib.hid (S0.out.step hw)
    clear hw x0 x1 x2 x3 S0
    go_wp2_with fail
    refine (impl_isKey _ _ hs).mono ?_; rintro e w2 ⟨rfl, rfl⟩
    rw [hk]
    go_wp2_with fail
    go_ret2
    exact ⟨rfl, S1.out.below⟩
  · go_enter Try.func39, Try.ntmps39
    go_wp2_with fail
    refine (impl_isTable (b := false) (by simp [hv]) hn S0.out.row).mono ?_; rintro e w1 ⟨rfl, hw⟩
    have S1 := Lib.hid (S0.out.step hw)
    clear hw x0 x1 x2 x3 S0
    go_wp2_with fail
    go_ret2
    exact ⟨rfl, S1.out.below⟩
end
end Go.Proofs.Ytpajbcgdoedleab
