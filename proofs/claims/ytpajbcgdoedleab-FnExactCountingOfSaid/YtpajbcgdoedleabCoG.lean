/- Counting filters: which are valid, both sides; counts changed at places. -/
import Derived.Test.YtpajbcgdoedleabBlH
namespace Go.Proofs.Ytpajbcgdoedleab
open Go.RowKit

/-- A valid counting filter. -/
def CoV (z0 z1 : Int) (n : Nat) (X : Nat → Int) : Prop := fiB z0 z1 n = true ∧ InAll n X 0 15
/-- Counts changed at m places, one after another; a full one stays. -/
def cnF (b : Int) (C : Nat → Int) (P : Nat → Nat) : Nat → Nat → Int
  | 0 => C
  | m + 1 => fun j => if j = P m then (if cnF b C P m (P m) < 15 then cnF b C P m (P m) + b else cnF b C P m (P m)) else cnF b C P m j
/-- No count is too small for it. -/
def cnOk (b : Int) (C : Nat → Int) (P : Nat → Nat) : Nat → Prop
  | 0 => True
  | m + 1 => cnOk b C P m ∧ 0 ≤ cnF b C P m (P m) + b
theorem cn_all {b : Int} {C : Nat → Int} {P : Nat → Nat} {n : Nat} (hC : InAll n C 0 15) (hb : b = 1 ∨ b = -1) : ∀ m, cnOk b C P m → InAll n (cnF b C P m) 0 15
  | 0, _ => hC
  | m + 1, h => fun i hi => by
    have ih := cn_all hC hb m h.1 i hi
    have h2 := h.2
    show 0 ≤ (if i = P m then _ else _) ∧ (if i = P m then _ else _) ≤ 15
    by_cases e : i = P m
    · rw [if_pos e, ← e]
      rw [← e] at h2
      by_cases e2 : cnF b C P m i < 15
      · rw [if_pos e2]; omega
      · rw [if_neg e2]; exact ih
    · rw [if_neg e]; exact ih
theorem cn_ok1 {C : Nat → Int} {P : Nat → Nat} {n : Nat} (hC : InAll n C 0 15) : ∀ m, (∀ j, j < m → P j < n) → cnOk 1 C P m
  | 0, _ => trivial
  | m + 1, hP => by
    have h := cn_ok1 hC m (fun j hj => hP j (by omega))
    have := cn_all hC (.inl rfl) m h (P m) (hP m (by omega))
    exact ⟨h, by omega⟩
theorem cn_le {C : Nat → Int} {P : Nat → Nat} {i : Nat} : ∀ m, cnF (-1) C P m i ≤ C i
  | 0 => Int.le_refl _
  | m + 1 => by
    have h := cn_le (C := C) (P := P) (i := i) m
    show (if i = P m then _ else _) ≤ C i
    by_cases e : i = P m
    · rw [if_pos e, ← e]
      by_cases e2 : cnF (-1) C P m i < 15
      · rw [if_pos e2]; omega
      · rw [if_neg e2]; exact h
    · rw [if_neg e]; exact h
/-- Where counts are not 0. -/
def posX (X : Nat → Int) (k : Nat) : Bool := decide (0 < X k)
theorem cn_has {C : Nat → Int} {P : Nat → Nat} : ∀ m, cnOk (-1) C P m → hasP (posX C) P m = true
  | 0, _ => rfl
  | m + 1, h => by
    have h1 := cn_has m h.1
    have h2 := h.2
    have h3 := cn_le (C := C) (P := P) (i := P m) m
    rw [hasP, h1, Bool.true_and]
    unfold posX
    rw [decide_eq_true_eq]; omega
theorem cn_stop {b : Int} {C : Nat → Int} {P : Nat → Nat} {j : Nat} (h : ¬ 0 ≤ cnF b C P j (P j) + b) : ∀ m, j < m → ¬ cnOk b C P m
  | 0, hj => absurd hj (by omega)
  | m + 1, hj => by
    intro h2
    by_cases e : j = m
    · subst e; exact h h2.2
    · exact cn_stop h m (by omega) h2.1
section
variable {z0 z1 : Int} {p : Nat} {A : Option Addr} {n c : Nat} {X : Nat → Int} {s : ByteArray} {w : World}
abbrev CoC (w : World) (z0 z1 : Int) (A : Option Addr) (n c : Nat) (X : Nat → Int) : World → Prop := BX1 w w.heap.size #[.int .i64 z0, .int .i64 z1, .slice A n c] 27 A n X
theorem CoC.start (h : IRow w A n X) : CoC w z0 z1 A n c X (w.alloc (.cells #[.int .i64 z0, .int .i64 z1, .slice A n c] 27)) := BX1.start h
set_option maxRecDepth 100000 in
set_option maxHeartbeats 1000000 in
theorem spec_counting {b : Bool} (hb : b = true ↔ CoV z0 z1 n X) (hn : n ≤ 1048576) (hr : IRow w A n X) :
    Calls Try.prog 51 #[.agg #[.int .i64 z0, .int .i64 z1, .slice A n c]] w fun e w' => e = .returned (.bool b) ∧ Below w.heap.size w w' := by
  have S0 := Lib.hid (CoC.start (z0 := z0) (z1 := z1) (c := c) hr)
  have x0 := S0.out.box.cell 0 _ rfl
  have x1 := S0.out.box.cell 1 _ rfl
  have x2 := S0.out.box.cell 2 _ rfl
  have HB := Lib.hid hb
  obtain ⟨F, hF⟩ : ∃ F, F = fiB z0 z1 n := ⟨_, rfl⟩
  have HP := Lib.hid (fun W : World => show Calls Try.prog 55 #[.int .i64 z0, .int .i64 z1, .int .i64 n] W fun e w' => e = .returned (.bool F) ∧ W = w' from hF ▸ spec_fiSize z0 z1 n W)
  clear hr hb
  go_enter Try.func51, Try.ntmps51
  go_wp2_with fail
  refine (HP.out _).mono ?_; rintro e w1 ⟨rfl, rfl⟩
  cases F with
  | false =>
    obtain rfl : b = false := by
      cases b
      · rfl
      · exact absurd (hF.trans (HB.out.1 rfl).1) (by simp)
    clear hF
    go_wp2_with fail
    go_ret
    exact ⟨rfl, S0.out.below⟩
  | true =>
    have HV := Lib.hid (show b = true ↔ InAll n X 0 15 from HB.out.trans ⟨fun h => h.2, fun h => ⟨hF.symm, h⟩⟩)
    clear hF
    go_wp2_with fail
    refine (ris_val HV.out (spec_l1AllG A n c X 0 15 _ hn S0.out.row)).mono ?_; rintro e w1 ⟨rfl, hw⟩
    have S1 := Lib.hid (S0.out.step hw)
    clear hw
    go_wp2_with fail
    go_ret
    exact ⟨rfl, S1.out.below⟩
set_option maxRecDepth 100000 in
set_option maxHeartbeats 1000000 in
theorem impl_counting {b : Bool} (hb : b = true ↔ CoV z0 z1 n X) (hn : n ≤ 1048576) (hr : IRow w A n X) :
    Calls Try.prog 15 #[.agg #[.int .i64 z0, .int .i64 z1, .slice A n c]] w fun e w' => e = .returned (.bool b) ∧ Below w.heap.size w w' := by
  have S0 := Lib.hid (CoC.start (z0 := z0) (z1 := z1) (c := c) hr)
  have x0 := S0.out.box.cell 0 _ rfl
  have x1 := S0.out.box.cell 1 _ rfl
  have x2 := S0.out.box.cell 2 _ rfl
  have HB := Lib.hid hb
  obtain ⟨F, hF⟩ : ∃ F, F = fiB z0 z1 n := ⟨_, rfl⟩
  have HP := Lib.hid (fun W : World => show Calls Try.prog 53 #[.int .i64 z0, .int .i64 z1, .int .i64 n] W fun e w' => e = .returned (.bool F) ∧ W = w' from hF ▸ impl_hasProbes z0 z1 n W)
  clear hr hb
  go_enter Try.func15, Try.ntmps15
  go_wp2_with fail
  refine (HP.out _).mono ?_; rintro e w1 ⟨rfl, rfl⟩
  cases F with
  | false =>
    obtain rfl : b = false := by
      cases b
      · rfl
      · exact absurd (hF.trans (HB.out.1 rfl).1) (by simp)
    clear hF
    go_wp2_with fail
    go_ret
    exact ⟨rfl, S0.out.below⟩
  | true =>
    have HV := Lib.hid (show b = true ↔ InAll n X 0 15 from HB.out.trans ⟨fun h => h.2, fun h => ⟨hF.symm, h⟩⟩)
    clear hF
    go_wp2_with fail
    refine (bool_val (Q := (n : Int) = n ∧ InAll n X 0 (16 - 1)) (HV.out.trans ⟨fun h => ⟨rfl, by simpa using h⟩, fun h => by simpa using h.2⟩) (impl_areBelow A n c X n 16 _ hn S0.out.row)).mono ?_; rintro e w1 ⟨rfl, hw⟩
    have S1 := Lib.hid (S0.out.step hw)
    clear hw
    go_wp2_with fail
    go_ret
    exact ⟨rfl, S1.out.below⟩
set_option maxRecDepth 100000 in
set_option maxHeartbeats 1000000 in
theorem spec_isCounting {b : Bool} (hb : b = true ↔ CoV z0 z1 n X) (hn : n ≤ 1048576) (hr : IRow w A n X) :
    Calls Try.prog 13 #[.agg #[.int .i64 z0, .int .i64 z1, .slice A n c]] w fun e w' => e = .returned (.bool b) ∧ Below w.heap.size w w' := by
  have S0 := Lib.hid (CoC.start (z0 := z0) (z1 := z1) (c := c) hr)
  have x0 := S0.out.box.cell 0 _ rfl
  have x1 := S0.out.box.cell 1 _ rfl
  have x2 := S0.out.box.cell 2 _ rfl
  clear hr
  go_enter Try.func13, Try.ntmps13
  go_wp2_with fail
  refine (spec_counting hb hn S0.out.row).mono ?_; rintro e w1 ⟨rfl, hw⟩
  have S1 := Lib.hid (S0.out.step hw)
  clear hw
  go_wp2_with fail
  go_ret
  exact ⟨rfl, S1.out.below⟩
set_option maxRecDepth 100000 in
set_option maxHeartbeats 1000000 in
theorem impl_probesForC (h : fiB z0 p n = true) (hs : s.size ≤ maxLen) :
    Calls Try.prog 94 #[.agg #[.int .i64 z0, .int .i64 p, .slice A n c], .string s] w fun e w' => ∃ g, e = .returned (.slice (some ⟨g, 0, none⟩) p p) ∧ w.heap.size ≤ g ∧ ORow w' g p (prI z0 s n) ∧ Below w.heap.size w w' := by
  have S0 := Lib.hid (boxed w #[.int .i64 z0, .int .i64 p, .slice A n c] 27)
  have hB := Lib.hid ((Below.refl w.heap.size w).alloc (Nat.le_refl _) (.cells #[.int .i64 z0, .int .i64 p, .slice A n c] 27))
  obtain ⟨h0, h1, h2⟩ := fiB_out h
  have x0 := S0.out.now 0 _ rfl
  have x1 := S0.out.now 1 _ rfl
  have x2 := S0.out.now 2 _ rfl
  go_enter Try.func94, Try.ntmps94
  go_wp2_with fail
  refine (impl_probesOf h0 (by omega) (by omega) hs).mono ?_; rintro e w1 ⟨rfl, ho, hb⟩
  rw [World.size_alloc] at ho
  have HO := Lib.hid ho
  have HB := Lib.hid hb
  clear ho hb
  go_wp2_with fail
  go_ret
  exact ⟨_, rfl, by simp, HO.out, hB.out.trans (HB.out.mono (by simp))⟩
end
end Go.Proofs.Ytpajbcgdoedleab
