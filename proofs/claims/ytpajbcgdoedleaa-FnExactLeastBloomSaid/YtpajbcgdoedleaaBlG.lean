/- Which Bloom filters are valid: both sides, whatever the argument. -/
import Derived.Test.YtpajbcgdoedleaaBlD
namespace Go.Proofs.Ytpajbcgdoedleaa
open Go.RowKit

theorem fiB_no0 {z0 z1 z2 : Int} (h : ¬ (0 ≤ z0 ∧ z0 ≤ 9999)) : fiB z0 z1 z2 = false := by unfold fiB; rw [decide_eq_false h]; rfl
theorem fiB_no1 {z0 z1 z2 : Int} (h : ¬ (1 ≤ z1 ∧ z1 ≤ 8)) : fiB z0 z1 z2 = false := by unfold fiB; rw [decide_eq_false h]; simp
theorem fiB_no2 {z0 z1 z2 : Int} (h : ¬ (1 ≤ z2 ∧ z2 ≤ 512)) : fiB z0 z1 z2 = false := by unfold fiB; rw [decide_eq_false h]; simp
theorem spec_fiSize (z0 z1 z2 : Int) (w : World) : Calls Try.prog 54 #[.int .i64 z0, .int .i64 z1, .int .i64 z2] w fun e w' => e = .returned (.bool (fiB z0 z1 z2)) ∧ w = w' := by
  by_cases h0 : 0 ≤ z0 ∧ z0 ≤ 9999
  rotate_left
  · have E := Lib.hid (fiB_no0 (z1 := z1) (z2 := z2) h0)
    have D0 := Lib.hid (decide_eq_false h0)
    clear h0
    go_enter Try.func54, Try.ntmps54
    go_wp2_with fail
    refine (l1In_of D0.out _).mono ?_; rintro e w1 ⟨rfl, rfl⟩
    go_wp2_with fail
    go_ret
    exact ⟨by rw [E.out]; rfl, rfl⟩
  have D0 := Lib.hid (decide_eq_true h0)
  by_cases h1 : 1 ≤ z1 ∧ z1 ≤ 8
  rotate_left
  · have E := Lib.hid (fiB_no1 (z0 := z0) (z2 := z2) h1)
    have D1 := Lib.hid (decide_eq_false h1)
    clear h0 h1
    go_enter Try.func54, Try.ntmps54
    go_wp2_with fail
    refine (l1In_of D0.out _).mono ?_; rintro e w1 ⟨rfl, rfl⟩
    go_wp2_with fail
    refine (l1In_of D1.out _).mono ?_; rintro e w1 ⟨rfl, rfl⟩
    go_wp2_with fail
    go_ret
    exact ⟨by rw [E.out]; rfl, rfl⟩
  have D1 := Lib.hid (decide_eq_true h1)
  obtain ⟨b, hb⟩ : ∃ b, decide (1 ≤ z2 ∧ z2 ≤ 512) = b := ⟨_, rfl⟩
  have D2 := Lib.hid hb
  have E := Lib.hid (show fiB z0 z1 z2 = b by unfold fiB; rw [D0.out, D1.out, hb]; rfl)
  clear h0 h1 hb
  go_enter Try.func54, Try.ntmps54
  go_wp2_with fail
  refine (l1In_of D0.out _).mono ?_; rintro e w1 ⟨rfl, rfl⟩
  go_wp2_with fail
  refine (l1In_of D1.out _).mono ?_; rintro e w1 ⟨rfl, rfl⟩
  go_wp2_with fail
  refine (l1In_of D2.out _).mono ?_; rintro e w1 ⟨rfl, rfl⟩
  go_wp2_with fail
  go_ret
  exact ⟨by rw [E.out]; rfl, rfl⟩
theorem impl_hasProbes (z0 z1 z2 : Int) (w : World) : Calls Try.prog 51 #[.int .i64 z0, .int .i64 z1, .int .i64 z2] w fun e w' => e = .returned (.bool (fiB z0 z1 z2)) ∧ w = w' := by
  by_cases h0 : 0 ≤ z0 ∧ z0 ≤ 9999
  rotate_left
  · have E := Lib.hid (fiB_no0 (z1 := z1) (z2 := z2) h0)
    have D0 := Lib.hid (seedB_dec (decide_eq_false h0))
    clear h0
    go_enter Try.func51, Try.ntmps51
    go_wp2_with fail
    refine (impl_isHashNumber _ _ _).mono ?_; rintro e w1 ⟨rfl, rfl⟩
    rw [D0.out]
    go_wp2_with fail
    go_ret
    exact ⟨by rw [E.out]; rfl, rfl⟩
  have D0 := Lib.hid (seedB_dec (decide_eq_true h0))
  have T0 := Lib.hid (decide_eq_true h0)
  clear h0
  by_cases h1 : 1 ≤ z1
  rotate_left
  · have E := Lib.hid (fiB_no1 (z0 := z0) (z2 := z2) (fun h => h1 h.1))
    have dh1 : decide (1 ≤ z1) = false := by simpa using h1
    go_enter Try.func51, Try.ntmps51
    go_wp2_with fail
    refine (impl_isHashNumber _ _ _).mono ?_; rintro e w1 ⟨rfl, rfl⟩
    rw [D0.out]
    go_wp2_with fail
    go_ret
    exact ⟨by rw [E.out]; rfl, rfl⟩
  have dh1 : decide (1 ≤ z1) = true := by simpa using h1
  by_cases h2 : z1 ≤ 8
  rotate_left
  · have E := Lib.hid (fiB_no1 (z0 := z0) (z2 := z2) (fun h => h2 h.2))
    have dh2 : decide (z1 ≤ 8) = false := by simpa using h2
    go_enter Try.func51, Try.ntmps51
    go_wp2_with fail
    refine (impl_isHashNumber _ _ _).mono ?_; rintro e w1 ⟨rfl, rfl⟩
    rw [D0.out]
    go_wp2_with fail
    go_ret
    exact ⟨by rw [E.out]; rfl, rfl⟩
  have dh2 : decide (z1 ≤ 8) = true := by simpa using h2
  by_cases h3 : 1 ≤ z2
  rotate_left
  · have E := Lib.hid (fiB_no2 (z0 := z0) (z1 := z1) (fun h => h3 h.1))
    have dh3 : decide (1 ≤ z2) = false := by simpa using h3
    go_enter Try.func51, Try.ntmps51
    go_wp2_with fail
    refine (impl_isHashNumber _ _ _).mono ?_; rintro e w1 ⟨rfl, rfl⟩
    rw [D0.out]
    go_wp2_with fail
    go_ret
    exact ⟨by rw [E.out]; rfl, rfl⟩
  have dh3 : decide (1 ≤ z2) = true := by simpa using h3
  by_cases h4 : z2 ≤ 512
  rotate_left
  · have E := Lib.hid (fiB_no2 (z0 := z0) (z1 := z1) (fun h => h4 h.2))
    have dh4 : decide (z2 ≤ 512) = false := by simpa using h4
    go_enter Try.func51, Try.ntmps51
    go_wp2_with fail
    refine (impl_isHashNumber _ _ _).mono ?_; rintro e w1 ⟨rfl, rfl⟩
    rw [D0.out]
    go_wp2_with fail
    go_ret
    exact ⟨by rw [E.out]; rfl, rfl⟩
  have dh4 : decide (z2 ≤ 512) = true := by simpa using h4
  have E := Lib.hid (show fiB z0 z1 z2 = true by unfold fiB; rw [T0.out, decide_eq_true (show 1 ≤ z1 ∧ z1 ≤ 8 from ⟨h1, h2⟩), decide_eq_true (show 1 ≤ z2 ∧ z2 ≤ 512 from ⟨h3, h4⟩)]; rfl)
  go_enter Try.func51, Try.ntmps51
  go_wp2_with fail
  refine (impl_isHashNumber _ _ _).mono ?_; rintro e w1 ⟨rfl, rfl⟩
  rw [D0.out]
  go_wp2_with fail
  go_ret
  exact ⟨by rw [E.out]; rfl, rfl⟩
section
variable {z0 z1 z2 : Int} {A : Option Addr} {n c : Nat} {X : Nat → Int} {w : World}
abbrev BlC (w : World) (z0 z1 z2 : Int) (A : Option Addr) (n c : Nat) (X : Nat → Int) : World → Prop := BX1 w w.heap.size #[.int .i64 z0, .int .i64 z1, .int .i64 z2, .slice A n c] 31 A n X
theorem BlC.start (h : IRow w A n X) : BlC w z0 z1 z2 A n c X (w.alloc (.cells #[.int .i64 z0, .int .i64 z1, .int .i64 z2, .slice A n c] 31)) := BX1.start h
set_option maxRecDepth 100000 in
set_option maxHeartbeats 1000000 in
theorem spec_fiGood {b : Bool} (hb : b = true ↔ BlV z0 z1 z2 n X) (hn : n ≤ 1048576) (hr : IRow w A n X) :
    Calls Try.prog 49 #[.agg #[.int .i64 z0, .int .i64 z1, .int .i64 z2, .slice A n c]] w fun e w' => e = .returned (.bool b) ∧ Below w.heap.size w w' := by
  have S0 := Lib.hid (BlC.start (z0 := z0) (z1 := z1) (z2 := z2) (c := c) hr)
  have x2 := S0.out.box.cell 2 _ rfl
  have x3 := S0.out.box.cell 3 _ rfl
  obtain ⟨G, hG⟩ := bool_of (Good z2 n X)
  have HG := Lib.hid hG
  have HB := Lib.hid hb
  clear hr hb hG
  go_enter Try.func49, Try.ntmps49
  go_wp2_with fail
  refine (spec_biGood z2 A n c X _ hn S0.out.row).mono ?_; rintro e w1 ⟨r, rfl, hr, hw⟩
  have hrG : r = G := Bool.eq_iff_iff.2 (hr.trans HG.out.symm)
  subst hrG
  have S1 := Lib.hid (S0.out.step hw)
  clear hw x2 x3 S0 hr
  cases r with
  | false =>
    obtain rfl : b = false := by
      cases b
      · rfl
      · exact absurd (HG.out.2 (HB.out.1 rfl).2) (by simp)
    go_wp2_with fail
    go_ret
    exact ⟨rfl, S1.out.below⟩
  | true =>
    have hbF : b = fiB z0 z1 z2 := Bool.eq_iff_iff.2 (HB.out.trans ⟨fun h => h.1, fun h => ⟨h, HG.out.1 rfl⟩⟩)
    subst hbF
    have x0 := S1.out.box.cell 0 _ rfl
    have x1 := S1.out.box.cell 1 _ rfl
    have x2 := S1.out.box.cell 2 _ rfl
    go_wp2_with fail
    refine (spec_fiSize z0 z1 z2 _).mono ?_; rintro e w2 ⟨rfl, rfl⟩
    go_wp2_with fail
    go_ret
    exact ⟨rfl, S1.out.below⟩
set_option maxRecDepth 100000 in
set_option maxHeartbeats 1000000 in
theorem spec_isBloom {b : Bool} (hb : b = true ↔ BlV z0 z1 z2 n X) (hn : n ≤ 1048576) (hr : IRow w A n X) :
    Calls Try.prog 15 #[.agg #[.int .i64 z0, .int .i64 z1, .int .i64 z2, .slice A n c]] w fun e w' => e = .returned (.bool b) ∧ Below w.heap.size w w' := by
  have S0 := Lib.hid (BlC.start (z0 := z0) (z1 := z1) (z2 := z2) (c := c) hr)
  have x0 := S0.out.box.cell 0 _ rfl
  have x1 := S0.out.box.cell 1 _ rfl
  have x2 := S0.out.box.cell 2 _ rfl
  have x3 := S0.out.box.cell 3 _ rfl
  clear hr
  go_enter Try.func15, Try.ntmps15
  go_wp2_with fail
  refine (spec_fiGood hb hn S0.out.row).mono ?_; rintro e w1 ⟨rfl, hw⟩
  have S1 := Lib.hid (S0.out.step hw)
  clear hw
  go_wp2_with fail
  go_ret
  exact ⟨rfl, S1.out.below⟩
set_option maxRecDepth 100000 in
set_option maxHeartbeats 1000000 in
theorem impl_isBloom {b : Bool} (hb : b = true ↔ BlV z0 z1 z2 n X) (hn : n ≤ 1048576) (hr : IRow w A n X) :
    Calls Try.prog 17 #[.agg #[.int .i64 z0, .int .i64 z1, .int .i64 z2, .slice A n c]] w fun e w' => e = .returned (.bool b) ∧ Below w.heap.size w w' := by
  have S0 := Lib.hid (BlC.start (z0 := z0) (z1 := z1) (z2 := z2) (c := c) hr)
  have x0 := S0.out.box.cell 0 _ rfl
  have x1 := S0.out.box.cell 1 _ rfl
  have x2 := S0.out.box.cell 2 _ rfl
  have x3 := S0.out.box.cell 3 _ rfl
  have HB := Lib.hid hb
  clear hr hb
  obtain ⟨F, hF⟩ : ∃ F, F = fiB z0 z1 z2 := ⟨_, rfl⟩
  have HP := Lib.hid (fun W : World => show Calls Try.prog 51 #[.int .i64 z0, .int .i64 z1, .int .i64 z2] W fun e w' => e = .returned (.bool F) ∧ W = w' from hF ▸ impl_hasProbes z0 z1 z2 W)
  go_enter Try.func17, Try.ntmps17
  go_wp2_with fail
  refine (HP.out _).mono ?_; rintro e w1 ⟨rfl, rfl⟩
  cases F with
  | false =>
    obtain rfl : b = false := by
      cases b
      · rfl
      · exact absurd (hF.trans (HB.out.1 rfl).1) (by simp)
    clear hF
    go_wp2_with fail
    go_ret
    exact ⟨rfl, S0.out.below⟩
  | true =>
    have HV := Lib.hid (show b = true ↔ Good z2 n X from HB.out.trans ⟨fun h => h.2, fun h => ⟨hF.symm, h⟩⟩)
    clear hF
    go_wp2_with fail
    refine (impl_isBits z2 A n c X _ hn S0.out.row).mono ?_; rintro e w1 ⟨r, rfl, hr, hw⟩
    have hrb : r = b := Bool.eq_iff_iff.2 (hr.trans HV.out.symm)
    subst hrb
    have S1 := Lib.hid (S0.out.step hw)
    clear hw hr
    go_wp2_with fail
    go_ret
    exact ⟨rfl, S1.out.below⟩
end
end Go.Proofs.Ytpajbcgdoedleaa
