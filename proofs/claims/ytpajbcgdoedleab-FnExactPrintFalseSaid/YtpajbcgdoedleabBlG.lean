/- Which Bloom filters are valid: both sides, whatever the argument. -/
import Derived.Test.YtpajbcgdoedleabBlD
namespace Go.Proofs.Ytpajbcgdoedleab
open Go.RowKit

theorem fiB_no0 {z0 z1 z2 : Int} (h : ¬ (0 ≤ z0 ∧ z0 ≤ 9999)) : fiB z0 z1 z2 = false := by unfold fiB; rw [decide_eq_false h]; rfl
theorem fiB_no1 {z0 z1 z2 : Int} (h : ¬ (1 ≤ z1 ∧ z1 ≤ 8)) : fiB z0 z1 z2 = false := by unfold fiB; rw [decide_eq_false h]; simp
theorem fiB_no2 {z0 z1 z2 : Int} (h : ¬ (1 ≤ z2 ∧ z2 ≤ 512)) : fiB z0 z1 z2 = false := by unfold fiB; rw [decide_eq_false h]; simp
theorem spec_fiSize (z0 z1 z2 : Int) (w : World) : Calls Try.prog 55 #[.int .i64 z0, .int .i64 z1, .int .i64 z2] w fun e w' => e = .returned (.bool (fiB z0 z1 z2)) ∧ w = w' := by
  by_cases h0 : 0 ≤ z0 ∧ z0 ≤ 9999
  rotate_left
  · have E := Lib.hid (fiB_no0 (z1 := z1) (z2 := z2) h0)
    have D0 := Lib.hid (decide_eq_false h0)
    clear h0
    go_enter Try.func55, Try.ntmps55
    go_wp2_with fail
    refine (l1In_of D0.out _).mono ?_; rintro e w1 ⟨rfl, rfl⟩
    go_wp2_with fail
    go_ret
    exact ⟨by rw [E.out]; rfl, rfl⟩
  have D0 := Lib.hid (decide_eq_true h0)
  by_cases h1 : 1 ≤ z1 ∧ z1 ≤ 8
  rotate_left
  · have E := Lib.hid (fiB_no1 (z0 := z0) (z2 := z2) h1)
    have D1 := Lib.hid (decide_eq_false h1)
    clear h0 h1
    go_enter Try.func55, Try.ntmps55
    go_wp2_with fail
    refine (l1In_of D0.out _).mono ?_; rintro e w1 ⟨rfl, rfl⟩
    go_wp2_with fail
    refine (l1In_of D1.out _).mono ?_; rintro e w1 ⟨rfl, rfl⟩
    go_wp2_with fail
    go_ret
    exact ⟨by rw [E.out]; rfl, rfl⟩
  have D1 := Lib.hid (decide_eq_true h1)
  obtain ⟨b, hb⟩ : ∃ b, decide (1 ≤ z2 ∧ z2 ≤ 512) = b := ⟨_, rfl⟩
  have D2 := Lib.hid hb
  have E := Lib.hid (show fiB z0 z1 z2 = b by unfold fiB; rw [D0.out, D1.out, hb]; rfl)
  clear h0 h1 hb
  go_enter Try.func55, Try.ntmps55
  go_wp2_with fail
  refine (l1In_of D0.out _).mono ?_; rintro e w1 ⟨rfl, rfl⟩
  go_wp2_with fail
  refine (l1In_of D1.out _).mono ?_; rintro e w1 ⟨rfl, rfl⟩
  go_wp2_with fail
  refine (l1In_of D2.out _).mono ?_; rintro e w1 ⟨rfl, rfl⟩
  go_wp2_with fail
  go_ret
  exact ⟨by rw [E.out]; rfl, rfl⟩
theorem impl_hasProbes (z0 z1 z2 : Int) (w : World) : Calls Try.prog 53 #[.int .i64 z0, .int .i64 z1, .int .i64 z2] w fun e w' => e = .returned (.bool (fiB z0 z1 z2)) ∧ w = w' := by
  by_cases h0 : 0 ≤ z0 ∧ z0 ≤ 9999
  rotate_left
  · have E := Lib.hid (fiB_no0 (z1 := z1) (z2 := z2) h0)
    have D0 := Lib.hid (seedB_dec (decide_eq_false h0))
    clear h0
    go_enter Try.func53, Try.ntmps53
    go_wp2_with fail
    refine (impl_isHashNumber _ _ _).mono ?_; rintro e w1 ⟨rfl, rfl⟩
    rw [D0.out]
    go_wp2_with fail
    go_ret
    exact ⟨by rw [E.out]; rfl, rfl⟩
  have D0 := Lib.hid (seedB_dec (decide_eq_true h0))
  have T0 := Lib.hid (decide_eq_true h0)
  clear h0
  by_cases h1 : 1 ≤ z1
  rotate_left
  · have E := Lib.hid (fiB_no1 (z0 := z0) (z2 := z2) (fun h => h1 h.1))
    have dh1 : decide (1 ≤ z1) = false := by simpa using h1
    go_enter Try.func53, Try.ntmps53
    go_wp2_with fail
    refine (impl_isHashNumber _ _ _).mono ?_; rintro e w1 ⟨rfl, rfl⟩
    rw [D0.out]
    go_wp2_with fail
    go_ret
    exact ⟨by rw [E.out]; rfl, rfl⟩
  have dh1 : decide (1 ≤ z1) = true := by simpa using h1
  by_cases h2 : z1 ≤ 8
  rotate_left
  · have E := Lib.hid (fiB_no1 (z0 := z0) (z2 := z2) (fun h => h2 h.2))
    have dh2 : decide (z1 ≤ 8) = false := by simpa using h2
    go_enter Try.func53, Try.ntmps53
    go_wp2_with fail
    refine (impl_isHashNumber _ _ _).mono ?_; rintro e w1 ⟨rfl, rfl⟩
    rw [D0.out]
    go_wp2_with fail
    go_ret
    exact ⟨by rw [E.out]; rfl, rfl⟩
  have dh2 : decide (z1 ≤ 8) = true := by simpa using h2
  by_cases h3 : 1 ≤ z2
  rotate_left
  · have E := Lib.hid (fiB_no2 (z0 := z0) (z1 := z1) (fun h => h3 h.1))
    have dh3 : decide (1 ≤ z2) = false := by simpa using h3
    go_enter Try.func53, Try.ntmps53
    go_wp2_with fail
    refine (impl_isHashNumber _ _ _).mono ?_; rintro e w1 ⟨rfl, rfl⟩
    rw [D0.out]
    go_wp2_with fail
    go_ret
    exact ⟨by rw [E.out]; rfl, rfl⟩
  have dh3 : decide (1 ≤ z2) = true := by simpa using h3
  by_cases h4 : z2 ≤ 512
  rotate_left
  · have E := Lib.hid (fiB_no2 (z0 := z0) (z1 := z1) (fun h => h4 h.2))
    have dh4 : decide (z2 ≤ 512) = false := by simpa using h4
    go_enter Try.func53, Try.ntmps53
    go_wp2_with fail
    refine (impl_isHashNumber _ _ _).mono ?_; rintro e w1 ⟨rfl, rfl⟩
    rw [D0.out]
    go_wp2_with fail
    go_ret
    exact ⟨by rw [E.out]; rfl, rfl⟩
  have dh4 : decide (z2 ≤ 512) = true := by simpa using h4
  have E := Lib.hid (show fiB z0 z1 z2 = true by unfold fiB; rw [T0.out, decide_eq_true (show 1 ≤ z1 ∧ z1 ≤ 8 from ⟨h1, h2⟩), decide_eq_true (show 1 ≤ z2 ∧ z2 ≤ 512 from ⟨h3, h4⟩)]; rfl)
  go_enter Try.func53, Try.ntmps53
  go_wp2_with fail
  refine (impl_isHashNumber _ _ _).mono ?_; rintro e w1 ⟨rfl, rfl⟩
  rw [D0.out]
  go_wp2_with fail
  go_ret
  exact ⟨by rw [E.out]; rfl, rfl⟩
section
variable {z0 z1 z2 : Int} {A : Option Addr} {n c : Nat} {X : Nat → Int} {w : World}
abbrev BlC (w : World) (z0 z1 z2 : Int) (A : Option Addr) (n c : Nat) (X : Nat → Int) : World → Prop := BX1 w w.heap.size #[.int .i64 z0, .int .i64 z1, .int .i64 z2, .slice A n c] 44 A n X
theorem BlC.start (h : IRow w A n X) : BlC w z0 z1 z2 A n c X (w.alloc (.cells #[.int .i64 z0, .int .i64 z1, .int .i64 z2, .slice A n c] 44)) := BX1.start h
end
end Go.Proofs.Ytpajbcgdoedleab
