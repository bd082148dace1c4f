/- ReadField and BitAt: the program's and the model's. -/
import Derived.Test.YtffdkfhnlgfigaaBits1
namespace Go.Proofs.Ytffdkfhnlgfigaa
open Go.RowKit

def Room (z : Int) (n : Nat) (X : Nat → Int) (a width : Int) : Prop := Good z n X ∧ 0 ≤ width ∧ width ≤ 24 ∧ 0 ≤ a ∧ a ≤ z - width
theorem isBits_yes {z : Int} {A : Option Addr} {n c : Nat} {X : Nat → Int} {w : World} (hn : n ≤ 1048576) (hr : IRow w A n X) (hg : Good z n X) :
    Calls Try.prog 99 #[.agg #[.int .i64 z, .slice A n c]] w fun e w' => e = .returned (.bool true) ∧ Below w.heap.size w w' := (good_two (impl_isBits z A n c X w hn hr)).1 hg
theorem isBits_no {z : Int} {A : Option Addr} {n c : Nat} {X : Nat → Int} {w : World} (hn : n ≤ 1048576) (hr : IRow w A n X) (hg : ¬ Good z n X) :
    Calls Try.prog 99 #[.agg #[.int .i64 z, .slice A n c]] w fun e w' => e = .returned (.bool false) ∧ Below w.heap.size w w' := (good_two (impl_isBits z A n c X w hn hr)).2 hg
theorem biGood_yes {z : Int} {A : Option Addr} {n c : Nat} {X : Nat → Int} {w : World} (hn : n ≤ 1048576) (hr : IRow w A n X) (hg : Good z n X) :
    Calls Try.prog 96 #[.agg #[.int .i64 z, .slice A n c]] w fun e w' => e = .returned (.bool true) ∧ Below w.heap.size w w' := (good_two (spec_biGood z A n c X w hn hr)).1 hg
theorem biGood_no {z : Int} {A : Option Addr} {n c : Nat} {X : Nat → Int} {w : World} (hn : n ≤ 1048576) (hr : IRow w A n X) (hg : ¬ Good z n X) :
    Calls Try.prog 96 #[.agg #[.int .i64 z, .slice A n c]] w fun e w' => e = .returned (.bool false) ∧ Below w.heap.size w w' := (good_two (spec_biGood z A n c X w hn hr)).2 hg

def BoolIs (p : Prop) (w : World) (e : Ending) (w' : World) : Prop := ∃ b : Bool, e = .returned (.bool b) ∧ (b = true ↔ p) ∧ Below w.heap.size w w'
theorem BoolIs.two {f : FuncId} {args : Array Value} {w : World} {p : Prop} (h : Calls Try.prog f args w (BoolIs p w)) :
    (p → Calls Try.prog f args w fun e w' => e = .returned (.bool true) ∧ Below w.heap.size w w') ∧ (¬ p → Calls Try.prog f args w fun e w' => e = .returned (.bool false) ∧ Below w.heap.size w w') :=
  ⟨fun hg => h.mono fun _ _ ⟨_, he, hb, hw⟩ => ⟨by rw [he, hb.2 hg], hw⟩,
   fun hg => h.mono fun _ _ ⟨b, he, hb, hw⟩ => ⟨by rw [he]; cases b; rfl; exact absurd (hb.1 rfl) hg, hw⟩⟩

set_option maxHeartbeats 400000 in
theorem impl_hasField (z : Int) (A : Option Addr) (n c : Nat) (X : Nat → Int) (a width : Int) (w : World) (hn : n ≤ 1048576) (hr : IRow w A n X) :
    Calls Try.prog 119 #[.agg #[.int .i64 z, .slice A n c], .int .i64 a, .int .i64 width] w (BoolIs (Room z n X a width) w) := by
  have L0 := Lib.hid (LS.start (z := z) (c := c) hr 30)
  clear hr
  by_cases hg : Good z n X
  · have z0 := hg.1
    have z1 := hg.2.1
    have HG := Lib.hid hg
    clear hg
    go_enter Try.func119, Try.ntmps119
    go_wp2_with fail
    refine (isBits_yes hn L0.out.row HG.out).mono ?_; rintro e w1 ⟨rfl, hb⟩
    have L1 := Lib.hid (L0.out.step hb)
    clear hb L0
    obtain ⟨hs1, c0, c1⟩ := L1.out.box
    by_cases q1 : 0 ≤ width
    · have b1 : decide (0 ≤ width) = true := by simpa using q1
      by_cases q2 : width ≤ 24
      · have b2 : decide (width ≤ 24) = true := by simpa using q2
        by_cases q3 : 0 ≤ a
        · have b3 : decide (0 ≤ a) = true := by simpa using q3
          by_cases q4 : a ≤ z - width
          · have b4 : decide (a ≤ z - width) = true := by simpa using q4
            go_wp2_with fail
            go_ret
            exact ⟨true, rfl, by simp only [true_iff]; exact ⟨HG.out, q1, q2, q3, q4⟩, L1.out.below⟩
          · have b4 : decide (a ≤ z - width) = false := by simpa using q4
            go_wp2_with fail
            go_ret
            exact ⟨false, rfl, by simp only [Bool.false_eq_true, false_iff]; exact fun h => absurd h.2.2.2.2 (by omega), L1.out.below⟩
        · have b3 : decide (0 ≤ a) = false := by simpa using q3
          go_wp2_with fail
          go_ret
          exact ⟨false, rfl, by simp only [Bool.false_eq_true, false_iff]; exact fun h => absurd h.2.2.2.1 (by omega), L1.out.below⟩
      · have b2 : decide (width ≤ 24) = false := by simpa using q2
        go_wp2_with fail
        go_ret
        exact ⟨false, rfl, by simp only [Bool.false_eq_true, false_iff]; exact fun h => absurd h.2.2.1 (by omega), L1.out.below⟩
    · have b1 : decide (0 ≤ width) = false := by simpa using q1
      go_wp2_with fail
      go_ret
      exact ⟨false, rfl, by simp only [Bool.false_eq_true, false_iff]; exact fun h => absurd h.2.1 (by omega), L1.out.below⟩
  · have HG := Lib.hid hg
    clear hg
    go_enter Try.func119, Try.ntmps119
    go_wp2_with fail
    refine (isBits_no hn L0.out.row HG.out).mono ?_; rintro e w1 ⟨rfl, hb⟩
    have L1 := Lib.hid (L0.out.step hb)
    clear hb L0
    go_wp2_with fail
    go_ret
    exact ⟨false, rfl, by simp only [Bool.false_eq_true, false_iff]; exact fun h => HG.out h.1, L1.out.below⟩

set_option maxHeartbeats 400000 in
theorem impl_read_yes (z : Int) (A : Option Addr) (n c : Nat) (X : Nat → Int) (a width : Nat) (w : World) (hn : n ≤ 1048576) (hr : IRow w A n X) (h : Room z n X a width) :
    Calls Try.prog 94 #[.agg #[.int .i64 z, .slice A n c], .int .i64 a, .int .i64 width] w fun e w' => e = .returned (.tuple #[.int .i64 (fieldN (fun i => (X i).toNat) a width), .bool true]) ∧ Below w.heap.size w w' := by
  have L0 := Lib.hid (LS.start (z := z) (c := c) hr 30)
  clear hr
  have HG := Lib.hid h
  have hz : (a : Int) + width ≤ 16 * n := by have := h.1.2.2.1; have := h.2.2.2.2; omega
  have hw : width ≤ 24 := by have := h.2.2.1; omega
  clear h
  go_enter Try.func94, Try.ntmps94
  go_wp2_with fail
  refine ((BoolIs.two (impl_hasField z A n c X a width _ hn L0.out.row)).1 HG.out).mono ?_; rintro e w1 ⟨rfl, hb⟩
  have L1 := Lib.hid (L0.out.step hb)
  clear hb L0
  obtain ⟨hs1, c0, c1⟩ := L1.out.box
  go_wp2_with fail
  refine (impl_fieldOf _ _ _ (fun i => (X i).toNat) a width _ hn (good_row HG.out.1 L1.out.row) (by omega) (by omega)).mono ?_; rintro e w2 ⟨rfl, rfl⟩
  go_wp2_with fail
  go_ret2
  exact ⟨rfl, L1.out.below⟩

set_option maxHeartbeats 400000 in
theorem impl_read_no (z : Int) (A : Option Addr) (n c : Nat) (X : Nat → Int) (a width : Int) (w : World) (hn : n ≤ 1048576) (hr : IRow w A n X) (h : ¬ Room z n X a width) :
    Calls Try.prog 94 #[.agg #[.int .i64 z, .slice A n c], .int .i64 a, .int .i64 width] w fun e w' => e = .returned (.tuple #[.int .i64 0, .bool false]) ∧ Below w.heap.size w w' := by
  have L0 := Lib.hid (LS.start (z := z) (c := c) hr 30)
  clear hr
  have HG := Lib.hid h
  clear h
  go_enter Try.func94, Try.ntmps94
  go_wp2_with fail
  refine ((BoolIs.two (impl_hasField z A n c X a width _ hn L0.out.row)).2 HG.out).mono ?_; rintro e w1 ⟨rfl, hb⟩
  have L1 := Lib.hid (L0.out.step hb)
  clear hb L0
  go_wp2_with fail
  go_ret2
  exact ⟨rfl, L1.out.below⟩

theorem room_one {z : Int} {n : Nat} {X : Nat → Int} {i : Int} : Room z n X i 1 ↔ Good z n X ∧ 0 ≤ i ∧ i ≤ z - 1 := by
  constructor
  · intro h; exact ⟨h.1, h.2.2.2.1, h.2.2.2.2⟩
  · intro h; exact ⟨h.1, by omega, by omega, h.2.1, h.2.2⟩

end Go.Proofs.Ytffdkfhnlgfigaa
