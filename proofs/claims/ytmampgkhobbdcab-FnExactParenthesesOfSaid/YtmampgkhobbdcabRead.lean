/- ReadField and BitAt: the program's and the model's. -/
import Derived.Test.YtmampgkhobbdcabBits1
namespace Go.Proofs.Ytmampgkhobbdcab
open Go.RowKit

def Room (z : Int) (n : Nat) (X : Nat → Int) (a width : Int) : Prop := Good z n X ∧ 0 ≤ width ∧ width ≤ 24 ∧ 0 ≤ a ∧ a ≤ z - width
theorem isBits_yes {z : Int} {A : Option Addr} {n c : Nat} {X : Nat → Int} {w : World} (hn : n ≤ 1048576) (hr : IRow w A n X) (hg : Good z n X) :
    Calls Try.prog 40 #[.agg #[.int .i64 z, .slice A n c]] w fun e w' => e = .returned (.bool true) ∧ Below w.heap.size w w' := (good_two (impl_isBits z A n c X w hn hr)).1 hg
theorem isBits_no {z : Int} {A : Option Addr} {n c : Nat} {X : Nat → Int} {w : World} (hn : n ≤ 1048576) (hr : IRow w A n X) (hg : ¬ Good z n X) :
    Calls Try.prog 40 #[.agg #[.int .i64 z, .slice A n c]] w fun e w' => e = .returned (.bool false) ∧ Below w.heap.size w w' := (good_two (impl_isBits z A n c X w hn hr)).2 hg
theorem biGood_yes {z : Int} {A : Option Addr} {n c : Nat} {X : Nat → Int} {w : World} (hn : n ≤ 1048576) (hr : IRow w A n X) (hg : Good z n X) :
    Calls Try.prog 37 #[.agg #[.int .i64 z, .slice A n c]] w fun e w' => e = .returned (.bool true) ∧ Below w.heap.size w w' := (good_two (spec_biGood z A n c X w hn hr)).1 hg
theorem biGood_no {z : Int} {A : Option Addr} {n c : Nat} {X : Nat → Int} {w : World} (hn : n ≤ 1048576) (hr : IRow w A n X) (hg : ¬ Good z n X) :
    Calls Try.prog 37 #[.agg #[.int .i64 z, .slice A n c]] w fun e w' => e = .returned (.bool false) ∧ Below w.heap.size w w' := (good_two (spec_biGood z A n c X w hn hr)).2 hg

def BoolIs (p : Prop) (w : World) (e : Ending) (w' : World) : Prop := ∃ b : Bool, e = .returned (.bool b) ∧ (b = true ↔ p) ∧ Below w.heap.size w w'
theorem BoolIs.two {f : FuncId} {args : Array Value} {w : World} {p : Prop} (h : Calls Try.prog f args w (BoolIs p w)) :
    (p → Calls Try.prog f args w fun e w' => e = .returned (.bool true) ∧ Below w.heap.size w w') ∧ (¬ p → Calls Try.prog f args w fun e w' => e = .returned (.bool false) ∧ Below w.heap.size w w') :=
  ⟨fun hg => h.mono fun _ _ ⟨_, he, hb, hw⟩ => ⟨by rw [he, hb.2 hg], hw⟩,
   fun hg => h.mono fun _ _ ⟨b, he, hb, hw⟩ => ⟨by rw [he]; cases b; rfl; exact absurd (hb.1 rfl) hg, hw⟩⟩

theorem room_one {z : Int} {n : Nat} {X : Nat → Int} {i : Int} : Room z n X i 1 ↔ Good z n X ∧ 0 ≤ i ∧ i ≤ z - 1 := by
  constructor
  · intro h; exact ⟨h.1, h.2.2.2.1, h.2.2.2.2⟩
  · intro h; exact ⟨h.1, by omega, by omega, h.2.1, h.2.2⟩

set_option maxHeartbeats 400000 in
theorem spec_biHas (z : Int) (A : Option Addr) (n c : Nat) (X : Nat → Int) (i : Int) (w : World) (hn : n ≤ 1048576) (hr : IRow w A n X) :
    Calls Try.prog 47 #[.agg #[.int .i64 z, .slice A n c], .int .i64 i] w (BoolIs (Room z n X i 1) w) := by
  have L0 := Lib.hid (LS.start (z := z) (c := c) hr 28)
  clear hr
  by_cases hg : Good z n X
  · have z0 := hg.1
    have z1 := hg.2.1
    have HG := Lib.hid hg
    clear hg
    go_enter Try.func47, Try.ntmps47
    go_wp2_with fail
    refine (biGood_yes hn L0.out.row HG.out).mono ?_; rintro e w1 ⟨rfl, hb⟩
    have L1 := Lib.hid (L0.out.step hb)
    clear hb L0
    obtain ⟨hs1, c0, c1⟩ := L1.out.box
    by_cases q2 : 0 ≤ i ∧ i ≤ z - 1
    · go_wp2_with fail
      refine (l1In_yes _ _ _ _ q2.1 q2.2).mono ?_; rintro e w' ⟨rfl, rfl⟩
      go_wp2_with fail
      go_ret
      exact ⟨true, rfl, by simp only [true_iff]; exact room_one.2 ⟨HG.out, q2⟩, L1.out.below⟩
    · go_wp2_with fail
      refine (l1In_no _ _ _ _ q2).mono ?_; rintro e w' ⟨rfl, rfl⟩
      go_wp2_with fail
      go_ret
      exact ⟨false, rfl, by simp only [Bool.false_eq_true, false_iff]; exact fun h => q2 (room_one.1 h).2, L1.out.below⟩
  · have HG := Lib.hid hg
    clear hg
    go_enter Try.func47, Try.ntmps47
    go_wp2_with fail
    refine (biGood_no hn L0.out.row HG.out).mono ?_; rintro e w1 ⟨rfl, hb⟩
    have L1 := Lib.hid (L0.out.step hb)
    clear hb L0
    go_wp2_with fail
    go_ret
    exact ⟨false, rfl, by simp only [Bool.false_eq_true, false_iff]; exact fun h => HG.out h.1, L1.out.below⟩

end Go.Proofs.Ytmampgkhobbdcab
