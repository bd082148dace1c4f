/- NewBits: the program's and the model's. -/
import Derived.Test.YtglccgpiakadbaaGrow
namespace Go.Proofs.Ytglccgpiakadbaa
open Go.RowKit

theorem spec_newBits_yes (z : Nat) (w : World) (hz : z ≤ 4096) : Calls Try.prog 59 #[.int .i64 z] w (VecIs z ((z + 15) / 16) (fun _ => 0) true w) := by
  go_enter Try.func59, Try.ntmps59
  go_wp2_with fail
  refine (l1In_yes _ _ _ _ (by omega) (by omega)).mono ?_; rintro e w' ⟨rfl, rfl⟩
  go_wp2_with fail
  refine (spec_biNew z _ _ hz rfl).mono ?_; rintro e w1 ⟨g, rfl, hg, ho, hb⟩
  obtain ⟨c0, c1, f0, f1, hs⟩ := box_cells hb
  have HO := Lib.hid ho
  have HB := Lib.hid (((Below.refl w.heap.size w).alloc (Nat.le_refl _) _).trans (hb.mono (by simp)))
  have hg2 : w.heap.size < g := by simp at hg; omega
  clear ho hb hg
  go_wp2_with fail
  refine bodyPost_ret (v := .tuple #[.agg #[.int .i64 z, .slice (some ⟨g, 0, none⟩) ((z + 15) / 16) ((z + 15) / 16)], .bool true]) (by simp [results, Try.results59, go_sem, c0, c1]) rfl ?_
  exact ⟨_, _, rfl, ((HO.out.setAt (by omega) _).setAt (by omega) _).row, below_setAt (below_setAt HB.out (by omega) _) (by omega) _⟩

theorem spec_newBits_no (z : Int) (w : World) (hz : ¬ (0 ≤ z ∧ z ≤ 4096)) : Calls Try.prog 59 #[.int .i64 z] w (VecIs 0 0 (fun _ => 0) false w) := by
  go_enter Try.func59, Try.ntmps59
  go_wp2_with fail
  refine (l1In_no _ _ _ _ hz).mono ?_; rintro e w' ⟨rfl, rfl⟩
  go_wp2_with fail
  refine bodyPost_ret (v := .tuple #[.agg #[.int .i64 0, .slice none 0 0], .bool false]) (by simp [results, Try.results59, go_sem]) rfl ?_
  exact ⟨none, 0, rfl, IRow.zero, by first | exact (Below.refl _ _).alloc (Nat.le_refl _) _ | go_grown⟩

/-- What a law keeps of two answers: the model's vector (its box at b0, its row as it was at w1) and the program's own (its box at b1, its row from B on). -/
structure NS (w w1 : World) (b0 b1 B : Nat) (z : Int) (m : Nat) (A1 : Option Addr) (k1 : Nat) (A2 : Option Addr) (k2 : Nat) (Y : Nat → Int) (wi : World) : Prop where
  below : Below w.heap.size w wi
  below1 : Below w1.heap.size w1 wi
  box0 : Box wi b0 z A1 m k1
  box1 : Box wi b1 z A2 m k2
  own : OVec wi B A2 m Y
section
variable {w w1 wi wj : World} {b0 b1 B : Nat} {z : Int} {m : Nat} {A1 : Option Addr} {k1 : Nat} {A2 : Option Addr} {k2 : Nat} {Y Y' : Nat → Int}
theorem NS.b (h : NS w w1 b0 b1 B z m A1 k1 A2 k2 Y wi) (hb : Below wi.heap.size wi wj) : NS w w1 b0 b1 B z m A1 k1 A2 k2 Y wj :=
  ⟨h.below.trans (hb.mono h.below.size), h.below1.trans (hb.mono h.below1.size), h.box0.b hb, h.box1.b hb, h.own.b hb⟩
theorem NS.mark (h : NS w w1 b0 b1 B z m A1 k1 A2 k2 Y wi) (hw : w.heap.size ≤ B) (h1 : w1.heap.size ≤ B) (ho : OVec wj B A2 m Y') (hb : Below B wi wj) (hr : Rest A2 wi wj) (n0 : A2 ≠ some ⟨b0, 0, none⟩) (n1 : A2 ≠ some ⟨b1, 0, none⟩) : NS w w1 b0 b1 B z m A1 k1 A2 k2 Y' wj :=
  ⟨h.below.trans (hb.mono hw), h.below1.trans (hb.mono h1), h.box0.rest hr n0, h.box1.rest hr n1, ho⟩
end

set_option maxHeartbeats 2000000 in
theorem main_FnExactNewBits (a zr : Int) (m : Nat) (Y : Nat → Int) (b : Bool) (w : World) (hm : m ≤ 4096)
    (s1 : ∀ w, Calls Try.prog 59 #[.int .i64 a] w (VecIs zr m Y b w)) (s2 : ∀ w, Calls Try.prog 48 #[.int .i64 a] w (OwnIs zr m Y b w)) :
    Calls Try.prog 9 #[.int .i64 a] w fun e w' => e = .returned (.bool true) ∧ Below w.heap.size w w' := by
  have S1 := Lib.hid s1
  have S2 := Lib.hid s2
  clear s1 s2
  go_enter Try.func9, Try.ntmps9
  go_wp2_with fail
  refine (S1.out _).mono ?_; rintro e w1 ⟨A1, k1, rfl, r1, hb1⟩
  have R1 := Lib.hid r1
  have HB1 := Lib.hid hb1
  clear r1 hb1
  go_wp2_with fail
  refine (S2.out _).mono ?_; rintro e w2 ⟨A2, k2, rfl, o2, hb2⟩
  have ha1 : Below w1.heap.size w1 (w1.alloc (.cells #[.int .i64 zr, .slice A1 m k1] 26)) := (Below.refl _ _).alloc (Nat.le_refl _) _
  have hs12 : w1.heap.size < w2.heap.size := by have := hb2.size; simp at this; omega
  have n0 : A2 ≠ some ⟨w1.heap.size, 0, none⟩ := o2.ne_low (by simp)
  have n1 : A2 ≠ some ⟨w2.heap.size, 0, none⟩ := o2.ne_high (Nat.le_refl _)
  have hww : w.heap.size ≤ w1.heap.size := HB1.out.size
  have hL : NS w w1 w1.heap.size w2.heap.size (w1.heap.size + 1) zr m A1 k1 A2 k2 Y (w2.alloc (.cells #[.int .i64 zr, .slice A2 m k2] 26)) := by
    have h2 : Below w1.heap.size w1 w2 := ha1.trans (hb2.mono (by simp))
    exact ⟨(HB1.out.trans (h2.mono hww)).alloc (by omega) _, h2.alloc (by omega) _, ((Box.new w1 zr A1 m k1 26).b hb2).b ((Below.refl _ _).alloc (Nat.le_refl _) _), Box.new w2 zr A2 m k2 26, (o2.low (by simp)).b ((Below.refl _ _).alloc (Nat.le_refl _) _)⟩
  have L2 := Lib.hid hL
  have hx0 : Box w2 w1.heap.size zr A1 m k1 := (Box.new w1 zr A1 m k1 26).b hb2
  obtain ⟨_, c0, c1⟩ := hx0
  have N0 := Lib.hid n0
  have N1 := Lib.hid n1
  clear hL o2 hb2 ha1 n0 n1
  go_wp2_with fail
  refine (eqBits_yes _ _ _ _ _ _ _ Y Y _ (by omega) L2.out.own.row (R1.out.below L2.out.below1 (Nat.le_refl _)) (fun _ _ => rfl) rfl).mono ?_; rintro e w3 ⟨rfl, hb⟩
  have L3 := Lib.hid (L2.out.b hb)
  clear hb L2 c0 c1
  obtain ⟨hs1, c0, c1⟩ := L3.out.box0
  obtain ⟨hs2, d0, d1⟩ := L3.out.box1
  go_wp2_with fail
  refine (mark_rest _ _ _ _ _ _ _ _ (by omega) L3.out.own (by omega) (by omega) (by omega)).mono ?_; rintro e w4 ⟨rfl, ho, hb, hr⟩
  have L4 := Lib.hid (L3.out.mark (by omega) (by omega) ho hb hr N0.out N1.out)
  clear hb ho hr L3 c0 c1 d0 d1 hs1 hs2
  obtain ⟨hs1, c0, c1⟩ := L4.out.box0
  obtain ⟨hs2, d0, d1⟩ := L4.out.box1
  go_wp2_with fail
  refine (heldBits_yes _ _ _ _ _ _ _ (by omega) L4.out.own.row (by omega) (by omega) (fun _ _ => rfl)).mono ?_; rintro e w5 ⟨rfl, hb⟩
  have L5 := Lib.hid (L4.out.b hb)
  clear hb L4 c0 c1 d0 d1 hs1 hs2
  obtain ⟨hs1, c0, c1⟩ := L5.out.box0
  obtain ⟨hs2, d0, d1⟩ := L5.out.box1
  go_wp2_with fail
  refine (S2.out _).mono ?_; rintro e w6 ⟨A3, k3, rfl, o3, hb⟩
  have L6 := Lib.hid (L5.out.b hb)
  have O3 := Lib.hid o3.row
  clear hb o3 L5 c0 c1 d0 d1 hs1 hs2
  obtain ⟨hs1, c0, c1⟩ := L6.out.box0
  obtain ⟨hs2, d0, d1⟩ := L6.out.box1
  go_wp2_with fail
  have ha : ∀ o : Obj, Below w6.heap.size w6 (w6.alloc o) := fun o => (Below.refl _ _).alloc (Nat.le_refl _) _
  refine (eqBits_yes _ _ _ _ _ _ _ Y Y _ (by omega) (O3.out.b (ha _)) (R1.out.below (L6.out.b (ha _)).below1 (Nat.le_refl _)) (fun _ _ => rfl) rfl).mono ?_; rintro e w7 ⟨rfl, hb⟩
  have L7 := Lib.hid ((L6.out.b (ha _)).b hb)
  clear hb L6 ha c0 c1 d0 d1 hs1 hs2
  obtain ⟨hs1, c0, c1⟩ := L7.out.box0
  obtain ⟨hs2, d0, d1⟩ := L7.out.box1
  go_wp2_with fail
  refine (heldBits_yes _ _ _ _ _ _ _ (by omega) L7.out.own.row (by omega) (by omega) (fun _ _ => rfl)).mono ?_; rintro e w8 ⟨rfl, hb⟩
  have L8 := Lib.hid (L7.out.b hb)
  clear hb L7 c0 c1 d0 d1 hs1 hs2
  go_wp2_with fail
  go_ret
  exact ⟨rfl, L8.out.below⟩

theorem walk_FnExactNewBits (w : World) (a : Int) (_w0 : (Lit.int .i64 a).wf = true) :
    Calls Try.prog 9 #[.int .i64 a] w fun e w' => e = .returned (.bool true) ∧ Below w.heap.size w w' := by
  by_cases h : 0 ≤ a ∧ a ≤ 4096
  · obtain ⟨a, rfl⟩ := Int.eq_ofNat_of_zero_le h.1
    exact main_FnExactNewBits _ _ ((a + 15) / 16) _ _ w (by omega) (fun w => spec_newBits_yes a w (by omega)) (fun w => impl_newBits_yes a w (by omega))
  · exact main_FnExactNewBits _ _ 0 _ _ w (by omega) (fun w => spec_newBits_no a w h) (fun w => impl_newBits_no a w h)
end Go.Proofs.Ytglccgpiakadbaa
