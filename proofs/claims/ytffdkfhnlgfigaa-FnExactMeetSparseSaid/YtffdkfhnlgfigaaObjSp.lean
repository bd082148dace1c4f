/- The laws' small functions on Sparse. -/
import Derived.Test.YtffdkfhnlgfigaaObjTch
namespace Go.Proofs.Ytffdkfhnlgfigaa
open Go.RowKit

set_option maxRecDepth 100000 in
set_option maxHeartbeats 2000000 in
theorem sz_Sparse {z0 : Int} {z1 : Int} {z2 : Int} {z3 : Int} {z5 : Int} {n4 : Nat} {n6 : Nat} {A4 : Option Addr} {c4 : Nat} {A6 : Option Addr} {c6 : Nat} {left : Int} {w : World} (hn4 : n4 ≤ maxLen) (hn6 : n6 ≤ maxLen) (h0 : 0 ≤ left) (h1 : left ≤ 1048576) :
    Calls Try.prog 26 #[.agg #[.int .i64 z0, .int .i64 z1, .int .i64 z2, .int .i64 z3, .slice A4 n4 c4, .int .i64 z5, .slice A6 n6 c6], .int .i64 left] w fun e w' => e = .returned (.int .i64 (szv left (n4 + n6))) ∧ Below w.heap.size w w' := by
  have FB := Lib.hid ((At.start w).alloc (.cells #[.int .i64 z0, .int .i64 z1, .int .i64 z2, .int .i64 z3, .slice A4 n4 c4, .int .i64 z5, .slice A6 n6 c6] 58))
  have BX := Lib.hid (boxed w #[.int .i64 z0, .int .i64 z1, .int .i64 z2, .int .i64 z3, .slice A4 n4 c4, .int .i64 z5, .slice A6 n6 c6] 58)
  go_enter Try.func26, Try.ntmps26
  go_wp2_with fail
  refine (sz_Bits hn4 (by omega) (by omega)).mono ?_; rintro e w1 ⟨rfl, hb⟩
  replace FB := Lib.hid (FB.out.b hb)
  replace BX := Lib.hid (BX.out.b hb)
  have z_w1 : w.heap.size + 1 ≤ w1.heap.size := by have hsz := hb.size; first | omega | (simp at hsz; omega)
  clear hb
  by_cases hz_3 : ((n4 : Nat) : Int) ≤ left
  rotate_left
  · rw [szv_no hz_3]
    have hfin : szv left (n4 + n6) = -1 := szv_no (by omega)
    go_wp2_with fail
    go_ret
    exact ⟨by first | (rw [hfin]; rfl) | rfl, FB.out.now⟩
  rw [szv_yes hz_3]
  have hl_3 : ¬ ((left - ((n4 : Nat) : Int)) < 0) := by omega
  have c_BX_0 := BX.out.now 0 _ rfl
  have c_BX_1 := BX.out.now 1 _ rfl
  have c_BX_2 := BX.out.now 2 _ rfl
  have c_BX_3 := BX.out.now 3 _ rfl
  have c_BX_4 := BX.out.now 4 _ rfl
  have c_BX_5 := BX.out.now 5 _ rfl
  have c_BX_6 := BX.out.now 6 _ rfl
  go_wp2_with fail
  refine (sz_Bits hn6 (by omega) (by omega)).mono ?_; rintro e w2 ⟨rfl, hb⟩
  replace FB := Lib.hid (FB.out.b hb)
  replace BX := Lib.hid (BX.out.b hb)
  have z_w2 : w1.heap.size ≤ w2.heap.size := by have hsz := hb.size; first | omega | (simp at hsz; omega)
  clear c_BX_0 c_BX_1 c_BX_2 c_BX_3 c_BX_4 c_BX_5 c_BX_6
  clear hb
  by_cases hz_4 : ((n6 : Nat) : Int) ≤ (left - ((n4 : Nat) : Int))
  rotate_left
  · rw [szv_no hz_4]
    have hfin : szv left (n4 + n6) = -1 := szv_no (by omega)
    go_wp2_with fail
    go_ret
    exact ⟨by first | (rw [hfin]; rfl) | rfl, FB.out.now⟩
  rw [szv_yes hz_4]
  have hl_4 : ¬ (((left - ((n4 : Nat) : Int)) - ((n6 : Nat) : Int)) < 0) := by omega
  have hfin : szv left (n4 + n6) = ((left - ((n4 : Nat) : Int)) - ((n6 : Nat) : Int)) := by rw [szv_yes (show ((n4 + n6 : Nat) : Int) ≤ left by omega)]; omega
  go_wp2_with fail
  go_ret
  exact ⟨by first | (rw [hfin]; rfl) | rfl, FB.out.now⟩

set_option maxRecDepth 100000 in
set_option maxHeartbeats 2000000 in
theorem to_Sparse {z0 : Int} {z1 : Int} {z2 : Int} {z3 : Int} {z5 : Int} {n4 : Nat} {X4 : Nat → Int} {n6 : Nat} {X6 : Nat → Int} {A4 : Option Addr} {c4 : Nat} {A6 : Option Addr} {c6 : Nat} {w : World} (hn4 : n4 ≤ 1048576) (hn6 : n6 ≤ 1048576) (hr4 : GRow w A4 n4 (intV X4)) (hr6 : GRow w A6 n6 (intV X6)) :
    Calls Try.prog 28 #[.agg #[.int .i64 z0, .int .i64 z1, .int .i64 z2, .int .i64 z3, .slice A4 n4 c4, .int .i64 z5, .slice A6 n6 c6]] w fun e w' => ∃ dA4 dc4 dA6 dc6, e = .returned (.agg #[.int .i64 z0, .int .i64 z1, .int .i64 z2, .int .i64 z3, .slice dA4 n4 dc4, .int .i64 z5, .slice dA6 n6 dc6]) ∧ Ow w.heap.size w'.heap.size 3 dA4 n4 (intV X4) w' ∧ Ow w.heap.size w'.heap.size 3 dA6 n6 (intV X6) w' ∧ Apart n4 dA4 n6 dA6 ∧ Below w.heap.size w w' := by
  have FB := Lib.hid ((((At.start w).alloc (.cells #[.int .i64 z0, .int .i64 z1, .int .i64 z2, .int .i64 z3, .slice A4 n4 c4, .int .i64 z5, .slice A6 n6 c6] 58)).alloc (.cells #[.int .i64 0, .int .i64 0, .int .i64 0, .int .i64 0, .slice none 0 0, .int .i64 0, .slice none 0 0] 32)).alloc (.cells #[.int .i64 z0, .int .i64 z1, .int .i64 z2, .int .i64 0, .slice none 0 0, .int .i64 0, .slice none 0 0] 32))
  have R4 := Lib.hid ((((rd_of_row hr4).alloc (.cells #[.int .i64 z0, .int .i64 z1, .int .i64 z2, .int .i64 z3, .slice A4 n4 c4, .int .i64 z5, .slice A6 n6 c6] 58)).alloc (.cells #[.int .i64 0, .int .i64 0, .int .i64 0, .int .i64 0, .slice none 0 0, .int .i64 0, .slice none 0 0] 32)).alloc (.cells #[.int .i64 z0, .int .i64 z1, .int .i64 z2, .int .i64 0, .slice none 0 0, .int .i64 0, .slice none 0 0] 32))
  have R6 := Lib.hid ((((rd_of_row hr6).alloc (.cells #[.int .i64 z0, .int .i64 z1, .int .i64 z2, .int .i64 z3, .slice A4 n4 c4, .int .i64 z5, .slice A6 n6 c6] 58)).alloc (.cells #[.int .i64 0, .int .i64 0, .int .i64 0, .int .i64 0, .slice none 0 0, .int .i64 0, .slice none 0 0] 32)).alloc (.cells #[.int .i64 z0, .int .i64 z1, .int .i64 z2, .int .i64 0, .slice none 0 0, .int .i64 0, .slice none 0 0] 32))
  have BX := Lib.hid (((boxed w #[.int .i64 z0, .int .i64 z1, .int .i64 z2, .int .i64 z3, .slice A4 n4 c4, .int .i64 z5, .slice A6 n6 c6] 58).alloc (.cells #[.int .i64 0, .int .i64 0, .int .i64 0, .int .i64 0, .slice none 0 0, .int .i64 0, .slice none 0 0] 32)).alloc (.cells #[.int .i64 z0, .int .i64 z1, .int .i64 z2, .int .i64 0, .slice none 0 0, .int .i64 0, .slice none 0 0] 32))
  have nb := nbx0 ((w.alloc (.cells #[.int .i64 z0, .int .i64 z1, .int .i64 z2, .int .i64 z3, .slice A4 n4 c4, .int .i64 z5, .slice A6 n6 c6] 58)).alloc (.cells #[.int .i64 0, .int .i64 0, .int .i64 0, .int .i64 0, .slice none 0 0, .int .i64 0, .slice none 0 0] 32)) #[.int .i64 z0, .int .i64 z1, .int .i64 z2, .int .i64 0, .slice none 0 0, .int .i64 0, .slice none 0 0] 32
  have nr := (nbx0 (w.alloc (.cells #[.int .i64 z0, .int .i64 z1, .int .i64 z2, .int .i64 z3, .slice A4 n4 c4, .int .i64 z5, .slice A6 n6 c6] 58)) #[.int .i64 0, .int .i64 0, .int .i64 0, .int .i64 0, .slice none 0 0, .int .i64 0, .slice none 0 0] 32).b ((Below.refl _ _).alloc (Nat.le_refl _) (.cells #[.int .i64 z0, .int .i64 z1, .int .i64 z2, .int .i64 0, .slice none 0 0, .int .i64 0, .slice none 0 0] 32))
  simp only [World.size_alloc] at nb nr
  have NB := Lib.hid nb
  have NR := Lib.hid nr
  clear nb nr hr4 hr6
  go_enter Try.func28, Try.ntmps28
  go_wp2_with fail
  refine (to_Bits hn4 R4.out.row).mono ?_; rintro e w1 ⟨dA4, dc4, rfl, ho4, hb⟩
  replace FB := Lib.hid (FB.out.b hb)
  replace R4 := Lib.hid (R4.out.b hb)
  replace R6 := Lib.hid (R6.out.b hb)
  replace BX := Lib.hid (BX.out.b hb)
  have z_w1 : w.heap.size + 3 ≤ w1.heap.size := by have hsz := hb.size; first | omega | (simp at hsz; omega)
  replace NB := Lib.hid (NB.out.b hb)
  replace NR := Lib.hid (NR.out.b hb)
  have O4 := Lib.hid (owned (ho4.mono (lo' := w.heap.size + 3) (by simp) (Nat.le_refl _)))
  clear hb ho4
  have d3 := NB.out.cell 3 _ rfl
  have f3 := NB.out.free 3
  have d4 := NB.out.cell 4 _ rfl
  have f4 := NB.out.free 4
  have c_BX_0 := BX.out.now 0 _ rfl
  have c_BX_1 := BX.out.now 1 _ rfl
  have c_BX_2 := BX.out.now 2 _ rfl
  have c_BX_3 := BX.out.now 3 _ rfl
  have c_BX_4 := BX.out.now 4 _ rfl
  have c_BX_5 := BX.out.now 5 _ rfl
  have c_BX_6 := BX.out.now 6 _ rfl
  replace FB := Lib.hid (((((FB.out).setD (q := w.heap.size + 1 + 1) (.inl (by omega)) 3 (.int .i64 z3))).setD (q := w.heap.size + 1 + 1) (.inl (by omega)) 4 (.slice dA4 n4 dc4)))
  replace R4 := Lib.hid (((((R4.out).setD (q := w.heap.size + 1 + 1) (.inl (by omega)) 3 (.int .i64 z3))).setD (q := w.heap.size + 1 + 1) (.inl (by omega)) 4 (.slice dA4 n4 dc4)))
  replace R6 := Lib.hid (((((R6.out).setD (q := w.heap.size + 1 + 1) (.inl (by omega)) 3 (.int .i64 z3))).setD (q := w.heap.size + 1 + 1) (.inl (by omega)) 4 (.slice dA4 n4 dc4)))
  replace BX := Lib.hid (((((BX.out).setD (q := w.heap.size + 1 + 1) (.inl (by omega)) 3 (.int .i64 z3))).setD (q := w.heap.size + 1 + 1) (.inl (by omega)) 4 (.slice dA4 n4 dc4)))
  replace O4 := Lib.hid (((((O4.out).setD (q := w.heap.size + 1 + 1) (.inr (by omega)) 3 (.int .i64 z3))).setD (q := w.heap.size + 1 + 1) (.inr (by omega)) 4 (.slice dA4 n4 dc4)))
  replace NB := Lib.hid ((((NB.out).set 3 (.int .i64 z3))).set 4 (.slice dA4 n4 dc4))
  replace NR := Lib.hid (nbx_other (r := w.heap.size + 1 + 1) (nbx_other (r := w.heap.size + 1 + 1) NR.out (by omega) 3 (.int .i64 z3)) (by omega) 4 (.slice dA4 n4 dc4))
  go_wp2_with fail
  refine (to_Bits hn6 R6.out.row).mono ?_; rintro e w2 ⟨dA6, dc6, rfl, ho6, hb⟩
  replace FB := Lib.hid (FB.out.b hb)
  replace R4 := Lib.hid (R4.out.b hb)
  replace R6 := Lib.hid (R6.out.b hb)
  replace BX := Lib.hid (BX.out.b hb)
  replace O4 := Lib.hid (O4.out.b hb)
  have z_w2 : w1.heap.size ≤ w2.heap.size := by have hsz := hb.size; first | omega | (simp at hsz; omega)
  clear c_BX_0 c_BX_1 c_BX_2 c_BX_3 c_BX_4 c_BX_5 c_BX_6
  replace NB := Lib.hid (NB.out.b hb)
  replace NR := Lib.hid (NR.out.b hb)
  have O6 := Lib.hid (owned (ho6.mono (lo' := w1.heap.size) (by simp) (Nat.le_refl _)))
  clear hb ho6
  have d5 := NB.out.cell 5 _ rfl
  have f5 := NB.out.free 5
  have d6 := NB.out.cell 6 _ rfl
  have f6 := NB.out.free 6
  have c_BX_0 := BX.out.now 0 _ rfl
  have c_BX_1 := BX.out.now 1 _ rfl
  have c_BX_2 := BX.out.now 2 _ rfl
  have c_BX_3 := BX.out.now 3 _ rfl
  have c_BX_4 := BX.out.now 4 _ rfl
  have c_BX_5 := BX.out.now 5 _ rfl
  have c_BX_6 := BX.out.now 6 _ rfl
  have g0 := NR.out.free 0
  have e0 := NR.out.cell 0 _ rfl
  have g1 := NR.out.free 1
  have e1 := NR.out.cell 1 _ rfl
  have g2 := NR.out.free 2
  have e2 := NR.out.cell 2 _ rfl
  have g3 := NR.out.free 3
  have e3 := NR.out.cell 3 _ rfl
  have g4 := NR.out.free 4
  have e4 := NR.out.cell 4 _ rfl
  have g5 := NR.out.free 5
  have e5 := NR.out.cell 5 _ rfl
  have g6 := NR.out.free 6
  have e6 := NR.out.cell 6 _ rfl
  have d0 := NB.out.cell 0 _ rfl
  have d1 := NB.out.cell 1 _ rfl
  have d2 := NB.out.cell 2 _ rfl
  have d3 := NB.out.cell 3 _ rfl
  have d4 := NB.out.cell 4 _ rfl
  go_wp2_with fail
  refine bodyPost_ret (v := .agg #[.int .i64 z0, .int .i64 z1, .int .i64 z2, .int .i64 z3, .slice dA4 n4 dc4, .int .i64 z5, .slice dA6 n6 dc6]) (by simp [results, Try.results28, go_sem, e0, e1, e2, e3, e4, e5, e6]) rfl ?_
  replace FB := Lib.hid (((((((((((((((((((FB.out).setD (q := w.heap.size + 1 + 1) (.inl (by omega)) 5 (.int .i64 z5))).setD (q := w.heap.size + 1 + 1) (.inl (by omega)) 6 (.slice dA6 n6 dc6))).setD (q := w.heap.size + 1) (.inl (by omega)) 0 (.int .i64 z0))).setD (q := w.heap.size + 1) (.inl (by omega)) 1 (.int .i64 z1))).setD (q := w.heap.size + 1) (.inl (by omega)) 2 (.int .i64 z2))).setD (q := w.heap.size + 1) (.inl (by omega)) 3 (.int .i64 z3))).setD (q := w.heap.size + 1) (.inl (by omega)) 4 (.slice dA4 n4 dc4))).setD (q := w.heap.size + 1) (.inl (by omega)) 5 (.int .i64 z5))).setD (q := w.heap.size + 1) (.inl (by omega)) 6 (.slice dA6 n6 dc6)))
  replace R4 := Lib.hid (((((((((((((((((((R4.out).setD (q := w.heap.size + 1 + 1) (.inl (by omega)) 5 (.int .i64 z5))).setD (q := w.heap.size + 1 + 1) (.inl (by omega)) 6 (.slice dA6 n6 dc6))).setD (q := w.heap.size + 1) (.inl (by omega)) 0 (.int .i64 z0))).setD (q := w.heap.size + 1) (.inl (by omega)) 1 (.int .i64 z1))).setD (q := w.heap.size + 1) (.inl (by omega)) 2 (.int .i64 z2))).setD (q := w.heap.size + 1) (.inl (by omega)) 3 (.int .i64 z3))).setD (q := w.heap.size + 1) (.inl (by omega)) 4 (.slice dA4 n4 dc4))).setD (q := w.heap.size + 1) (.inl (by omega)) 5 (.int .i64 z5))).setD (q := w.heap.size + 1) (.inl (by omega)) 6 (.slice dA6 n6 dc6)))
  replace R6 := Lib.hid (((((((((((((((((((R6.out).setD (q := w.heap.size + 1 + 1) (.inl (by omega)) 5 (.int .i64 z5))).setD (q := w.heap.size + 1 + 1) (.inl (by omega)) 6 (.slice dA6 n6 dc6))).setD (q := w.heap.size + 1) (.inl (by omega)) 0 (.int .i64 z0))).setD (q := w.heap.size + 1) (.inl (by omega)) 1 (.int .i64 z1))).setD (q := w.heap.size + 1) (.inl (by omega)) 2 (.int .i64 z2))).setD (q := w.heap.size + 1) (.inl (by omega)) 3 (.int .i64 z3))).setD (q := w.heap.size + 1) (.inl (by omega)) 4 (.slice dA4 n4 dc4))).setD (q := w.heap.size + 1) (.inl (by omega)) 5 (.int .i64 z5))).setD (q := w.heap.size + 1) (.inl (by omega)) 6 (.slice dA6 n6 dc6)))
  replace BX := Lib.hid (((((((((((((((((((BX.out).setD (q := w.heap.size + 1 + 1) (.inl (by omega)) 5 (.int .i64 z5))).setD (q := w.heap.size + 1 + 1) (.inl (by omega)) 6 (.slice dA6 n6 dc6))).setD (q := w.heap.size + 1) (.inl (by omega)) 0 (.int .i64 z0))).setD (q := w.heap.size + 1) (.inl (by omega)) 1 (.int .i64 z1))).setD (q := w.heap.size + 1) (.inl (by omega)) 2 (.int .i64 z2))).setD (q := w.heap.size + 1) (.inl (by omega)) 3 (.int .i64 z3))).setD (q := w.heap.size + 1) (.inl (by omega)) 4 (.slice dA4 n4 dc4))).setD (q := w.heap.size + 1) (.inl (by omega)) 5 (.int .i64 z5))).setD (q := w.heap.size + 1) (.inl (by omega)) 6 (.slice dA6 n6 dc6)))
  replace O4 := Lib.hid (((((((((((((((((((O4.out).setD (q := w.heap.size + 1 + 1) (.inr (by omega)) 5 (.int .i64 z5))).setD (q := w.heap.size + 1 + 1) (.inr (by omega)) 6 (.slice dA6 n6 dc6))).setD (q := w.heap.size + 1) (.inr (by omega)) 0 (.int .i64 z0))).setD (q := w.heap.size + 1) (.inr (by omega)) 1 (.int .i64 z1))).setD (q := w.heap.size + 1) (.inr (by omega)) 2 (.int .i64 z2))).setD (q := w.heap.size + 1) (.inr (by omega)) 3 (.int .i64 z3))).setD (q := w.heap.size + 1) (.inr (by omega)) 4 (.slice dA4 n4 dc4))).setD (q := w.heap.size + 1) (.inr (by omega)) 5 (.int .i64 z5))).setD (q := w.heap.size + 1) (.inr (by omega)) 6 (.slice dA6 n6 dc6)))
  replace O6 := Lib.hid (((((((((((((((((((O6.out).setD (q := w.heap.size + 1 + 1) (.inr (by omega)) 5 (.int .i64 z5))).setD (q := w.heap.size + 1 + 1) (.inr (by omega)) 6 (.slice dA6 n6 dc6))).setD (q := w.heap.size + 1) (.inr (by omega)) 0 (.int .i64 z0))).setD (q := w.heap.size + 1) (.inr (by omega)) 1 (.int .i64 z1))).setD (q := w.heap.size + 1) (.inr (by omega)) 2 (.int .i64 z2))).setD (q := w.heap.size + 1) (.inr (by omega)) 3 (.int .i64 z3))).setD (q := w.heap.size + 1) (.inr (by omega)) 4 (.slice dA4 n4 dc4))).setD (q := w.heap.size + 1) (.inr (by omega)) 5 (.int .i64 z5))).setD (q := w.heap.size + 1) (.inr (by omega)) 6 (.slice dA6 n6 dc6)))
  exact ⟨dA4, dc4, dA6, dc6, rfl, O4.out.now.mono (by omega) O4.out.top, O6.out.now.mono (by omega) O6.out.top, apart_of O4.out.now O6.out.now (.inl (by omega)), FB.out.now⟩

set_option maxRecDepth 100000 in
set_option maxHeartbeats 2000000 in
theorem eq_Sparse {z0 : Int} {z1 : Int} {z2 : Int} {z3 : Int} {z5 : Int} {n4 : Nat} {X4 : Nat → Int} {n6 : Nat} {X6 : Nat → Int} {A4 : Option Addr} {c4 : Nat} {A6 : Option Addr} {c6 : Nat} {dA4 : Option Addr} {dc4 : Nat} {dA6 : Option Addr} {dc6 : Nat} {w : World} (hn4 : n4 ≤ 1048576) (hn6 : n6 ≤ 1048576) (hx4 : GRow w A4 n4 (intV X4)) (hx6 : GRow w A6 n6 (intV X6)) (hy4 : GRow w dA4 n4 (intV X4)) (hy6 : GRow w dA6 n6 (intV X6)) :
    Calls Try.prog 30 #[.agg #[.int .i64 z0, .int .i64 z1, .int .i64 z2, .int .i64 z3, .slice A4 n4 c4, .int .i64 z5, .slice A6 n6 c6], .agg #[.int .i64 z0, .int .i64 z1, .int .i64 z2, .int .i64 z3, .slice dA4 n4 dc4, .int .i64 z5, .slice dA6 n6 dc6]] w (SameRow w true) := by
  have FB := Lib.hid (((At.start w).alloc (.cells #[.int .i64 z0, .int .i64 z1, .int .i64 z2, .int .i64 z3, .slice A4 n4 c4, .int .i64 z5, .slice A6 n6 c6] 32)).alloc (.cells #[.int .i64 z0, .int .i64 z1, .int .i64 z2, .int .i64 z3, .slice dA4 n4 dc4, .int .i64 z5, .slice dA6 n6 dc6] 32))
  have P4 := Lib.hid (((rd_of_row hx4).alloc (.cells #[.int .i64 z0, .int .i64 z1, .int .i64 z2, .int .i64 z3, .slice A4 n4 c4, .int .i64 z5, .slice A6 n6 c6] 32)).alloc (.cells #[.int .i64 z0, .int .i64 z1, .int .i64 z2, .int .i64 z3, .slice dA4 n4 dc4, .int .i64 z5, .slice dA6 n6 dc6] 32))
  have Q4 := Lib.hid (((rd_of_row hy4).alloc (.cells #[.int .i64 z0, .int .i64 z1, .int .i64 z2, .int .i64 z3, .slice A4 n4 c4, .int .i64 z5, .slice A6 n6 c6] 32)).alloc (.cells #[.int .i64 z0, .int .i64 z1, .int .i64 z2, .int .i64 z3, .slice dA4 n4 dc4, .int .i64 z5, .slice dA6 n6 dc6] 32))
  have P6 := Lib.hid (((rd_of_row hx6).alloc (.cells #[.int .i64 z0, .int .i64 z1, .int .i64 z2, .int .i64 z3, .slice A4 n4 c4, .int .i64 z5, .slice A6 n6 c6] 32)).alloc (.cells #[.int .i64 z0, .int .i64 z1, .int .i64 z2, .int .i64 z3, .slice dA4 n4 dc4, .int .i64 z5, .slice dA6 n6 dc6] 32))
  have Q6 := Lib.hid (((rd_of_row hy6).alloc (.cells #[.int .i64 z0, .int .i64 z1, .int .i64 z2, .int .i64 z3, .slice A4 n4 c4, .int .i64 z5, .slice A6 n6 c6] 32)).alloc (.cells #[.int .i64 z0, .int .i64 z1, .int .i64 z2, .int .i64 z3, .slice dA4 n4 dc4, .int .i64 z5, .slice dA6 n6 dc6] 32))
  have BX := Lib.hid ((boxed w #[.int .i64 z0, .int .i64 z1, .int .i64 z2, .int .i64 z3, .slice A4 n4 c4, .int .i64 z5, .slice A6 n6 c6] 32).alloc (.cells #[.int .i64 z0, .int .i64 z1, .int .i64 z2, .int .i64 z3, .slice dA4 n4 dc4, .int .i64 z5, .slice dA6 n6 dc6] 32))
  have BY := Lib.hid (boxed_at (w.alloc (.cells #[.int .i64 z0, .int .i64 z1, .int .i64 z2, .int .i64 z3, .slice A4 n4 c4, .int .i64 z5, .slice A6 n6 c6] 32)) (w.heap.size + 1) (by simp) #[.int .i64 z0, .int .i64 z1, .int .i64 z2, .int .i64 z3, .slice dA4 n4 dc4, .int .i64 z5, .slice dA6 n6 dc6] 32)
  clear hx4 hy4 hx6 hy6
  go_enter Try.func30, Try.ntmps30
  go_wp2_with fail
  refine (eq_Bits hn4 P4.out.row Q4.out.row).mono ?_; rintro e w1 ⟨rfl, hb⟩
  replace FB := Lib.hid (FB.out.b hb)
  replace P4 := Lib.hid (P4.out.b hb)
  replace Q4 := Lib.hid (Q4.out.b hb)
  replace P6 := Lib.hid (P6.out.b hb)
  replace Q6 := Lib.hid (Q6.out.b hb)
  replace BX := Lib.hid (BX.out.b hb)
  replace BY := Lib.hid (BY.out.b hb)
  have z_w1 : w.heap.size + 2 ≤ w1.heap.size := by have hsz := hb.size; first | omega | (simp at hsz; omega)
  clear hb
  have c_BX_0 := BX.out.now 0 _ rfl
  have c_BX_1 := BX.out.now 1 _ rfl
  have c_BX_2 := BX.out.now 2 _ rfl
  have c_BX_3 := BX.out.now 3 _ rfl
  have c_BX_4 := BX.out.now 4 _ rfl
  have c_BX_5 := BX.out.now 5 _ rfl
  have c_BX_6 := BX.out.now 6 _ rfl
  have c_BY_0 := BY.out.now 0 _ rfl
  have c_BY_1 := BY.out.now 1 _ rfl
  have c_BY_2 := BY.out.now 2 _ rfl
  have c_BY_3 := BY.out.now 3 _ rfl
  have c_BY_4 := BY.out.now 4 _ rfl
  have c_BY_5 := BY.out.now 5 _ rfl
  have c_BY_6 := BY.out.now 6 _ rfl
  go_wp2_with fail
  refine (eq_Bits hn6 P6.out.row Q6.out.row).mono ?_; rintro e w2 ⟨rfl, hb⟩
  replace FB := Lib.hid (FB.out.b hb)
  replace P4 := Lib.hid (P4.out.b hb)
  replace Q4 := Lib.hid (Q4.out.b hb)
  replace P6 := Lib.hid (P6.out.b hb)
  replace Q6 := Lib.hid (Q6.out.b hb)
  replace BX := Lib.hid (BX.out.b hb)
  replace BY := Lib.hid (BY.out.b hb)
  have z_w2 : w1.heap.size ≤ w2.heap.size := by have hsz := hb.size; first | omega | (simp at hsz; omega)
  clear c_BX_0 c_BX_1 c_BX_2 c_BX_3 c_BX_4 c_BX_5 c_BX_6 c_BY_0 c_BY_1 c_BY_2 c_BY_3 c_BY_4 c_BY_5 c_BY_6
  clear hb
  go_wp2_with fail
  go_ret
  exact ⟨rfl, FB.out.now⟩

set_option maxRecDepth 100000 in
set_option maxHeartbeats 2000000 in
theorem markF_Sparse {z0 : Int} {z1 : Int} {z2 : Int} {z3 : Int} {z5 : Int} {n4 : Nat} {X4 : Nat → Int} {n6 : Nat} {X6 : Nat → Int} {A4 : Option Addr} {c4 : Nat} {A6 : Option Addr} {c6 : Nat} {lo hi : Nat} {k0 : Int} {w : World} (hn4 : n4 ≤ 1048576) (hn6 : n6 ≤ 1048576) (hx4 : Ow lo hi 3 A4 n4 (intV X4) w) (hx6 : Ow lo hi 3 A6 n6 (intV X6) w) (ht : hi ≤ w.heap.size) (ha46 : Apart n4 A4 n6 A6) (h0 : 1 ≤ k0) (h1 : k0 ≤ 8388608) :
    Calls Try.prog 31 #[.agg #[.int .i64 z0, .int .i64 z1, .int .i64 z2, .int .i64 z3, .slice A4 n4 c4, .int .i64 z5, .slice A6 n6 c6], .int .i64 k0] w fun e w' => e = .returned (.int .i64 (k0 + (n4 : Int) + (n6 : Int))) ∧ Ow lo hi 3 A4 n4 (intV fun i => k0 + i) w' ∧ Ow lo hi 3 A6 n6 (intV fun i => k0 + (n4 : Int) + i) w' ∧ Tch (fun k => Blk n4 A4 k ∨ Blk n6 A6 k) w w' := by
  have P4 := Lib.hid (At.alloc ⟨hx4, ht, Ow.lives _ _ _ _ _ _⟩ (.cells #[.int .i64 z0, .int .i64 z1, .int .i64 z2, .int .i64 z3, .slice A4 n4 c4, .int .i64 z5, .slice A6 n6 c6] 32))
  have P6 := Lib.hid (At.alloc ⟨hx6, ht, Ow.lives _ _ _ _ _ _⟩ (.cells #[.int .i64 z0, .int .i64 z1, .int .i64 z2, .int .i64 z3, .slice A4 n4 c4, .int .i64 z5, .slice A6 n6 c6] 32))
  have BX := Lib.hid (boxed w #[.int .i64 z0, .int .i64 z1, .int .i64 z2, .int .i64 z3, .slice A4 n4 c4, .int .i64 z5, .slice A6 n6 c6] 32)
  have HT := Lib.hid ((Tch.refl (fun k => Blk n4 A4 k ∨ Blk n6 A6 k) w).alloc (.cells #[.int .i64 z0, .int .i64 z1, .int .i64 z2, .int .i64 z3, .slice A4 n4 c4, .int .i64 z5, .slice A6 n6 c6] 32))
  have hb4 : ∀ k, Blk n4 A4 k → k < w.heap.size := fun k h => Nat.lt_of_lt_of_le (hx4.blk_lt h).2 ht
  have hb6 : ∀ k, Blk n6 A6 k → k < w.heap.size := fun k h => Nat.lt_of_lt_of_le (hx6.blk_lt h).2 ht
  clear hx4 hx6
  go_enter Try.func31, Try.ntmps31
  go_wp2_with fail
  refine (markF_Bits hn4 P4.out.now P4.out.top (by omega) (by omega)).mono ?_; rintro e v0 ⟨rfl, hm4, ht0⟩
  replace P4 := Lib.hid (At.mk hm4 (Nat.le_trans P4.out.top ht0.size) (Ow.lives _ _ _ _ _ _))
  replace P6 := Lib.hid (P6.out.tchO ht0 (fun k h1 h2 => by exact ha46.no h2 h1))
  replace BX := Lib.hid (BX.out.tch ht0 (fun k h1 h2 h3 => by first | (have := hb4 k h3; omega)))
  replace HT := Lib.hid (HT.out.trans (ht0.mono (fun k h => by simp [h])))
  clear ht0 hm4
  have c0 := BX.out.now 0 _ rfl
  have c1 := BX.out.now 1 _ rfl
  have c2 := BX.out.now 2 _ rfl
  have c3 := BX.out.now 3 _ rfl
  have c4 := BX.out.now 4 _ rfl
  have c5 := BX.out.now 5 _ rfl
  have c6 := BX.out.now 6 _ rfl
  go_wp2_with fail
  refine (markF_Bits hn6 P6.out.now P6.out.top (by omega) (by omega)).mono ?_; rintro e v1 ⟨rfl, hm6, ht1⟩
  clear c0 c1 c2 c3 c4 c5 c6
  replace P4 := Lib.hid (P4.out.tchO ht1 (fun k h1 h2 => by exact ha46.no h1 h2))
  replace P6 := Lib.hid (At.mk hm6 (Nat.le_trans P6.out.top ht1.size) (Ow.lives _ _ _ _ _ _))
  replace BX := Lib.hid (BX.out.tch ht1 (fun k h1 h2 h3 => by first | (have := hb6 k h3; omega)))
  replace HT := Lib.hid (HT.out.trans (ht1.mono (fun k h => by simp [h])))
  clear ht1 hm6
  go_wp2_with fail
  go_ret
  exact ⟨rfl, P4.out.now, P6.out.now, HT.out⟩

theorem mark_Sparse {z0 : Int} {z1 : Int} {z2 : Int} {z3 : Int} {z5 : Int} {n4 : Nat} {X4 : Nat → Int} {n6 : Nat} {X6 : Nat → Int} {A4 : Option Addr} {c4 : Nat} {A6 : Option Addr} {c6 : Nat} {lo hi : Nat} {k0 : Int} {w : World} (hn4 : n4 ≤ 1048576) (hn6 : n6 ≤ 1048576) (hx4 : Ow lo hi 3 A4 n4 (intV X4) w) (hx6 : Ow lo hi 3 A6 n6 (intV X6) w) (ht : hi ≤ w.heap.size) (ha46 : Apart n4 A4 n6 A6) (h0 : 1 ≤ k0) (h1 : k0 ≤ 8388608) :
    Calls Try.prog 31 #[.agg #[.int .i64 z0, .int .i64 z1, .int .i64 z2, .int .i64 z3, .slice A4 n4 c4, .int .i64 z5, .slice A6 n6 c6], .int .i64 k0] w fun e w' => e = .returned (.int .i64 (k0 + (n4 : Int) + (n6 : Int))) ∧ Ow lo hi 3 A4 n4 (intV fun i => k0 + i) w' ∧ Ow lo hi 3 A6 n6 (intV fun i => k0 + (n4 : Int) + i) w' ∧ Only lo hi w w' := by
  refine (markF_Sparse hn4 hn6 hx4 hx6 ht ha46 h0 h1).mono ?_
  rintro e w' ⟨he, hm4, hm6, htch⟩
  exact ⟨he, hm4, hm6, htch.only (fun k h => by rcases h with h | h <;> first | exact hx4.blk_lt h | exact hx6.blk_lt h)⟩

end Go.Proofs.Ytffdkfhnlgfigaa
