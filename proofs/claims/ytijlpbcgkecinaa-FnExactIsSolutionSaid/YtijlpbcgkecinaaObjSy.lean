/- The laws' small functions on System. -/
import Derived.Test.YtijlpbcgkecinaaObjBS
import Derived.Test.YtijlpbcgkecinaaObjBo
namespace Go.Proofs.Ytijlpbcgkecinaa
open Go.RowKit

set_option maxRecDepth 100000 in
set_option maxHeartbeats 2000000 in
theorem sz_System {z0 : Int} {n1 : Nat} {X1 : Nat → BV} {n2 : Nat} {A1 : Option Addr} {c1 : Nat} {A2 : Option Addr} {c2 : Nat} {left : Int} {w : World} (hn1 : n1 ≤ maxLen) (hn2 : n2 ≤ maxLen) (hs1 : ∀ i, i < n1 → (X1 i).l ≤ maxLen) (hr1 : VRow w A1 n1 X1) (h0 : 0 ≤ left) (h1 : left ≤ 1048576) :
    Calls Try.prog 12 #[.agg #[.int .i64 z0, .slice A1 n1 c1, .slice A2 n2 c2], .int .i64 left] w fun e w' => e = .returned (.int .i64 (szv left (n1 + sumV X1 n1 + n2))) ∧ Below w.heap.size w w' := by
  obtain ⟨M, hM⟩ : ∃ M, M = n1 + sumV X1 n1 := ⟨_, rfl⟩
  rw [← hM]
  have HM := Lib.hid hM
  clear hM
  have FB := Lib.hid ((At.start w).alloc (.cells #[.int .i64 z0, .slice A1 n1 c1, .slice A2 n2 c2] 25))
  have R1 := Lib.hid (hr1.al (.cells #[.int .i64 z0, .slice A1 n1 c1, .slice A2 n2 c2] 25))
  clear hr1
  have BX := Lib.hid (boxed w #[.int .i64 z0, .slice A1 n1 c1, .slice A2 n2 c2] 25)
  go_enter Try.func12, Try.ntmps12
  go_wp2_with fail
  refine (sz_BitsS hn1 hs1 R1.out (by omega) (by omega)).mono ?_; rintro e w1 ⟨rfl, hb⟩; rw [← HM.out]
  replace FB := Lib.hid (FB.out.b hb)
  replace BX := Lib.hid (BX.out.b hb)
  have z_w1 : w.heap.size + 1 ≤ w1.heap.size := by have hsz := hb.size; first | omega | (simp at hsz; omega)
  clear hb
  by_cases hz_1 : ((M : Nat) : Int) ≤ left
  rotate_left
  · rw [szv_no hz_1]
    have hfin : szv left (M + n2) = -1 := szv_no (by omega)
    go_wp2_with fail
    go_ret
    exact ⟨by first | (rw [hfin]; rfl) | rfl, FB.out.now⟩
  rw [szv_yes hz_1]
  have hl_1 : ¬ ((left - ((M : Nat) : Int)) < 0) := by omega
  have c_BX_0 := BX.out.now 0 _ rfl
  have c_BX_1 := BX.out.now 1 _ rfl
  have c_BX_2 := BX.out.now 2 _ rfl
  go_wp2_with fail
  refine (sz_BoolS hn2 (by omega) (by omega)).mono ?_; rintro e w2 ⟨rfl, hb⟩
  replace FB := Lib.hid (FB.out.b hb)
  replace BX := Lib.hid (BX.out.b hb)
  have z_w2 : w1.heap.size ≤ w2.heap.size := by have hsz := hb.size; first | omega | (simp at hsz; omega)
  clear c_BX_0 c_BX_1 c_BX_2
  clear hb
  by_cases hz_2 : ((n2 : Nat) : Int) ≤ (left - ((M : Nat) : Int))
  rotate_left
  · rw [szv_no hz_2]
    have hfin : szv left (M + n2) = -1 := szv_no (by omega)
    go_wp2_with fail
    go_ret
    exact ⟨by first | (rw [hfin]; rfl) | rfl, FB.out.now⟩
  rw [szv_yes hz_2]
  have hl_2 : ¬ (((left - ((M : Nat) : Int)) - ((n2 : Nat) : Int)) < 0) := by omega
  have hfin : szv left (M + n2) = ((left - ((M : Nat) : Int)) - ((n2 : Nat) : Int)) := by rw [szv_yes (show ((M + n2 : Nat) : Int) ≤ left by omega)] <;> omega
  go_wp2_with fail
  go_ret
  exact ⟨by first | (rw [hfin]; rfl) | rfl, FB.out.now⟩

set_option maxRecDepth 100000 in
set_option maxHeartbeats 2000000 in
theorem to_System {z0 : Int} {n1 : Nat} {X1 : Nat → BV} {n2 : Nat} {X2 : Nat → Bool} {A1 : Option Addr} {c1 : Nat} {A2 : Option Addr} {c2 : Nat} {w : World} (hn1 : n1 + sumV X1 n1 ≤ 1048576) (hn2 : n2 ≤ 1048576) (hr1 : VRow w A1 n1 X1) (hr2 : GRow w A2 n2 (boolV X2)) :
    Calls Try.prog 14 #[.agg #[.int .i64 z0, .slice A1 n1 c1, .slice A2 n2 c2]] w fun e w' => ∃ dA1 dc1 dA2 dc2, e = .returned (.agg #[.int .i64 z0, .slice dA1 n1 dc1, .slice dA2 n2 dc2]) ∧ OwV w.heap.size w'.heap.size dA1 n1 X1 w' ∧ Ow w.heap.size w'.heap.size 4 dA2 n2 (boolV X2) w' ∧ Below w.heap.size w w' := by
  have FB := Lib.hid ((((At.start w).alloc (.cells #[.int .i64 z0, .slice A1 n1 c1, .slice A2 n2 c2] 25)).alloc (.cells #[.int .i64 0, .slice none 0 0, .slice none 0 0] 30)).alloc (.cells #[.int .i64 z0, .slice none 0 0, .slice none 0 0] 30))
  have R1 := Lib.hid ((((rdV_of_row hr1).alloc (.cells #[.int .i64 z0, .slice A1 n1 c1, .slice A2 n2 c2] 25)).alloc (.cells #[.int .i64 0, .slice none 0 0, .slice none 0 0] 30)).alloc (.cells #[.int .i64 z0, .slice none 0 0, .slice none 0 0] 30))
  have R2 := Lib.hid ((((rd_of_row hr2).alloc (.cells #[.int .i64 z0, .slice A1 n1 c1, .slice A2 n2 c2] 25)).alloc (.cells #[.int .i64 0, .slice none 0 0, .slice none 0 0] 30)).alloc (.cells #[.int .i64 z0, .slice none 0 0, .slice none 0 0] 30))
  have BX := Lib.hid (((boxed w #[.int .i64 z0, .slice A1 n1 c1, .slice A2 n2 c2] 25).alloc (.cells #[.int .i64 0, .slice none 0 0, .slice none 0 0] 30)).alloc (.cells #[.int .i64 z0, .slice none 0 0, .slice none 0 0] 30))
  have nb := nbx0 ((w.alloc (.cells #[.int .i64 z0, .slice A1 n1 c1, .slice A2 n2 c2] 25)).alloc (.cells #[.int .i64 0, .slice none 0 0, .slice none 0 0] 30)) #[.int .i64 z0, .slice none 0 0, .slice none 0 0] 30
  have nr := (nbx0 (w.alloc (.cells #[.int .i64 z0, .slice A1 n1 c1, .slice A2 n2 c2] 25)) #[.int .i64 0, .slice none 0 0, .slice none 0 0] 30).b ((Below.refl _ _).alloc (Nat.le_refl _) (.cells #[.int .i64 z0, .slice none 0 0, .slice none 0 0] 30))
  simp only [World.size_alloc] at nb nr
  have NB := Lib.hid nb
  have NR := Lib.hid nr
  clear nb nr hr1 hr2
  go_enter Try.func14, Try.ntmps14
  go_wp2_with fail
  refine (to_BitsS hn1 R1.out.rowV).mono ?_; rintro e w1 ⟨dA1, dc1, rfl, ho1, hb⟩
  replace FB := Lib.hid (FB.out.b hb)
  replace R1 := Lib.hid (R1.out.b hb)
  replace R2 := Lib.hid (R2.out.b hb)
  replace BX := Lib.hid (BX.out.b hb)
  have z_w1 : w.heap.size + 3 ≤ w1.heap.size := by have hsz := hb.size; first | omega | (simp at hsz; omega)
  replace NB := Lib.hid (NB.out.b hb)
  replace NR := Lib.hid (NR.out.b hb)
  have O1 := Lib.hid (ownedV (ho1.mono (lo' := w.heap.size + 3) (by simp) (Nat.le_refl _)))
  clear hb ho1
  have d1 := NB.out.cell 1 _ rfl
  have f1 := NB.out.free 1
  have c_BX_0 := BX.out.now 0 _ rfl
  have c_BX_1 := BX.out.now 1 _ rfl
  have c_BX_2 := BX.out.now 2 _ rfl
  replace FB := Lib.hid (((FB.out).setD (q := w.heap.size + 1 + 1) (.inl (by omega)) 1 (.slice dA1 n1 dc1)))
  replace R1 := Lib.hid (((R1.out).setD (q := w.heap.size + 1 + 1) (.inl (by omega)) 1 (.slice dA1 n1 dc1)))
  replace R2 := Lib.hid (((R2.out).setD (q := w.heap.size + 1 + 1) (.inl (by omega)) 1 (.slice dA1 n1 dc1)))
  replace BX := Lib.hid (((BX.out).setD (q := w.heap.size + 1 + 1) (.inl (by omega)) 1 (.slice dA1 n1 dc1)))
  replace O1 := Lib.hid (((O1.out).setD (q := w.heap.size + 1 + 1) (.inr (by omega)) 1 (.slice dA1 n1 dc1)))
  replace NB := Lib.hid ((NB.out).set 1 (.slice dA1 n1 dc1))
  replace NR := Lib.hid (nbx_other (r := w.heap.size + 1 + 1) NR.out (by omega) 1 (.slice dA1 n1 dc1))
  go_wp2_with fail
  refine (to_BoolS hn2 R2.out.row).mono ?_; rintro e w2 ⟨dA2, dc2, rfl, ho2, hb⟩
  replace FB := Lib.hid (FB.out.b hb)
  replace R1 := Lib.hid (R1.out.b hb)
  replace R2 := Lib.hid (R2.out.b hb)
  replace BX := Lib.hid (BX.out.b hb)
  replace O1 := Lib.hid (O1.out.b hb)
  have z_w2 : w1.heap.size ≤ w2.heap.size := by have hsz := hb.size; first | omega | (simp at hsz; omega)
  clear c_BX_0 c_BX_1 c_BX_2
  replace NB := Lib.hid (NB.out.b hb)
  replace NR := Lib.hid (NR.out.b hb)
  have O2 := Lib.hid (owned (ho2.mono (lo' := w1.heap.size) (by simp) (Nat.le_refl _)))
  clear hb ho2
  have d2 := NB.out.cell 2 _ rfl
  have f2 := NB.out.free 2
  have c_BX_0 := BX.out.now 0 _ rfl
  have c_BX_1 := BX.out.now 1 _ rfl
  have c_BX_2 := BX.out.now 2 _ rfl
  have g0 := NR.out.free 0
  have e0 := NR.out.cell 0 _ rfl
  have g1 := NR.out.free 1
  have e1 := NR.out.cell 1 _ rfl
  have g2 := NR.out.free 2
  have e2 := NR.out.cell 2 _ rfl
  have d0 := NB.out.cell 0 _ rfl
  have d1 := NB.out.cell 1 _ rfl
  go_wp2_with fail
  refine bodyPost_ret (v := .agg #[.int .i64 z0, .slice dA1 n1 dc1, .slice dA2 n2 dc2]) (by simp [results, Try.results14, go_sem, e0, e1, e2]) rfl ?_
  replace FB := Lib.hid (((((((((FB.out).setD (q := w.heap.size + 1 + 1) (.inl (by omega)) 2 (.slice dA2 n2 dc2))).setD (q := w.heap.size + 1) (.inl (by omega)) 0 (.int .i64 z0))).setD (q := w.heap.size + 1) (.inl (by omega)) 1 (.slice dA1 n1 dc1))).setD (q := w.heap.size + 1) (.inl (by omega)) 2 (.slice dA2 n2 dc2)))
  replace R1 := Lib.hid (((((((((R1.out).setD (q := w.heap.size + 1 + 1) (.inl (by omega)) 2 (.slice dA2 n2 dc2))).setD (q := w.heap.size + 1) (.inl (by omega)) 0 (.int .i64 z0))).setD (q := w.heap.size + 1) (.inl (by omega)) 1 (.slice dA1 n1 dc1))).setD (q := w.heap.size + 1) (.inl (by omega)) 2 (.slice dA2 n2 dc2)))
  replace R2 := Lib.hid (((((((((R2.out).setD (q := w.heap.size + 1 + 1) (.inl (by omega)) 2 (.slice dA2 n2 dc2))).setD (q := w.heap.size + 1) (.inl (by omega)) 0 (.int .i64 z0))).setD (q := w.heap.size + 1) (.inl (by omega)) 1 (.slice dA1 n1 dc1))).setD (q := w.heap.size + 1) (.inl (by omega)) 2 (.slice dA2 n2 dc2)))
  replace BX := Lib.hid (((((((((BX.out).setD (q := w.heap.size + 1 + 1) (.inl (by omega)) 2 (.slice dA2 n2 dc2))).setD (q := w.heap.size + 1) (.inl (by omega)) 0 (.int .i64 z0))).setD (q := w.heap.size + 1) (.inl (by omega)) 1 (.slice dA1 n1 dc1))).setD (q := w.heap.size + 1) (.inl (by omega)) 2 (.slice dA2 n2 dc2)))
  replace O1 := Lib.hid (((((((((O1.out).setD (q := w.heap.size + 1 + 1) (.inr (by omega)) 2 (.slice dA2 n2 dc2))).setD (q := w.heap.size + 1) (.inr (by omega)) 0 (.int .i64 z0))).setD (q := w.heap.size + 1) (.inr (by omega)) 1 (.slice dA1 n1 dc1))).setD (q := w.heap.size + 1) (.inr (by omega)) 2 (.slice dA2 n2 dc2)))
  replace O2 := Lib.hid (((((((((O2.out).setD (q := w.heap.size + 1 + 1) (.inr (by omega)) 2 (.slice dA2 n2 dc2))).setD (q := w.heap.size + 1) (.inr (by omega)) 0 (.int .i64 z0))).setD (q := w.heap.size + 1) (.inr (by omega)) 1 (.slice dA1 n1 dc1))).setD (q := w.heap.size + 1) (.inr (by omega)) 2 (.slice dA2 n2 dc2)))
  exact ⟨dA1, dc1, dA2, dc2, rfl, O1.out.now.mono (by omega) O1.out.top, O2.out.now.mono (by omega) O2.out.top, FB.out.now⟩

set_option maxRecDepth 100000 in
set_option maxHeartbeats 2000000 in
theorem eq_System {z0 : Int} {n1 : Nat} {X1 : Nat → BV} {n2 : Nat} {X2 : Nat → Bool} {A1 : Option Addr} {c1 : Nat} {A2 : Option Addr} {c2 : Nat} {dA1 : Option Addr} {dc1 : Nat} {dA2 : Option Addr} {dc2 : Nat} {w : World} (hn1 : n1 + sumV X1 n1 ≤ 1048576) (hn2 : n2 ≤ 1048576) (hx1 : VRow w A1 n1 X1) (hx2 : GRow w A2 n2 (boolV X2)) (hy1 : VRow w dA1 n1 X1) (hy2 : GRow w dA2 n2 (boolV X2)) :
    Calls Try.prog 16 #[.agg #[.int .i64 z0, .slice A1 n1 c1, .slice A2 n2 c2], .agg #[.int .i64 z0, .slice dA1 n1 dc1, .slice dA2 n2 dc2]] w (SameRow w true) := by
  have FB := Lib.hid (((At.start w).alloc (.cells #[.int .i64 z0, .slice A1 n1 c1, .slice A2 n2 c2] 30)).alloc (.cells #[.int .i64 z0, .slice dA1 n1 dc1, .slice dA2 n2 dc2] 30))
  have P1 := Lib.hid (((rdV_of_row hx1).alloc (.cells #[.int .i64 z0, .slice A1 n1 c1, .slice A2 n2 c2] 30)).alloc (.cells #[.int .i64 z0, .slice dA1 n1 dc1, .slice dA2 n2 dc2] 30))
  have Q1 := Lib.hid (((rdV_of_row hy1).alloc (.cells #[.int .i64 z0, .slice A1 n1 c1, .slice A2 n2 c2] 30)).alloc (.cells #[.int .i64 z0, .slice dA1 n1 dc1, .slice dA2 n2 dc2] 30))
  have P2 := Lib.hid (((rd_of_row hx2).alloc (.cells #[.int .i64 z0, .slice A1 n1 c1, .slice A2 n2 c2] 30)).alloc (.cells #[.int .i64 z0, .slice dA1 n1 dc1, .slice dA2 n2 dc2] 30))
  have Q2 := Lib.hid (((rd_of_row hy2).alloc (.cells #[.int .i64 z0, .slice A1 n1 c1, .slice A2 n2 c2] 30)).alloc (.cells #[.int .i64 z0, .slice dA1 n1 dc1, .slice dA2 n2 dc2] 30))
  have BX := Lib.hid ((boxed w #[.int .i64 z0, .slice A1 n1 c1, .slice A2 n2 c2] 30).alloc (.cells #[.int .i64 z0, .slice dA1 n1 dc1, .slice dA2 n2 dc2] 30))
  have BY := Lib.hid (boxed_at (w.alloc (.cells #[.int .i64 z0, .slice A1 n1 c1, .slice A2 n2 c2] 30)) (w.heap.size + 1) (by simp) #[.int .i64 z0, .slice dA1 n1 dc1, .slice dA2 n2 dc2] 30)
  clear hx1 hy1 hx2 hy2
  go_enter Try.func16, Try.ntmps16
  go_wp2_with fail
  refine (eq_BitsS hn1 P1.out.rowV Q1.out.rowV).mono ?_; rintro e w1 ⟨rfl, hb⟩
  replace FB := Lib.hid (FB.out.b hb)
  replace P1 := Lib.hid (P1.out.b hb)
  replace Q1 := Lib.hid (Q1.out.b hb)
  replace P2 := Lib.hid (P2.out.b hb)
  replace Q2 := Lib.hid (Q2.out.b hb)
  replace BX := Lib.hid (BX.out.b hb)
  replace BY := Lib.hid (BY.out.b hb)
  have z_w1 : w.heap.size + 2 ≤ w1.heap.size := by have hsz := hb.size; first | omega | (simp at hsz; omega)
  clear hb
  have c_BX_0 := BX.out.now 0 _ rfl
  have c_BX_1 := BX.out.now 1 _ rfl
  have c_BX_2 := BX.out.now 2 _ rfl
  have c_BY_0 := BY.out.now 0 _ rfl
  have c_BY_1 := BY.out.now 1 _ rfl
  have c_BY_2 := BY.out.now 2 _ rfl
  go_wp2_with fail
  refine (eq_BoolS hn2 P2.out.row Q2.out.row).mono ?_; rintro e w2 ⟨rfl, hb⟩
  replace FB := Lib.hid (FB.out.b hb)
  replace P1 := Lib.hid (P1.out.b hb)
  replace Q1 := Lib.hid (Q1.out.b hb)
  replace P2 := Lib.hid (P2.out.b hb)
  replace Q2 := Lib.hid (Q2.out.b hb)
  replace BX := Lib.hid (BX.out.b hb)
  replace BY := Lib.hid (BY.out.b hb)
  have z_w2 : w1.heap.size ≤ w2.heap.size := by have hsz := hb.size; first | omega | (simp at hsz; omega)
  clear c_BX_0 c_BX_1 c_BX_2 c_BY_0 c_BY_1 c_BY_2
  clear hb
  go_wp2_with fail
  go_ret
  exact ⟨rfl, FB.out.now⟩

end Go.Proofs.Ytijlpbcgkecinaa
