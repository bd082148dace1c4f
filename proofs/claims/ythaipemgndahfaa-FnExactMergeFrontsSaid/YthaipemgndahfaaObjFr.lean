/- The laws' small functions on Front. -/
import Derived.Test.YthaipemgndahfaaObjStT
import Derived.Test.YthaipemgndahfaaObjTch
namespace Go.Proofs.Ythaipemgndahfaa
open Go.RowKit

set_option maxRecDepth 100000 in
set_option maxHeartbeats 2000000 in
theorem sz_Front {z0 : Int} {n1 : Nat} {n2 : Nat} {X2 : Nat → ByteArray} {A1 : Option Addr} {c1 : Nat} {A2 : Option Addr} {c2 : Nat} {left : Int} {w : World} (hn1 : n1 ≤ maxLen) (hn2 : n2 ≤ maxLen) (hs2 : ∀ i, i < n2 → (X2 i).size ≤ maxLen) (hr2 : GRow w A2 n2 (strV X2)) (h0 : 0 ≤ left) (h1 : left ≤ 1048576) :
    Calls Try.prog 20 #[.agg #[.int .i64 z0, .slice A1 n1 c1, .slice A2 n2 c2], .int .i64 left] w fun e w' => e = .returned (.int .i64 (szv left (n1 + n2 + sizeS X2 n2))) ∧ Below w.heap.size w w' := by
  have FB := Lib.hid ((At.start w).alloc (.cells #[.int .i64 z0, .slice A1 n1 c1, .slice A2 n2 c2] 34))
  have BX := Lib.hid (boxed w #[.int .i64 z0, .slice A1 n1 c1, .slice A2 n2 c2] 34)
  have R2 := Lib.hid ((rd_of_row hr2).alloc (.cells #[.int .i64 z0, .slice A1 n1 c1, .slice A2 n2 c2] 34))
  go_enter Try.func20, Try.ntmps20
  go_wp2_with fail
  refine (sz_IntS hn1 (by omega) (by omega)).mono ?_; rintro e w1 ⟨rfl, hb⟩
  replace FB := Lib.hid (FB.out.b hb)
  replace BX := Lib.hid (BX.out.b hb)
  replace R2 := Lib.hid (R2.out.b hb)
  have z_w1 : w.heap.size + 1 ≤ w1.heap.size := by have hsz := hb.size; first | omega | (simp at hsz; omega)
  clear hb
  by_cases hz_1 : ((n1 : Nat) : Int) ≤ left
  rotate_left
  · rw [szv_no hz_1]
    have hfin : szv left (n1 + n2 + sizeS X2 n2) = -1 := szv_no (by omega)
    go_wp2_with fail
    go_ret
    exact ⟨by first | (rw [hfin]; rfl) | rfl, FB.out.now⟩
  rw [szv_yes hz_1]
  have hl_1 : ¬ ((left - ((n1 : Nat) : Int)) < 0) := by omega
  have c_BX_0 := BX.out.now 0 _ rfl
  have c_BX_1 := BX.out.now 1 _ rfl
  have c_BX_2 := BX.out.now 2 _ rfl
  go_wp2_with fail
  refine (sz_StringS hn2 hs2 R2.out.row (by omega) (by omega)).mono ?_; rintro e w2 ⟨rfl, hb⟩
  replace FB := Lib.hid (FB.out.b hb)
  replace BX := Lib.hid (BX.out.b hb)
  replace R2 := Lib.hid (R2.out.b hb)
  have z_w2 : w1.heap.size ≤ w2.heap.size := by have hsz := hb.size; first | omega | (simp at hsz; omega)
  clear c_BX_0 c_BX_1 c_BX_2
  clear hb
  by_cases hz_2 : ((n2 + sizeS X2 n2 : Nat) : Int) ≤ (left - ((n1 : Nat) : Int))
  rotate_left
  · rw [szv_no hz_2]
    have hfin : szv left (n1 + n2 + sizeS X2 n2) = -1 := szv_no (by omega)
    go_wp2_with fail
    go_ret
    exact ⟨by first | (rw [hfin]; rfl) | rfl, FB.out.now⟩
  rw [szv_yes hz_2]
  have hl_2 : ¬ (((left - ((n1 : Nat) : Int)) - ((n2 + sizeS X2 n2 : Nat) : Int)) < 0) := by omega
  have hfin : szv left (n1 + n2 + sizeS X2 n2) = ((left - ((n1 : Nat) : Int)) - ((n2 + sizeS X2 n2 : Nat) : Int)) := by rw [szv_yes (show ((n1 + n2 + sizeS X2 n2 : Nat) : Int) ≤ left by omega)] <;> omega
  go_wp2_with fail
  go_ret
  exact ⟨by first | (rw [hfin]; rfl) | rfl, FB.out.now⟩

set_option maxRecDepth 100000 in
set_option maxHeartbeats 2000000 in
theorem to_Front {z0 : Int} {n1 : Nat} {X1 : Nat → Int} {n2 : Nat} {X2 : Nat → ByteArray} {A1 : Option Addr} {c1 : Nat} {A2 : Option Addr} {c2 : Nat} {w : World} (hn1 : n1 ≤ 1048576) (hn2 : n2 ≤ 1048576) (hr1 : GRow w A1 n1 (intV X1)) (hr2 : GRow w A2 n2 (strV X2)) :
    Calls Try.prog 22 #[.agg #[.int .i64 z0, .slice A1 n1 c1, .slice A2 n2 c2]] w fun e w' => ∃ dA1 dc1 dA2 dc2, e = .returned (.agg #[.int .i64 z0, .slice dA1 n1 dc1, .slice dA2 n2 dc2]) ∧ Ow w.heap.size w'.heap.size 3 dA1 n1 (intV X1) w' ∧ Ow w.heap.size w'.heap.size 9 dA2 n2 (strV X2) w' ∧ Apart n1 dA1 n2 dA2 ∧ Below w.heap.size w w' := by
  have FB := Lib.hid ((((At.start w).alloc (.cells #[.int .i64 z0, .slice A1 n1 c1, .slice A2 n2 c2] 34)).alloc (.cells #[.int .i64 0, .slice none 0 0, .slice none 0 0] 26)).alloc (.cells #[.int .i64 z0, .slice none 0 0, .slice none 0 0] 26))
  have R1 := Lib.hid ((((rd_of_row hr1).alloc (.cells #[.int .i64 z0, .slice A1 n1 c1, .slice A2 n2 c2] 34)).alloc (.cells #[.int .i64 0, .slice none 0 0, .slice none 0 0] 26)).alloc (.cells #[.int .i64 z0, .slice none 0 0, .slice none 0 0] 26))
  have R2 := Lib.hid ((((rd_of_row hr2).alloc (.cells #[.int .i64 z0, .slice A1 n1 c1, .slice A2 n2 c2] 34)).alloc (.cells #[.int .i64 0, .slice none 0 0, .slice none 0 0] 26)).alloc (.cells #[.int .i64 z0, .slice none 0 0, .slice none 0 0] 26))
  have BX := Lib.hid (((boxed w #[.int .i64 z0, .slice A1 n1 c1, .slice A2 n2 c2] 34).alloc (.cells #[.int .i64 0, .slice none 0 0, .slice none 0 0] 26)).alloc (.cells #[.int .i64 z0, .slice none 0 0, .slice none 0 0] 26))
  have nb := nbx0 ((w.alloc (.cells #[.int .i64 z0, .slice A1 n1 c1, .slice A2 n2 c2] 34)).alloc (.cells #[.int .i64 0, .slice none 0 0, .slice none 0 0] 26)) #[.int .i64 z0, .slice none 0 0, .slice none 0 0] 26
  have nr := (nbx0 (w.alloc (.cells #[.int .i64 z0, .slice A1 n1 c1, .slice A2 n2 c2] 34)) #[.int .i64 0, .slice none 0 0, .slice none 0 0] 26).b ((Below.refl _ _).alloc (Nat.le_refl _) (.cells #[.int .i64 z0, .slice none 0 0, .slice none 0 0] 26))
  simp only [World.size_alloc] at nb nr
  have NB := Lib.hid nb
  have NR := Lib.hid nr
  clear nb nr hr1 hr2
  go_enter Try.func22, Try.ntmps22
  go_wp2_with fail
  refine (to_IntS hn1 R1.out.row).mono ?_; rintro e w1 ⟨dA1, dc1, rfl, ho1, hb⟩
  replace FB := Lib.hid (FB.out.b hb)
  replace R1 := Lib.hid (R1.out.b hb)
  replace R2 := Lib.hid (R2.out.b hb)
  replace BX := Lib.hid (BX.out.b hb)
  have z_w1 : w.heap.size + 3 ≤ w1.heap.size := by have hsz := hb.size; first | omega | (simp at hsz; omega)
  replace NB := Lib.hid (NB.out.b hb)
  replace NR := Lib.hid (NR.out.b hb)
  have O1 := Lib.hid (owned (ho1.mono (lo' := w.heap.size + 3) (by simp) (Nat.le_refl _)))
  clear hb ho1
  have d1 := NB.out.cell 1 _ rfl
  have f1 := NB.out.free 1
  have c_BX_0 := BX.out.now 0 _ rfl
  have c_BX_1 := BX.out.now 1 _ rfl
  have c_BX_2 := BX.out.now 2 _ rfl
  replace FB := Lib.hid (((FB.out).setD (q := w.heap.size + 1 + 1) (.inl (by omega)) 1 (.slice dA1 n1 dc1)))
  replace R1 := Lib.hid (((R1.out).setD (q := w.heap.size + 1 + 1) (.inl (by omega)) 1 (.slice dA1 n1 dc1)))
  replace R2 := Lib.hid (((R2.out).setD (q := w.heap.size + 1 + 1) (.inl (by omega)) 1 (.slice dA1 n1 dc1)))
  replace BX := Lib.hid (((BX.out).setD (q := w.heap.size + 1 + 1) (.inl (by omega)) 1 (.slice dA1 n1 dc1)))
  replace O1 := Lib.hid (((O1.out).setD (q := w.heap.size + 1 + 1) (.inr (by omega)) 1 (.slice dA1 n1 dc1)))
  replace NB := Lib.hid ((NB.out).set 1 (.slice dA1 n1 dc1))
  replace NR := Lib.hid (nbx_other (r := w.heap.size + 1 + 1) NR.out (by omega) 1 (.slice dA1 n1 dc1))
  go_wp2_with fail
  refine (to_StringS hn2 R2.out.row).mono ?_; rintro e w2 ⟨dA2, dc2, rfl, ho2, hb⟩
  replace FB := Lib.hid (FB.out.b hb)
  replace R1 := Lib.hid (R1.out.b hb)
  replace R2 := Lib.hid (R2.out.b hb)
  replace BX := Lib.hid (BX.out.b hb)
  replace O1 := Lib.hid (O1.out.b hb)
  have z_w2 : w1.heap.size ≤ w2.heap.size := by have hsz := hb.size; first | omega | (simp at hsz; omega)
  clear c_BX_0 c_BX_1 c_BX_2
  replace NB := Lib.hid (NB.out.b hb)
  replace NR := Lib.hid (NR.out.b hb)
  have O2 := Lib.hid (owned (ho2.mono (lo' := w1.heap.size) (by simp) (Nat.le_refl _)))
  clear hb ho2
  have d2 := NB.out.cell 2 _ rfl
  have f2 := NB.out.free 2
  have c_BX_0 := BX.out.now 0 _ rfl
  have c_BX_1 := BX.out.now 1 _ rfl
  have c_BX_2 := BX.out.now 2 _ rfl
  have g0 := NR.out.free 0
  have e0 := NR.out.cell 0 _ rfl
  have g1 := NR.out.free 1
  have e1 := NR.out.cell 1 _ rfl
  have g2 := NR.out.free 2
  have e2 := NR.out.cell 2 _ rfl
  have d0 := NB.out.cell 0 _ rfl
  have d1 := NB.out.cell 1 _ rfl
  go_wp2_with fail
  refine bodyPost_ret (v := .agg #[.int .i64 z0, .slice dA1 n1 dc1, .slice dA2 n2 dc2]) (by simp [results, Try.results22, go_sem, e0, e1, e2]) rfl ?_
  replace FB := Lib.hid (((((((((FB.out).setD (q := w.heap.size + 1 + 1) (.inl (by omega)) 2 (.slice dA2 n2 dc2))).setD (q := w.heap.size + 1) (.inl (by omega)) 0 (.int .i64 z0))).setD (q := w.heap.size + 1) (.inl (by omega)) 1 (.slice dA1 n1 dc1))).setD (q := w.heap.size + 1) (.inl (by omega)) 2 (.slice dA2 n2 dc2)))
  replace R1 := Lib.hid (((((((((R1.out).setD (q := w.heap.size + 1 + 1) (.inl (by omega)) 2 (.slice dA2 n2 dc2))).setD (q := w.heap.size + 1) (.inl (by omega)) 0 (.int .i64 z0))).setD (q := w.heap.size + 1) (.inl (by omega)) 1 (.slice dA1 n1 dc1))).setD (q := w.heap.size + 1) (.inl (by omega)) 2 (.slice dA2 n2 dc2)))
  replace R2 := Lib.hid (((((((((R2.out).setD (q := w.heap.size + 1 + 1) (.inl (by omega)) 2 (.slice dA2 n2 dc2))).setD (q := w.heap.size + 1) (.inl (by omega)) 0 (.int .i64 z0))).setD (q := w.heap.size + 1) (.inl (by omega)) 1 (.slice dA1 n1 dc1))).setD (q := w.heap.size + 1) (.inl (by omega)) 2 (.slice dA2 n2 dc2)))
  replace BX := Lib.hid (((((((((BX.out).setD (q := w.heap.size + 1 + 1) (.inl (by omega)) 2 (.slice dA2 n2 dc2))).setD (q := w.heap.size + 1) (.inl (by omega)) 0 (.int .i64 z0))).setD (q := w.heap.size + 1) (.inl (by omega)) 1 (.slice dA1 n1 dc1))).setD (q := w.heap.size + 1) (.inl (by omega)) 2 (.slice dA2 n2 dc2)))
  replace O1 := Lib.hid (((((((((O1.out).setD (q := w.heap.size + 1 + 1) (.inr (by omega)) 2 (.slice dA2 n2 dc2))).setD (q := w.heap.size + 1) (.inr (by omega)) 0 (.int .i64 z0))).setD (q := w.heap.size + 1) (.inr (by omega)) 1 (.slice dA1 n1 dc1))).setD (q := w.heap.size + 1) (.inr (by omega)) 2 (.slice dA2 n2 dc2)))
  replace O2 := Lib.hid (((((((((O2.out).setD (q := w.heap.size + 1 + 1) (.inr (by omega)) 2 (.slice dA2 n2 dc2))).setD (q := w.heap.size + 1) (.inr (by omega)) 0 (.int .i64 z0))).setD (q := w.heap.size + 1) (.inr (by omega)) 1 (.slice dA1 n1 dc1))).setD (q := w.heap.size + 1) (.inr (by omega)) 2 (.slice dA2 n2 dc2)))
  exact ⟨dA1, dc1, dA2, dc2, rfl, O1.out.now.mono (by omega) O1.out.top, O2.out.now.mono (by omega) O2.out.top, apart_of O1.out.now O2.out.now (.inl (by omega)), FB.out.now⟩

set_option maxRecDepth 100000 in
set_option maxHeartbeats 2000000 in
theorem eq_Front {z0 : Int} {n1 : Nat} {X1 : Nat → Int} {n2 : Nat} {X2 : Nat → ByteArray} {A1 : Option Addr} {c1 : Nat} {A2 : Option Addr} {c2 : Nat} {dA1 : Option Addr} {dc1 : Nat} {dA2 : Option Addr} {dc2 : Nat} {w : World} (hn1 : n1 ≤ 1048576) (hn2 : n2 ≤ 1048576) (hx1 : GRow w A1 n1 (intV X1)) (hx2 : GRow w A2 n2 (strV X2)) (hy1 : GRow w dA1 n1 (intV X1)) (hy2 : GRow w dA2 n2 (strV X2)) :
    Calls Try.prog 15 #[.agg #[.int .i64 z0, .slice A1 n1 c1, .slice A2 n2 c2], .agg #[.int .i64 z0, .slice dA1 n1 dc1, .slice dA2 n2 dc2]] w (SameRow w true) := by
  have FB := Lib.hid (((At.start w).alloc (.cells #[.int .i64 z0, .slice A1 n1 c1, .slice A2 n2 c2] 26)).alloc (.cells #[.int .i64 z0, .slice dA1 n1 dc1, .slice dA2 n2 dc2] 26))
  have P1 := Lib.hid (((rd_of_row hx1).alloc (.cells #[.int .i64 z0, .slice A1 n1 c1, .slice A2 n2 c2] 26)).alloc (.cells #[.int .i64 z0, .slice dA1 n1 dc1, .slice dA2 n2 dc2] 26))
  have Q1 := Lib.hid (((rd_of_row hy1).alloc (.cells #[.int .i64 z0, .slice A1 n1 c1, .slice A2 n2 c2] 26)).alloc (.cells #[.int .i64 z0, .slice dA1 n1 dc1, .slice dA2 n2 dc2] 26))
  have P2 := Lib.hid (((rd_of_row hx2).alloc (.cells #[.int .i64 z0, .slice A1 n1 c1, .slice A2 n2 c2] 26)).alloc (.cells #[.int .i64 z0, .slice dA1 n1 dc1, .slice dA2 n2 dc2] 26))
  have Q2 := Lib.hid (((rd_of_row hy2).alloc (.cells #[.int .i64 z0, .slice A1 n1 c1, .slice A2 n2 c2] 26)).alloc (.cells #[.int .i64 z0, .slice dA1 n1 dc1, .slice dA2 n2 dc2] 26))
  have BX := Lib.hid ((boxed w #[.int .i64 z0, .slice A1 n1 c1, .slice A2 n2 c2] 26).alloc (.cells #[.int .i64 z0, .slice dA1 n1 dc1, .slice dA2 n2 dc2] 26))
  have BY := Lib.hid (boxed_at (w.alloc (.cells #[.int .i64 z0, .slice A1 n1 c1, .slice A2 n2 c2] 26)) (w.heap.size + 1) (by simp) #[.int .i64 z0, .slice dA1 n1 dc1, .slice dA2 n2 dc2] 26)
  clear hx1 hy1 hx2 hy2
  go_enter Try.func15, Try.ntmps15
  go_wp2_with fail
  refine (eq_IntS hn1 P1.out.row Q1.out.row).mono ?_; rintro e w1 ⟨rfl, hb⟩
  replace FB := Lib.hid (FB.out.b hb)
  replace P1 := Lib.hid (P1.out.b hb)
  replace Q1 := Lib.hid (Q1.out.b hb)
  replace P2 := Lib.hid (P2.out.b hb)
  replace Q2 := Lib.hid (Q2.out.b hb)
  replace BX := Lib.hid (BX.out.b hb)
  replace BY := Lib.hid (BY.out.b hb)
  have z_w1 : w.heap.size + 2 ≤ w1.heap.size := by have hsz := hb.size; first | omega | (simp at hsz; omega)
  clear hb
  have c_BX_0 := BX.out.now 0 _ rfl
  have c_BX_1 := BX.out.now 1 _ rfl
  have c_BX_2 := BX.out.now 2 _ rfl
  have c_BY_0 := BY.out.now 0 _ rfl
  have c_BY_1 := BY.out.now 1 _ rfl
  have c_BY_2 := BY.out.now 2 _ rfl
  go_wp2_with fail
  refine (eq_StringS hn2 P2.out.row Q2.out.row).mono ?_; rintro e w2 ⟨rfl, hb⟩
  replace FB := Lib.hid (FB.out.b hb)
  replace P1 := Lib.hid (P1.out.b hb)
  replace Q1 := Lib.hid (Q1.out.b hb)
  replace P2 := Lib.hid (P2.out.b hb)
  replace Q2 := Lib.hid (Q2.out.b hb)
  replace BX := Lib.hid (BX.out.b hb)
  replace BY := Lib.hid (BY.out.b hb)
  have z_w2 : w1.heap.size ≤ w2.heap.size := by have hsz := hb.size; first | omega | (simp at hsz; omega)
  clear c_BX_0 c_BX_1 c_BX_2 c_BY_0 c_BY_1 c_BY_2
  clear hb
  go_wp2_with fail
  go_ret
  exact ⟨rfl, FB.out.now⟩

set_option maxRecDepth 100000 in
set_option maxHeartbeats 2000000 in
theorem markF_Front {z0 : Int} {n1 : Nat} {X1 : Nat → Int} {n2 : Nat} {X2 : Nat → ByteArray} {A1 : Option Addr} {c1 : Nat} {A2 : Option Addr} {c2 : Nat} {lo hi : Nat} {k0 : Int} {w : World} (hn1 : n1 ≤ 1048576) (hn2 : n2 ≤ 1048576) (hx1 : Ow lo hi 3 A1 n1 (intV X1) w) (hx2 : Ow lo hi 9 A2 n2 (strV X2) w) (ht : hi ≤ w.heap.size) (ha12 : Apart n1 A1 n2 A2) (h0 : 1 ≤ k0) (h1 : k0 ≤ 8388608) :
    Calls Try.prog 18 #[.agg #[.int .i64 z0, .slice A1 n1 c1, .slice A2 n2 c2], .int .i64 k0] w fun e w' => e = .returned (.int .i64 (k0 + (n1 : Int) + (n2 : Int))) ∧ Ow lo hi 3 A1 n1 (intV fun i => k0 + i) w' ∧ Ow lo hi 9 A2 n2 (strV fun i => markB ((k0 + (n1 : Int)).toNat + i)) w' ∧ Tch (fun k => Blk n1 A1 k ∨ Blk n2 A2 k) w w' := by
  have P1 := Lib.hid (At.alloc ⟨hx1, ht, Ow.lives _ _ _ _ _ _⟩ (.cells #[.int .i64 z0, .slice A1 n1 c1, .slice A2 n2 c2] 26))
  have P2 := Lib.hid (At.alloc ⟨hx2, ht, Ow.lives _ _ _ _ _ _⟩ (.cells #[.int .i64 z0, .slice A1 n1 c1, .slice A2 n2 c2] 26))
  have BX := Lib.hid (boxed w #[.int .i64 z0, .slice A1 n1 c1, .slice A2 n2 c2] 26)
  have HT := Lib.hid ((Tch.refl (fun k => Blk n1 A1 k ∨ Blk n2 A2 k) w).alloc (.cells #[.int .i64 z0, .slice A1 n1 c1, .slice A2 n2 c2] 26))
  have hb1 : ∀ k, Blk n1 A1 k → k < w.heap.size := fun k h => Nat.lt_of_lt_of_le (hx1.blk_lt h).2 ht
  have hb2 : ∀ k, Blk n2 A2 k → k < w.heap.size := fun k h => Nat.lt_of_lt_of_le (hx2.blk_lt h).2 ht
  clear hx1 hx2
  go_enter Try.func18, Try.ntmps18
  go_wp2_with fail
  refine (markF_IntS hn1 P1.out.now P1.out.top (by omega) (by omega)).mono ?_; rintro e v0 ⟨rfl, hm1, ht0⟩
  replace P1 := Lib.hid (At.mk hm1 (Nat.le_trans P1.out.top ht0.size) (Ow.lives _ _ _ _ _ _))
  replace P2 := Lib.hid (P2.out.tchO ht0 (fun k h1 h2 => by exact ha12.no h2 h1))
  replace BX := Lib.hid (BX.out.tch ht0 (fun k h1 h2 h3 => by first | (have := hb1 k h3; omega)))
  replace HT := Lib.hid (HT.out.trans (ht0.mono (fun k h => by simp [h])))
  clear ht0 hm1
  have c0 := BX.out.now 0 _ rfl
  have c1 := BX.out.now 1 _ rfl
  have c2 := BX.out.now 2 _ rfl
  go_wp2_with fail
  refine (markF_StringS hn2 P2.out.now P2.out.top (by omega) (by omega)).mono ?_; rintro e v1 ⟨rfl, hm2, ht1⟩
  clear c0 c1 c2
  replace P1 := Lib.hid (P1.out.tchO ht1 (fun k h1 h2 => by exact ha12.no h1 h2))
  replace P2 := Lib.hid (At.mk hm2 (Nat.le_trans P2.out.top ht1.size) (Ow.lives _ _ _ _ _ _))
  replace BX := Lib.hid (BX.out.tch ht1 (fun k h1 h2 h3 => by first | (have := hb2 k h3; omega)))
  replace HT := Lib.hid (HT.out.trans (ht1.mono (fun k h => by simp [h])))
  clear ht1 hm2
  go_wp2_with fail
  go_ret
  exact ⟨rfl, P1.out.now, P2.out.now, HT.out⟩

theorem mark_Front {z0 : Int} {n1 : Nat} {X1 : Nat → Int} {n2 : Nat} {X2 : Nat → ByteArray} {A1 : Option Addr} {c1 : Nat} {A2 : Option Addr} {c2 : Nat} {lo hi : Nat} {k0 : Int} {w : World} (hn1 : n1 ≤ 1048576) (hn2 : n2 ≤ 1048576) (hx1 : Ow lo hi 3 A1 n1 (intV X1) w) (hx2 : Ow lo hi 9 A2 n2 (strV X2) w) (ht : hi ≤ w.heap.size) (ha12 : Apart n1 A1 n2 A2) (h0 : 1 ≤ k0) (h1 : k0 ≤ 8388608) :
    Calls Try.prog 18 #[.agg #[.int .i64 z0, .slice A1 n1 c1, .slice A2 n2 c2], .int .i64 k0] w fun e w' => e = .returned (.int .i64 (k0 + (n1 : Int) + (n2 : Int))) ∧ Ow lo hi 3 A1 n1 (intV fun i => k0 + i) w' ∧ Ow lo hi 9 A2 n2 (strV fun i => markB ((k0 + (n1 : Int)).toNat + i)) w' ∧ Only lo hi w w' := by
  refine (markF_Front hn1 hn2 hx1 hx2 ht ha12 h0 h1).mono ?_
  rintro e w' ⟨he, hm1, hm2, htch⟩
  exact ⟨he, hm1, hm2, htch.only (fun k h => by rcases h with h | h <;> first | exact hx1.blk_lt h | exact hx2.blk_lt h)⟩

set_option maxRecDepth 100000 in
set_option maxHeartbeats 2000000 in
theorem held_Front {z0 : Int} {n1 : Nat} {n2 : Nat} {A1 : Option Addr} {c1 : Nat} {A2 : Option Addr} {c2 : Nat} {k0 : Int} {w : World} (hn1 : n1 ≤ 1048576) (hn2 : n2 ≤ 1048576) (hx1 : GRow w A1 n1 (intV fun i => k0 + i)) (hx2 : GRow w A2 n2 (strV fun i => markB ((k0 + (n1 : Int)).toNat + i))) (h0 : 1 ≤ k0) (h1 : k0 ≤ 8388608) :
    Calls Try.prog 19 #[.agg #[.int .i64 z0, .slice A1 n1 c1, .slice A2 n2 c2], .int .i64 k0] w fun e w' => e = .returned (.int .i64 (k0 + (n1 : Int) + (n2 : Int))) ∧ Below w.heap.size w w' := by
  have FB := Lib.hid ((At.start w).alloc (.cells #[.int .i64 z0, .slice A1 n1 c1, .slice A2 n2 c2] 26))
  have P1 := Lib.hid ((rd_of_row hx1).alloc (.cells #[.int .i64 z0, .slice A1 n1 c1, .slice A2 n2 c2] 26))
  have P2 := Lib.hid ((rd_of_row hx2).alloc (.cells #[.int .i64 z0, .slice A1 n1 c1, .slice A2 n2 c2] 26))
  have BX := Lib.hid (boxed w #[.int .i64 z0, .slice A1 n1 c1, .slice A2 n2 c2] 26)
  clear hx1 hx2
  go_enter Try.func19, Try.ntmps19
  go_wp2_with fail
  refine (held_IntS hn1 P1.out.row (by omega) (by omega)).mono ?_; rintro e w1 ⟨rfl, hb⟩
  replace FB := Lib.hid (FB.out.b hb)
  replace P1 := Lib.hid (P1.out.b hb)
  replace P2 := Lib.hid (P2.out.b hb)
  replace BX := Lib.hid (BX.out.b hb)
  have z_w1 : w.heap.size + 1 ≤ w1.heap.size := by have hsz := hb.size; first | omega | (simp at hsz; omega)
  clear hb
  have c_BX_0 := BX.out.now 0 _ rfl
  have c_BX_1 := BX.out.now 1 _ rfl
  have c_BX_2 := BX.out.now 2 _ rfl
  go_wp2_with fail
  refine (held_StringS hn2 P2.out.row (by omega) (by omega)).mono ?_; rintro e w2 ⟨rfl, hb⟩
  replace FB := Lib.hid (FB.out.b hb)
  replace P1 := Lib.hid (P1.out.b hb)
  replace P2 := Lib.hid (P2.out.b hb)
  replace BX := Lib.hid (BX.out.b hb)
  have z_w2 : w1.heap.size ≤ w2.heap.size := by have hsz := hb.size; first | omega | (simp at hsz; omega)
  clear c_BX_0 c_BX_1 c_BX_2
  clear hb
  go_wp2_with fail
  go_ret
  exact ⟨rfl, FB.out.now⟩

end Go.Proofs.Ythaipemgndahfaa
