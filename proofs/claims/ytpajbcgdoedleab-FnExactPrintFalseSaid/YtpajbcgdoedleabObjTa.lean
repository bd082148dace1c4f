/- The laws' small functions on Table. -/
import Derived.Test.YtpajbcgdoedleabObjTch
namespace Go.Proofs.Ytpajbcgdoedleab
open Go.RowKit

set_option maxRecDepth 100000 in
set_option maxHeartbeats 2000000 in
theorem sz_Table {z0 : Int} {z1 : Int} {z2 : Int} {n3 : Nat} {A3 : Option Addr} {c3 : Nat} {left : Int} {w : World} (hn3 : n3 ≤ maxLen) (h0 : 0 ≤ left) (h1 : left ≤ 1048576) :
    Calls Try.prog 36 #[.agg #[.int .i64 z0, .int .i64 z1, .int .i64 z2, .slice A3 n3 c3], .int .i64 left] w fun e w' => e = .returned (.int .i64 (szv left (n3))) ∧ Below w.heap.size w w' := by
  have FB := Lib.hid ((At.start w).alloc (.cells #[.int .i64 z0, .int .i64 z1, .int .i64 z2, .slice A3 n3 c3] 53))
  have BX := Lib.hid (boxed w #[.int .i64 z0, .int .i64 z1, .int .i64 z2, .slice A3 n3 c3] 53)
  go_enter Try.func36, Try.ntmps36
  go_wp2_with fail
  refine (sz_IntS hn3 (by omega) (by omega)).mono ?_; rintro e w1 ⟨rfl, hb⟩
  replace FB := Lib.hid (FB.out.b hb)
  replace BX := Lib.hid (BX.out.b hb)
  have z_w1 : w.heap.size + 1 ≤ w1.heap.size := by have hsz := hb.size; first | omega | (simp at hsz; omega)
  clear hb
  by_cases hz_3 : ((n3 : Nat) : Int) ≤ left
  rotate_left
  · rw [szv_no hz_3]
    have hfin : szv left (n3) = -1 := szv_no (by omega)
    go_wp2_with fail
    go_ret
    exact ⟨by first | (rw [hfin]; rfl) | rfl, FB.out.now⟩
  rw [szv_yes hz_3]
  have hl_3 : ¬ ((left - ((n3 : Nat) : Int)) < 0) := by omega
  have hfin : szv left (n3) = (left - ((n3 : Nat) : Int)) := by rw [szv_yes (show ((n3 : Nat) : Int) ≤ left by omega)] <;> omega
  go_wp2_with fail
  go_ret
  exact ⟨by first | (rw [hfin]; rfl) | rfl, FB.out.now⟩

set_option maxRecDepth 100000 in
set_option maxHeartbeats 2000000 in
theorem to_Table {z0 : Int} {z1 : Int} {z2 : Int} {n3 : Nat} {X3 : Nat → Int} {A3 : Option Addr} {c3 : Nat} {w : World} (hn3 : n3 ≤ 1048576) (hr3 : GRow w A3 n3 (intV X3)) :
    Calls Try.prog 38 #[.agg #[.int .i64 z0, .int .i64 z1, .int .i64 z2, .slice A3 n3 c3]] w fun e w' => ∃ dA3 dc3, e = .returned (.agg #[.int .i64 z0, .int .i64 z1, .int .i64 z2, .slice dA3 n3 dc3]) ∧ Ow w.heap.size w'.heap.size 3 dA3 n3 (intV X3) w' ∧ Below w.heap.size w w' := by
  have FB := Lib.hid ((((At.start w).alloc (.cells #[.int .i64 z0, .int .i64 z1, .int .i64 z2, .slice A3 n3 c3] 53)).alloc (.cells #[.int .i64 0, .int .i64 0, .int .i64 0, .slice none 0 0] 57)).alloc (.cells #[.int .i64 z0, .int .i64 z1, .int .i64 z2, .slice none 0 0] 57))
  have R3 := Lib.hid ((((rd_of_row hr3).alloc (.cells #[.int .i64 z0, .int .i64 z1, .int .i64 z2, .slice A3 n3 c3] 53)).alloc (.cells #[.int .i64 0, .int .i64 0, .int .i64 0, .slice none 0 0] 57)).alloc (.cells #[.int .i64 z0, .int .i64 z1, .int .i64 z2, .slice none 0 0] 57))
  have BX := Lib.hid (((boxed w #[.int .i64 z0, .int .i64 z1, .int .i64 z2, .slice A3 n3 c3] 53).alloc (.cells #[.int .i64 0, .int .i64 0, .int .i64 0, .slice none 0 0] 57)).alloc (.cells #[.int .i64 z0, .int .i64 z1, .int .i64 z2, .slice none 0 0] 57))
  have nb := nbx0 ((w.alloc (.cells #[.int .i64 z0, .int .i64 z1, .int .i64 z2, .slice A3 n3 c3] 53)).alloc (.cells #[.int .i64 0, .int .i64 0, .int .i64 0, .slice none 0 0] 57)) #[.int .i64 z0, .int .i64 z1, .int .i64 z2, .slice none 0 0] 57
  have nr := (nbx0 (w.alloc (.cells #[.int .i64 z0, .int .i64 z1, .int .i64 z2, .slice A3 n3 c3] 53)) #[.int .i64 0, .int .i64 0, .int .i64 0, .slice none 0 0] 57).b ((Below.refl _ _).alloc (Nat.le_refl _) (.cells #[.int .i64 z0, .int .i64 z1, .int .i64 z2, .slice none 0 0] 57))
  simp only [World.size_alloc] at nb nr
  have NB := Lib.hid nb
  have NR := Lib.hid nr
  clear nb nr hr3
  go_enter Try.func38, Try.ntmps38
  go_wp2_with fail
  refine (to_IntS hn3 R3.out.row).mono ?_; rintro e w1 ⟨dA3, dc3, rfl, ho3, hb⟩
  replace FB := Lib.hid (FB.out.b hb)
  replace R3 := Lib.hid (R3.out.b hb)
  replace BX := Lib.hid (BX.out.b hb)
  have z_w1 : w.heap.size + 3 ≤ w1.heap.size := by have hsz := hb.size; first | omega | (simp at hsz; omega)
  replace NB := Lib.hid (NB.out.b hb)
  replace NR := Lib.hid (NR.out.b hb)
  have O3 := Lib.hid (owned (ho3.mono (lo' := w.heap.size + 3) (by simp) (Nat.le_refl _)))
  clear hb ho3
  have d3 := NB.out.cell 3 _ rfl
  have f3 := NB.out.free 3
  have c_BX_0 := BX.out.now 0 _ rfl
  have c_BX_1 := BX.out.now 1 _ rfl
  have c_BX_2 := BX.out.now 2 _ rfl
  have c_BX_3 := BX.out.now 3 _ rfl
  have g0 := NR.out.free 0
  have e0 := NR.out.cell 0 _ rfl
  have g1 := NR.out.free 1
  have e1 := NR.out.cell 1 _ rfl
  have g2 := NR.out.free 2
  have e2 := NR.out.cell 2 _ rfl
  have g3 := NR.out.free 3
  have e3 := NR.out.cell 3 _ rfl
  have d0 := NB.out.cell 0 _ rfl
  have d1 := NB.out.cell 1 _ rfl
  have d2 := NB.out.cell 2 _ rfl
  go_wp2_with fail
  refine bodyPost_ret (v := .agg #[.int .i64 z0, .int .i64 z1, .int .i64 z2, .slice dA3 n3 dc3]) (by simp [results, Try.results38, go_sem, e0, e1, e2, e3]) rfl ?_
  replace FB := Lib.hid (((((((((((FB.out).setD (q := w.heap.size + 1 + 1) (.inl (by omega)) 3 (.slice dA3 n3 dc3))).setD (q := w.heap.size + 1) (.inl (by omega)) 0 (.int .i64 z0))).setD (q := w.heap.size + 1) (.inl (by omega)) 1 (.int .i64 z1))).setD (q := w.heap.size + 1) (.inl (by omega)) 2 (.int .i64 z2))).setD (q := w.heap.size + 1) (.inl (by omega)) 3 (.slice dA3 n3 dc3)))
  replace R3 := Lib.hid (((((((((((R3.out).setD (q := w.heap.size + 1 + 1) (.inl (by omega)) 3 (.slice dA3 n3 dc3))).setD (q := w.heap.size + 1) (.inl (by omega)) 0 (.int .i64 z0))).setD (q := w.heap.size + 1) (.inl (by omega)) 1 (.int .i64 z1))).setD (q := w.heap.size + 1) (.inl (by omega)) 2 (.int .i64 z2))).setD (q := w.heap.size + 1) (.inl (by omega)) 3 (.slice dA3 n3 dc3)))
  replace BX := Lib.hid (((((((((((BX.out).setD (q := w.heap.size + 1 + 1) (.inl (by omega)) 3 (.slice dA3 n3 dc3))).setD (q := w.heap.size + 1) (.inl (by omega)) 0 (.int .i64 z0))).setD (q := w.heap.size + 1) (.inl (by omega)) 1 (.int .i64 z1))).setD (q := w.heap.size + 1) (.inl (by omega)) 2 (.int .i64 z2))).setD (q := w.heap.size + 1) (.inl (by omega)) 3 (.slice dA3 n3 dc3)))
  replace O3 := Lib.hid (((((((((((O3.out).setD (q := w.heap.size + 1 + 1) (.inr (by omega)) 3 (.slice dA3 n3 dc3))).setD (q := w.heap.size + 1) (.inr (by omega)) 0 (.int .i64 z0))).setD (q := w.heap.size + 1) (.inr (by omega)) 1 (.int .i64 z1))).setD (q := w.heap.size + 1) (.inr (by omega)) 2 (.int .i64 z2))).setD (q := w.heap.size + 1) (.inr (by omega)) 3 (.slice dA3 n3 dc3)))
  exact ⟨dA3, dc3, rfl, O3.out.now.mono (by omega) O3.out.top, FB.out.now⟩

set_option maxRecDepth 100000 in
set_option maxHeartbeats 2000000 in
theorem eq_Table {z0 : Int} {z1 : Int} {z2 : Int} {n3 : Nat} {X3 : Nat → Int} {A3 : Option Addr} {c3 : Nat} {dA3 : Option Addr} {dc3 : Nat} {w : World} (hn3 : n3 ≤ 1048576) (hx3 : GRow w A3 n3 (intV X3)) (hy3 : GRow w dA3 n3 (intV X3)) :
    Calls Try.prog 40 #[.agg #[.int .i64 z0, .int .i64 z1, .int .i64 z2, .slice A3 n3 c3], .agg #[.int .i64 z0, .int .i64 z1, .int .i64 z2, .slice dA3 n3 dc3]] w (SameRow w true) := by
  have FB := Lib.hid (((At.start w).alloc (.cells #[.int .i64 z0, .int .i64 z1, .int .i64 z2, .slice A3 n3 c3] 57)).alloc (.cells #[.int .i64 z0, .int .i64 z1, .int .i64 z2, .slice dA3 n3 dc3] 57))
  have P3 := Lib.hid (((rd_of_row hx3).alloc (.cells #[.int .i64 z0, .int .i64 z1, .int .i64 z2, .slice A3 n3 c3] 57)).alloc (.cells #[.int .i64 z0, .int .i64 z1, .int .i64 z2, .slice dA3 n3 dc3] 57))
  have Q3 := Lib.hid (((rd_of_row hy3).alloc (.cells #[.int .i64 z0, .int .i64 z1, .int .i64 z2, .slice A3 n3 c3] 57)).alloc (.cells #[.int .i64 z0, .int .i64 z1, .int .i64 z2, .slice dA3 n3 dc3] 57))
  have BX := Lib.hid ((boxed w #[.int .i64 z0, .int .i64 z1, .int .i64 z2, .slice A3 n3 c3] 57).alloc (.cells #[.int .i64 z0, .int .i64 z1, .int .i64 z2, .slice dA3 n3 dc3] 57))
  have BY := Lib.hid (boxed_at (w.alloc (.cells #[.int .i64 z0, .int .i64 z1, .int .i64 z2, .slice A3 n3 c3] 57)) (w.heap.size + 1) (by simp) #[.int .i64 z0, .int .i64 z1, .int .i64 z2, .slice dA3 n3 dc3] 57)
  clear hx3 hy3
  go_enter Try.func40, Try.ntmps40
  go_wp2_with fail
  refine (eq_IntS hn3 P3.out.row Q3.out.row).mono ?_; rintro e w1 ⟨rfl, hb⟩
  replace FB := Lib.hid (FB.out.b hb)
  replace P3 := Lib.hid (P3.out.b hb)
  replace Q3 := Lib.hid (Q3.out.b hb)
  replace BX := Lib.hid (BX.out.b hb)
  replace BY := Lib.hid (BY.out.b hb)
  have z_w1 : w.heap.size + 2 ≤ w1.heap.size := by have hsz := hb.size; first | omega | (simp at hsz; omega)
  clear hb
  go_wp2_with fail
  go_ret
  exact ⟨rfl, FB.out.now⟩

set_option maxRecDepth 100000 in
set_option maxHeartbeats 2000000 in
theorem markF_Table {z0 : Int} {z1 : Int} {z2 : Int} {n3 : Nat} {X3 : Nat → Int} {A3 : Option Addr} {c3 : Nat} {lo hi : Nat} {k0 : Int} {w : World} (hn3 : n3 ≤ 1048576) (hx3 : Ow lo hi 3 A3 n3 (intV X3) w) (ht : hi ≤ w.heap.size)  (h0 : 1 ≤ k0) (h1 : k0 ≤ 8388608) :
    Calls Try.prog 44 #[.agg #[.int .i64 z0, .int .i64 z1, .int .i64 z2, .slice A3 n3 c3], .int .i64 k0] w fun e w' => e = .returned (.int .i64 (k0 + (n3 : Int))) ∧ Ow lo hi 3 A3 n3 (intV fun i => k0 + i) w' ∧ Tch (fun k => Blk n3 A3 k) w w' := by
  have P3 := Lib.hid (At.alloc ⟨hx3, ht, Ow.lives _ _ _ _ _ _⟩ (.cells #[.int .i64 z0, .int .i64 z1, .int .i64 z2, .slice A3 n3 c3] 57))
  have BX := Lib.hid (boxed w #[.int .i64 z0, .int .i64 z1, .int .i64 z2, .slice A3 n3 c3] 57)
  have HT := Lib.hid ((Tch.refl (fun k => Blk n3 A3 k) w).alloc (.cells #[.int .i64 z0, .int .i64 z1, .int .i64 z2, .slice A3 n3 c3] 57))
  have hb3 : ∀ k, Blk n3 A3 k → k < w.heap.size := fun k h => Nat.lt_of_lt_of_le (hx3.blk_lt h).2 ht
  clear hx3
  go_enter Try.func44, Try.ntmps44
  go_wp2_with fail
  refine (markF_IntS hn3 P3.out.now P3.out.top (by omega) (by omega)).mono ?_; rintro e v0 ⟨rfl, hm3, ht0⟩
  replace P3 := Lib.hid (At.mk hm3 (Nat.le_trans P3.out.top ht0.size) (Ow.lives _ _ _ _ _ _))
  replace BX := Lib.hid (BX.out.tch ht0 (fun k h1 h2 h3 => by first | (have := hb3 k h3; omega)))
  replace HT := Lib.hid (HT.out.trans (ht0.mono (fun k h => by simp [h])))
  clear ht0 hm3
  go_wp2_with fail
  go_ret
  exact ⟨rfl, P3.out.now, HT.out⟩

theorem mark_Table {z0 : Int} {z1 : Int} {z2 : Int} {n3 : Nat} {X3 : Nat → Int} {A3 : Option Addr} {c3 : Nat} {lo hi : Nat} {k0 : Int} {w : World} (hn3 : n3 ≤ 1048576) (hx3 : Ow lo hi 3 A3 n3 (intV X3) w) (ht : hi ≤ w.heap.size)  (h0 : 1 ≤ k0) (h1 : k0 ≤ 8388608) :
    Calls Try.prog 44 #[.agg #[.int .i64 z0, .int .i64 z1, .int .i64 z2, .slice A3 n3 c3], .int .i64 k0] w fun e w' => e = .returned (.int .i64 (k0 + (n3 : Int))) ∧ Ow lo hi 3 A3 n3 (intV fun i => k0 + i) w' ∧ Only lo hi w w' := by
  refine (markF_Table hn3 hx3 ht  h0 h1).mono ?_
  rintro e w' ⟨he, hm3, htch⟩
  exact ⟨he, hm3, htch.only (fun k h => by rcases h with h <;> first | exact hx3.blk_lt h)⟩

set_option maxRecDepth 100000 in
set_option maxHeartbeats 2000000 in
theorem held_Table {z0 : Int} {z1 : Int} {z2 : Int} {n3 : Nat} {A3 : Option Addr} {c3 : Nat} {k0 : Int} {w : World} (hn3 : n3 ≤ 1048576) (hx3 : GRow w A3 n3 (intV fun i => k0 + i)) (h0 : 1 ≤ k0) (h1 : k0 ≤ 8388608) :
    Calls Try.prog 49 #[.agg #[.int .i64 z0, .int .i64 z1, .int .i64 z2, .slice A3 n3 c3], .int .i64 k0] w fun e w' => e = .returned (.int .i64 (k0 + (n3 : Int))) ∧ Below w.heap.size w w' := by
  have FB := Lib.hid ((At.start w).alloc (.cells #[.int .i64 z0, .int .i64 z1, .int .i64 z2, .slice A3 n3 c3] 57))
  have P3 := Lib.hid ((rd_of_row hx3).alloc (.cells #[.int .i64 z0, .int .i64 z1, .int .i64 z2, .slice A3 n3 c3] 57))
  have BX := Lib.hid (boxed w #[.int .i64 z0, .int .i64 z1, .int .i64 z2, .slice A3 n3 c3] 57)
  clear hx3
  go_enter Try.func49, Try.ntmps49
  go_wp2_with fail
  refine (held_IntS hn3 P3.out.row (by omega) (by omega)).mono ?_; rintro e w1 ⟨rfl, hb⟩
  replace FB := Lib.hid (FB.out.b hb)
  replace P3 := Lib.hid (P3.out.b hb)
  replace BX := Lib.hid (BX.out.b hb)
  have z_w1 : w.heap.size + 1 ≤ w1.heap.size := by have hsz := hb.size; first | omega | (simp at hsz; omega)
  clear hb
  go_wp2_with fail
  go_ret
  exact ⟨rfl, FB.out.now⟩

end Go.Proofs.Ytpajbcgdoedleab
