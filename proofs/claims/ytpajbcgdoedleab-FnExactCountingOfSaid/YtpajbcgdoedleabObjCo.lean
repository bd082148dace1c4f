/- The laws' small functions on Counting. -/
import Derived.Test.YtpajbcgdoedleabObjTch
namespace Go.Proofs.Ytpajbcgdoedleab
open Go.RowKit

set_option maxRecDepth 100000 in
set_option maxHeartbeats 2000000 in
theorem sz_Counting {z0 : Int} {z1 : Int} {n2 : Nat} {A2 : Option Addr} {c2 : Nat} {left : Int} {w : World} (hn2 : n2 ≤ maxLen) (h0 : 0 ≤ left) (h1 : left ≤ 1048576) :
    Calls Try.prog 12 #[.agg #[.int .i64 z0, .int .i64 z1, .slice A2 n2 c2], .int .i64 left] w fun e w' => e = .returned (.int .i64 (szv left (n2))) ∧ Below w.heap.size w w' := by
  have FB := Lib.hid ((At.start w).alloc (.cells #[.int .i64 z0, .int .i64 z1, .slice A2 n2 c2] 24))
  have BX := Lib.hid (boxed w #[.int .i64 z0, .int .i64 z1, .slice A2 n2 c2] 24)
  go_enter Try.func12, Try.ntmps12
  go_wp2_with fail
  refine (sz_IntS hn2 (by omega) (by omega)).mono ?_; rintro e w1 ⟨rfl, hb⟩
  replace FB := Lib.hid (FB.out.b hb)
  replace BX := Lib.hid (BX.out.b hb)
  have z_w1 : w.heap.size + 1 ≤ w1.heap.size := by have hsz := hb.size; first | omega | (simp at hsz; omega)
  clear hb
  by_cases hz_2 : ((n2 : Nat) : Int) ≤ left
  rotate_left
  · rw [szv_no hz_2]
    have hfin : szv left (n2) = -1 := szv_no (by omega)
    go_wp2_with fail
    go_ret
    exact ⟨by first | (rw [hfin]; rfl) | rfl, FB.out.now⟩
  rw [szv_yes hz_2]
  have hl_2 : ¬ ((left - ((n2 : Nat) : Int)) < 0) := by omega
  have hfin : szv left (n2) = (left - ((n2 : Nat) : Int)) := by rw [szv_yes (show ((n2 : Nat) : Int) ≤ left by omega)] <;> omega
  go_wp2_with fail
  go_ret
  exact ⟨by first | (rw [hfin]; rfl) | rfl, FB.out.now⟩

set_option maxRecDepth 100000 in
set_option maxHeartbeats 2000000 in
theorem to_Counting {z0 : Int} {z1 : Int} {n2 : Nat} {X2 : Nat → Int} {A2 : Option Addr} {c2 : Nat} {w : World} (hn2 : n2 ≤ 1048576) (hr2 : GRow w A2 n2 (intV X2)) :
    Calls Try.prog 14 #[.agg #[.int .i64 z0, .int .i64 z1, .slice A2 n2 c2]] w fun e w' => ∃ dA2 dc2, e = .returned (.agg #[.int .i64 z0, .int .i64 z1, .slice dA2 n2 dc2]) ∧ Ow w.heap.size w'.heap.size 3 dA2 n2 (intV X2) w' ∧ Below w.heap.size w w' := by
  have FB := Lib.hid ((((At.start w).alloc (.cells #[.int .i64 z0, .int .i64 z1, .slice A2 n2 c2] 24)).alloc (.cells #[.int .i64 0, .int .i64 0, .slice none 0 0] 27)).alloc (.cells #[.int .i64 z0, .int .i64 z1, .slice none 0 0] 27))
  have R2 := Lib.hid ((((rd_of_row hr2).alloc (.cells #[.int .i64 z0, .int .i64 z1, .slice A2 n2 c2] 24)).alloc (.cells #[.int .i64 0, .int .i64 0, .slice none 0 0] 27)).alloc (.cells #[.int .i64 z0, .int .i64 z1, .slice none 0 0] 27))
  have BX := Lib.hid (((boxed w #[.int .i64 z0, .int .i64 z1, .slice A2 n2 c2] 24).alloc (.cells #[.int .i64 0, .int .i64 0, .slice none 0 0] 27)).alloc (.cells #[.int .i64 z0, .int .i64 z1, .slice none 0 0] 27))
  have nb := nbx0 ((w.alloc (.cells #[.int .i64 z0, .int .i64 z1, .slice A2 n2 c2] 24)).alloc (.cells #[.int .i64 0, .int .i64 0, .slice none 0 0] 27)) #[.int .i64 z0, .int .i64 z1, .slice none 0 0] 27
  have nr := (nbx0 (w.alloc (.cells #[.int .i64 z0, .int .i64 z1, .slice A2 n2 c2] 24)) #[.int .i64 0, .int .i64 0, .slice none 0 0] 27).b ((Below.refl _ _).alloc (Nat.le_refl _) (.cells #[.int .i64 z0, .int .i64 z1, .slice none 0 0] 27))
  simp only [World.size_alloc] at nb nr
  have NB := Lib.hid nb
  have NR := Lib.hid nr
  clear nb nr hr2
  go_enter Try.func14, Try.ntmps14
  go_wp2_with fail
  refine (to_IntS hn2 R2.out.row).mono ?_; rintro e w1 ⟨dA2, dc2, rfl, ho2, hb⟩
  replace FB := Lib.hid (FB.out.b hb)
  replace R2 := Lib.hid (R2.out.b hb)
  replace BX := Lib.hid (BX.out.b hb)
  have z_w1 : w.heap.size + 3 ≤ w1.heap.size := by have hsz := hb.size; first | omega | (simp at hsz; omega)
  replace NB := Lib.hid (NB.out.b hb)
  replace NR := Lib.hid (NR.out.b hb)
  have O2 := Lib.hid (owned (ho2.mono (lo' := w.heap.size + 3) (by simp) (Nat.le_refl _)))
  clear hb ho2
  have d2 := NB.out.cell 2 _ rfl
  have f2 := NB.out.free 2
  have c_BX_0 := BX.out.now 0 _ rfl
  have c_BX_1 := BX.out.now 1 _ rfl
  have c_BX_2 := BX.out.now 2 _ rfl
  have g0 := NR.out.free 0
  have e0 := NR.out.cell 0 _ rfl
  have g1 := NR.out.free 1
  have e1 := NR.out.cell 1 _ rfl
  have g2 := NR.out.free 2
  have e2 := NR.out.cell 2 _ rfl
  have d0 := NB.out.cell 0 _ rfl
  have d1 := NB.out.cell 1 _ rfl
  go_wp2_with fail
  refine bodyPost_ret (v := .agg #[.int .i64 z0, .int .i64 z1, .slice dA2 n2 dc2]) (by simp [results, Try.results14, go_sem, e0, e1, e2]) rfl ?_
  replace FB := Lib.hid (((((((((FB.out).setD (q := w.heap.size + 1 + 1) (.inl (by omega)) 2 (.slice dA2 n2 dc2))).setD (q := w.heap.size + 1) (.inl (by omega)) 0 (.int .i64 z0))).setD (q := w.heap.size + 1) (.inl (by omega)) 1 (.int .i64 z1))).setD (q := w.heap.size + 1) (.inl (by omega)) 2 (.slice dA2 n2 dc2)))
  replace R2 := Lib.hid (((((((((R2.out).setD (q := w.heap.size + 1 + 1) (.inl (by omega)) 2 (.slice dA2 n2 dc2))).setD (q := w.heap.size + 1) (.inl (by omega)) 0 (.int .i64 z0))).setD (q := w.heap.size + 1) (.inl (by omega)) 1 (.int .i64 z1))).setD (q := w.heap.size + 1) (.inl (by omega)) 2 (.slice dA2 n2 dc2)))
  replace BX := Lib.hid (((((((((BX.out).setD (q := w.heap.size + 1 + 1) (.inl (by omega)) 2 (.slice dA2 n2 dc2))).setD (q := w.heap.size + 1) (.inl (by omega)) 0 (.int .i64 z0))).setD (q := w.heap.size + 1) (.inl (by omega)) 1 (.int .i64 z1))).setD (q := w.heap.size + 1) (.inl (by omega)) 2 (.slice dA2 n2 dc2)))
  replace O2 := Lib.hid (((((((((O2.out).setD (q := w.heap.size + 1 + 1) (.inr (by omega)) 2 (.slice dA2 n2 dc2))).setD (q := w.heap.size + 1) (.inr (by omega)) 0 (.int .i64 z0))).setD (q := w.heap.size + 1) (.inr (by omega)) 1 (.int .i64 z1))).setD (q := w.heap.size + 1) (.inr (by omega)) 2 (.slice dA2 n2 dc2)))
  exact ⟨dA2, dc2, rfl, O2.out.now.mono (by omega) O2.out.top, FB.out.now⟩

set_option maxRecDepth 100000 in
set_option maxHeartbeats 2000000 in
theorem eq_Counting {z0 : Int} {z1 : Int} {n2 : Nat} {X2 : Nat → Int} {A2 : Option Addr} {c2 : Nat} {dA2 : Option Addr} {dc2 : Nat} {w : World} (hn2 : n2 ≤ 1048576) (hx2 : GRow w A2 n2 (intV X2)) (hy2 : GRow w dA2 n2 (intV X2)) :
    Calls Try.prog 16 #[.agg #[.int .i64 z0, .int .i64 z1, .slice A2 n2 c2], .agg #[.int .i64 z0, .int .i64 z1, .slice dA2 n2 dc2]] w (SameRow w true) := by
  have FB := Lib.hid (((At.start w).alloc (.cells #[.int .i64 z0, .int .i64 z1, .slice A2 n2 c2] 27)).alloc (.cells #[.int .i64 z0, .int .i64 z1, .slice dA2 n2 dc2] 27))
  have P2 := Lib.hid (((rd_of_row hx2).alloc (.cells #[.int .i64 z0, .int .i64 z1, .slice A2 n2 c2] 27)).alloc (.cells #[.int .i64 z0, .int .i64 z1, .slice dA2 n2 dc2] 27))
  have Q2 := Lib.hid (((rd_of_row hy2).alloc (.cells #[.int .i64 z0, .int .i64 z1, .slice A2 n2 c2] 27)).alloc (.cells #[.int .i64 z0, .int .i64 z1, .slice dA2 n2 dc2] 27))
  have BX := Lib.hid ((boxed w #[.int .i64 z0, .int .i64 z1, .slice A2 n2 c2] 27).alloc (.cells #[.int .i64 z0, .int .i64 z1, .slice dA2 n2 dc2] 27))
  have BY := Lib.hid (boxed_at (w.alloc (.cells #[.int .i64 z0, .int .i64 z1, .slice A2 n2 c2] 27)) (w.heap.size + 1) (by simp) #[.int .i64 z0, .int .i64 z1, .slice dA2 n2 dc2] 27)
  clear hx2 hy2
  go_enter Try.func16, Try.ntmps16
  go_wp2_with fail
  refine (eq_IntS hn2 P2.out.row Q2.out.row).mono ?_; rintro e w1 ⟨rfl, hb⟩
  replace FB := Lib.hid (FB.out.b hb)
  replace P2 := Lib.hid (P2.out.b hb)
  replace Q2 := Lib.hid (Q2.out.b hb)
  replace BX := Lib.hid (BX.out.b hb)
  replace BY := Lib.hid (BY.out.b hb)
  have z_w1 : w.heap.size + 2 ≤ w1.heap.size := by have hsz := hb.size; first | omega | (simp at hsz; omega)
  clear hb
  go_wp2_with fail
  go_ret
  exact ⟨rfl, FB.out.now⟩

set_option maxRecDepth 100000 in
set_option maxHeartbeats 2000000 in
theorem markF_Counting {z0 : Int} {z1 : Int} {n2 : Nat} {X2 : Nat → Int} {A2 : Option Addr} {c2 : Nat} {lo hi : Nat} {k0 : Int} {w : World} (hn2 : n2 ≤ 1048576) (hx2 : Ow lo hi 3 A2 n2 (intV X2) w) (ht : hi ≤ w.heap.size)  (h0 : 1 ≤ k0) (h1 : k0 ≤ 8388608) :
    Calls Try.prog 23 #[.agg #[.int .i64 z0, .int .i64 z1, .slice A2 n2 c2], .int .i64 k0] w fun e w' => e = .returned (.int .i64 (k0 + (n2 : Int))) ∧ Ow lo hi 3 A2 n2 (intV fun i => k0 + i) w' ∧ Tch (fun k => Blk n2 A2 k) w w' := by
  have P2 := Lib.hid (At.alloc ⟨hx2, ht, Ow.lives _ _ _ _ _ _⟩ (.cells #[.int .i64 z0, .int .i64 z1, .slice A2 n2 c2] 27))
  have BX := Lib.hid (boxed w #[.int .i64 z0, .int .i64 z1, .slice A2 n2 c2] 27)
  have HT := Lib.hid ((Tch.refl (fun k => Blk n2 A2 k) w).alloc (.cells #[.int .i64 z0, .int .i64 z1, .slice A2 n2 c2] 27))
  have hb2 : ∀ k, Blk n2 A2 k → k < w.heap.size := fun k h => Nat.lt_of_lt_of_le (hx2.blk_lt h).2 ht
  clear hx2
  go_enter Try.func23, Try.ntmps23
  go_wp2_with fail
  refine (markF_IntS hn2 P2.out.now P2.out.top (by omega) (by omega)).mono ?_; rintro e v0 ⟨rfl, hm2, ht0⟩
  replace P2 := Lib.hid (At.mk hm2 (Nat.le_trans P2.out.top ht0.size) (Ow.lives _ _ _ _ _ _))
  replace BX := Lib.hid (BX.out.tch ht0 (fun k h1 h2 h3 => by first | (have := hb2 k h3; omega)))
  replace HT := Lib.hid (HT.out.trans (ht0.mono (fun k h => by simp [h])))
  clear ht0 hm2
  go_wp2_with fail
  go_ret
  exact ⟨rfl, P2.out.now, HT.out⟩

theorem mark_Counting {z0 : Int} {z1 : Int} {n2 : Nat} {X2 : Nat → Int} {A2 : Option Addr} {c2 : Nat} {lo hi : Nat} {k0 : Int} {w : World} (hn2 : n2 ≤ 1048576) (hx2 : Ow lo hi 3 A2 n2 (intV X2) w) (ht : hi ≤ w.heap.size)  (h0 : 1 ≤ k0) (h1 : k0 ≤ 8388608) :
    Calls Try.prog 23 #[.agg #[.int .i64 z0, .int .i64 z1, .slice A2 n2 c2], .int .i64 k0] w fun e w' => e = .returned (.int .i64 (k0 + (n2 : Int))) ∧ Ow lo hi 3 A2 n2 (intV fun i => k0 + i) w' ∧ Only lo hi w w' := by
  refine (markF_Counting hn2 hx2 ht  h0 h1).mono ?_
  rintro e w' ⟨he, hm2, htch⟩
  exact ⟨he, hm2, htch.only (fun k h => by rcases h with h <;> first | exact hx2.blk_lt h)⟩

set_option maxRecDepth 100000 in
set_option maxHeartbeats 2000000 in
theorem held_Counting {z0 : Int} {z1 : Int} {n2 : Nat} {A2 : Option Addr} {c2 : Nat} {k0 : Int} {w : World} (hn2 : n2 ≤ 1048576) (hx2 : GRow w A2 n2 (intV fun i => k0 + i)) (h0 : 1 ≤ k0) (h1 : k0 ≤ 8388608) :
    Calls Try.prog 24 #[.agg #[.int .i64 z0, .int .i64 z1, .slice A2 n2 c2], .int .i64 k0] w fun e w' => e = .returned (.int .i64 (k0 + (n2 : Int))) ∧ Below w.heap.size w w' := by
  have FB := Lib.hid ((At.start w).alloc (.cells #[.int .i64 z0, .int .i64 z1, .slice A2 n2 c2] 27))
  have P2 := Lib.hid ((rd_of_row hx2).alloc (.cells #[.int .i64 z0, .int .i64 z1, .slice A2 n2 c2] 27))
  have BX := Lib.hid (boxed w #[.int .i64 z0, .int .i64 z1, .slice A2 n2 c2] 27)
  clear hx2
  go_enter Try.func24, Try.ntmps24
  go_wp2_with fail
  refine (held_IntS hn2 P2.out.row (by omega) (by omega)).mono ?_; rintro e w1 ⟨rfl, hb⟩
  replace FB := Lib.hid (FB.out.b hb)
  replace P2 := Lib.hid (P2.out.b hb)
  replace BX := Lib.hid (BX.out.b hb)
  have z_w1 : w.heap.size + 1 ≤ w1.heap.size := by have hsz := hb.size; first | omega | (simp at hsz; omega)
  clear hb
  go_wp2_with fail
  go_ret
  exact ⟨rfl, FB.out.now⟩

end Go.Proofs.Ytpajbcgdoedleab
