/- The laws' small functions on Ranked. -/
import Derived.Test.YtockhjdhihehlaaObjTch
namespace Go.Proofs.Ytockhjdhihehlaa
open Go.RowKit

set_option maxRecDepth 100000 in
set_option maxHeartbeats 2000000 in
theorem eq_Ranked {z0 : Int} {n1 : Nat} {X1 : Nat → Int} {n2 : Nat} {X2 : Nat → Int} {n3 : Nat} {X3 : Nat → Int} {A1 : Option Addr} {c1 : Nat} {A2 : Option Addr} {c2 : Nat} {A3 : Option Addr} {c3 : Nat} {dA1 : Option Addr} {dc1 : Nat} {dA2 : Option Addr} {dc2 : Nat} {dA3 : Option Addr} {dc3 : Nat} {w : World} (hn1 : n1 ≤ 1048576) (hn2 : n2 ≤ 1048576) (hn3 : n3 ≤ 1048576) (hx1 : GRow w A1 n1 (intV X1)) (hx2 : GRow w A2 n2 (intV X2)) (hx3 : GRow w A3 n3 (intV X3)) (hy1 : GRow w dA1 n1 (intV X1)) (hy2 : GRow w dA2 n2 (intV X2)) (hy3 : GRow w dA3 n3 (intV X3)) :
    Calls Try.prog 35 #[.agg #[.int .i64 z0, .slice A1 n1 c1, .slice A2 n2 c2, .slice A3 n3 c3], .agg #[.int .i64 z0, .slice dA1 n1 dc1, .slice dA2 n2 dc2, .slice dA3 n3 dc3]] w (SameRow w true) := by
  have FB := Lib.hid (((At.start w).alloc (.cells #[.int .i64 z0, .slice A1 n1 c1, .slice A2 n2 c2, .slice A3 n3 c3] 60)).alloc (.cells #[.int .i64 z0, .slice dA1 n1 dc1, .slice dA2 n2 dc2, .slice dA3 n3 dc3] 60))
  have P1 := Lib.hid (((rd_of_row hx1).alloc (.cells #[.int .i64 z0, .slice A1 n1 c1, .slice A2 n2 c2, .slice A3 n3 c3] 60)).alloc (.cells #[.int .i64 z0, .slice dA1 n1 dc1, .slice dA2 n2 dc2, .slice dA3 n3 dc3] 60))
  have Q1 := Lib.hid (((rd_of_row hy1).alloc (.cells #[.int .i64 z0, .slice A1 n1 c1, .slice A2 n2 c2, .slice A3 n3 c3] 60)).alloc (.cells #[.int .i64 z0, .slice dA1 n1 dc1, .slice dA2 n2 dc2, .slice dA3 n3 dc3] 60))
  have P2 := Lib.hid (((rd_of_row hx2).alloc (.cells #[.int .i64 z0, .slice A1 n1 c1, .slice A2 n2 c2, .slice A3 n3 c3] 60)).alloc (.cells #[.int .i64 z0, .slice dA1 n1 dc1, .slice dA2 n2 dc2, .slice dA3 n3 dc3] 60))
  have Q2 := Lib.hid (((rd_of_row hy2).alloc (.cells #[.int .i64 z0, .slice A1 n1 c1, .slice A2 n2 c2, .slice A3 n3 c3] 60)).alloc (.cells #[.int .i64 z0, .slice dA1 n1 dc1, .slice dA2 n2 dc2, .slice dA3 n3 dc3] 60))
  have P3 := Lib.hid (((rd_of_row hx3).alloc (.cells #[.int .i64 z0, .slice A1 n1 c1, .slice A2 n2 c2, .slice A3 n3 c3] 60)).alloc (.cells #[.int .i64 z0, .slice dA1 n1 dc1, .slice dA2 n2 dc2, .slice dA3 n3 dc3] 60))
  have Q3 := Lib.hid (((rd_of_row hy3).alloc (.cells #[.int .i64 z0, .slice A1 n1 c1, .slice A2 n2 c2, .slice A3 n3 c3] 60)).alloc (.cells #[.int .i64 z0, .slice dA1 n1 dc1, .slice dA2 n2 dc2, .slice dA3 n3 dc3] 60))
  have BX := Lib.hid ((boxed w #[.int .i64 z0, .slice A1 n1 c1, .slice A2 n2 c2, .slice A3 n3 c3] 60).alloc (.cells #[.int .i64 z0, .slice dA1 n1 dc1, .slice dA2 n2 dc2, .slice dA3 n3 dc3] 60))
  have BY := Lib.hid (boxed_at (w.alloc (.cells #[.int .i64 z0, .slice A1 n1 c1, .slice A2 n2 c2, .slice A3 n3 c3] 60)) (w.heap.size + 1) (by simp) #[.int .i64 z0, .slice dA1 n1 dc1, .slice dA2 n2 dc2, .slice dA3 n3 dc3] 60)
  clear hx1 hy1 hx2 hy2 hx3 hy3
  go_enter Try.func35, Try.ntmps35
  go_wp2_with fail
  refine (eq_Bits hn1 P1.out.row Q1.out.row).mono ?_; rintro e w1 ⟨rfl, hb⟩
  replace FB := Lib.hid (FB.out.b hb)
  replace P1 := Lib.hid (P1.out.b hb)
  replace Q1 := Lib.hid (Q1.out.b hb)
  replace P2 := Lib.hid (P2.out.b hb)
  replace Q2 := Lib.hid (Q2.out.b hb)
  replace P3 := Lib.hid (P3.out.b hb)
  replace Q3 := Lib.hid (Q3.out.b hb)
  replace BX := Lib.hid (BX.out.b hb)
  replace BY := Lib.hid (BY.out.b hb)
  have z_w1 : w.heap.size + 2 ≤ w1.heap.size := by have hsz := hb.size; first | omega | (simp at hsz; omega)
  clear hb
  have c_BX_0 := BX.out.now 0 _ rfl
  have c_BX_1 := BX.out.now 1 _ rfl
  have c_BX_2 := BX.out.now 2 _ rfl
  have c_BX_3 := BX.out.now 3 _ rfl
  have c_BY_0 := BY.out.now 0 _ rfl
  have c_BY_1 := BY.out.now 1 _ rfl
  have c_BY_2 := BY.out.now 2 _ rfl
  have c_BY_3 := BY.out.now 3 _ rfl
  go_wp2_with fail
  refine (eq_IntS hn2 P2.out.row Q2.out.row).mono ?_; rintro e w2 ⟨rfl, hb⟩
  replace FB := Lib.hid (FB.out.b hb)
  replace P1 := Lib.hid (P1.out.b hb)
  replace Q1 := Lib.hid (Q1.out.b hb)
  replace P2 := Lib.hid (P2.out.b hb)
  replace Q2 := Lib.hid (Q2.out.b hb)
  replace P3 := Lib.hid (P3.out.b hb)
  replace Q3 := Lib.hid (Q3.out.b hb)
  replace BX := Lib.hid (BX.out.b hb)
  replace BY := Lib.hid (BY.out.b hb)
  have z_w2 : w1.heap.size ≤ w2.heap.size := by have hsz := hb.size; first | omega | (simp at hsz; omega)
  clear c_BX_0 c_BX_1 c_BX_2 c_BX_3 c_BY_0 c_BY_1 c_BY_2 c_BY_3
  clear hb
  have c_BX_0 := BX.out.now 0 _ rfl
  have c_BX_1 := BX.out.now 1 _ rfl
  have c_BX_2 := BX.out.now 2 _ rfl
  have c_BX_3 := BX.out.now 3 _ rfl
  have c_BY_0 := BY.out.now 0 _ rfl
  have c_BY_1 := BY.out.now 1 _ rfl
  have c_BY_2 := BY.out.now 2 _ rfl
  have c_BY_3 := BY.out.now 3 _ rfl
  go_wp2_with fail
  refine (eq_IntS hn3 P3.out.row Q3.out.row).mono ?_; rintro e w3 ⟨rfl, hb⟩
  replace FB := Lib.hid (FB.out.b hb)
  replace P1 := Lib.hid (P1.out.b hb)
  replace Q1 := Lib.hid (Q1.out.b hb)
  replace P2 := Lib.hid (P2.out.b hb)
  replace Q2 := Lib.hid (Q2.out.b hb)
  replace P3 := Lib.hid (P3.out.b hb)
  replace Q3 := Lib.hid (Q3.out.b hb)
  replace BX := Lib.hid (BX.out.b hb)
  replace BY := Lib.hid (BY.out.b hb)
  have z_w3 : w2.heap.size ≤ w3.heap.size := by have hsz := hb.size; first | omega | (simp at hsz; omega)
  clear c_BX_0 c_BX_1 c_BX_2 c_BX_3 c_BY_0 c_BY_1 c_BY_2 c_BY_3
  clear hb
  go_wp2_with fail
  go_ret
  exact ⟨rfl, FB.out.now⟩

set_option maxRecDepth 100000 in
set_option maxHeartbeats 2000000 in
theorem markF_Ranked {z0 : Int} {n1 : Nat} {X1 : Nat → Int} {n2 : Nat} {X2 : Nat → Int} {n3 : Nat} {X3 : Nat → Int} {A1 : Option Addr} {c1 : Nat} {A2 : Option Addr} {c2 : Nat} {A3 : Option Addr} {c3 : Nat} {lo hi : Nat} {k0 : Int} {w : World} (hn1 : n1 ≤ 1048576) (hn2 : n2 ≤ 1048576) (hn3 : n3 ≤ 1048576) (hx1 : Ow lo hi 3 A1 n1 (intV X1) w) (hx2 : Ow lo hi 3 A2 n2 (intV X2) w) (hx3 : Ow lo hi 3 A3 n3 (intV X3) w) (ht : hi ≤ w.heap.size) (ha12 : Apart n1 A1 n2 A2) (ha13 : Apart n1 A1 n3 A3) (ha23 : Apart n2 A2 n3 A3) (h0 : 1 ≤ k0) (h1 : k0 ≤ 8388608) :
    Calls Try.prog 37 #[.agg #[.int .i64 z0, .slice A1 n1 c1, .slice A2 n2 c2, .slice A3 n3 c3], .int .i64 k0] w fun e w' => e = .returned (.int .i64 (k0 + (n1 : Int) + (n2 : Int) + (n3 : Int))) ∧ Ow lo hi 3 A1 n1 (intV fun i => k0 + i) w' ∧ Ow lo hi 3 A2 n2 (intV fun i => k0 + (n1 : Int) + i) w' ∧ Ow lo hi 3 A3 n3 (intV fun i => k0 + (n1 : Int) + (n2 : Int) + i) w' ∧ Tch (fun k => Blk n1 A1 k ∨ Blk n2 A2 k ∨ Blk n3 A3 k) w w' := by
  have P1 := Lib.hid (At.alloc ⟨hx1, ht, Ow.lives _ _ _ _ _ _⟩ (.cells #[.int .i64 z0, .slice A1 n1 c1, .slice A2 n2 c2, .slice A3 n3 c3] 60))
  have P2 := Lib.hid (At.alloc ⟨hx2, ht, Ow.lives _ _ _ _ _ _⟩ (.cells #[.int .i64 z0, .slice A1 n1 c1, .slice A2 n2 c2, .slice A3 n3 c3] 60))
  have P3 := Lib.hid (At.alloc ⟨hx3, ht, Ow.lives _ _ _ _ _ _⟩ (.cells #[.int .i64 z0, .slice A1 n1 c1, .slice A2 n2 c2, .slice A3 n3 c3] 60))
  have BX := Lib.hid (boxed w #[.int .i64 z0, .slice A1 n1 c1, .slice A2 n2 c2, .slice A3 n3 c3] 60)
  have HT := Lib.hid ((Tch.refl (fun k => Blk n1 A1 k ∨ Blk n2 A2 k ∨ Blk n3 A3 k) w).alloc (.cells #[.int .i64 z0, .slice A1 n1 c1, .slice A2 n2 c2, .slice A3 n3 c3] 60))
  have hb1 : ∀ k, Blk n1 A1 k → k < w.heap.size := fun k h => Nat.lt_of_lt_of_le (hx1.blk_lt h).2 ht
  have hb2 : ∀ k, Blk n2 A2 k → k < w.heap.size := fun k h => Nat.lt_of_lt_of_le (hx2.blk_lt h).2 ht
  have hb3 : ∀ k, Blk n3 A3 k → k < w.heap.size := fun k h => Nat.lt_of_lt_of_le (hx3.blk_lt h).2 ht
  clear hx1 hx2 hx3
  go_enter Try.func37, Try.ntmps37
  go_wp2_with fail
  refine (markF_Bits hn1 P1.out.now P1.out.top (by omega) (by omega)).mono ?_; rintro e v0 ⟨rfl, hm1, ht0⟩
  replace P1 := Lib.hid (At.mk hm1 (Nat.le_trans P1.out.top ht0.size) (Ow.lives _ _ _ _ _ _))
  replace P2 := Lib.hid (P2.out.tchO ht0 (fun k h1 h2 => by exact ha12.no h2 h1))
  replace P3 := Lib.hid (P3.out.tchO ht0 (fun k h1 h2 => by exact ha13.no h2 h1))
  replace BX := Lib.hid (BX.out.tch ht0 (fun k h1 h2 h3 => by first | (have := hb1 k h3; omega)))
  replace HT := Lib.hid (HT.out.trans (ht0.mono (fun k h => by simp [h])))
  clear ht0 hm1
  have c0 := BX.out.now 0 _ rfl
  have c1 := BX.out.now 1 _ rfl
  have c2 := BX.out.now 2 _ rfl
  have c3 := BX.out.now 3 _ rfl
  go_wp2_with fail
  refine (markF_IntS hn2 P2.out.now P2.out.top (by omega) (by omega)).mono ?_; rintro e v1 ⟨rfl, hm2, ht1⟩
  clear c0 c1 c2 c3
  replace P1 := Lib.hid (P1.out.tchO ht1 (fun k h1 h2 => by exact ha12.no h1 h2))
  replace P2 := Lib.hid (At.mk hm2 (Nat.le_trans P2.out.top ht1.size) (Ow.lives _ _ _ _ _ _))
  replace P3 := Lib.hid (P3.out.tchO ht1 (fun k h1 h2 => by exact ha23.no h2 h1))
  replace BX := Lib.hid (BX.out.tch ht1 (fun k h1 h2 h3 => by first | (have := hb2 k h3; omega)))
  replace HT := Lib.hid (HT.out.trans (ht1.mono (fun k h => by simp [h])))
  clear ht1 hm2
  have c0 := BX.out.now 0 _ rfl
  have c1 := BX.out.now 1 _ rfl
  have c2 := BX.out.now 2 _ rfl
  have c3 := BX.out.now 3 _ rfl
  go_wp2_with fail
  refine (markF_IntS hn3 P3.out.now P3.out.top (by omega) (by omega)).mono ?_; rintro e v2 ⟨rfl, hm3, ht2⟩
  clear c0 c1 c2 c3
  replace P1 := Lib.hid (P1.out.tchO ht2 (fun k h1 h2 => by exact ha13.no h1 h2))
  replace P2 := Lib.hid (P2.out.tchO ht2 (fun k h1 h2 => by exact ha23.no h1 h2))
  replace P3 := Lib.hid (At.mk hm3 (Nat.le_trans P3.out.top ht2.size) (Ow.lives _ _ _ _ _ _))
  replace BX := Lib.hid (BX.out.tch ht2 (fun k h1 h2 h3 => by first | (have := hb3 k h3; omega)))
  replace HT := Lib.hid (HT.out.trans (ht2.mono (fun k h => by simp [h])))
  clear ht2 hm3
  go_wp2_with fail
  go_ret
  exact ⟨rfl, P1.out.now, P2.out.now, P3.out.now, HT.out⟩

theorem mark_Ranked {z0 : Int} {n1 : Nat} {X1 : Nat → Int} {n2 : Nat} {X2 : Nat → Int} {n3 : Nat} {X3 : Nat → Int} {A1 : Option Addr} {c1 : Nat} {A2 : Option Addr} {c2 : Nat} {A3 : Option Addr} {c3 : Nat} {lo hi : Nat} {k0 : Int} {w : World} (hn1 : n1 ≤ 1048576) (hn2 : n2 ≤ 1048576) (hn3 : n3 ≤ 1048576) (hx1 : Ow lo hi 3 A1 n1 (intV X1) w) (hx2 : Ow lo hi 3 A2 n2 (intV X2) w) (hx3 : Ow lo hi 3 A3 n3 (intV X3) w) (ht : hi ≤ w.heap.size) (ha12 : Apart n1 A1 n2 A2) (ha13 : Apart n1 A1 n3 A3) (ha23 : Apart n2 A2 n3 A3) (h0 : 1 ≤ k0) (h1 : k0 ≤ 8388608) :
    Calls Try.prog 37 #[.agg #[.int .i64 z0, .slice A1 n1 c1, .slice A2 n2 c2, .slice A3 n3 c3], .int .i64 k0] w fun e w' => e = .returned (.int .i64 (k0 + (n1 : Int) + (n2 : Int) + (n3 : Int))) ∧ Ow lo hi 3 A1 n1 (intV fun i => k0 + i) w' ∧ Ow lo hi 3 A2 n2 (intV fun i => k0 + (n1 : Int) + i) w' ∧ Ow lo hi 3 A3 n3 (intV fun i => k0 + (n1 : Int) + (n2 : Int) + i) w' ∧ Only lo hi w w' := by
  refine (markF_Ranked hn1 hn2 hn3 hx1 hx2 hx3 ht ha12 ha13 ha23 h0 h1).mono ?_
  rintro e w' ⟨he, hm1, hm2, hm3, htch⟩
  exact ⟨he, hm1, hm2, hm3, htch.only (fun k h => by rcases h with h | h | h <;> first | exact hx1.blk_lt h | exact hx2.blk_lt h | exact hx3.blk_lt h)⟩

set_option maxRecDepth 100000 in
set_option maxHeartbeats 2000000 in
theorem held_Ranked {z0 : Int} {n1 : Nat} {n2 : Nat} {n3 : Nat} {A1 : Option Addr} {c1 : Nat} {A2 : Option Addr} {c2 : Nat} {A3 : Option Addr} {c3 : Nat} {k0 : Int} {w : World} (hn1 : n1 ≤ 1048576) (hn2 : n2 ≤ 1048576) (hn3 : n3 ≤ 1048576) (hx1 : GRow w A1 n1 (intV fun i => k0 + i)) (hx2 : GRow w A2 n2 (intV fun i => k0 + (n1 : Int) + i)) (hx3 : GRow w A3 n3 (intV fun i => k0 + (n1 : Int) + (n2 : Int) + i)) (h0 : 1 ≤ k0) (h1 : k0 ≤ 8388608) :
    Calls Try.prog 38 #[.agg #[.int .i64 z0, .slice A1 n1 c1, .slice A2 n2 c2, .slice A3 n3 c3], .int .i64 k0] w fun e w' => e = .returned (.int .i64 (k0 + (n1 : Int) + (n2 : Int) + (n3 : Int))) ∧ Below w.heap.size w w' := by
  have FB := Lib.hid ((At.start w).alloc (.cells #[.int .i64 z0, .slice A1 n1 c1, .slice A2 n2 c2, .slice A3 n3 c3] 60))
  have P1 := Lib.hid ((rd_of_row hx1).alloc (.cells #[.int .i64 z0, .slice A1 n1 c1, .slice A2 n2 c2, .slice A3 n3 c3] 60))
  have P2 := Lib.hid ((rd_of_row hx2).alloc (.cells #[.int .i64 z0, .slice A1 n1 c1, .slice A2 n2 c2, .slice A3 n3 c3] 60))
  have P3 := Lib.hid ((rd_of_row hx3).alloc (.cells #[.int .i64 z0, .slice A1 n1 c1, .slice A2 n2 c2, .slice A3 n3 c3] 60))
  have BX := Lib.hid (boxed w #[.int .i64 z0, .slice A1 n1 c1, .slice A2 n2 c2, .slice A3 n3 c3] 60)
  clear hx1 hx2 hx3
  go_enter Try.func38, Try.ntmps38
  go_wp2_with fail
  refine (held_Bits hn1 P1.out.row (by omega) (by omega)).mono ?_; rintro e w1 ⟨rfl, hb⟩
  replace FB := Lib.hid (FB.out.b hb)
  replace P1 := Lib.hid (P1.out.b hb)
  replace P2 := Lib.hid (P2.out.b hb)
  replace P3 := Lib.hid (P3.out.b hb)
  replace BX := Lib.hid (BX.out.b hb)
  have z_w1 : w.heap.size + 1 ≤ w1.heap.size := by have hsz := hb.size; first | omega | (simp at hsz; omega)
  clear hb
  have c_BX_0 := BX.out.now 0 _ rfl
  have c_BX_1 := BX.out.now 1 _ rfl
  have c_BX_2 := BX.out.now 2 _ rfl
  have c_BX_3 := BX.out.now 3 _ rfl
  go_wp2_with fail
  refine (held_IntS hn2 P2.out.row (by omega) (by omega)).mono ?_; rintro e w2 ⟨rfl, hb⟩
  replace FB := Lib.hid (FB.out.b hb)
  replace P1 := Lib.hid (P1.out.b hb)
  replace P2 := Lib.hid (P2.out.b hb)
  replace P3 := Lib.hid (P3.out.b hb)
  replace BX := Lib.hid (BX.out.b hb)
  have z_w2 : w1.heap.size ≤ w2.heap.size := by have hsz := hb.size; first | omega | (simp at hsz; omega)
  clear c_BX_0 c_BX_1 c_BX_2 c_BX_3
  clear hb
  have c_BX_0 := BX.out.now 0 _ rfl
  have c_BX_1 := BX.out.now 1 _ rfl
  have c_BX_2 := BX.out.now 2 _ rfl
  have c_BX_3 := BX.out.now 3 _ rfl
  go_wp2_with fail
  refine (held_IntS hn3 P3.out.row (by omega) (by omega)).mono ?_; rintro e w3 ⟨rfl, hb⟩
  replace FB := Lib.hid (FB.out.b hb)
  replace P1 := Lib.hid (P1.out.b hb)
  replace P2 := Lib.hid (P2.out.b hb)
  replace P3 := Lib.hid (P3.out.b hb)
  replace BX := Lib.hid (BX.out.b hb)
  have z_w3 : w2.heap.size ≤ w3.heap.size := by have hsz := hb.size; first | omega | (simp at hsz; omega)
  clear c_BX_0 c_BX_1 c_BX_2 c_BX_3
  clear hb
  go_wp2_with fail
  go_ret
  exact ⟨rfl, FB.out.now⟩

end Go.Proofs.Ytockhjdhihehlaa
