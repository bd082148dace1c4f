/- The laws' small functions on Trie. -/
import Derived.Test.YthaipemgndahfaaObjTch
namespace Go.Proofs.Ythaipemgndahfaa
open Go.RowKit

set_option maxRecDepth 100000 in
set_option maxHeartbeats 2000000 in
theorem eq_Trie {z0 : Int} {z2 : Int} {z4 : ByteArray} {n1 : Nat} {X1 : Nat → Int} {n3 : Nat} {X3 : Nat → Int} {A1 : Option Addr} {c1 : Nat} {A3 : Option Addr} {c3 : Nat} {dA1 : Option Addr} {dc1 : Nat} {dA3 : Option Addr} {dc3 : Nat} {w : World} (hn1 : n1 ≤ 1048576) (hn3 : n3 ≤ 1048576) (hx1 : GRow w A1 n1 (intV X1)) (hx3 : GRow w A3 n3 (intV X3)) (hy1 : GRow w dA1 n1 (intV X1)) (hy3 : GRow w dA3 n3 (intV X3)) :
    Calls Try.prog 36 #[.agg #[.int .i64 z0, .slice A1 n1 c1, .int .i64 z2, .slice A3 n3 c3, .string z4], .agg #[.int .i64 z0, .slice dA1 n1 dc1, .int .i64 z2, .slice dA3 n3 dc3, .string z4]] w (SameRow w true) := by
  have FB := Lib.hid (((At.start w).alloc (.cells #[.int .i64 z0, .slice A1 n1 c1, .int .i64 z2, .slice A3 n3 c3, .string z4] 53)).alloc (.cells #[.int .i64 z0, .slice dA1 n1 dc1, .int .i64 z2, .slice dA3 n3 dc3, .string z4] 53))
  have P1 := Lib.hid (((rd_of_row hx1).alloc (.cells #[.int .i64 z0, .slice A1 n1 c1, .int .i64 z2, .slice A3 n3 c3, .string z4] 53)).alloc (.cells #[.int .i64 z0, .slice dA1 n1 dc1, .int .i64 z2, .slice dA3 n3 dc3, .string z4] 53))
  have Q1 := Lib.hid (((rd_of_row hy1).alloc (.cells #[.int .i64 z0, .slice A1 n1 c1, .int .i64 z2, .slice A3 n3 c3, .string z4] 53)).alloc (.cells #[.int .i64 z0, .slice dA1 n1 dc1, .int .i64 z2, .slice dA3 n3 dc3, .string z4] 53))
  have P3 := Lib.hid (((rd_of_row hx3).alloc (.cells #[.int .i64 z0, .slice A1 n1 c1, .int .i64 z2, .slice A3 n3 c3, .string z4] 53)).alloc (.cells #[.int .i64 z0, .slice dA1 n1 dc1, .int .i64 z2, .slice dA3 n3 dc3, .string z4] 53))
  have Q3 := Lib.hid (((rd_of_row hy3).alloc (.cells #[.int .i64 z0, .slice A1 n1 c1, .int .i64 z2, .slice A3 n3 c3, .string z4] 53)).alloc (.cells #[.int .i64 z0, .slice dA1 n1 dc1, .int .i64 z2, .slice dA3 n3 dc3, .string z4] 53))
  have BX := Lib.hid ((boxed w #[.int .i64 z0, .slice A1 n1 c1, .int .i64 z2, .slice A3 n3 c3, .string z4] 53).alloc (.cells #[.int .i64 z0, .slice dA1 n1 dc1, .int .i64 z2, .slice dA3 n3 dc3, .string z4] 53))
  have BY := Lib.hid (boxed_at (w.alloc (.cells #[.int .i64 z0, .slice A1 n1 c1, .int .i64 z2, .slice A3 n3 c3, .string z4] 53)) (w.heap.size + 1) (by simp) #[.int .i64 z0, .slice dA1 n1 dc1, .int .i64 z2, .slice dA3 n3 dc3, .string z4] 53)
  clear hx1 hy1 hx3 hy3
  go_enter Try.func36, Try.ntmps36
  go_wp2_with fail
  refine (eq_Bits hn1 P1.out.row Q1.out.row).mono ?_; rintro e w1 ⟨rfl, hb⟩
  replace FB := Lib.hid (FB.out.b hb)
  replace P1 := Lib.hid (P1.out.b hb)
  replace Q1 := Lib.hid (Q1.out.b hb)
  replace P3 := Lib.hid (P3.out.b hb)
  replace Q3 := Lib.hid (Q3.out.b hb)
  replace BX := Lib.hid (BX.out.b hb)
  replace BY := Lib.hid (BY.out.b hb)
  have z_w1 : w.heap.size + 2 ≤ w1.heap.size := by have hsz := hb.size; first | omega | (simp at hsz; omega)
  clear hb
  have c_BX_0 := BX.out.now 0 _ rfl
  have c_BX_1 := BX.out.now 1 _ rfl
  have c_BX_2 := BX.out.now 2 _ rfl
  have c_BX_3 := BX.out.now 3 _ rfl
  have c_BX_4 := BX.out.now 4 _ rfl
  have c_BY_0 := BY.out.now 0 _ rfl
  have c_BY_1 := BY.out.now 1 _ rfl
  have c_BY_2 := BY.out.now 2 _ rfl
  have c_BY_3 := BY.out.now 3 _ rfl
  have c_BY_4 := BY.out.now 4 _ rfl
  go_wp2_with fail
  refine (eq_Bits hn3 P3.out.row Q3.out.row).mono ?_; rintro e w2 ⟨rfl, hb⟩
  replace FB := Lib.hid (FB.out.b hb)
  replace P1 := Lib.hid (P1.out.b hb)
  replace Q1 := Lib.hid (Q1.out.b hb)
  replace P3 := Lib.hid (P3.out.b hb)
  replace Q3 := Lib.hid (Q3.out.b hb)
  replace BX := Lib.hid (BX.out.b hb)
  replace BY := Lib.hid (BY.out.b hb)
  have z_w2 : w1.heap.size ≤ w2.heap.size := by have hsz := hb.size; first | omega | (simp at hsz; omega)
  clear c_BX_0 c_BX_1 c_BX_2 c_BX_3 c_BX_4 c_BY_0 c_BY_1 c_BY_2 c_BY_3 c_BY_4
  clear hb
  have hsl_4 : (z4.toList == z4.toList) = true := by simp
  have c_BX_0 := BX.out.now 0 _ rfl
  have c_BX_1 := BX.out.now 1 _ rfl
  have c_BX_2 := BX.out.now 2 _ rfl
  have c_BX_3 := BX.out.now 3 _ rfl
  have c_BX_4 := BX.out.now 4 _ rfl
  have c_BY_0 := BY.out.now 0 _ rfl
  have c_BY_1 := BY.out.now 1 _ rfl
  have c_BY_2 := BY.out.now 2 _ rfl
  have c_BY_3 := BY.out.now 3 _ rfl
  have c_BY_4 := BY.out.now 4 _ rfl
  go_wp2_with fail
  go_ret
  exact ⟨rfl, FB.out.now⟩

set_option maxRecDepth 100000 in
set_option maxHeartbeats 2000000 in
theorem markF_Trie {z0 : Int} {z2 : Int} {z4 : ByteArray} {n1 : Nat} {X1 : Nat → Int} {n3 : Nat} {X3 : Nat → Int} {A1 : Option Addr} {c1 : Nat} {A3 : Option Addr} {c3 : Nat} {lo hi : Nat} {k0 : Int} {w : World} (hn1 : n1 ≤ 1048576) (hn3 : n3 ≤ 1048576) (hx1 : Ow lo hi 3 A1 n1 (intV X1) w) (hx3 : Ow lo hi 3 A3 n3 (intV X3) w) (ht : hi ≤ w.heap.size) (ha13 : Apart n1 A1 n3 A3) (h0 : 1 ≤ k0) (h1 : k0 ≤ 8388608) :
    Calls Try.prog 37 #[.agg #[.int .i64 z0, .slice A1 n1 c1, .int .i64 z2, .slice A3 n3 c3, .string z4], .int .i64 k0] w fun e w' => e = .returned (.int .i64 (k0 + (n1 : Int) + (n3 : Int))) ∧ Ow lo hi 3 A1 n1 (intV fun i => k0 + i) w' ∧ Ow lo hi 3 A3 n3 (intV fun i => k0 + (n1 : Int) + i) w' ∧ Tch (fun k => Blk n1 A1 k ∨ Blk n3 A3 k) w w' := by
  have P1 := Lib.hid (At.alloc ⟨hx1, ht, Ow.lives _ _ _ _ _ _⟩ (.cells #[.int .i64 z0, .slice A1 n1 c1, .int .i64 z2, .slice A3 n3 c3, .string z4] 53))
  have P3 := Lib.hid (At.alloc ⟨hx3, ht, Ow.lives _ _ _ _ _ _⟩ (.cells #[.int .i64 z0, .slice A1 n1 c1, .int .i64 z2, .slice A3 n3 c3, .string z4] 53))
  have BX := Lib.hid (boxed w #[.int .i64 z0, .slice A1 n1 c1, .int .i64 z2, .slice A3 n3 c3, .string z4] 53)
  have HT := Lib.hid ((Tch.refl (fun k => Blk n1 A1 k ∨ Blk n3 A3 k) w).alloc (.cells #[.int .i64 z0, .slice A1 n1 c1, .int .i64 z2, .slice A3 n3 c3, .string z4] 53))
  have hb1 : ∀ k, Blk n1 A1 k → k < w.heap.size := fun k h => Nat.lt_of_lt_of_le (hx1.blk_lt h).2 ht
  have hb3 : ∀ k, Blk n3 A3 k → k < w.heap.size := fun k h => Nat.lt_of_lt_of_le (hx3.blk_lt h).2 ht
  clear hx1 hx3
  go_enter Try.func37, Try.ntmps37
  go_wp2_with fail
  refine (markF_Bits hn1 P1.out.now P1.out.top (by omega) (by omega)).mono ?_; rintro e v0 ⟨rfl, hm1, ht0⟩
  replace P1 := Lib.hid (At.mk hm1 (Nat.le_trans P1.out.top ht0.size) (Ow.lives _ _ _ _ _ _))
  replace P3 := Lib.hid (P3.out.tchO ht0 (fun k h1 h2 => by exact ha13.no h2 h1))
  replace BX := Lib.hid (BX.out.tch ht0 (fun k h1 h2 h3 => by first | (have := hb1 k h3; omega)))
  replace HT := Lib.hid (HT.out.trans (ht0.mono (fun k h => by simp [h])))
  clear ht0 hm1
  have c0 := BX.out.now 0 _ rfl
  have c1 := BX.out.now 1 _ rfl
  have c2 := BX.out.now 2 _ rfl
  have c3 := BX.out.now 3 _ rfl
  have c4 := BX.out.now 4 _ rfl
  go_wp2_with fail
  refine (markF_Bits hn3 P3.out.now P3.out.top (by omega) (by omega)).mono ?_; rintro e v1 ⟨rfl, hm3, ht1⟩
  clear c0 c1 c2 c3 c4
  replace P1 := Lib.hid (P1.out.tchO ht1 (fun k h1 h2 => by exact ha13.no h1 h2))
  replace P3 := Lib.hid (At.mk hm3 (Nat.le_trans P3.out.top ht1.size) (Ow.lives _ _ _ _ _ _))
  replace BX := Lib.hid (BX.out.tch ht1 (fun k h1 h2 h3 => by first | (have := hb3 k h3; omega)))
  replace HT := Lib.hid (HT.out.trans (ht1.mono (fun k h => by simp [h])))
  clear ht1 hm3
  go_wp2_with fail
  go_ret
  exact ⟨rfl, P1.out.now, P3.out.now, HT.out⟩

theorem mark_Trie {z0 : Int} {z2 : Int} {z4 : ByteArray} {n1 : Nat} {X1 : Nat → Int} {n3 : Nat} {X3 : Nat → Int} {A1 : Option Addr} {c1 : Nat} {A3 : Option Addr} {c3 : Nat} {lo hi : Nat} {k0 : Int} {w : World} (hn1 : n1 ≤ 1048576) (hn3 : n3 ≤ 1048576) (hx1 : Ow lo hi 3 A1 n1 (intV X1) w) (hx3 : Ow lo hi 3 A3 n3 (intV X3) w) (ht : hi ≤ w.heap.size) (ha13 : Apart n1 A1 n3 A3) (h0 : 1 ≤ k0) (h1 : k0 ≤ 8388608) :
    Calls Try.prog 37 #[.agg #[.int .i64 z0, .slice A1 n1 c1, .int .i64 z2, .slice A3 n3 c3, .string z4], .int .i64 k0] w fun e w' => e = .returned (.int .i64 (k0 + (n1 : Int) + (n3 : Int))) ∧ Ow lo hi 3 A1 n1 (intV fun i => k0 + i) w' ∧ Ow lo hi 3 A3 n3 (intV fun i => k0 + (n1 : Int) + i) w' ∧ Only lo hi w w' := by
  refine (markF_Trie hn1 hn3 hx1 hx3 ht ha13 h0 h1).mono ?_
  rintro e w' ⟨he, hm1, hm3, htch⟩
  exact ⟨he, hm1, hm3, htch.only (fun k h => by rcases h with h | h <;> first | exact hx1.blk_lt h | exact hx3.blk_lt h)⟩

set_option maxRecDepth 100000 in
set_option maxHeartbeats 2000000 in
theorem held_Trie {z0 : Int} {z2 : Int} {z4 : ByteArray} {n1 : Nat} {n3 : Nat} {A1 : Option Addr} {c1 : Nat} {A3 : Option Addr} {c3 : Nat} {k0 : Int} {w : World} (hn1 : n1 ≤ 1048576) (hn3 : n3 ≤ 1048576) (hx1 : GRow w A1 n1 (intV fun i => k0 + i)) (hx3 : GRow w A3 n3 (intV fun i => k0 + (n1 : Int) + i)) (h0 : 1 ≤ k0) (h1 : k0 ≤ 8388608) :
    Calls Try.prog 38 #[.agg #[.int .i64 z0, .slice A1 n1 c1, .int .i64 z2, .slice A3 n3 c3, .string z4], .int .i64 k0] w fun e w' => e = .returned (.int .i64 (k0 + (n1 : Int) + (n3 : Int))) ∧ Below w.heap.size w w' := by
  have FB := Lib.hid ((At.start w).alloc (.cells #[.int .i64 z0, .slice A1 n1 c1, .int .i64 z2, .slice A3 n3 c3, .string z4] 53))
  have P1 := Lib.hid ((rd_of_row hx1).alloc (.cells #[.int .i64 z0, .slice A1 n1 c1, .int .i64 z2, .slice A3 n3 c3, .string z4] 53))
  have P3 := Lib.hid ((rd_of_row hx3).alloc (.cells #[.int .i64 z0, .slice A1 n1 c1, .int .i64 z2, .slice A3 n3 c3, .string z4] 53))
  have BX := Lib.hid (boxed w #[.int .i64 z0, .slice A1 n1 c1, .int .i64 z2, .slice A3 n3 c3, .string z4] 53)
  clear hx1 hx3
  go_enter Try.func38, Try.ntmps38
  go_wp2_with fail
  refine (held_Bits hn1 P1.out.row (by omega) (by omega)).mono ?_; rintro e w1 ⟨rfl, hb⟩
  replace FB := Lib.hid (FB.out.b hb)
  replace P1 := Lib.hid (P1.out.b hb)
  replace P3 := Lib.hid (P3.out.b hb)
  replace BX := Lib.hid (BX.out.b hb)
  have z_w1 : w.heap.size + 1 ≤ w1.heap.size := by have hsz := hb.size; first | omega | (simp at hsz; omega)
  clear hb
  have c_BX_0 := BX.out.now 0 _ rfl
  have c_BX_1 := BX.out.now 1 _ rfl
  have c_BX_2 := BX.out.now 2 _ rfl
  have c_BX_3 := BX.out.now 3 _ rfl
  have c_BX_4 := BX.out.now 4 _ rfl
  go_wp2_with fail
  refine (held_Bits hn3 P3.out.row (by omega) (by omega)).mono ?_; rintro e w2 ⟨rfl, hb⟩
  replace FB := Lib.hid (FB.out.b hb)
  replace P1 := Lib.hid (P1.out.b hb)
  replace P3 := Lib.hid (P3.out.b hb)
  replace BX := Lib.hid (BX.out.b hb)
  have z_w2 : w1.heap.size ≤ w2.heap.size := by have hsz := hb.size; first | omega | (simp at hsz; omega)
  clear c_BX_0 c_BX_1 c_BX_2 c_BX_3 c_BX_4
  clear hb
  go_wp2_with fail
  go_ret
  exact ⟨rfl, FB.out.now⟩

end Go.Proofs.Ythaipemgndahfaa
