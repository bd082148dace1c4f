/- The laws' small functions on Bloom. -/
import Derived.Test.YtpajbcgdoedleabObjTch
namespace Go.Proofs.Ytpajbcgdoedleab
open Go.RowKit

set_option maxRecDepth 100000 in
set_option maxHeartbeats 2000000 in
theorem eq_Bloom {z0 : Int} {z1 : Int} {z2 : Int} {n3 : Nat} {X3 : Nat → Int} {A3 : Option Addr} {c3 : Nat} {dA3 : Option Addr} {dc3 : Nat} {w : World} (hn3 : n3 ≤ 1048576) (hx3 : GRow w A3 n3 (intV X3)) (hy3 : GRow w dA3 n3 (intV X3)) :
    Calls Try.prog 31 #[.agg #[.int .i64 z0, .int .i64 z1, .int .i64 z2, .slice A3 n3 c3], .agg #[.int .i64 z0, .int .i64 z1, .int .i64 z2, .slice dA3 n3 dc3]] w (SameRow w true) := by
  have FB := Lib.hid (((At.start w).alloc (.cells #[.int .i64 z0, .int .i64 z1, .int .i64 z2, .slice A3 n3 c3] 44)).alloc (.cells #[.int .i64 z0, .int .i64 z1, .int .i64 z2, .slice dA3 n3 dc3] 44))
  have P3 := Lib.hid (((rd_of_row hx3).alloc (.cells #[.int .i64 z0, .int .i64 z1, .int .i64 z2, .slice A3 n3 c3] 44)).alloc (.cells #[.int .i64 z0, .int .i64 z1, .int .i64 z2, .slice dA3 n3 dc3] 44))
  have Q3 := Lib.hid (((rd_of_row hy3).alloc (.cells #[.int .i64 z0, .int .i64 z1, .int .i64 z2, .slice A3 n3 c3] 44)).alloc (.cells #[.int .i64 z0, .int .i64 z1, .int .i64 z2, .slice dA3 n3 dc3] 44))
  have BX := Lib.hid ((boxed w #[.int .i64 z0, .int .i64 z1, .int .i64 z2, .slice A3 n3 c3] 44).alloc (.cells #[.int .i64 z0, .int .i64 z1, .int .i64 z2, .slice dA3 n3 dc3] 44))
  have BY := Lib.hid (boxed_at (w.alloc (.cells #[.int .i64 z0, .int .i64 z1, .int .i64 z2, .slice A3 n3 c3] 44)) (w.heap.size + 1) (by simp) #[.int .i64 z0, .int .i64 z1, .int .i64 z2, .slice dA3 n3 dc3] 44)
  clear hx3 hy3
  go_enter Try.func31, Try.ntmps31
  go_wp2_with fail
  refine (eq_Bits hn3 P3.out.row Q3.out.row).mono ?_; rintro e w1 ⟨rfl, hb⟩
  replace FB := Lib.hid (FB.out.b hb)
  replace P3 := Lib.hid (P3.out.b hb)
  replace Q3 := Lib.hid (Q3.out.b hb)
  replace BX := Lib.hid (BX.out.b hb)
  replace BY := Lib.hid (BY.out.b hb)
  have z_w1 : w.heap.size + 2 ≤ w1.heap.size := by have hsz := hb.size; first | omega | (simp at hsz; omega)
  clear hb
  go_wp2_with fail
  go_ret
  exact ⟨rfl, FB.out.now⟩

set_option maxRecDepth 100000 in
set_option maxHeartbeats 2000000 in
theorem markF_Bloom {z0 : Int} {z1 : Int} {z2 : Int} {n3 : Nat} {X3 : Nat → Int} {A3 : Option Addr} {c3 : Nat} {lo hi : Nat} {k0 : Int} {w : World} (hn3 : n3 ≤ 1048576) (hx3 : Ow lo hi 3 A3 n3 (intV X3) w) (ht : hi ≤ w.heap.size)  (h0 : 1 ≤ k0) (h1 : k0 ≤ 8388608) :
    Calls Try.prog 32 #[.agg #[.int .i64 z0, .int .i64 z1, .int .i64 z2, .slice A3 n3 c3], .int .i64 k0] w fun e w' => e = .returned (.int .i64 (k0 + (n3 : Int))) ∧ Ow lo hi 3 A3 n3 (intV fun i => k0 + i) w' ∧ Tch (fun k => Blk n3 A3 k) w w' := by
  have P3 := Lib.hid (At.alloc ⟨hx3, ht, Ow.lives _ _ _ _ _ _⟩ (.cells #[.int .i64 z0, .int .i64 z1, .int .i64 z2, .slice A3 n3 c3] 44))
  have BX := Lib.hid (boxed w #[.int .i64 z0, .int .i64 z1, .int .i64 z2, .slice A3 n3 c3] 44)
  have HT := Lib.hid ((Tch.refl (fun k => Blk n3 A3 k) w).alloc (.cells #[.int .i64 z0, .int .i64 z1, .int .i64 z2, .slice A3 n3 c3] 44))
  have hb3 : ∀ k, Blk n3 A3 k → k < w.heap.size := fun k h => Nat.lt_of_lt_of_le (hx3.blk_lt h).2 ht
  clear hx3
  go_enter Try.func32, Try.ntmps32
  go_wp2_with fail
  refine (markF_Bits hn3 P3.out.now P3.out.top (by omega) (by omega)).mono ?_; rintro e v0 ⟨rfl, hm3, ht0⟩
  replace P3 := Lib.hid (At.mk hm3 (Nat.le_trans P3.out.top ht0.size) (Ow.lives _ _ _ _ _ _))
  replace BX := Lib.hid (BX.out.tch ht0 (fun k h1 h2 h3 => by first | (have := hb3 k h3; omega)))
  replace HT := Lib.hid (HT.out.trans (ht0.mono (fun k h => by simp [h])))
  clear ht0 hm3
  go_wp2_with fail
  go_ret
  exact ⟨rfl, P3.out.now, HT.out⟩

theorem mark_Bloom {z0 : Int} {z1 : Int} {z2 : Int} {n3 : Nat} {X3 : Nat → Int} {A3 : Option Addr} {c3 : Nat} {lo hi : Nat} {k0 : Int} {w : World} (hn3 : n3 ≤ 1048576) (hx3 : Ow lo hi 3 A3 n3 (intV X3) w) (ht : hi ≤ w.heap.size)  (h0 : 1 ≤ k0) (h1 : k0 ≤ 8388608) :
    Calls Try.prog 32 #[.agg #[.int .i64 z0, .int .i64 z1, .int .i64 z2, .slice A3 n3 c3], .int .i64 k0] w fun e w' => e = .returned (.int .i64 (k0 + (n3 : Int))) ∧ Ow lo hi 3 A3 n3 (intV fun i => k0 + i) w' ∧ Only lo hi w w' := by
  refine (markF_Bloom hn3 hx3 ht  h0 h1).mono ?_
  rintro e w' ⟨he, hm3, htch⟩
  exact ⟨he, hm3, htch.only (fun k h => by rcases h with h <;> first | exact hx3.blk_lt h)⟩

set_option maxRecDepth 100000 in
set_option maxHeartbeats 2000000 in
theorem held_Bloom {z0 : Int} {z1 : Int} {z2 : Int} {n3 : Nat} {A3 : Option Addr} {c3 : Nat} {k0 : Int} {w : World} (hn3 : n3 ≤ 1048576) (hx3 : GRow w A3 n3 (intV fun i => k0 + i)) (h0 : 1 ≤ k0) (h1 : k0 ≤ 8388608) :
    Calls Try.prog 33 #[.agg #[.int .i64 z0, .int .i64 z1, .int .i64 z2, .slice A3 n3 c3], .int .i64 k0] w fun e w' => e = .returned (.int .i64 (k0 + (n3 : Int))) ∧ Below w.heap.size w w' := by
  have FB := Lib.hid ((At.start w).alloc (.cells #[.int .i64 z0, .int .i64 z1, .int .i64 z2, .slice A3 n3 c3] 44))
  have P3 := Lib.hid ((rd_of_row hx3).alloc (.cells #[.int .i64 z0, .int .i64 z1, .int .i64 z2, .slice A3 n3 c3] 44))
  have BX := Lib.hid (boxed w #[.int .i64 z0, .int .i64 z1, .int .i64 z2, .slice A3 n3 c3] 44)
  clear hx3
  go_enter Try.func33, Try.ntmps33
  go_wp2_with fail
  refine (held_Bits hn3 P3.out.row (by omega) (by omega)).mono ?_; rintro e w1 ⟨rfl, hb⟩
  replace FB := Lib.hid (FB.out.b hb)
  replace P3 := Lib.hid (P3.out.b hb)
  replace BX := Lib.hid (BX.out.b hb)
  have z_w1 : w.heap.size + 1 ≤ w1.heap.size := by have hsz := hb.size; first | omega | (simp at hsz; omega)
  clear hb
  go_wp2_with fail
  go_ret
  exact ⟨rfl, FB.out.now⟩

end Go.Proofs.Ytpajbcgdoedleab
