/- The law of FirstDifference, walked: what both sides answer comes in as hypotheses. -/
import Derived.Test.YtijlpbcgkecinabObjTa
import Derived.Test.YtijlpbcgkecinabObjStr
import Derived.Test.YtijlpbcgkecinabTaY
import Derived.Deep.RegionHeld3
namespace Go.Proofs.Ytijlpbcgkecinab
open Go.RowKit

set_option maxRecDepth 100000 in
set_option maxHeartbeats 8000000 in
theorem main_FnExactFirstDifference (a0z0 : Int) (a0z1 : Int) (a0z2 : Int) (a0n3 : Nat) (a0X3 : Nat → Int) (a1z0 : Int) (a1z1 : Int) (a1z2 : Int) (a1n3 : Nat) (a1X3 : Nat → Int) (a2n0 : Nat) (a2X0 : Nat → ByteArray) (r0z0 : Int) (r1z0 : Bool) (a0A3 : Option Addr) (a0c3 : Nat) (a1A3 : Option Addr) (a1c3 : Nat) (a2A0 : Option Addr) (a2c0 : Nat) (w : World) (ha0m3 : a0n3 ≤ maxLen) (ha0r3 : GRow w a0A3 a0n3 (intV a0X3)) (ha1m3 : a1n3 ≤ maxLen) (ha1r3 : GRow w a1A3 a1n3 (intV a1X3)) (ha2m0 : a2n0 ≤ maxLen) (ha2r0 : GRow w a2A0 a2n0 (strV a2X0)) (ha2s0 : ∀ i, i < a2n0 → (a2X0 i).size ≤ maxLen)
    (s1 : a0n3 + a1n3 + a2n0 + (sizeS a2X0 a2n0) ≤ 1048576 → ∀ (ua0A3 : Option Addr) (ua0c3 : Nat) (ua1A3 : Option Addr) (ua1c3 : Nat) (ua2A0 : Option Addr) (ua2c0 : Nat) (w : World), GRow w ua0A3 a0n3 (intV a0X3) → GRow w ua1A3 a1n3 (intV a1X3) → GRow w ua2A0 a2n0 (strV a2X0) → Calls Try.prog 22 #[.agg #[.int .i64 a0z0, .int .i64 a0z1, .int .i64 a0z2, .slice ua0A3 a0n3 ua0c3], .agg #[.int .i64 a1z0, .int .i64 a1z1, .int .i64 a1z2, .slice ua1A3 a1n3 ua1c3], .slice ua2A0 a2n0 ua2c0] w fun e w' => e = .returned (.tuple #[.int .i64 r0z0, .bool r1z0]) ∧ Below w.heap.size w w')
    (s2 : a0n3 + a1n3 + a2n0 + (sizeS a2X0 a2n0) ≤ 1048576 → ∀ (ua0A3 : Option Addr) (ua0c3 : Nat) (ua1A3 : Option Addr) (ua1c3 : Nat) (ua2A0 : Option Addr) (ua2c0 : Nat) (w : World), GRow w ua0A3 a0n3 (intV a0X3) → GRow w ua1A3 a1n3 (intV a1X3) → GRow w ua2A0 a2n0 (strV a2X0) → Calls Try.prog 24 #[.agg #[.int .i64 a0z0, .int .i64 a0z1, .int .i64 a0z2, .slice ua0A3 a0n3 ua0c3], .agg #[.int .i64 a1z0, .int .i64 a1z1, .int .i64 a1z2, .slice ua1A3 a1n3 ua1c3], .slice ua2A0 a2n0 ua2c0] w fun e w' => e = .returned (.tuple #[.int .i64 r0z0, .bool r1z0]) ∧ Below w.heap.size w w') :
    Calls Try.prog 6 #[.agg #[.int .i64 a0z0, .int .i64 a0z1, .int .i64 a0z2, .slice a0A3 a0n3 a0c3], .agg #[.int .i64 a1z0, .int .i64 a1z1, .int .i64 a1z2, .slice a1A3 a1n3 a1c3], .slice a2A0 a2n0 a2c0] w fun e w' => e = .returned (.bool true) ∧ Below w.heap.size w w' := by
  have S1 := Lib.hid s1
  have S2 := Lib.hid s2
  clear s1 s2
  have FB := Lib.hid (((At.start w).alloc (.cells #[.int .i64 a0z0, .int .i64 a0z1, .int .i64 a0z2, .slice a0A3 a0n3 a0c3] 24)).alloc (.cells #[.int .i64 a1z0, .int .i64 a1z1, .int .i64 a1z2, .slice a1A3 a1n3 a1c3] 24))
  have Fa03 := Lib.hid (((rd_of_row ha0r3).alloc (.cells #[.int .i64 a0z0, .int .i64 a0z1, .int .i64 a0z2, .slice a0A3 a0n3 a0c3] 24)).alloc (.cells #[.int .i64 a1z0, .int .i64 a1z1, .int .i64 a1z2, .slice a1A3 a1n3 a1c3] 24))
  have Fa13 := Lib.hid (((rd_of_row ha1r3).alloc (.cells #[.int .i64 a0z0, .int .i64 a0z1, .int .i64 a0z2, .slice a0A3 a0n3 a0c3] 24)).alloc (.cells #[.int .i64 a1z0, .int .i64 a1z1, .int .i64 a1z2, .slice a1A3 a1n3 a1c3] 24))
  have Fa20 := Lib.hid (((rd_of_row ha2r0).alloc (.cells #[.int .i64 a0z0, .int .i64 a0z1, .int .i64 a0z2, .slice a0A3 a0n3 a0c3] 24)).alloc (.cells #[.int .i64 a1z0, .int .i64 a1z1, .int .i64 a1z2, .slice a1A3 a1n3 a1c3] 24))
  have Ba0 := Lib.hid ((boxed w #[.int .i64 a0z0, .int .i64 a0z1, .int .i64 a0z2, .slice a0A3 a0n3 a0c3] 24).alloc (.cells #[.int .i64 a1z0, .int .i64 a1z1, .int .i64 a1z2, .slice a1A3 a1n3 a1c3] 24))
  have Ba1 := Lib.hid (boxed_at (w.alloc (.cells #[.int .i64 a0z0, .int .i64 a0z1, .int .i64 a0z2, .slice a0A3 a0n3 a0c3] 24)) (w.heap.size + 1) (by simp) #[.int .i64 a1z0, .int .i64 a1z1, .int .i64 a1z2, .slice a1A3 a1n3 a1c3] 24)
  clear ha0r3 ha1r3 ha2r0
  go_enter Try.func6, Try.ntmps6
  go_wp2_with fail
  refine (sz_Table ha0m3 (by omega) (by omega)).mono ?_; rintro e w1 ⟨rfl, hb⟩
  replace FB := Lib.hid (FB.out.b hb)
  replace Fa03 := Lib.hid (Fa03.out.b hb)
  replace Fa13 := Lib.hid (Fa13.out.b hb)
  replace Fa20 := Lib.hid (Fa20.out.b hb)
  replace Ba0 := Lib.hid (Ba0.out.b hb)
  replace Ba1 := Lib.hid (Ba1.out.b hb)
  have z_w1 : w.heap.size + 2 ≤ w1.heap.size := by have hsz := hb.size; first | omega | (simp at hsz; omega)
  clear hb
  by_cases hZ_a0 : ((a0n3 : Nat) : Int) ≤ (1048576 : Int)
  rotate_left
  · rw [szv_no hZ_a0]
    go_wp2_with fail
    go_ret
    exact ⟨rfl, FB.out.now⟩
  rw [szv_yes hZ_a0]
  have hL_a0 : ¬ (((1048576 : Int) - (((a0n3 : Nat) : Int))) < 0) := by omega
  have c_Ba0_0 := Ba0.out.now 0 _ rfl
  have c_Ba0_1 := Ba0.out.now 1 _ rfl
  have c_Ba0_2 := Ba0.out.now 2 _ rfl
  have c_Ba0_3 := Ba0.out.now 3 _ rfl
  have c_Ba1_0 := Ba1.out.now 0 _ rfl
  have c_Ba1_1 := Ba1.out.now 1 _ rfl
  have c_Ba1_2 := Ba1.out.now 2 _ rfl
  have c_Ba1_3 := Ba1.out.now 3 _ rfl
  go_wp2_with fail
  refine (sz_Table ha1m3 (by omega) (by omega)).mono ?_; rintro e w2 ⟨rfl, hb⟩
  replace FB := Lib.hid (FB.out.b hb)
  replace Fa03 := Lib.hid (Fa03.out.b hb)
  replace Fa13 := Lib.hid (Fa13.out.b hb)
  replace Fa20 := Lib.hid (Fa20.out.b hb)
  replace Ba0 := Lib.hid (Ba0.out.b hb)
  replace Ba1 := Lib.hid (Ba1.out.b hb)
  have z_w2 : w1.heap.size ≤ w2.heap.size := by have hsz := hb.size; first | omega | (simp at hsz; omega)
  clear c_Ba0_0 c_Ba0_1 c_Ba0_2 c_Ba0_3 c_Ba1_0 c_Ba1_1 c_Ba1_2 c_Ba1_3
  clear hb
  by_cases hZ_a1 : ((a1n3 : Nat) : Int) ≤ ((1048576 : Int) - (((a0n3 : Nat) : Int)))
  rotate_left
  · rw [szv_no hZ_a1]
    go_wp2_with fail
    go_ret
    exact ⟨rfl, FB.out.now⟩
  rw [szv_yes hZ_a1]
  have hL_a1 : ¬ ((((1048576 : Int) - (((a0n3 : Nat) : Int))) - (((a1n3 : Nat) : Int))) < 0) := by omega
  have c_Ba0_0 := Ba0.out.now 0 _ rfl
  have c_Ba0_1 := Ba0.out.now 1 _ rfl
  have c_Ba0_2 := Ba0.out.now 2 _ rfl
  have c_Ba0_3 := Ba0.out.now 3 _ rfl
  have c_Ba1_0 := Ba1.out.now 0 _ rfl
  have c_Ba1_1 := Ba1.out.now 1 _ rfl
  have c_Ba1_2 := Ba1.out.now 2 _ rfl
  have c_Ba1_3 := Ba1.out.now 3 _ rfl
  go_wp2_with fail
  refine (sz_StringS ha2m0 ha2s0 Fa20.out.row (by omega) (by omega)).mono ?_; rintro e w3 ⟨rfl, hb⟩
  replace FB := Lib.hid (FB.out.b hb)
  replace Fa03 := Lib.hid (Fa03.out.b hb)
  replace Fa13 := Lib.hid (Fa13.out.b hb)
  replace Fa20 := Lib.hid (Fa20.out.b hb)
  replace Ba0 := Lib.hid (Ba0.out.b hb)
  replace Ba1 := Lib.hid (Ba1.out.b hb)
  have z_w3 : w2.heap.size ≤ w3.heap.size := by have hsz := hb.size; first | omega | (simp at hsz; omega)
  clear c_Ba0_0 c_Ba0_1 c_Ba0_2 c_Ba0_3 c_Ba1_0 c_Ba1_1 c_Ba1_2 c_Ba1_3
  clear hb
  by_cases hZ_a2 : ((a2n0 + (sizeS a2X0 a2n0) : Nat) : Int) ≤ (((1048576 : Int) - (((a0n3 : Nat) : Int))) - (((a1n3 : Nat) : Int)))
  rotate_left
  · rw [szv_no hZ_a2]
    go_wp2_with fail
    go_ret
    exact ⟨rfl, FB.out.now⟩
  rw [szv_yes hZ_a2]
  have hL_a2 : ¬ (((((1048576 : Int) - (((a0n3 : Nat) : Int))) - (((a1n3 : Nat) : Int))) - (((a2n0 : Nat) : Int) + (((sizeS a2X0 a2n0) : Nat) : Int))) < 0) := by omega
  have c_Ba0_0 := Ba0.out.now 0 _ rfl
  have c_Ba0_1 := Ba0.out.now 1 _ rfl
  have c_Ba0_2 := Ba0.out.now 2 _ rfl
  have c_Ba0_3 := Ba0.out.now 3 _ rfl
  have c_Ba1_0 := Ba1.out.now 0 _ rfl
  have c_Ba1_1 := Ba1.out.now 1 _ rfl
  have c_Ba1_2 := Ba1.out.now 2 _ rfl
  have c_Ba1_3 := Ba1.out.now 3 _ rfl
  replace S1 := Lib.hid (S1.out (by omega))
  replace S2 := Lib.hid (S2.out (by omega))
  have ha0k3 : a0n3 ≤ 1048576 := by omega
  have ha1k3 : a1n3 ≤ 1048576 := by omega
  have ha2k0 : a2n0 ≤ 1048576 := by omega
  go_wp2_with fail
  go_region_held3 (fun w' => w'.cell? ⟨w.heap.size, 0, none⟩ = some (.int .i64 a0z0) ∧ w'.cell? ⟨w.heap.size, 1, none⟩ = some (.int .i64 a0z1) ∧ w'.cell? ⟨w.heap.size, 2, none⟩ = some (.int .i64 a0z2) ∧ w'.cell? ⟨w.heap.size, 3, none⟩ = some (.slice a0A3 a0n3 a0c3) ∧ w'.cell? ⟨w.heap.size + 1, 0, none⟩ = some (.int .i64 a1z0) ∧ w'.cell? ⟨w.heap.size + 1, 1, none⟩ = some (.int .i64 a1z1) ∧ w'.cell? ⟨w.heap.size + 1, 2, none⟩ = some (.int .i64 a1z2) ∧ w'.cell? ⟨w.heap.size + 1, 3, none⟩ = some (.slice a1A3 a1n3 a1c3))
    (first | (go_keep; done) | exact ⟨(((((Ba0.out.b hq1).b hq2).b hq3).b hq4)).now 0 _ rfl, (((((Ba0.out.b hq1).b hq2).b hq3).b hq4)).now 1 _ rfl, (((((Ba0.out.b hq1).b hq2).b hq3).b hq4)).now 2 _ rfl, (((((Ba0.out.b hq1).b hq2).b hq3).b hq4)).now 3 _ rfl, (((((Ba1.out.b hq1).b hq2).b hq3).b hq4)).now 0 _ rfl, (((((Ba1.out.b hq1).b hq2).b hq3).b hq4)).now 1 _ rfl, (((((Ba1.out.b hq1).b hq2).b hq3).b hq4)).now 2 _ rfl, (((((Ba1.out.b hq1).b hq2).b hq3).b hq4)).now 3 _ rfl⟩ | exact ⟨((((Ba0.out.b hq1).b hq2).b hq3)).now 0 _ rfl, ((((Ba0.out.b hq1).b hq2).b hq3)).now 1 _ rfl, ((((Ba0.out.b hq1).b hq2).b hq3)).now 2 _ rfl, ((((Ba0.out.b hq1).b hq2).b hq3)).now 3 _ rfl, ((((Ba1.out.b hq1).b hq2).b hq3)).now 0 _ rfl, ((((Ba1.out.b hq1).b hq2).b hq3)).now 1 _ rfl, ((((Ba1.out.b hq1).b hq2).b hq3)).now 2 _ rfl, ((((Ba1.out.b hq1).b hq2).b hq3)).now 3 _ rfl⟩ | exact ⟨(((Ba0.out.b hq1).b hq2)).now 0 _ rfl, (((Ba0.out.b hq1).b hq2)).now 1 _ rfl, (((Ba0.out.b hq1).b hq2)).now 2 _ rfl, (((Ba0.out.b hq1).b hq2)).now 3 _ rfl, (((Ba1.out.b hq1).b hq2)).now 0 _ rfl, (((Ba1.out.b hq1).b hq2)).now 1 _ rfl, (((Ba1.out.b hq1).b hq2)).now 2 _ rfl, (((Ba1.out.b hq1).b hq2)).now 3 _ rfl⟩ | exact ⟨((Ba0.out.b hq1)).now 0 _ rfl, ((Ba0.out.b hq1)).now 1 _ rfl, ((Ba0.out.b hq1)).now 2 _ rfl, ((Ba0.out.b hq1)).now 3 _ rfl, ((Ba1.out.b hq1)).now 0 _ rfl, ((Ba1.out.b hq1)).now 1 _ rfl, ((Ba1.out.b hq1)).now 2 _ rfl, ((Ba1.out.b hq1)).now 3 _ rfl⟩)
    (first
      | (have hqz := hq3; clear hqz; go_at_call 22; refine (S1.out _ _ _ _ _ _ _ ((hG_a03.b hq2).b hq3) (hG_a13.b hq3) hG_a20).mono ?_; rintro e w7 ⟨rfl, hq4⟩)
      | (have hqz := hq2; clear hqz; go_at_call 23; (first | refine (to_StringS ha2k0 (((Fa20.out.b hq1).b hq2)).row).mono ?_); rintro e w6 ⟨tma2A0, tma2c0, rfl, ho_a20, hq3⟩; have hG_a20 := (Ow.rd ho_a20).row (Nat.le_refl _); clear ho_a20)
      | (have hqz := hq1; clear hqz; go_at_call 12; (first | refine (to_Table ha1k3 ((Fa13.out.b hq1)).row).mono ?_); rintro e w5 ⟨tma1A3, tma1c3, rfl, ho_a13, hq2⟩; have hG_a13 := (Ow.rd ho_a13).row (Nat.le_refl _); clear ho_a13)
      | (go_at_call 12; (first | refine (to_Table ha0k3 (Fa03.out).row).mono ?_ | refine (to_Table ha0k3 (GRow.drew (Fa03.out).row)).mono ?_); rintro e w4 ⟨tma0A3, tma0c3, rfl, ho_a03, hq1'⟩; have hq1 := of_drew hq1'; clear hq1'; have hG_a03 := (Ow.rd ho_a03).row (Nat.le_refl _); clear ho_a03))
  replace FB := Lib.hid (FB.out.b hq1)
  replace Fa03 := Lib.hid (Fa03.out.b hq1)
  replace Fa13 := Lib.hid (Fa13.out.b hq1)
  replace Fa20 := Lib.hid (Fa20.out.b hq1)
  replace Ba0 := Lib.hid (Ba0.out.b hq1)
  replace Ba1 := Lib.hid (Ba1.out.b hq1)
  replace FB := Lib.hid (FB.out.b hq2)
  replace Fa03 := Lib.hid (Fa03.out.b hq2)
  replace Fa13 := Lib.hid (Fa13.out.b hq2)
  replace Fa20 := Lib.hid (Fa20.out.b hq2)
  replace Ba0 := Lib.hid (Ba0.out.b hq2)
  replace Ba1 := Lib.hid (Ba1.out.b hq2)
  replace FB := Lib.hid (FB.out.b hq3)
  replace Fa03 := Lib.hid (Fa03.out.b hq3)
  replace Fa13 := Lib.hid (Fa13.out.b hq3)
  replace Fa20 := Lib.hid (Fa20.out.b hq3)
  replace Ba0 := Lib.hid (Ba0.out.b hq3)
  replace Ba1 := Lib.hid (Ba1.out.b hq3)
  replace FB := Lib.hid (FB.out.b hq4)
  replace Fa03 := Lib.hid (Fa03.out.b hq4)
  replace Fa13 := Lib.hid (Fa13.out.b hq4)
  replace Fa20 := Lib.hid (Fa20.out.b hq4)
  replace Ba0 := Lib.hid (Ba0.out.b hq4)
  replace Ba1 := Lib.hid (Ba1.out.b hq4)
  have z_w4 : w3.heap.size ≤ w4.heap.size := by have hsz := hq1.size; first | omega | (simp at hsz; omega)
  have z_w5 : w4.heap.size ≤ w5.heap.size := by have hsz := hq2.size; first | omega | (simp at hsz; omega)
  have z_w6 : w5.heap.size ≤ w6.heap.size := by have hsz := hq3.size; first | omega | (simp at hsz; omega)
  have z_w7 : w6.heap.size ≤ w7.heap.size := by have hsz := hq4.size; first | omega | (simp at hsz; omega)
  clear c_Ba0_0 c_Ba0_1 c_Ba0_2 c_Ba0_3 c_Ba1_0 c_Ba1_1 c_Ba1_2 c_Ba1_3
  clear hq1 hq2 hq3 hq4 hG_a03 hG_a13 hG_a20 
  have c_Ba0_0 := Ba0.out.now 0 _ rfl
  have c_Ba0_1 := Ba0.out.now 1 _ rfl
  have c_Ba0_2 := Ba0.out.now 2 _ rfl
  have c_Ba0_3 := Ba0.out.now 3 _ rfl
  have c_Ba1_0 := Ba1.out.now 0 _ rfl
  have c_Ba1_1 := Ba1.out.now 1 _ rfl
  have c_Ba1_2 := Ba1.out.now 2 _ rfl
  have c_Ba1_3 := Ba1.out.now 3 _ rfl
  go_wp2_with fail
  refine (to_Table ha0k3 Fa03.out.row).mono ?_; rintro e w8 ⟨xa0A3, xa0c3, rfl, ho3, hb⟩
  replace FB := Lib.hid (FB.out.b hb)
  replace Fa03 := Lib.hid (Fa03.out.b hb)
  replace Fa13 := Lib.hid (Fa13.out.b hb)
  replace Fa20 := Lib.hid (Fa20.out.b hb)
  replace Ba0 := Lib.hid (Ba0.out.b hb)
  replace Ba1 := Lib.hid (Ba1.out.b hb)
  have z_w8 : w7.heap.size ≤ w8.heap.size := by have hsz := hb.size; first | omega | (simp at hsz; omega)
  clear c_Ba0_0 c_Ba0_1 c_Ba0_2 c_Ba0_3 c_Ba1_0 c_Ba1_1 c_Ba1_2 c_Ba1_3
  have Oxa03 := Lib.hid (owned (ho3.mono (lo' := w7.heap.size) (Nat.le_refl _) (Nat.le_refl _)))
  clear hb ho3
  replace FB := Lib.hid (FB.out.alloc (.cells #[.int .i64 a0z0, .int .i64 a0z1, .int .i64 a0z2, .slice xa0A3 a0n3 xa0c3] 27))
  replace Fa03 := Lib.hid (Fa03.out.alloc (.cells #[.int .i64 a0z0, .int .i64 a0z1, .int .i64 a0z2, .slice xa0A3 a0n3 xa0c3] 27))
  replace Fa13 := Lib.hid (Fa13.out.alloc (.cells #[.int .i64 a0z0, .int .i64 a0z1, .int .i64 a0z2, .slice xa0A3 a0n3 xa0c3] 27))
  replace Fa20 := Lib.hid (Fa20.out.alloc (.cells #[.int .i64 a0z0, .int .i64 a0z1, .int .i64 a0z2, .slice xa0A3 a0n3 xa0c3] 27))
  replace Ba0 := Lib.hid (Ba0.out.alloc (.cells #[.int .i64 a0z0, .int .i64 a0z1, .int .i64 a0z2, .slice xa0A3 a0n3 xa0c3] 27))
  replace Ba1 := Lib.hid (Ba1.out.alloc (.cells #[.int .i64 a0z0, .int .i64 a0z1, .int .i64 a0z2, .slice xa0A3 a0n3 xa0c3] 27))
  replace Oxa03 := Lib.hid (Oxa03.out.alloc (.cells #[.int .i64 a0z0, .int .i64 a0z1, .int .i64 a0z2, .slice xa0A3 a0n3 xa0c3] 27))
  have Yxa0 := Lib.hid (boxed w8 #[.int .i64 a0z0, .int .i64 a0z1, .int .i64 a0z2, .slice xa0A3 a0n3 xa0c3] 27)
  have c_Ba0_0 := Ba0.out.now 0 _ rfl
  have c_Ba0_1 := Ba0.out.now 1 _ rfl
  have c_Ba0_2 := Ba0.out.now 2 _ rfl
  have c_Ba0_3 := Ba0.out.now 3 _ rfl
  have c_Ba1_0 := Ba1.out.now 0 _ rfl
  have c_Ba1_1 := Ba1.out.now 1 _ rfl
  have c_Ba1_2 := Ba1.out.now 2 _ rfl
  have c_Ba1_3 := Ba1.out.now 3 _ rfl
  go_wp2_with fail
  refine (to_Table ha1k3 Fa13.out.row).mono ?_; rintro e w9 ⟨xa1A3, xa1c3, rfl, ho3, hb⟩
  replace FB := Lib.hid (FB.out.b hb)
  replace Fa03 := Lib.hid (Fa03.out.b hb)
  replace Fa13 := Lib.hid (Fa13.out.b hb)
  replace Fa20 := Lib.hid (Fa20.out.b hb)
  replace Ba0 := Lib.hid (Ba0.out.b hb)
  replace Ba1 := Lib.hid (Ba1.out.b hb)
  replace Oxa03 := Lib.hid (Oxa03.out.b hb)
  replace Yxa0 := Lib.hid (Yxa0.out.b hb)
  have z_w9 : w8.heap.size + 1 ≤ w9.heap.size := by have hsz := hb.size; first | omega | (simp at hsz; omega)
  clear c_Ba0_0 c_Ba0_1 c_Ba0_2 c_Ba0_3 c_Ba1_0 c_Ba1_1 c_Ba1_2 c_Ba1_3
  have Oxa13 := Lib.hid (owned (ho3.mono (lo' := w8.heap.size + 1) (by simp) (Nat.le_refl _)))
  clear hb ho3
  replace FB := Lib.hid (FB.out.alloc (.cells #[.int .i64 a1z0, .int .i64 a1z1, .int .i64 a1z2, .slice xa1A3 a1n3 xa1c3] 27))
  replace Fa03 := Lib.hid (Fa03.out.alloc (.cells #[.int .i64 a1z0, .int .i64 a1z1, .int .i64 a1z2, .slice xa1A3 a1n3 xa1c3] 27))
  replace Fa13 := Lib.hid (Fa13.out.alloc (.cells #[.int .i64 a1z0, .int .i64 a1z1, .int .i64 a1z2, .slice xa1A3 a1n3 xa1c3] 27))
  replace Fa20 := Lib.hid (Fa20.out.alloc (.cells #[.int .i64 a1z0, .int .i64 a1z1, .int .i64 a1z2, .slice xa1A3 a1n3 xa1c3] 27))
  replace Ba0 := Lib.hid (Ba0.out.alloc (.cells #[.int .i64 a1z0, .int .i64 a1z1, .int .i64 a1z2, .slice xa1A3 a1n3 xa1c3] 27))
  replace Ba1 := Lib.hid (Ba1.out.alloc (.cells #[.int .i64 a1z0, .int .i64 a1z1, .int .i64 a1z2, .slice xa1A3 a1n3 xa1c3] 27))
  replace Oxa03 := Lib.hid (Oxa03.out.alloc (.cells #[.int .i64 a1z0, .int .i64 a1z1, .int .i64 a1z2, .slice xa1A3 a1n3 xa1c3] 27))
  replace Yxa0 := Lib.hid (Yxa0.out.alloc (.cells #[.int .i64 a1z0, .int .i64 a1z1, .int .i64 a1z2, .slice xa1A3 a1n3 xa1c3] 27))
  replace Oxa13 := Lib.hid (Oxa13.out.alloc (.cells #[.int .i64 a1z0, .int .i64 a1z1, .int .i64 a1z2, .slice xa1A3 a1n3 xa1c3] 27))
  have Yxa1 := Lib.hid (boxed w9 #[.int .i64 a1z0, .int .i64 a1z1, .int .i64 a1z2, .slice xa1A3 a1n3 xa1c3] 27)
  have c_Ba0_0 := Ba0.out.now 0 _ rfl
  have c_Ba0_1 := Ba0.out.now 1 _ rfl
  have c_Ba0_2 := Ba0.out.now 2 _ rfl
  have c_Ba0_3 := Ba0.out.now 3 _ rfl
  have c_Ba1_0 := Ba1.out.now 0 _ rfl
  have c_Ba1_1 := Ba1.out.now 1 _ rfl
  have c_Ba1_2 := Ba1.out.now 2 _ rfl
  have c_Ba1_3 := Ba1.out.now 3 _ rfl
  go_wp2_with fail
  refine (to_StringS ha2k0 Fa20.out.row).mono ?_; rintro e w10 ⟨xa2A0, xa2c0, rfl, ho0, hb⟩
  replace FB := Lib.hid (FB.out.b hb)
  replace Fa03 := Lib.hid (Fa03.out.b hb)
  replace Fa13 := Lib.hid (Fa13.out.b hb)
  replace Fa20 := Lib.hid (Fa20.out.b hb)
  replace Ba0 := Lib.hid (Ba0.out.b hb)
  replace Ba1 := Lib.hid (Ba1.out.b hb)
  replace Oxa03 := Lib.hid (Oxa03.out.b hb)
  replace Yxa0 := Lib.hid (Yxa0.out.b hb)
  replace Oxa13 := Lib.hid (Oxa13.out.b hb)
  replace Yxa1 := Lib.hid (Yxa1.out.b hb)
  have z_w10 : w9.heap.size + 1 ≤ w10.heap.size := by have hsz := hb.size; first | omega | (simp at hsz; omega)
  clear c_Ba0_0 c_Ba0_1 c_Ba0_2 c_Ba0_3 c_Ba1_0 c_Ba1_1 c_Ba1_2 c_Ba1_3
  have Oxa20 := Lib.hid (owned (ho0.mono (lo' := w9.heap.size + 1) (by simp) (Nat.le_refl _)))
  clear hb ho0
  have c_Yxa0_0 := Yxa0.out.now 0 _ rfl
  have c_Yxa0_1 := Yxa0.out.now 1 _ rfl
  have c_Yxa0_2 := Yxa0.out.now 2 _ rfl
  have c_Yxa0_3 := Yxa0.out.now 3 _ rfl
  have c_Yxa1_0 := Yxa1.out.now 0 _ rfl
  have c_Yxa1_1 := Yxa1.out.now 1 _ rfl
  have c_Yxa1_2 := Yxa1.out.now 2 _ rfl
  have c_Yxa1_3 := Yxa1.out.now 3 _ rfl
  go_wp2_with fail
  refine (S2.out _ _ _ _ _ _ _ Oxa03.out.orow Oxa13.out.orow Oxa20.out.orow).mono ?_; rintro e w11 ⟨rfl, hb⟩
  replace FB := Lib.hid (FB.out.b hb)
  replace Fa03 := Lib.hid (Fa03.out.b hb)
  replace Fa13 := Lib.hid (Fa13.out.b hb)
  replace Fa20 := Lib.hid (Fa20.out.b hb)
  replace Ba0 := Lib.hid (Ba0.out.b hb)
  replace Ba1 := Lib.hid (Ba1.out.b hb)
  replace Oxa03 := Lib.hid (Oxa03.out.b hb)
  replace Yxa0 := Lib.hid (Yxa0.out.b hb)
  replace Oxa13 := Lib.hid (Oxa13.out.b hb)
  replace Yxa1 := Lib.hid (Yxa1.out.b hb)
  replace Oxa20 := Lib.hid (Oxa20.out.b hb)
  have z_w11 : w10.heap.size ≤ w11.heap.size := by have hsz := hb.size; first | omega | (simp at hsz; omega)
  clear c_Yxa0_0 c_Yxa0_1 c_Yxa0_2 c_Yxa0_3 c_Yxa1_0 c_Yxa1_1 c_Yxa1_2 c_Yxa1_3
  clear hb 
  have c_Ba0_0 := Ba0.out.now 0 _ rfl
  have c_Ba0_1 := Ba0.out.now 1 _ rfl
  have c_Ba0_2 := Ba0.out.now 2 _ rfl
  have c_Ba0_3 := Ba0.out.now 3 _ rfl
  have c_Yxa0_0 := Yxa0.out.now 0 _ rfl
  have c_Yxa0_1 := Yxa0.out.now 1 _ rfl
  have c_Yxa0_2 := Yxa0.out.now 2 _ rfl
  have c_Yxa0_3 := Yxa0.out.now 3 _ rfl
  go_wp2_with fail
  go_region_held3 (fun w' => w'.cell? ⟨w.heap.size, 0, none⟩ = some (.int .i64 a0z0) ∧ w'.cell? ⟨w.heap.size, 1, none⟩ = some (.int .i64 a0z1) ∧ w'.cell? ⟨w.heap.size, 2, none⟩ = some (.int .i64 a0z2) ∧ w'.cell? ⟨w.heap.size, 3, none⟩ = some (.slice a0A3 a0n3 a0c3) ∧ w'.cell? ⟨w8.heap.size, 0, none⟩ = some (.int .i64 a0z0) ∧ w'.cell? ⟨w8.heap.size, 1, none⟩ = some (.int .i64 a0z1) ∧ w'.cell? ⟨w8.heap.size, 2, none⟩ = some (.int .i64 a0z2) ∧ w'.cell? ⟨w8.heap.size, 3, none⟩ = some (.slice xa0A3 a0n3 xa0c3))
    (first | (go_keep; done) | exact ⟨(((Ba0.out.b hq1).b hq2)).now 0 _ rfl, (((Ba0.out.b hq1).b hq2)).now 1 _ rfl, (((Ba0.out.b hq1).b hq2)).now 2 _ rfl, (((Ba0.out.b hq1).b hq2)).now 3 _ rfl, (((Yxa0.out.b hq1).b hq2)).now 0 _ rfl, (((Yxa0.out.b hq1).b hq2)).now 1 _ rfl, (((Yxa0.out.b hq1).b hq2)).now 2 _ rfl, (((Yxa0.out.b hq1).b hq2)).now 3 _ rfl⟩ | exact ⟨((Ba0.out.b hq1)).now 0 _ rfl, ((Ba0.out.b hq1)).now 1 _ rfl, ((Ba0.out.b hq1)).now 2 _ rfl, ((Ba0.out.b hq1)).now 3 _ rfl, ((Yxa0.out.b hq1)).now 0 _ rfl, ((Yxa0.out.b hq1)).now 1 _ rfl, ((Yxa0.out.b hq1)).now 2 _ rfl, ((Yxa0.out.b hq1)).now 3 _ rfl⟩)
    (first
      | (have hqz := hq1; clear hqz; go_at_call 14; (first | refine (eq_Table ha0k3 ((Oxa03.out.b hq1)).orow (owned ho3).orow).mono ?_); rintro e w13 ⟨rfl, hq2⟩)
      | (go_at_call 12; (first | refine (to_Table ha0k3 (Fa03.out).row).mono ?_ | refine (to_Table ha0k3 (GRow.drew (Fa03.out).row)).mono ?_); rintro e w12 ⟨ya0A3, ya0c3, rfl, ho3, hq1'⟩; have hq1 := of_drew hq1'; clear hq1'))
  replace FB := Lib.hid (FB.out.b hq1)
  replace Fa03 := Lib.hid (Fa03.out.b hq1)
  replace Fa13 := Lib.hid (Fa13.out.b hq1)
  replace Fa20 := Lib.hid (Fa20.out.b hq1)
  replace Ba0 := Lib.hid (Ba0.out.b hq1)
  replace Ba1 := Lib.hid (Ba1.out.b hq1)
  replace Oxa03 := Lib.hid (Oxa03.out.b hq1)
  replace Yxa0 := Lib.hid (Yxa0.out.b hq1)
  replace Oxa13 := Lib.hid (Oxa13.out.b hq1)
  replace Yxa1 := Lib.hid (Yxa1.out.b hq1)
  replace Oxa20 := Lib.hid (Oxa20.out.b hq1)
  replace FB := Lib.hid (FB.out.b hq2)
  replace Fa03 := Lib.hid (Fa03.out.b hq2)
  replace Fa13 := Lib.hid (Fa13.out.b hq2)
  replace Fa20 := Lib.hid (Fa20.out.b hq2)
  replace Ba0 := Lib.hid (Ba0.out.b hq2)
  replace Ba1 := Lib.hid (Ba1.out.b hq2)
  replace Oxa03 := Lib.hid (Oxa03.out.b hq2)
  replace Yxa0 := Lib.hid (Yxa0.out.b hq2)
  replace Oxa13 := Lib.hid (Oxa13.out.b hq2)
  replace Yxa1 := Lib.hid (Yxa1.out.b hq2)
  replace Oxa20 := Lib.hid (Oxa20.out.b hq2)
  have z_w12 : w11.heap.size ≤ w12.heap.size := by have hsz := hq1.size; first | omega | (simp at hsz; omega)
  have z_w13 : w12.heap.size ≤ w13.heap.size := hq2.size
  clear c_Ba0_0 c_Ba0_1 c_Ba0_2 c_Ba0_3 c_Yxa0_0 c_Yxa0_1 c_Yxa0_2 c_Yxa0_3
  clear hq1 hq2 ho3
  have c_Ba1_0 := Ba1.out.now 0 _ rfl
  have c_Ba1_1 := Ba1.out.now 1 _ rfl
  have c_Ba1_2 := Ba1.out.now 2 _ rfl
  have c_Ba1_3 := Ba1.out.now 3 _ rfl
  have c_Yxa1_0 := Yxa1.out.now 0 _ rfl
  have c_Yxa1_1 := Yxa1.out.now 1 _ rfl
  have c_Yxa1_2 := Yxa1.out.now 2 _ rfl
  have c_Yxa1_3 := Yxa1.out.now 3 _ rfl
  go_wp2_with fail
  go_region_held3 (fun w' => w'.cell? ⟨w.heap.size + 1, 0, none⟩ = some (.int .i64 a1z0) ∧ w'.cell? ⟨w.heap.size + 1, 1, none⟩ = some (.int .i64 a1z1) ∧ w'.cell? ⟨w.heap.size + 1, 2, none⟩ = some (.int .i64 a1z2) ∧ w'.cell? ⟨w.heap.size + 1, 3, none⟩ = some (.slice a1A3 a1n3 a1c3) ∧ w'.cell? ⟨w9.heap.size, 0, none⟩ = some (.int .i64 a1z0) ∧ w'.cell? ⟨w9.heap.size, 1, none⟩ = some (.int .i64 a1z1) ∧ w'.cell? ⟨w9.heap.size, 2, none⟩ = some (.int .i64 a1z2) ∧ w'.cell? ⟨w9.heap.size, 3, none⟩ = some (.slice xa1A3 a1n3 xa1c3))
    (first | (go_keep; done) | exact ⟨(((Ba1.out.b hq1).b hq2)).now 0 _ rfl, (((Ba1.out.b hq1).b hq2)).now 1 _ rfl, (((Ba1.out.b hq1).b hq2)).now 2 _ rfl, (((Ba1.out.b hq1).b hq2)).now 3 _ rfl, (((Yxa1.out.b hq1).b hq2)).now 0 _ rfl, (((Yxa1.out.b hq1).b hq2)).now 1 _ rfl, (((Yxa1.out.b hq1).b hq2)).now 2 _ rfl, (((Yxa1.out.b hq1).b hq2)).now 3 _ rfl⟩ | exact ⟨((Ba1.out.b hq1)).now 0 _ rfl, ((Ba1.out.b hq1)).now 1 _ rfl, ((Ba1.out.b hq1)).now 2 _ rfl, ((Ba1.out.b hq1)).now 3 _ rfl, ((Yxa1.out.b hq1)).now 0 _ rfl, ((Yxa1.out.b hq1)).now 1 _ rfl, ((Yxa1.out.b hq1)).now 2 _ rfl, ((Yxa1.out.b hq1)).now 3 _ rfl⟩)
    (first
      | (have hqz := hq1; clear hqz; go_at_call 14; (first | refine (eq_Table ha1k3 ((Oxa13.out.b hq1)).orow (owned ho3).orow).mono ?_); rintro e w15 ⟨rfl, hq2⟩)
      | (go_at_call 12; (first | refine (to_Table ha1k3 (Fa13.out).row).mono ?_ | refine (to_Table ha1k3 (GRow.drew (Fa13.out).row)).mono ?_); rintro e w14 ⟨ya1A3, ya1c3, rfl, ho3, hq1'⟩; have hq1 := of_drew hq1'; clear hq1'))
  replace FB := Lib.hid (FB.out.b hq1)
  replace Fa03 := Lib.hid (Fa03.out.b hq1)
  replace Fa13 := Lib.hid (Fa13.out.b hq1)
  replace Fa20 := Lib.hid (Fa20.out.b hq1)
  replace Ba0 := Lib.hid (Ba0.out.b hq1)
  replace Ba1 := Lib.hid (Ba1.out.b hq1)
  replace Oxa03 := Lib.hid (Oxa03.out.b hq1)
  replace Yxa0 := Lib.hid (Yxa0.out.b hq1)
  replace Oxa13 := Lib.hid (Oxa13.out.b hq1)
  replace Yxa1 := Lib.hid (Yxa1.out.b hq1)
  replace Oxa20 := Lib.hid (Oxa20.out.b hq1)
  replace FB := Lib.hid (FB.out.b hq2)
  replace Fa03 := Lib.hid (Fa03.out.b hq2)
  replace Fa13 := Lib.hid (Fa13.out.b hq2)
  replace Fa20 := Lib.hid (Fa20.out.b hq2)
  replace Ba0 := Lib.hid (Ba0.out.b hq2)
  replace Ba1 := Lib.hid (Ba1.out.b hq2)
  replace Oxa03 := Lib.hid (Oxa03.out.b hq2)
  replace Yxa0 := Lib.hid (Yxa0.out.b hq2)
  replace Oxa13 := Lib.hid (Oxa13.out.b hq2)
  replace Yxa1 := Lib.hid (Yxa1.out.b hq2)
  replace Oxa20 := Lib.hid (Oxa20.out.b hq2)
  have z_w14 : w13.heap.size ≤ w14.heap.size := by have hsz := hq1.size; first | omega | (simp at hsz; omega)
  have z_w15 : w14.heap.size ≤ w15.heap.size := hq2.size
  clear c_Ba1_0 c_Ba1_1 c_Ba1_2 c_Ba1_3 c_Yxa1_0 c_Yxa1_1 c_Yxa1_2 c_Yxa1_3
  clear hq1 hq2 ho3
  go_wp2_with fail
  refine (to_StringS ha2k0 Fa20.out.row).mono ?_; rintro e w16 ⟨ya2A0, ya2c0, rfl, ho0, hb⟩
  replace FB := Lib.hid (FB.out.b hb)
  replace Fa03 := Lib.hid (Fa03.out.b hb)
  replace Fa13 := Lib.hid (Fa13.out.b hb)
  replace Fa20 := Lib.hid (Fa20.out.b hb)
  replace Ba0 := Lib.hid (Ba0.out.b hb)
  replace Ba1 := Lib.hid (Ba1.out.b hb)
  replace Oxa03 := Lib.hid (Oxa03.out.b hb)
  replace Yxa0 := Lib.hid (Yxa0.out.b hb)
  replace Oxa13 := Lib.hid (Oxa13.out.b hb)
  replace Yxa1 := Lib.hid (Yxa1.out.b hb)
  replace Oxa20 := Lib.hid (Oxa20.out.b hb)
  have z_w16 : w15.heap.size ≤ w16.heap.size := by have hsz := hb.size; first | omega | (simp at hsz; omega)
  have Oya20 := Lib.hid (owned (ho0.mono (lo' := w15.heap.size) (Nat.le_refl _) (Nat.le_refl _)))
  clear hb ho0
  go_wp2_with fail
  refine (eq_StringS ha2k0 Oxa20.out.orow Oya20.out.orow).mono ?_; rintro e w17 ⟨rfl, hb⟩
  replace FB := Lib.hid (FB.out.b hb)
  replace Fa03 := Lib.hid (Fa03.out.b hb)
  replace Fa13 := Lib.hid (Fa13.out.b hb)
  replace Fa20 := Lib.hid (Fa20.out.b hb)
  replace Ba0 := Lib.hid (Ba0.out.b hb)
  replace Ba1 := Lib.hid (Ba1.out.b hb)
  replace Oxa03 := Lib.hid (Oxa03.out.b hb)
  replace Yxa0 := Lib.hid (Yxa0.out.b hb)
  replace Oxa13 := Lib.hid (Oxa13.out.b hb)
  replace Yxa1 := Lib.hid (Yxa1.out.b hb)
  replace Oxa20 := Lib.hid (Oxa20.out.b hb)
  replace Oya20 := Lib.hid (Oya20.out.b hb)
  have z_w17 : w16.heap.size ≤ w17.heap.size := by have hsz := hb.size; first | omega | (simp at hsz; omega)
  clear hb
  clear Oya20
  go_wp2_with fail
  go_ret
  exact ⟨rfl, FB.out.now⟩
theorem walk_FnExactFirstDifference (w : World) (z0 : Int) (_wz0 : (Lit.int .i64 z0).wf = true) (z1 : Int) (_wz1 : (Lit.int .i64 z1).wf = true) (z2 : Int) (_wz2 : (Lit.int .i64 z2).wf = true) (A : Option Addr) (n c : Nat) (X : Nat → Int) (hm : n ≤ maxLen) (hr : IRow w A n X) (y0 : Int) (_wy0 : (Lit.int .i64 y0).wf = true) (y1 : Int) (_wy1 : (Lit.int .i64 y1).wf = true) (y2 : Int) (_wy2 : (Lit.int .i64 y2).wf = true) (B : Option Addr) (m d : Nat) (Y : Nat → Int) (hm2 : m ≤ maxLen) (hr2 : IRow w B m Y) (K : Option Addr) (k kc : Nat) (S : Nat → ByteArray) (hm3 : k ≤ maxLen) (hr3 : SRow w K k S) :
    Calls Try.prog 6 #[.agg #[.int .i64 z0, .int .i64 z1, .int .i64 z2, .slice A n c], .agg #[.int .i64 y0, .int .i64 y1, .int .i64 y2, .slice B m d], .slice K k kc] w fun e w' => e = .returned (.bool true) ∧ Below w.heap.size w w' := by
  by_cases hR : DfOk z0 z1 z2 n X y0 y1 y2 m Y k S
  · obtain ⟨g, rfl⟩ : ∃ q : Nat, z1 = q := ⟨z1.toNat, by have := hR.1.2.1; omega⟩
    obtain ⟨v, rfl⟩ : ∃ q : Nat, z2 = q := ⟨z2.toNat, by have := hR.1.2.2.1; omega⟩
    obtain ⟨h, rfl⟩ : ∃ q : Nat, y1 = q := ⟨y1.toNat, by have := hR.2.1.2.1; omega⟩
    obtain ⟨x, rfl⟩ : ∃ q : Nat, y2 = q := ⟨y2.toNat, by have := hR.2.1.2.2.1; omega⟩
    have hx := find_ex (DifK z0 g X y0 h Y S) 0 k
    rw [Int.zero_add] at hx
    rcases hx with ⟨q, h1, h2, h3, h4⟩ | hN
    · exact main_FnExactFirstDifference z0 g v n X y0 h x m Y k S q true A c B d K kc w hm hr hm2 hr2 hm3 hr3.grow hr3.size
        (fun hn _ _ _ _ _ _ w g1 g2 g3 => (spec_firstDif (by omega) (by omega) (by omega) hr3.size g1 g2 g3 hR).mono fun e w' hf => (find_det hf).1 q h1 h2 h3 h4)
        (fun hn _ _ _ _ _ _ w g1 g2 g3 => (impl_firstDif (by omega) (by omega) (by omega) hr3.size g1 g2 g3 hR).mono fun e w' hf => (find_det hf).1 q h1 h2 h3 h4)
    · exact main_FnExactFirstDifference z0 g v n X y0 h x m Y k S 0 false A c B d K kc w hm hr hm2 hr2 hm3 hr3.grow hr3.size
        (fun hn _ _ _ _ _ _ w g1 g2 g3 => (spec_firstDif (by omega) (by omega) (by omega) hr3.size g1 g2 g3 hR).mono fun e w' hf => (find_det hf).2 hN)
        (fun hn _ _ _ _ _ _ w g1 g2 g3 => (impl_firstDif (by omega) (by omega) (by omega) hr3.size g1 g2 g3 hR).mono fun e w' hf => (find_det hf).2 hN)
  · exact main_FnExactFirstDifference z0 z1 z2 n X y0 y1 y2 m Y k S 0 false A c B d K kc w hm hr hm2 hr2 hm3 hr3.grow hr3.size
      (fun hn _ _ _ _ _ _ w g1 g2 g3 => spec_firstDif_no (by omega) (by omega) (by omega) hr3.size g1 g2 g3 hR)
      (fun hn _ _ _ _ _ _ w g1 g2 g3 => impl_firstDif_no (by omega) (by omega) (by omega) hr3.size g1 g2 g3 hR)
end Go.Proofs.Ytijlpbcgkecinab
