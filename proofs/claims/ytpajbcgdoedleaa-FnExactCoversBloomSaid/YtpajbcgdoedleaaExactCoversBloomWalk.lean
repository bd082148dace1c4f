/- The law of CoversBloom, walked: what both sides answer comes in as hypotheses. -/
import Derived.Test.YtpajbcgdoedleaaObjBl
import Derived.Test.YtpajbcgdoedleaaBlU
import Derived.Deep.RegionHeld3
namespace Go.Proofs.Ytpajbcgdoedleaa
open Go.RowKit

set_option maxRecDepth 100000 in
set_option maxHeartbeats 8000000 in
theorem main_FnExactCoversBloom (a0z0 : Int) (a0z1 : Int) (a0z2 : Int) (a0n3 : Nat) (a0X3 : Nat → Int) (a1z0 : Int) (a1z1 : Int) (a1z2 : Int) (a1n3 : Nat) (a1X3 : Nat → Int) (r0z0 : Bool) (r1z0 : Bool) (a0A3 : Option Addr) (a0c3 : Nat) (a1A3 : Option Addr) (a1c3 : Nat) (w : World) (ha0m3 : a0n3 ≤ maxLen) (ha0r3 : GRow w a0A3 a0n3 (intV a0X3)) (ha1m3 : a1n3 ≤ maxLen) (ha1r3 : GRow w a1A3 a1n3 (intV a1X3))
    (s1 : a0n3 + a1n3 ≤ 1048576 → ∀ (ua0A3 : Option Addr) (ua0c3 : Nat) (ua1A3 : Option Addr) (ua1c3 : Nat) (w : World), GRow w ua0A3 a0n3 (intV a0X3) → GRow w ua1A3 a1n3 (intV a1X3) → Calls Try.prog 40 #[.agg #[.int .i64 a0z0, .int .i64 a0z1, .int .i64 a0z2, .slice ua0A3 a0n3 ua0c3], .agg #[.int .i64 a1z0, .int .i64 a1z1, .int .i64 a1z2, .slice ua1A3 a1n3 ua1c3]] w fun e w' => e = .returned (.tuple #[.bool r0z0, .bool r1z0]) ∧ Below w.heap.size w w')
    (s2 : a0n3 + a1n3 ≤ 1048576 → ∀ (ua0A3 : Option Addr) (ua0c3 : Nat) (ua1A3 : Option Addr) (ua1c3 : Nat) (w : World), GRow w ua0A3 a0n3 (intV a0X3) → GRow w ua1A3 a1n3 (intV a1X3) → Calls Try.prog 41 #[.agg #[.int .i64 a0z0, .int .i64 a0z1, .int .i64 a0z2, .slice ua0A3 a0n3 ua0c3], .agg #[.int .i64 a1z0, .int .i64 a1z1, .int .i64 a1z2, .slice ua1A3 a1n3 ua1c3]] w fun e w' => e = .returned (.tuple #[.bool r0z0, .bool r1z0]) ∧ Below w.heap.size w w') :
    Calls Try.prog 10 #[.agg #[.int .i64 a0z0, .int .i64 a0z1, .int .i64 a0z2, .slice a0A3 a0n3 a0c3], .agg #[.int .i64 a1z0, .int .i64 a1z1, .int .i64 a1z2, .slice a1A3 a1n3 a1c3]] w fun e w' => e = .returned (.bool true) ∧ Below w.heap.size w w' := by
  have S1 := Lib.hid s1
  have S2 := Lib.hid s2
  clear s1 s2
  have FB := Lib.hid (((At.start w).alloc (.cells #[.int .i64 a0z0, .int .i64 a0z1, .int .i64 a0z2, .slice a0A3 a0n3 a0c3] 26)).alloc (.cells #[.int .i64 a1z0, .int .i64 a1z1, .int .i64 a1z2, .slice a1A3 a1n3 a1c3] 26))
  have Fa03 := Lib.hid (((rd_of_row ha0r3).alloc (.cells #[.int .i64 a0z0, .int .i64 a0z1, .int .i64 a0z2, .slice a0A3 a0n3 a0c3] 26)).alloc (.cells #[.int .i64 a1z0, .int .i64 a1z1, .int .i64 a1z2, .slice a1A3 a1n3 a1c3] 26))
  have Fa13 := Lib.hid (((rd_of_row ha1r3).alloc (.cells #[.int .i64 a0z0, .int .i64 a0z1, .int .i64 a0z2, .slice a0A3 a0n3 a0c3] 26)).alloc (.cells #[.int .i64 a1z0, .int .i64 a1z1, .int .i64 a1z2, .slice a1A3 a1n3 a1c3] 26))
  have Ba0 := Lib.hid ((boxed w #[.int .i64 a0z0, .int .i64 a0z1, .int .i64 a0z2, .slice a0A3 a0n3 a0c3] 26).alloc (.cells #[.int .i64 a1z0, .int .i64 a1z1, .int .i64 a1z2, .slice a1A3 a1n3 a1c3] 26))
  have Ba1 := Lib.hid (boxed_at (w.alloc (.cells #[.int .i64 a0z0, .int .i64 a0z1, .int .i64 a0z2, .slice a0A3 a0n3 a0c3] 26)) (w.heap.size + 1) (by simp) #[.int .i64 a1z0, .int .i64 a1z1, .int .i64 a1z2, .slice a1A3 a1n3 a1c3] 26)
  clear ha0r3 ha1r3
  go_enter Try.func10, Try.ntmps10
  go_wp2_with fail
  refine (sz_Bloom ha0m3 (by omega) (by omega)).mono ?_; rintro e w1 ⟨rfl, hb⟩
  replace FB := Lib.hid (FB.out.b hb)
  replace Fa03 := Lib.hid (Fa03.out.b hb)
  replace Fa13 := Lib.hid (Fa13.out.b hb)
  replace Ba0 := Lib.hid (Ba0.out.b hb)
  replace Ba1 := Lib.hid (Ba1.out.b hb)
  have z_w1 : w.heap.size + 2 ≤ w1.heap.size := by have hsz := hb.size; first | omega | (simp at hsz; omega)
  clear hb
  by_cases hZ_a0 : ((a0n3 : Nat) : Int) ≤ (1048576 : Int)
  rotate_left
  · rw [szv_no hZ_a0]
    go_wp2_with fail
    go_ret
    exact ⟨rfl, FB.out.now⟩
  rw [szv_yes hZ_a0]
  have hL_a0 : ¬ (((1048576 : Int) - (((a0n3 : Nat) : Int))) < 0) := by omega
  have c_Ba0_0 := Ba0.out.now 0 _ rfl
  have c_Ba0_1 := Ba0.out.now 1 _ rfl
  have c_Ba0_2 := Ba0.out.now 2 _ rfl
  have c_Ba0_3 := Ba0.out.now 3 _ rfl
  have c_Ba1_0 := Ba1.out.now 0 _ rfl
  have c_Ba1_1 := Ba1.out.now 1 _ rfl
  have c_Ba1_2 := Ba1.out.now 2 _ rfl
  have c_Ba1_3 := Ba1.out.now 3 _ rfl
  go_wp2_with fail
  refine (sz_Bloom ha1m3 (by omega) (by omega)).mono ?_; rintro e w2 ⟨rfl, hb⟩
  replace FB := Lib.hid (FB.out.b hb)
  replace Fa03 := Lib.hid (Fa03.out.b hb)
  replace Fa13 := Lib.hid (Fa13.out.b hb)
  replace Ba0 := Lib.hid (Ba0.out.b hb)
  replace Ba1 := Lib.hid (Ba1.out.b hb)
  have z_w2 : w1.heap.size ≤ w2.heap.size := by have hsz := hb.size; first | omega | (simp at hsz; omega)
  clear c_Ba0_0 c_Ba0_1 c_Ba0_2 c_Ba0_3 c_Ba1_0 c_Ba1_1 c_Ba1_2 c_Ba1_3
  clear hb
  by_cases hZ_a1 : ((a1n3 : Nat) : Int) ≤ ((1048576 : Int) - (((a0n3 : Nat) : Int)))
  rotate_left
  · rw [szv_no hZ_a1]
    go_wp2_with fail
    go_ret
    exact ⟨rfl, FB.out.now⟩
  rw [szv_yes hZ_a1]
  have hL_a1 : ¬ ((((1048576 : Int) - (((a0n3 : Nat) : Int))) - (((a1n3 : Nat) : Int))) < 0) := by omega
  have c_Ba0_0 := Ba0.out.now 0 _ rfl
  have c_Ba0_1 := Ba0.out.now 1 _ rfl
  have c_Ba0_2 := Ba0.out.now 2 _ rfl
  have c_Ba0_3 := Ba0.out.now 3 _ rfl
  have c_Ba1_0 := Ba1.out.now 0 _ rfl
  have c_Ba1_1 := Ba1.out.now 1 _ rfl
  have c_Ba1_2 := Ba1.out.now 2 _ rfl
  have c_Ba1_3 := Ba1.out.now 3 _ rfl
  replace S1 := Lib.hid (S1.out (by omega))
  replace S2 := Lib.hid (S2.out (by omega))
  have ha0k3 : a0n3 ≤ 1048576 := by omega
  have ha1k3 : a1n3 ≤ 1048576 := by omega
  go_wp2_with fail
  go_region_held3 (fun w' => w'.cell? ⟨w.heap.size, 0, none⟩ = some (.int .i64 a0z0) ∧ w'.cell? ⟨w.heap.size, 1, none⟩ = some (.int .i64 a0z1) ∧ w'.cell? ⟨w.heap.size, 2, none⟩ = some (.int .i64 a0z2) ∧ w'.cell? ⟨w.heap.size, 3, none⟩ = some (.slice a0A3 a0n3 a0c3) ∧ w'.cell? ⟨w.heap.size + 1, 0, none⟩ = some (.int .i64 a1z0) ∧ w'.cell? ⟨w.heap.size + 1, 1, none⟩ = some (.int .i64 a1z1) ∧ w'.cell? ⟨w.heap.size + 1, 2, none⟩ = some (.int .i64 a1z2) ∧ w'.cell? ⟨w.heap.size + 1, 3, none⟩ = some (.slice a1A3 a1n3 a1c3))
    (first | (go_keep; done) | exact ⟨((((Ba0.out.b hq1).b hq2).b hq3)).now 0 _ rfl, ((((Ba0.out.b hq1).b hq2).b hq3)).now 1 _ rfl, ((((Ba0.out.b hq1).b hq2).b hq3)).now 2 _ rfl, ((((Ba0.out.b hq1).b hq2).b hq3)).now 3 _ rfl, ((((Ba1.out.b hq1).b hq2).b hq3)).now 0 _ rfl, ((((Ba1.out.b hq1).b hq2).b hq3)).now 1 _ rfl, ((((Ba1.out.b hq1).b hq2).b hq3)).now 2 _ rfl, ((((Ba1.out.b hq1).b hq2).b hq3)).now 3 _ rfl⟩ | exact ⟨(((Ba0.out.b hq1).b hq2)).now 0 _ rfl, (((Ba0.out.b hq1).b hq2)).now 1 _ rfl, (((Ba0.out.b hq1).b hq2)).now 2 _ rfl, (((Ba0.out.b hq1).b hq2)).now 3 _ rfl, (((Ba1.out.b hq1).b hq2)).now 0 _ rfl, (((Ba1.out.b hq1).b hq2)).now 1 _ rfl, (((Ba1.out.b hq1).b hq2)).now 2 _ rfl, (((Ba1.out.b hq1).b hq2)).now 3 _ rfl⟩ | exact ⟨((Ba0.out.b hq1)).now 0 _ rfl, ((Ba0.out.b hq1)).now 1 _ rfl, ((Ba0.out.b hq1)).now 2 _ rfl, ((Ba0.out.b hq1)).now 3 _ rfl, ((Ba1.out.b hq1)).now 0 _ rfl, ((Ba1.out.b hq1)).now 1 _ rfl, ((Ba1.out.b hq1)).now 2 _ rfl, ((Ba1.out.b hq1)).now 3 _ rfl⟩)
    (first
      | (have hqz := hq2; clear hqz; go_at_call 40; refine (S1.out _ _ _ _ _ (hG_a03.b hq2) hG_a13).mono ?_; rintro e w5 ⟨rfl, hq3⟩)
      | (have hqz := hq1; clear hqz; go_at_call 16; (first | refine (to_Bloom ha1k3 ((Fa13.out.b hq1)).row).mono ?_); rintro e w4 ⟨tma1A3, tma1c3, rfl, ho_a13, hq2⟩; have hG_a13 := (Ow.rd ho_a13).row (Nat.le_refl _); clear ho_a13)
      | (go_at_call 16; (first | refine (to_Bloom ha0k3 (Fa03.out).row).mono ?_ | refine (to_Bloom ha0k3 (GRow.drew (Fa03.out).row)).mono ?_); rintro e w3 ⟨tma0A3, tma0c3, rfl, ho_a03, hq1'⟩; have hq1 := of_drew hq1'; clear hq1'; have hG_a03 := (Ow.rd ho_a03).row (Nat.le_refl _); clear ho_a03))
  replace FB := Lib.hid (FB.out.b hq1)
  replace Fa03 := Lib.hid (Fa03.out.b hq1)
  replace Fa13 := Lib.hid (Fa13.out.b hq1)
  replace Ba0 := Lib.hid (Ba0.out.b hq1)
  replace Ba1 := Lib.hid (Ba1.out.b hq1)
  replace FB := Lib.hid (FB.out.b hq2)
  replace Fa03 := Lib.hid (Fa03.out.b hq2)
  replace Fa13 := Lib.hid (Fa13.out.b hq2)
  replace Ba0 := Lib.hid (Ba0.out.b hq2)
  replace Ba1 := Lib.hid (Ba1.out.b hq2)
  replace FB := Lib.hid (FB.out.b hq3)
  replace Fa03 := Lib.hid (Fa03.out.b hq3)
  replace Fa13 := Lib.hid (Fa13.out.b hq3)
  replace Ba0 := Lib.hid (Ba0.out.b hq3)
  replace Ba1 := Lib.hid (Ba1.out.b hq3)
  have z_w3 : w2.heap.size ≤ w3.heap.size := by have hsz := hq1.size; first | omega | (simp at hsz; omega)
  have z_w4 : w3.heap.size ≤ w4.heap.size := by have hsz := hq2.size; first | omega | (simp at hsz; omega)
  have z_w5 : w4.heap.size ≤ w5.heap.size := by have hsz := hq3.size; first | omega | (simp at hsz; omega)
  clear c_Ba0_0 c_Ba0_1 c_Ba0_2 c_Ba0_3 c_Ba1_0 c_Ba1_1 c_Ba1_2 c_Ba1_3
  clear hq1 hq2 hq3 hG_a03 hG_a13 
  have c_Ba0_0 := Ba0.out.now 0 _ rfl
  have c_Ba0_1 := Ba0.out.now 1 _ rfl
  have c_Ba0_2 := Ba0.out.now 2 _ rfl
  have c_Ba0_3 := Ba0.out.now 3 _ rfl
  have c_Ba1_0 := Ba1.out.now 0 _ rfl
  have c_Ba1_1 := Ba1.out.now 1 _ rfl
  have c_Ba1_2 := Ba1.out.now 2 _ rfl
  have c_Ba1_3 := Ba1.out.now 3 _ rfl
  go_wp2_with fail
  refine (to_Bloom ha0k3 Fa03.out.row).mono ?_; rintro e w6 ⟨xa0A3, xa0c3, rfl, ho3, hb⟩
  replace FB := Lib.hid (FB.out.b hb)
  replace Fa03 := Lib.hid (Fa03.out.b hb)
  replace Fa13 := Lib.hid (Fa13.out.b hb)
  replace Ba0 := Lib.hid (Ba0.out.b hb)
  replace Ba1 := Lib.hid (Ba1.out.b hb)
  have z_w6 : w5.heap.size ≤ w6.heap.size := by have hsz := hb.size; first | omega | (simp at hsz; omega)
  clear c_Ba0_0 c_Ba0_1 c_Ba0_2 c_Ba0_3 c_Ba1_0 c_Ba1_1 c_Ba1_2 c_Ba1_3
  have Oxa03 := Lib.hid (owned (ho3.mono (lo' := w5.heap.size) (Nat.le_refl _) (Nat.le_refl _)))
  clear hb ho3
  replace FB := Lib.hid (FB.out.alloc (.cells #[.int .i64 a0z0, .int .i64 a0z1, .int .i64 a0z2, .slice xa0A3 a0n3 xa0c3] 31))
  replace Fa03 := Lib.hid (Fa03.out.alloc (.cells #[.int .i64 a0z0, .int .i64 a0z1, .int .i64 a0z2, .slice xa0A3 a0n3 xa0c3] 31))
  replace Fa13 := Lib.hid (Fa13.out.alloc (.cells #[.int .i64 a0z0, .int .i64 a0z1, .int .i64 a0z2, .slice xa0A3 a0n3 xa0c3] 31))
  replace Ba0 := Lib.hid (Ba0.out.alloc (.cells #[.int .i64 a0z0, .int .i64 a0z1, .int .i64 a0z2, .slice xa0A3 a0n3 xa0c3] 31))
  replace Ba1 := Lib.hid (Ba1.out.alloc (.cells #[.int .i64 a0z0, .int .i64 a0z1, .int .i64 a0z2, .slice xa0A3 a0n3 xa0c3] 31))
  replace Oxa03 := Lib.hid (Oxa03.out.alloc (.cells #[.int .i64 a0z0, .int .i64 a0z1, .int .i64 a0z2, .slice xa0A3 a0n3 xa0c3] 31))
  have Yxa0 := Lib.hid (boxed w6 #[.int .i64 a0z0, .int .i64 a0z1, .int .i64 a0z2, .slice xa0A3 a0n3 xa0c3] 31)
  have c_Ba0_0 := Ba0.out.now 0 _ rfl
  have c_Ba0_1 := Ba0.out.now 1 _ rfl
  have c_Ba0_2 := Ba0.out.now 2 _ rfl
  have c_Ba0_3 := Ba0.out.now 3 _ rfl
  have c_Ba1_0 := Ba1.out.now 0 _ rfl
  have c_Ba1_1 := Ba1.out.now 1 _ rfl
  have c_Ba1_2 := Ba1.out.now 2 _ rfl
  have c_Ba1_3 := Ba1.out.now 3 _ rfl
  go_wp2_with fail
  refine (to_Bloom ha1k3 Fa13.out.row).mono ?_; rintro e w7 ⟨xa1A3, xa1c3, rfl, ho3, hb⟩
  replace FB := Lib.hid (FB.out.b hb)
  replace Fa03 := Lib.hid (Fa03.out.b hb)
  replace Fa13 := Lib.hid (Fa13.out.b hb)
  replace Ba0 := Lib.hid (Ba0.out.b hb)
  replace Ba1 := Lib.hid (Ba1.out.b hb)
  replace Oxa03 := Lib.hid (Oxa03.out.b hb)
  replace Yxa0 := Lib.hid (Yxa0.out.b hb)
  have z_w7 : w6.heap.size + 1 ≤ w7.heap.size := by have hsz := hb.size; first | omega | (simp at hsz; omega)
  clear c_Ba0_0 c_Ba0_1 c_Ba0_2 c_Ba0_3 c_Ba1_0 c_Ba1_1 c_Ba1_2 c_Ba1_3
  have Oxa13 := Lib.hid (owned (ho3.mono (lo' := w6.heap.size + 1) (by simp) (Nat.le_refl _)))
  clear hb ho3
  replace FB := Lib.hid (FB.out.alloc (.cells #[.int .i64 a1z0, .int .i64 a1z1, .int .i64 a1z2, .slice xa1A3 a1n3 xa1c3] 31))
  replace Fa03 := Lib.hid (Fa03.out.alloc (.cells #[.int .i64 a1z0, .int .i64 a1z1, .int .i64 a1z2, .slice xa1A3 a1n3 xa1c3] 31))
  replace Fa13 := Lib.hid (Fa13.out.alloc (.cells #[.int .i64 a1z0, .int .i64 a1z1, .int .i64 a1z2, .slice xa1A3 a1n3 xa1c3] 31))
  replace Ba0 := Lib.hid (Ba0.out.alloc (.cells #[.int .i64 a1z0, .int .i64 a1z1, .int .i64 a1z2, .slice xa1A3 a1n3 xa1c3] 31))
  replace Ba1 := Lib.hid (Ba1.out.alloc (.cells #[.int .i64 a1z0, .int .i64 a1z1, .int .i64 a1z2, .slice xa1A3 a1n3 xa1c3] 31))
  replace Oxa03 := Lib.hid (Oxa03.out.alloc (.cells #[.int .i64 a1z0, .int .i64 a1z1, .int .i64 a1z2, .slice xa1A3 a1n3 xa1c3] 31))
  replace Yxa0 := Lib.hid (Yxa0.out.alloc (.cells #[.int .i64 a1z0, .int .i64 a1z1, .int .i64 a1z2, .slice xa1A3 a1n3 xa1c3] 31))
  replace Oxa13 := Lib.hid (Oxa13.out.alloc (.cells #[.int .i64 a1z0, .int .i64 a1z1, .int .i64 a1z2, .slice xa1A3 a1n3 xa1c3] 31))
  have Yxa1 := Lib.hid (boxed w7 #[.int .i64 a1z0, .int .i64 a1z1, .int .i64 a1z2, .slice xa1A3 a1n3 xa1c3] 31)
  have c_Yxa0_0 := Yxa0.out.now 0 _ rfl
  have c_Yxa0_1 := Yxa0.out.now 1 _ rfl
  have c_Yxa0_2 := Yxa0.out.now 2 _ rfl
  have c_Yxa0_3 := Yxa0.out.now 3 _ rfl
  have c_Yxa1_0 := Yxa1.out.now 0 _ rfl
  have c_Yxa1_1 := Yxa1.out.now 1 _ rfl
  have c_Yxa1_2 := Yxa1.out.now 2 _ rfl
  have c_Yxa1_3 := Yxa1.out.now 3 _ rfl
  go_wp2_with fail
  refine (S2.out _ _ _ _ _ Oxa03.out.orow Oxa13.out.orow).mono ?_; rintro e w8 ⟨rfl, hb⟩
  replace FB := Lib.hid (FB.out.b hb)
  replace Fa03 := Lib.hid (Fa03.out.b hb)
  replace Fa13 := Lib.hid (Fa13.out.b hb)
  replace Ba0 := Lib.hid (Ba0.out.b hb)
  replace Ba1 := Lib.hid (Ba1.out.b hb)
  replace Oxa03 := Lib.hid (Oxa03.out.b hb)
  replace Yxa0 := Lib.hid (Yxa0.out.b hb)
  replace Oxa13 := Lib.hid (Oxa13.out.b hb)
  replace Yxa1 := Lib.hid (Yxa1.out.b hb)
  have z_w8 : w7.heap.size + 1 ≤ w8.heap.size := by have hsz := hb.size; first | omega | (simp at hsz; omega)
  clear c_Yxa0_0 c_Yxa0_1 c_Yxa0_2 c_Yxa0_3 c_Yxa1_0 c_Yxa1_1 c_Yxa1_2 c_Yxa1_3
  clear hb 
  have c_Ba0_0 := Ba0.out.now 0 _ rfl
  have c_Ba0_1 := Ba0.out.now 1 _ rfl
  have c_Ba0_2 := Ba0.out.now 2 _ rfl
  have c_Ba0_3 := Ba0.out.now 3 _ rfl
  have c_Yxa0_0 := Yxa0.out.now 0 _ rfl
  have c_Yxa0_1 := Yxa0.out.now 1 _ rfl
  have c_Yxa0_2 := Yxa0.out.now 2 _ rfl
  have c_Yxa0_3 := Yxa0.out.now 3 _ rfl
  go_wp2_with fail
  go_region_held3 (fun w' => w'.cell? ⟨w.heap.size, 0, none⟩ = some (.int .i64 a0z0) ∧ w'.cell? ⟨w.heap.size, 1, none⟩ = some (.int .i64 a0z1) ∧ w'.cell? ⟨w.heap.size, 2, none⟩ = some (.int .i64 a0z2) ∧ w'.cell? ⟨w.heap.size, 3, none⟩ = some (.slice a0A3 a0n3 a0c3) ∧ w'.cell? ⟨w6.heap.size, 0, none⟩ = some (.int .i64 a0z0) ∧ w'.cell? ⟨w6.heap.size, 1, none⟩ = some (.int .i64 a0z1) ∧ w'.cell? ⟨w6.heap.size, 2, none⟩ = some (.int .i64 a0z2) ∧ w'.cell? ⟨w6.heap.size, 3, none⟩ = some (.slice xa0A3 a0n3 xa0c3))
    (first | (go_keep; done) | exact ⟨(((Ba0.out.b hq1).b hq2)).now 0 _ rfl, (((Ba0.out.b hq1).b hq2)).now 1 _ rfl, (((Ba0.out.b hq1).b hq2)).now 2 _ rfl, (((Ba0.out.b hq1).b hq2)).now 3 _ rfl, (((Yxa0.out.b hq1).b hq2)).now 0 _ rfl, (((Yxa0.out.b hq1).b hq2)).now 1 _ rfl, (((Yxa0.out.b hq1).b hq2)).now 2 _ rfl, (((Yxa0.out.b hq1).b hq2)).now 3 _ rfl⟩ | exact ⟨((Ba0.out.b hq1)).now 0 _ rfl, ((Ba0.out.b hq1)).now 1 _ rfl, ((Ba0.out.b hq1)).now 2 _ rfl, ((Ba0.out.b hq1)).now 3 _ rfl, ((Yxa0.out.b hq1)).now 0 _ rfl, ((Yxa0.out.b hq1)).now 1 _ rfl, ((Yxa0.out.b hq1)).now 2 _ rfl, ((Yxa0.out.b hq1)).now 3 _ rfl⟩)
    (first
      | (have hqz := hq1; clear hqz; go_at_call 18; (first | refine (eq_Bloom ha0k3 ((Oxa03.out.b hq1)).orow (owned ho3).orow).mono ?_); rintro e w10 ⟨rfl, hq2⟩)
      | (go_at_call 16; (first | refine (to_Bloom ha0k3 (Fa03.out).row).mono ?_ | refine (to_Bloom ha0k3 (GRow.drew (Fa03.out).row)).mono ?_); rintro e w9 ⟨ya0A3, ya0c3, rfl, ho3, hq1'⟩; have hq1 := of_drew hq1'; clear hq1'))
  replace FB := Lib.hid (FB.out.b hq1)
  replace Fa03 := Lib.hid (Fa03.out.b hq1)
  replace Fa13 := Lib.hid (Fa13.out.b hq1)
  replace Ba0 := Lib.hid (Ba0.out.b hq1)
  replace Ba1 := Lib.hid (Ba1.out.b hq1)
  replace Oxa03 := Lib.hid (Oxa03.out.b hq1)
  replace Yxa0 := Lib.hid (Yxa0.out.b hq1)
  replace Oxa13 := Lib.hid (Oxa13.out.b hq1)
  replace Yxa1 := Lib.hid (Yxa1.out.b hq1)
  replace FB := Lib.hid (FB.out.b hq2)
  replace Fa03 := Lib.hid (Fa03.out.b hq2)
  replace Fa13 := Lib.hid (Fa13.out.b hq2)
  replace Ba0 := Lib.hid (Ba0.out.b hq2)
  replace Ba1 := Lib.hid (Ba1.out.b hq2)
  replace Oxa03 := Lib.hid (Oxa03.out.b hq2)
  replace Yxa0 := Lib.hid (Yxa0.out.b hq2)
  replace Oxa13 := Lib.hid (Oxa13.out.b hq2)
  replace Yxa1 := Lib.hid (Yxa1.out.b hq2)
  have z_w9 : w8.heap.size ≤ w9.heap.size := by have hsz := hq1.size; first | omega | (simp at hsz; omega)
  have z_w10 : w9.heap.size ≤ w10.heap.size := hq2.size
  clear c_Ba0_0 c_Ba0_1 c_Ba0_2 c_Ba0_3 c_Yxa0_0 c_Yxa0_1 c_Yxa0_2 c_Yxa0_3
  clear hq1 hq2 ho3
  have c_Ba1_0 := Ba1.out.now 0 _ rfl
  have c_Ba1_1 := Ba1.out.now 1 _ rfl
  have c_Ba1_2 := Ba1.out.now 2 _ rfl
  have c_Ba1_3 := Ba1.out.now 3 _ rfl
  have c_Yxa1_0 := Yxa1.out.now 0 _ rfl
  have c_Yxa1_1 := Yxa1.out.now 1 _ rfl
  have c_Yxa1_2 := Yxa1.out.now 2 _ rfl
  have c_Yxa1_3 := Yxa1.out.now 3 _ rfl
  go_wp2_with fail
  go_region_held3 (fun w' => w'.cell? ⟨w.heap.size + 1, 0, none⟩ = some (.int .i64 a1z0) ∧ w'.cell? ⟨w.heap.size + 1, 1, none⟩ = some (.int .i64 a1z1) ∧ w'.cell? ⟨w.heap.size + 1, 2, none⟩ = some (.int .i64 a1z2) ∧ w'.cell? ⟨w.heap.size + 1, 3, none⟩ = some (.slice a1A3 a1n3 a1c3) ∧ w'.cell? ⟨w7.heap.size, 0, none⟩ = some (.int .i64 a1z0) ∧ w'.cell? ⟨w7.heap.size, 1, none⟩ = some (.int .i64 a1z1) ∧ w'.cell? ⟨w7.heap.size, 2, none⟩ = some (.int .i64 a1z2) ∧ w'.cell? ⟨w7.heap.size, 3, none⟩ = some (.slice xa1A3 a1n3 xa1c3))
    (first | (go_keep; done) | exact ⟨(((Ba1.out.b hq1).b hq2)).now 0 _ rfl, (((Ba1.out.b hq1).b hq2)).now 1 _ rfl, (((Ba1.out.b hq1).b hq2)).now 2 _ rfl, (((Ba1.out.b hq1).b hq2)).now 3 _ rfl, (((Yxa1.out.b hq1).b hq2)).now 0 _ rfl, (((Yxa1.out.b hq1).b hq2)).now 1 _ rfl, (((Yxa1.out.b hq1).b hq2)).now 2 _ rfl, (((Yxa1.out.b hq1).b hq2)).now 3 _ rfl⟩ | exact ⟨((Ba1.out.b hq1)).now 0 _ rfl, ((Ba1.out.b hq1)).now 1 _ rfl, ((Ba1.out.b hq1)).now 2 _ rfl, ((Ba1.out.b hq1)).now 3 _ rfl, ((Yxa1.out.b hq1)).now 0 _ rfl, ((Yxa1.out.b hq1)).now 1 _ rfl, ((Yxa1.out.b hq1)).now 2 _ rfl, ((Yxa1.out.b hq1)).now 3 _ rfl⟩)
    (first
      | (have hqz := hq1; clear hqz; go_at_call 18; (first | refine (eq_Bloom ha1k3 ((Oxa13.out.b hq1)).orow (owned ho3).orow).mono ?_); rintro e w12 ⟨rfl, hq2⟩)
      | (go_at_call 16; (first | refine (to_Bloom ha1k3 (Fa13.out).row).mono ?_ | refine (to_Bloom ha1k3 (GRow.drew (Fa13.out).row)).mono ?_); rintro e w11 ⟨ya1A3, ya1c3, rfl, ho3, hq1'⟩; have hq1 := of_drew hq1'; clear hq1'))
  replace FB := Lib.hid (FB.out.b hq1)
  replace Fa03 := Lib.hid (Fa03.out.b hq1)
  replace Fa13 := Lib.hid (Fa13.out.b hq1)
  replace Ba0 := Lib.hid (Ba0.out.b hq1)
  replace Ba1 := Lib.hid (Ba1.out.b hq1)
  replace Oxa03 := Lib.hid (Oxa03.out.b hq1)
  replace Yxa0 := Lib.hid (Yxa0.out.b hq1)
  replace Oxa13 := Lib.hid (Oxa13.out.b hq1)
  replace Yxa1 := Lib.hid (Yxa1.out.b hq1)
  replace FB := Lib.hid (FB.out.b hq2)
  replace Fa03 := Lib.hid (Fa03.out.b hq2)
  replace Fa13 := Lib.hid (Fa13.out.b hq2)
  replace Ba0 := Lib.hid (Ba0.out.b hq2)
  replace Ba1 := Lib.hid (Ba1.out.b hq2)
  replace Oxa03 := Lib.hid (Oxa03.out.b hq2)
  replace Yxa0 := Lib.hid (Yxa0.out.b hq2)
  replace Oxa13 := Lib.hid (Oxa13.out.b hq2)
  replace Yxa1 := Lib.hid (Yxa1.out.b hq2)
  have z_w11 : w10.heap.size ≤ w11.heap.size := by have hsz := hq1.size; first | omega | (simp at hsz; omega)
  have z_w12 : w11.heap.size ≤ w12.heap.size := hq2.size
  clear c_Ba1_0 c_Ba1_1 c_Ba1_2 c_Ba1_3 c_Yxa1_0 c_Yxa1_1 c_Yxa1_2 c_Yxa1_3
  clear hq1 hq2 ho3
  go_wp2_with fail
  go_ret
  exact ⟨rfl, FB.out.now⟩
/-! last -/
theorem walk_FnExactCoversBloom (w : World) (z0 : Int) (_wz0 : (Lit.int .i64 z0).wf = true) (z1 : Int) (_wz1 : (Lit.int .i64 z1).wf = true) (z2 : Int) (_wz2 : (Lit.int .i64 z2).wf = true) (A : Option Addr) (n c : Nat) (X : Nat → Int) (hm : n ≤ maxLen) (hr : IRow w A n X) (y0 : Int) (_wy0 : (Lit.int .i64 y0).wf = true) (y1 : Int) (_wy1 : (Lit.int .i64 y1).wf = true) (y2 : Int) (_wy2 : (Lit.int .i64 y2).wf = true) (B : Option Addr) (m d : Nat) (Y : Nat → Int) (hm2 : m ≤ maxLen) (hr2 : IRow w B m Y) :
    Calls Try.prog 10 #[.agg #[.int .i64 z0, .int .i64 z1, .int .i64 z2, .slice A n c], .agg #[.int .i64 y0, .int .i64 y1, .int .i64 y2, .slice B m d]] w fun e w' => e = .returned (.bool true) ∧ Below w.heap.size w w' := by
  by_cases hR : AlP z0 z1 z2 n X y0 y1 y2 m Y
  · obtain ⟨⟨h, g1⟩, ⟨_, g2⟩, rfl, rfl, rfl⟩ := hR
    obtain ⟨p, z, rfl, rfl, h1, h2, h3, h4⟩ := fiB_nat h
    obtain rfl : n = m := by have := g1.2.2.1; have := g2.2.2.1; omega
    have hn : n ≤ 1048576 := by have := g1.2.2.1; omega
    obtain ⟨b, hb⟩ := bool_of (CovP (bitX X) (bitX Y) z)
    exact main_FnExactCoversBloom z0 p z n X z0 p z n Y b true A c B d w hm hr hm2 hr2
      (fun _ _ _ _ _ w r1 r2 => spec_covers h g1 g2 hb hn r1 r2) (fun _ _ _ _ _ w r1 r2 => impl_covers h g1 g2 hb hn r1 r2)
  · exact main_FnExactCoversBloom z0 z1 z2 n X y0 y1 y2 m Y false false A c B d w hm hr hm2 hr2
      (fun _ _ _ _ _ w r1 r2 => spec_covers_no hR (by omega) (by omega) r1 r2) (fun _ _ _ _ _ w r1 r2 => impl_covers_no hR (by omega) (by omega) r1 r2)
end Go.Proofs.Ytpajbcgdoedleaa
