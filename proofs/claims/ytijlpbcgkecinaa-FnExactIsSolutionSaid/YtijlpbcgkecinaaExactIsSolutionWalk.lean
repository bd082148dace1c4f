/- The law of IsSolution, walked: what both sides answer comes in as hypotheses. -/
import Derived.Test.YtijlpbcgkecinaaSolS
import Derived.Deep.RegionHeld3
namespace Go.Proofs.Ytijlpbcgkecinaa
open Go.RowKit

set_option maxRecDepth 100000 in
set_option maxHeartbeats 8000000 in
theorem main_FnExactIsSolution (a0z0 : Int) (a0n1 : Nat) (a0X1 : Nat → BV) (a0n2 : Nat) (a0X2 : Nat → Bool) (a1z0 : Int) (a1n1 : Nat) (a1X1 : Nat → Int) (r0z0 : Bool) (r1z0 : Bool) (a0A1 : Option Addr) (a0c1 : Nat) (a0A2 : Option Addr) (a0c2 : Nat) (a1A1 : Option Addr) (a1c1 : Nat) (w : World) (ha0m1 : a0n1 ≤ maxLen) (ha0r1 : VRow w a0A1 a0n1 a0X1) (ha0s1 : ∀ i, i < a0n1 → (a0X1 i).l ≤ maxLen) (ha0m2 : a0n2 ≤ maxLen) (ha0r2 : GRow w a0A2 a0n2 (boolV a0X2)) (ha1m1 : a1n1 ≤ maxLen) (ha1r1 : GRow w a1A1 a1n1 (intV a1X1))
    (s1 : a0n1 + (sumV a0X1 a0n1) + a0n2 + a1n1 ≤ 1048576 → ∀ (ua0A1 : Option Addr) (ua0c1 : Nat) (ua0A2 : Option Addr) (ua0c2 : Nat) (ua1A1 : Option Addr) (ua1c1 : Nat) (w : World), VRow w ua0A1 a0n1 a0X1 → GRow w ua0A2 a0n2 (boolV a0X2) → GRow w ua1A1 a1n1 (intV a1X1) → Calls Try.prog 29 #[.agg #[.int .i64 a0z0, .slice ua0A1 a0n1 ua0c1, .slice ua0A2 a0n2 ua0c2], .agg #[.int .i64 a1z0, .slice ua1A1 a1n1 ua1c1]] w fun e w' => e = .returned (.tuple #[.bool r0z0, .bool r1z0]) ∧ Below w.heap.size w w')
    (s2 : a0n1 + (sumV a0X1 a0n1) + a0n2 + a1n1 ≤ 1048576 → ∀ (ua0A1 : Option Addr) (ua0c1 : Nat) (ua0A2 : Option Addr) (ua0c2 : Nat) (ua1A1 : Option Addr) (ua1c1 : Nat) (w : World), VRow w ua0A1 a0n1 a0X1 → GRow w ua0A2 a0n2 (boolV a0X2) → GRow w ua1A1 a1n1 (intV a1X1) → Calls Try.prog 31 #[.agg #[.int .i64 a0z0, .slice ua0A1 a0n1 ua0c1, .slice ua0A2 a0n2 ua0c2], .agg #[.int .i64 a1z0, .slice ua1A1 a1n1 ua1c1]] w fun e w' => e = .returned (.tuple #[.bool r0z0, .bool r1z0]) ∧ Below w.heap.size w w') :
    Calls Try.prog 5 #[.agg #[.int .i64 a0z0, .slice a0A1 a0n1 a0c1, .slice a0A2 a0n2 a0c2], .agg #[.int .i64 a1z0, .slice a1A1 a1n1 a1c1]] w fun e w' => e = .returned (.bool true) ∧ Below w.heap.size w w' := by
  have S1 := Lib.hid s1
  have S2 := Lib.hid s2
  clear s1 s2
  have FB := Lib.hid (((At.start w).alloc (.cells #[.int .i64 a0z0, .slice a0A1 a0n1 a0c1, .slice a0A2 a0n2 a0c2] 25)).alloc (.cells #[.int .i64 a1z0, .slice a1A1 a1n1 a1c1] 51))
  have Fa01 := Lib.hid (((rdV_of_row ha0r1).alloc (.cells #[.int .i64 a0z0, .slice a0A1 a0n1 a0c1, .slice a0A2 a0n2 a0c2] 25)).alloc (.cells #[.int .i64 a1z0, .slice a1A1 a1n1 a1c1] 51))
  have Fa02 := Lib.hid (((rd_of_row ha0r2).alloc (.cells #[.int .i64 a0z0, .slice a0A1 a0n1 a0c1, .slice a0A2 a0n2 a0c2] 25)).alloc (.cells #[.int .i64 a1z0, .slice a1A1 a1n1 a1c1] 51))
  have Fa11 := Lib.hid (((rd_of_row ha1r1).alloc (.cells #[.int .i64 a0z0, .slice a0A1 a0n1 a0c1, .slice a0A2 a0n2 a0c2] 25)).alloc (.cells #[.int .i64 a1z0, .slice a1A1 a1n1 a1c1] 51))
  have Ba0 := Lib.hid ((boxed w #[.int .i64 a0z0, .slice a0A1 a0n1 a0c1, .slice a0A2 a0n2 a0c2] 25).alloc (.cells #[.int .i64 a1z0, .slice a1A1 a1n1 a1c1] 51))
  have Ba1 := Lib.hid (boxed_at (w.alloc (.cells #[.int .i64 a0z0, .slice a0A1 a0n1 a0c1, .slice a0A2 a0n2 a0c2] 25)) (w.heap.size + 1) (by simp) #[.int .i64 a1z0, .slice a1A1 a1n1 a1c1] 51)
  clear ha0r1 ha0r2 ha1r1
  go_enter Try.func5, Try.ntmps5
  go_wp2_with fail
  refine (sz_System ha0m1 ha0m2 ha0s1 Fa01.out.rowV (by omega) (by omega)).mono ?_; rintro e w1 ⟨rfl, hb⟩
  replace FB := Lib.hid (FB.out.b hb)
  replace Fa01 := Lib.hid (Fa01.out.b hb)
  replace Fa02 := Lib.hid (Fa02.out.b hb)
  replace Fa11 := Lib.hid (Fa11.out.b hb)
  replace Ba0 := Lib.hid (Ba0.out.b hb)
  replace Ba1 := Lib.hid (Ba1.out.b hb)
  have z_w1 : w.heap.size + 2 ≤ w1.heap.size := by have hsz := hb.size; first | omega | (simp at hsz; omega)
  clear hb
  by_cases hZ_a0 : ((a0n1 + (sumV a0X1 a0n1) + a0n2 : Nat) : Int) ≤ (1048576 : Int)
  rotate_left
  · rw [szv_no hZ_a0]
    go_wp2_with fail
    go_ret
    exact ⟨rfl, FB.out.now⟩
  rw [szv_yes hZ_a0]
  have hL_a0 : ¬ (((1048576 : Int) - (((a0n1 : Nat) : Int) + (((sumV a0X1 a0n1) : Nat) : Int) + ((a0n2 : Nat) : Int))) < 0) := by omega
  have c_Ba0_0 := Ba0.out.now 0 _ rfl
  have c_Ba0_1 := Ba0.out.now 1 _ rfl
  have c_Ba0_2 := Ba0.out.now 2 _ rfl
  have c_Ba1_0 := Ba1.out.now 0 _ rfl
  have c_Ba1_1 := Ba1.out.now 1 _ rfl
  go_wp2_with fail
  refine (sz_Bits ha1m1 (by omega) (by omega)).mono ?_; rintro e w2 ⟨rfl, hb⟩
  replace FB := Lib.hid (FB.out.b hb)
  replace Fa01 := Lib.hid (Fa01.out.b hb)
  replace Fa02 := Lib.hid (Fa02.out.b hb)
  replace Fa11 := Lib.hid (Fa11.out.b hb)
  replace Ba0 := Lib.hid (Ba0.out.b hb)
  replace Ba1 := Lib.hid (Ba1.out.b hb)
  have z_w2 : w1.heap.size ≤ w2.heap.size := by have hsz := hb.size; first | omega | (simp at hsz; omega)
  clear c_Ba0_0 c_Ba0_1 c_Ba0_2 c_Ba1_0 c_Ba1_1
  clear hb
  by_cases hZ_a1 : ((a1n1 : Nat) : Int) ≤ ((1048576 : Int) - (((a0n1 : Nat) : Int) + (((sumV a0X1 a0n1) : Nat) : Int) + ((a0n2 : Nat) : Int)))
  rotate_left
  · rw [szv_no hZ_a1]
    go_wp2_with fail
    go_ret
    exact ⟨rfl, FB.out.now⟩
  rw [szv_yes hZ_a1]
  have hL_a1 : ¬ ((((1048576 : Int) - (((a0n1 : Nat) : Int) + (((sumV a0X1 a0n1) : Nat) : Int) + ((a0n2 : Nat) : Int))) - (((a1n1 : Nat) : Int))) < 0) := by omega
  have c_Ba0_0 := Ba0.out.now 0 _ rfl
  have c_Ba0_1 := Ba0.out.now 1 _ rfl
  have c_Ba0_2 := Ba0.out.now 2 _ rfl
  have c_Ba1_0 := Ba1.out.now 0 _ rfl
  have c_Ba1_1 := Ba1.out.now 1 _ rfl
  replace S1 := Lib.hid (S1.out (by omega))
  replace S2 := Lib.hid (S2.out (by omega))
  have ha0k1 : a0n1 + sumV a0X1 a0n1 ≤ 1048576 := by omega
  have ha0k2 : a0n2 ≤ 1048576 := by omega
  have ha1k1 : a1n1 ≤ 1048576 := by omega
  go_wp2_with fail
  go_region_held3 (fun w' => w'.cell? ⟨w.heap.size, 0, none⟩ = some (.int .i64 a0z0) ∧ w'.cell? ⟨w.heap.size, 1, none⟩ = some (.slice a0A1 a0n1 a0c1) ∧ w'.cell? ⟨w.heap.size, 2, none⟩ = some (.slice a0A2 a0n2 a0c2) ∧ w'.cell? ⟨w.heap.size + 1, 0, none⟩ = some (.int .i64 a1z0) ∧ w'.cell? ⟨w.heap.size + 1, 1, none⟩ = some (.slice a1A1 a1n1 a1c1))
    (first | (go_keep; done) | exact ⟨((((Ba0.out.b hq1).b hq2).b hq3)).now 0 _ rfl, ((((Ba0.out.b hq1).b hq2).b hq3)).now 1 _ rfl, ((((Ba0.out.b hq1).b hq2).b hq3)).now 2 _ rfl, ((((Ba1.out.b hq1).b hq2).b hq3)).now 0 _ rfl, ((((Ba1.out.b hq1).b hq2).b hq3)).now 1 _ rfl⟩ | exact ⟨(((Ba0.out.b hq1).b hq2)).now 0 _ rfl, (((Ba0.out.b hq1).b hq2)).now 1 _ rfl, (((Ba0.out.b hq1).b hq2)).now 2 _ rfl, (((Ba1.out.b hq1).b hq2)).now 0 _ rfl, (((Ba1.out.b hq1).b hq2)).now 1 _ rfl⟩ | exact ⟨((Ba0.out.b hq1)).now 0 _ rfl, ((Ba0.out.b hq1)).now 1 _ rfl, ((Ba0.out.b hq1)).now 2 _ rfl, ((Ba1.out.b hq1)).now 0 _ rfl, ((Ba1.out.b hq1)).now 1 _ rfl⟩)
    (first
      | (have hqz := hq2; clear hqz; go_at_call 29; refine (S1.out _ _ _ _ _ _ _ (hG_a01.b hq2) (hG_a02.b hq2) hG_a11).mono ?_; rintro e w5 ⟨rfl, hq3⟩)
      | (have hqz := hq1; clear hqz; go_at_call 30; (first | refine (to_Bits ha1k1 ((Fa11.out.b hq1)).row).mono ?_); rintro e w4 ⟨tma1A1, tma1c1, rfl, ho_a11, hq2⟩; have hG_a11 := (Ow.rd ho_a11).row (Nat.le_refl _); clear ho_a11)
      | (go_at_call 14; (first | refine (to_System ha0k1 ha0k2 (Fa01.out).rowV (Fa02.out).row).mono ?_ | refine (to_System ha0k1 ha0k2 (VRow.drew (Fa01.out).rowV) (GRow.drew (Fa02.out).row)).mono ?_); rintro e w3 ⟨tma0A1, tma0c1, tma0A2, tma0c2, rfl, ho_a01, ho_a02, hq1'⟩; have hq1 := of_drew hq1'; clear hq1'; have hG_a01 := (OwV.rd ho_a01).row (Nat.le_refl _); have hG_a02 := (Ow.rd ho_a02).row (Nat.le_refl _); clear ho_a01 ho_a02))
  replace FB := Lib.hid (FB.out.b hq1)
  replace Fa01 := Lib.hid (Fa01.out.b hq1)
  replace Fa02 := Lib.hid (Fa02.out.b hq1)
  replace Fa11 := Lib.hid (Fa11.out.b hq1)
  replace Ba0 := Lib.hid (Ba0.out.b hq1)
  replace Ba1 := Lib.hid (Ba1.out.b hq1)
  replace FB := Lib.hid (FB.out.b hq2)
  replace Fa01 := Lib.hid (Fa01.out.b hq2)
  replace Fa02 := Lib.hid (Fa02.out.b hq2)
  replace Fa11 := Lib.hid (Fa11.out.b hq2)
  replace Ba0 := Lib.hid (Ba0.out.b hq2)
  replace Ba1 := Lib.hid (Ba1.out.b hq2)
  replace FB := Lib.hid (FB.out.b hq3)
  replace Fa01 := Lib.hid (Fa01.out.b hq3)
  replace Fa02 := Lib.hid (Fa02.out.b hq3)
  replace Fa11 := Lib.hid (Fa11.out.b hq3)
  replace Ba0 := Lib.hid (Ba0.out.b hq3)
  replace Ba1 := Lib.hid (Ba1.out.b hq3)
  have z_w3 : w2.heap.size ≤ w3.heap.size := by have hsz := hq1.size; first | omega | (simp at hsz; omega)
  have z_w4 : w3.heap.size ≤ w4.heap.size := by have hsz := hq2.size; first | omega | (simp at hsz; omega)
  have z_w5 : w4.heap.size ≤ w5.heap.size := by have hsz := hq3.size; first | omega | (simp at hsz; omega)
  clear c_Ba0_0 c_Ba0_1 c_Ba0_2 c_Ba1_0 c_Ba1_1
  clear hq1 hq2 hq3 hG_a01 hG_a02 hG_a11 
  have c_Ba0_0 := Ba0.out.now 0 _ rfl
  have c_Ba0_1 := Ba0.out.now 1 _ rfl
  have c_Ba0_2 := Ba0.out.now 2 _ rfl
  have c_Ba1_0 := Ba1.out.now 0 _ rfl
  have c_Ba1_1 := Ba1.out.now 1 _ rfl
  go_wp2_with fail
  refine (to_System ha0k1 ha0k2 Fa01.out.rowV Fa02.out.row).mono ?_; rintro e w6 ⟨xa0A1, xa0c1, xa0A2, xa0c2, rfl, ho1, ho2, hb⟩
  replace FB := Lib.hid (FB.out.b hb)
  replace Fa01 := Lib.hid (Fa01.out.b hb)
  replace Fa02 := Lib.hid (Fa02.out.b hb)
  replace Fa11 := Lib.hid (Fa11.out.b hb)
  replace Ba0 := Lib.hid (Ba0.out.b hb)
  replace Ba1 := Lib.hid (Ba1.out.b hb)
  have z_w6 : w5.heap.size ≤ w6.heap.size := by have hsz := hb.size; first | omega | (simp at hsz; omega)
  clear c_Ba0_0 c_Ba0_1 c_Ba0_2 c_Ba1_0 c_Ba1_1
  have Oxa01 := Lib.hid (ownedV (ho1.mono (lo' := w5.heap.size) (Nat.le_refl _) (Nat.le_refl _)))
  have Oxa02 := Lib.hid (owned (ho2.mono (lo' := w5.heap.size) (Nat.le_refl _) (Nat.le_refl _)))
  clear hb ho1 ho2
  replace FB := Lib.hid (FB.out.alloc (.cells #[.int .i64 a0z0, .slice xa0A1 a0n1 xa0c1, .slice xa0A2 a0n2 xa0c2] 30))
  replace Fa01 := Lib.hid (Fa01.out.alloc (.cells #[.int .i64 a0z0, .slice xa0A1 a0n1 xa0c1, .slice xa0A2 a0n2 xa0c2] 30))
  replace Fa02 := Lib.hid (Fa02.out.alloc (.cells #[.int .i64 a0z0, .slice xa0A1 a0n1 xa0c1, .slice xa0A2 a0n2 xa0c2] 30))
  replace Fa11 := Lib.hid (Fa11.out.alloc (.cells #[.int .i64 a0z0, .slice xa0A1 a0n1 xa0c1, .slice xa0A2 a0n2 xa0c2] 30))
  replace Ba0 := Lib.hid (Ba0.out.alloc (.cells #[.int .i64 a0z0, .slice xa0A1 a0n1 xa0c1, .slice xa0A2 a0n2 xa0c2] 30))
  replace Ba1 := Lib.hid (Ba1.out.alloc (.cells #[.int .i64 a0z0, .slice xa0A1 a0n1 xa0c1, .slice xa0A2 a0n2 xa0c2] 30))
  replace Oxa01 := Lib.hid (Oxa01.out.alloc (.cells #[.int .i64 a0z0, .slice xa0A1 a0n1 xa0c1, .slice xa0A2 a0n2 xa0c2] 30))
  replace Oxa02 := Lib.hid (Oxa02.out.alloc (.cells #[.int .i64 a0z0, .slice xa0A1 a0n1 xa0c1, .slice xa0A2 a0n2 xa0c2] 30))
  have Yxa0 := Lib.hid (boxed w6 #[.int .i64 a0z0, .slice xa0A1 a0n1 xa0c1, .slice xa0A2 a0n2 xa0c2] 30)
  have c_Ba0_0 := Ba0.out.now 0 _ rfl
  have c_Ba0_1 := Ba0.out.now 1 _ rfl
  have c_Ba0_2 := Ba0.out.now 2 _ rfl
  have c_Ba1_0 := Ba1.out.now 0 _ rfl
  have c_Ba1_1 := Ba1.out.now 1 _ rfl
  go_wp2_with fail
  refine (to_Bits ha1k1 Fa11.out.row).mono ?_; rintro e w7 ⟨xa1A1, xa1c1, rfl, ho1, hb⟩
  replace FB := Lib.hid (FB.out.b hb)
  replace Fa01 := Lib.hid (Fa01.out.b hb)
  replace Fa02 := Lib.hid (Fa02.out.b hb)
  replace Fa11 := Lib.hid (Fa11.out.b hb)
  replace Ba0 := Lib.hid (Ba0.out.b hb)
  replace Ba1 := Lib.hid (Ba1.out.b hb)
  replace Oxa01 := Lib.hid (Oxa01.out.b hb)
  replace Oxa02 := Lib.hid (Oxa02.out.b hb)
  replace Yxa0 := Lib.hid (Yxa0.out.b hb)
  have z_w7 : w6.heap.size + 1 ≤ w7.heap.size := by have hsz := hb.size; first | omega | (simp at hsz; omega)
  clear c_Ba0_0 c_Ba0_1 c_Ba0_2 c_Ba1_0 c_Ba1_1
  have Oxa11 := Lib.hid (owned (ho1.mono (lo' := w6.heap.size + 1) (by simp) (Nat.le_refl _)))
  clear hb ho1
  replace FB := Lib.hid (FB.out.alloc (.cells #[.int .i64 a1z0, .slice xa1A1 a1n1 xa1c1] 55))
  replace Fa01 := Lib.hid (Fa01.out.alloc (.cells #[.int .i64 a1z0, .slice xa1A1 a1n1 xa1c1] 55))
  replace Fa02 := Lib.hid (Fa02.out.alloc (.cells #[.int .i64 a1z0, .slice xa1A1 a1n1 xa1c1] 55))
  replace Fa11 := Lib.hid (Fa11.out.alloc (.cells #[.int .i64 a1z0, .slice xa1A1 a1n1 xa1c1] 55))
  replace Ba0 := Lib.hid (Ba0.out.alloc (.cells #[.int .i64 a1z0, .slice xa1A1 a1n1 xa1c1] 55))
  replace Ba1 := Lib.hid (Ba1.out.alloc (.cells #[.int .i64 a1z0, .slice xa1A1 a1n1 xa1c1] 55))
  replace Oxa01 := Lib.hid (Oxa01.out.alloc (.cells #[.int .i64 a1z0, .slice xa1A1 a1n1 xa1c1] 55))
  replace Oxa02 := Lib.hid (Oxa02.out.alloc (.cells #[.int .i64 a1z0, .slice xa1A1 a1n1 xa1c1] 55))
  replace Yxa0 := Lib.hid (Yxa0.out.alloc (.cells #[.int .i64 a1z0, .slice xa1A1 a1n1 xa1c1] 55))
  replace Oxa11 := Lib.hid (Oxa11.out.alloc (.cells #[.int .i64 a1z0, .slice xa1A1 a1n1 xa1c1] 55))
  have Yxa1 := Lib.hid (boxed w7 #[.int .i64 a1z0, .slice xa1A1 a1n1 xa1c1] 55)
  have c_Yxa0_0 := Yxa0.out.now 0 _ rfl
  have c_Yxa0_1 := Yxa0.out.now 1 _ rfl
  have c_Yxa0_2 := Yxa0.out.now 2 _ rfl
  have c_Yxa1_0 := Yxa1.out.now 0 _ rfl
  have c_Yxa1_1 := Yxa1.out.now 1 _ rfl
  go_wp2_with fail
  refine (S2.out _ _ _ _ _ _ _ Oxa01.out.orowV Oxa02.out.orow Oxa11.out.orow).mono ?_; rintro e w8 ⟨rfl, hb⟩
  replace FB := Lib.hid (FB.out.b hb)
  replace Fa01 := Lib.hid (Fa01.out.b hb)
  replace Fa02 := Lib.hid (Fa02.out.b hb)
  replace Fa11 := Lib.hid (Fa11.out.b hb)
  replace Ba0 := Lib.hid (Ba0.out.b hb)
  replace Ba1 := Lib.hid (Ba1.out.b hb)
  replace Oxa01 := Lib.hid (Oxa01.out.b hb)
  replace Oxa02 := Lib.hid (Oxa02.out.b hb)
  replace Yxa0 := Lib.hid (Yxa0.out.b hb)
  replace Oxa11 := Lib.hid (Oxa11.out.b hb)
  replace Yxa1 := Lib.hid (Yxa1.out.b hb)
  have z_w8 : w7.heap.size + 1 ≤ w8.heap.size := by have hsz := hb.size; first | omega | (simp at hsz; omega)
  clear c_Yxa0_0 c_Yxa0_1 c_Yxa0_2 c_Yxa1_0 c_Yxa1_1
  clear hb 
  have c_Ba0_0 := Ba0.out.now 0 _ rfl
  have c_Ba0_1 := Ba0.out.now 1 _ rfl
  have c_Ba0_2 := Ba0.out.now 2 _ rfl
  have c_Yxa0_0 := Yxa0.out.now 0 _ rfl
  have c_Yxa0_1 := Yxa0.out.now 1 _ rfl
  have c_Yxa0_2 := Yxa0.out.now 2 _ rfl
  go_wp2_with fail
  go_region_held3 (fun w' => w'.cell? ⟨w.heap.size, 0, none⟩ = some (.int .i64 a0z0) ∧ w'.cell? ⟨w.heap.size, 1, none⟩ = some (.slice a0A1 a0n1 a0c1) ∧ w'.cell? ⟨w.heap.size, 2, none⟩ = some (.slice a0A2 a0n2 a0c2) ∧ w'.cell? ⟨w6.heap.size, 0, none⟩ = some (.int .i64 a0z0) ∧ w'.cell? ⟨w6.heap.size, 1, none⟩ = some (.slice xa0A1 a0n1 xa0c1) ∧ w'.cell? ⟨w6.heap.size, 2, none⟩ = some (.slice xa0A2 a0n2 xa0c2))
    (first | (go_keep; done) | exact ⟨(((Ba0.out.b hq1).b hq2)).now 0 _ rfl, (((Ba0.out.b hq1).b hq2)).now 1 _ rfl, (((Ba0.out.b hq1).b hq2)).now 2 _ rfl, (((Yxa0.out.b hq1).b hq2)).now 0 _ rfl, (((Yxa0.out.b hq1).b hq2)).now 1 _ rfl, (((Yxa0.out.b hq1).b hq2)).now 2 _ rfl⟩ | exact ⟨((Ba0.out.b hq1)).now 0 _ rfl, ((Ba0.out.b hq1)).now 1 _ rfl, ((Ba0.out.b hq1)).now 2 _ rfl, ((Yxa0.out.b hq1)).now 0 _ rfl, ((Yxa0.out.b hq1)).now 1 _ rfl, ((Yxa0.out.b hq1)).now 2 _ rfl⟩)
    (first
      | (have hqz := hq1; clear hqz; go_at_call 16; (first | refine (eq_System ha0k1 ha0k2 ((Oxa01.out.b hq1)).orowV ((Oxa02.out.b hq1)).orow (ownedV ho1).orowV (owned ho2).orow).mono ?_); rintro e w10 ⟨rfl, hq2⟩)
      | (go_at_call 14; (first | refine (to_System ha0k1 ha0k2 (Fa01.out).rowV (Fa02.out).row).mono ?_ | refine (to_System ha0k1 ha0k2 (VRow.drew (Fa01.out).rowV) (GRow.drew (Fa02.out).row)).mono ?_); rintro e w9 ⟨ya0A1, ya0c1, ya0A2, ya0c2, rfl, ho1, ho2, hq1'⟩; have hq1 := of_drew hq1'; clear hq1'))
  replace FB := Lib.hid (FB.out.b hq1)
  replace Fa01 := Lib.hid (Fa01.out.b hq1)
  replace Fa02 := Lib.hid (Fa02.out.b hq1)
  replace Fa11 := Lib.hid (Fa11.out.b hq1)
  replace Ba0 := Lib.hid (Ba0.out.b hq1)
  replace Ba1 := Lib.hid (Ba1.out.b hq1)
  replace Oxa01 := Lib.hid (Oxa01.out.b hq1)
  replace Oxa02 := Lib.hid (Oxa02.out.b hq1)
  replace Yxa0 := Lib.hid (Yxa0.out.b hq1)
  replace Oxa11 := Lib.hid (Oxa11.out.b hq1)
  replace Yxa1 := Lib.hid (Yxa1.out.b hq1)
  replace FB := Lib.hid (FB.out.b hq2)
  replace Fa01 := Lib.hid (Fa01.out.b hq2)
  replace Fa02 := Lib.hid (Fa02.out.b hq2)
  replace Fa11 := Lib.hid (Fa11.out.b hq2)
  replace Ba0 := Lib.hid (Ba0.out.b hq2)
  replace Ba1 := Lib.hid (Ba1.out.b hq2)
  replace Oxa01 := Lib.hid (Oxa01.out.b hq2)
  replace Oxa02 := Lib.hid (Oxa02.out.b hq2)
  replace Yxa0 := Lib.hid (Yxa0.out.b hq2)
  replace Oxa11 := Lib.hid (Oxa11.out.b hq2)
  replace Yxa1 := Lib.hid (Yxa1.out.b hq2)
  have z_w9 : w8.heap.size ≤ w9.heap.size := by have hsz := hq1.size; first | omega | (simp at hsz; omega)
  have z_w10 : w9.heap.size ≤ w10.heap.size := hq2.size
  clear c_Ba0_0 c_Ba0_1 c_Ba0_2 c_Yxa0_0 c_Yxa0_1 c_Yxa0_2
  clear hq1 hq2 ho1 ho2
  have c_Ba1_0 := Ba1.out.now 0 _ rfl
  have c_Ba1_1 := Ba1.out.now 1 _ rfl
  have c_Yxa1_0 := Yxa1.out.now 0 _ rfl
  have c_Yxa1_1 := Yxa1.out.now 1 _ rfl
  go_wp2_with fail
  go_region_held3 (fun w' => w'.cell? ⟨w.heap.size + 1, 0, none⟩ = some (.int .i64 a1z0) ∧ w'.cell? ⟨w.heap.size + 1, 1, none⟩ = some (.slice a1A1 a1n1 a1c1) ∧ w'.cell? ⟨w7.heap.size, 0, none⟩ = some (.int .i64 a1z0) ∧ w'.cell? ⟨w7.heap.size, 1, none⟩ = some (.slice xa1A1 a1n1 xa1c1))
    (first | (go_keep; done) | exact ⟨(((Ba1.out.b hq1).b hq2)).now 0 _ rfl, (((Ba1.out.b hq1).b hq2)).now 1 _ rfl, (((Yxa1.out.b hq1).b hq2)).now 0 _ rfl, (((Yxa1.out.b hq1).b hq2)).now 1 _ rfl⟩ | exact ⟨((Ba1.out.b hq1)).now 0 _ rfl, ((Ba1.out.b hq1)).now 1 _ rfl, ((Yxa1.out.b hq1)).now 0 _ rfl, ((Yxa1.out.b hq1)).now 1 _ rfl⟩)
    (first
      | (have hqz := hq1; clear hqz; go_at_call 32; (first | refine (eq_Bits ha1k1 ((Oxa11.out.b hq1)).orow (owned ho1).orow).mono ?_); rintro e w12 ⟨rfl, hq2⟩)
      | (go_at_call 30; (first | refine (to_Bits ha1k1 (Fa11.out).row).mono ?_ | refine (to_Bits ha1k1 (GRow.drew (Fa11.out).row)).mono ?_); rintro e w11 ⟨ya1A1, ya1c1, rfl, ho1, hq1'⟩; have hq1 := of_drew hq1'; clear hq1'))
  replace FB := Lib.hid (FB.out.b hq1)
  replace Fa01 := Lib.hid (Fa01.out.b hq1)
  replace Fa02 := Lib.hid (Fa02.out.b hq1)
  replace Fa11 := Lib.hid (Fa11.out.b hq1)
  replace Ba0 := Lib.hid (Ba0.out.b hq1)
  replace Ba1 := Lib.hid (Ba1.out.b hq1)
  replace Oxa01 := Lib.hid (Oxa01.out.b hq1)
  replace Oxa02 := Lib.hid (Oxa02.out.b hq1)
  replace Yxa0 := Lib.hid (Yxa0.out.b hq1)
  replace Oxa11 := Lib.hid (Oxa11.out.b hq1)
  replace Yxa1 := Lib.hid (Yxa1.out.b hq1)
  replace FB := Lib.hid (FB.out.b hq2)
  replace Fa01 := Lib.hid (Fa01.out.b hq2)
  replace Fa02 := Lib.hid (Fa02.out.b hq2)
  replace Fa11 := Lib.hid (Fa11.out.b hq2)
  replace Ba0 := Lib.hid (Ba0.out.b hq2)
  replace Ba1 := Lib.hid (Ba1.out.b hq2)
  replace Oxa01 := Lib.hid (Oxa01.out.b hq2)
  replace Oxa02 := Lib.hid (Oxa02.out.b hq2)
  replace Yxa0 := Lib.hid (Yxa0.out.b hq2)
  replace Oxa11 := Lib.hid (Oxa11.out.b hq2)
  replace Yxa1 := Lib.hid (Yxa1.out.b hq2)
  have z_w11 : w10.heap.size ≤ w11.heap.size := by have hsz := hq1.size; first | omega | (simp at hsz; omega)
  have z_w12 : w11.heap.size ≤ w12.heap.size := hq2.size
  clear c_Ba1_0 c_Ba1_1 c_Yxa1_0 c_Yxa1_1
  clear hq1 hq2 ho1
  go_wp2_with fail
  go_ret
  exact ⟨rfl, FB.out.now⟩
theorem walk_FnExactIsSolution (w : World) (z : Int) (_wz : (Lit.int .i64 z).wf = true) (A : Option Addr) (n c : Nat) (V : Nat → BV) (hn : n ≤ maxLen) (hs : ∀ i, i < n → (V i).l ≤ maxLen) (hr : VRow w A n V) (B : Option Addr) (m k : Nat) (R : Nat → Bool) (hm : m ≤ maxLen) (hq : GRow w B m (boolV R)) (y : Int) (_wy : (Lit.int .i64 y).wf = true) (Y : Option Addr) (l e : Nat) (U : Nat → Int) (hl : l ≤ maxLen) (hy : IRow w Y l U) :
    Calls Try.prog 5 #[.agg #[.int .i64 z, .slice A n c, .slice B m k], .agg #[.int .i64 y, .slice Y l e]] w fun e w' => e = .returned (.bool true) ∧ Below w.heap.size w w' := by
  by_cases hg : SyV z n V m ∧ Good y l U
  · by_cases hne : y = z
    · subst hne
      obtain ⟨Z, rfl⟩ : ∃ Z : Nat, y = Z := ⟨y.toNat, by have := hg.1.1; omega⟩
      obtain rfl : n = m := hg.1.2.2.1.symm
      obtain ⟨b, hb⟩ := bool_fact (SolP V U R Z n)
      exact main_FnExactIsSolution Z n V n R Z l U b true A c B k Y e w hn hr hs hm hq hl hy
        (fun h _ _ _ _ _ _ w ⟨_, _, g⟩ g2 g3 => spec_isSolution hb (by omega) (by omega) g g2 g3 hg.1 hg.2) (fun h _ _ _ _ _ _ w ⟨_, _, g⟩ g2 g3 => impl_isSolution hb (by omega) (by omega) g g2 g3 hg.1 hg.2)
    · exact main_FnExactIsSolution z n V m R y l U false true A c B k Y e w hn hr hs hm hq hl hy
        (fun h _ _ _ _ _ _ w ⟨_, _, g⟩ g2 g3 => spec_isSolution_size (by omega) (by omega) (by omega) g g2 g3 hg.1 hg.2 hne) (fun h _ _ _ _ _ _ w ⟨_, _, g⟩ g2 g3 => impl_isSolution_size (by omega) (by omega) (by omega) g g2 g3 hg.1 hg.2 hne)
  · exact main_FnExactIsSolution z n V m R y l U false false A c B k Y e w hn hr hs hm hq hl hy
      (fun h _ _ _ _ _ _ w ⟨_, _, g⟩ g2 g3 => spec_isSolution_no (by omega) (by omega) (by omega) g g2 g3 hg) (fun h _ _ _ _ _ _ w ⟨_, _, g⟩ g2 g3 => impl_isSolution_no (by omega) (by omega) (by omega) g g2 g3 hg)
end Go.Proofs.Ytijlpbcgkecinaa
