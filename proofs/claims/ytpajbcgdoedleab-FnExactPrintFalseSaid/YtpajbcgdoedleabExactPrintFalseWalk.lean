/- The law of PrintFalse, walked: what both sides answer comes in as hypotheses. -/
import Derived.Test.YtpajbcgdoedleabObjTa
import Derived.Test.YtpajbcgdoedleabObjStr
import Derived.Test.YtpajbcgdoedleabObjInt
import Derived.Test.YtpajbcgdoedleabPrF
import Derived.Deep.RegionHeld3
namespace Go.Proofs.Ytpajbcgdoedleab
open Go.RowKit

set_option maxRecDepth 100000 in
set_option maxHeartbeats 8000000 in
theorem main_FnExactPrintFalse (a0z0 : Int) (a0z1 : Int) (a0z2 : Int) (a0n3 : Nat) (a0X3 : Nat → Int) (a1n0 : Nat) (a1X0 : Nat → ByteArray) (a2n0 : Nat) (a2X0 : Nat → ByteArray) (r0n0 : Nat) (r0X0 : Nat → Int) (r1z0 : Bool) (a0A3 : Option Addr) (a0c3 : Nat) (a1A0 : Option Addr) (a1c0 : Nat) (a2A0 : Option Addr) (a2c0 : Nat) (w : World) (ha0m3 : a0n3 ≤ maxLen) (ha0r3 : GRow w a0A3 a0n3 (intV a0X3)) (ha1m0 : a1n0 ≤ maxLen) (ha1r0 : GRow w a1A0 a1n0 (strV a1X0)) (ha1s0 : ∀ i, i < a1n0 → (a1X0 i).size ≤ maxLen) (ha2m0 : a2n0 ≤ maxLen) (ha2r0 : GRow w a2A0 a2n0 (strV a2X0)) (ha2s0 : ∀ i, i < a2n0 → (a2X0 i).size ≤ maxLen) (hr0m0 : r0n0 ≤ 1048576)
    (s1 : a0n3 + a1n0 + (sizeS a1X0 a1n0) + a2n0 + (sizeS a2X0 a2n0) ≤ 1048576 → ∀ (ua0A3 : Option Addr) (ua0c3 : Nat) (ua1A0 : Option Addr) (ua1c0 : Nat) (ua2A0 : Option Addr) (ua2c0 : Nat) (w : World), GRow w ua0A3 a0n3 (intV a0X3) → GRow w ua1A0 a1n0 (strV a1X0) → GRow w ua2A0 a2n0 (strV a2X0) → Calls Try.prog 41 #[.agg #[.int .i64 a0z0, .int .i64 a0z1, .int .i64 a0z2, .slice ua0A3 a0n3 ua0c3], .slice ua1A0 a1n0 ua1c0, .slice ua2A0 a2n0 ua2c0] w fun e w' => ∃ vr0A0 vr0c0, e = .returned (.tuple #[.slice vr0A0 r0n0 vr0c0, .bool r1z0]) ∧ GRow w' vr0A0 r0n0 (intV r0X0) ∧ Below w.heap.size w w')
    (s2 : a0n3 + a1n0 + (sizeS a1X0 a1n0) + a2n0 + (sizeS a2X0 a2n0) ≤ 1048576 → ∀ (ua0A3 : Option Addr) (ua0c3 : Nat) (ua1A0 : Option Addr) (ua1c0 : Nat) (ua2A0 : Option Addr) (ua2c0 : Nat) (w : World), GRow w ua0A3 a0n3 (intV a0X3) → GRow w ua1A0 a1n0 (strV a1X0) → GRow w ua2A0 a2n0 (strV a2X0) → Calls Try.prog 42 #[.agg #[.int .i64 a0z0, .int .i64 a0z1, .int .i64 a0z2, .slice ua0A3 a0n3 ua0c3], .slice ua1A0 a1n0 ua1c0, .slice ua2A0 a2n0 ua2c0] w fun e w' => ∃ vr0A0 vr0c0, e = .returned (.tuple #[.slice vr0A0 r0n0 vr0c0, .bool r1z0]) ∧ Ow w.heap.size w'.heap.size 3 vr0A0 r0n0 (intV r0X0) w' ∧ Below w.heap.size w w') :
    Calls Try.prog 10 #[.agg #[.int .i64 a0z0, .int .i64 a0z1, .int .i64 a0z2, .slice a0A3 a0n3 a0c3], .slice a1A0 a1n0 a1c0, .slice a2A0 a2n0 a2c0] w fun e w' => e = .returned (.bool true) ∧ Below w.heap.size w w' := by
  have S1 := Lib.hid s1
  have S2 := Lib.hid s2
  clear s1 s2
  have FB := Lib.hid ((At.start w).alloc (.cells #[.int .i64 a0z0, .int .i64 a0z1, .int .i64 a0z2, .slice a0A3 a0n3 a0c3] 53))
  have Fa03 := Lib.hid ((rd_of_row ha0r3).alloc (.cells #[.int .i64 a0z0, .int .i64 a0z1, .int .i64 a0z2, .slice a0A3 a0n3 a0c3] 53))
  have Fa10 := Lib.hid ((rd_of_row ha1r0).alloc (.cells #[.int .i64 a0z0, .int .i64 a0z1, .int .i64 a0z2, .slice a0A3 a0n3 a0c3] 53))
  have Fa20 := Lib.hid ((rd_of_row ha2r0).alloc (.cells #[.int .i64 a0z0, .int .i64 a0z1, .int .i64 a0z2, .slice a0A3 a0n3 a0c3] 53))
  have Ba0 := Lib.hid (boxed w #[.int .i64 a0z0, .int .i64 a0z1, .int .i64 a0z2, .slice a0A3 a0n3 a0c3] 53)
  clear ha0r3 ha1r0 ha2r0
  go_enter Try.func10, Try.ntmps10
  go_wp2_with fail
  refine (sz_Table ha0m3 (by omega) (by omega)).mono ?_; rintro e w1 ⟨rfl, hb⟩
  replace FB := Lib.hid (FB.out.b hb)
  replace Fa03 := Lib.hid (Fa03.out.b hb)
  replace Fa10 := Lib.hid (Fa10.out.b hb)
  replace Fa20 := Lib.hid (Fa20.out.b hb)
  replace Ba0 := Lib.hid (Ba0.out.b hb)
  have z_w1 : w.heap.size + 1 ≤ w1.heap.size := by have hsz := hb.size; first | omega | (simp at hsz; omega)
  clear hb
  by_cases hZ_a0 : ((a0n3 : Nat) : Int) ≤ (1048576 : Int)
  rotate_left
  · rw [szv_no hZ_a0]
    go_wp2_with fail
    go_ret
    exact ⟨rfl, FB.out.now⟩
  rw [szv_yes hZ_a0]
  have hL_a0 : ¬ (((1048576 : Int) - (((a0n3 : Nat) : Int))) < 0) := by omega
  have c_Ba0_0 := Ba0.out.now 0 _ rfl
  have c_Ba0_1 := Ba0.out.now 1 _ rfl
  have c_Ba0_2 := Ba0.out.now 2 _ rfl
  have c_Ba0_3 := Ba0.out.now 3 _ rfl
  go_wp2_with fail
  refine (sz_StringS ha1m0 ha1s0 Fa10.out.row (by omega) (by omega)).mono ?_; rintro e w2 ⟨rfl, hb⟩
  replace FB := Lib.hid (FB.out.b hb)
  replace Fa03 := Lib.hid (Fa03.out.b hb)
  replace Fa10 := Lib.hid (Fa10.out.b hb)
  replace Fa20 := Lib.hid (Fa20.out.b hb)
  replace Ba0 := Lib.hid (Ba0.out.b hb)
  have z_w2 : w1.heap.size ≤ w2.heap.size := by have hsz := hb.size; first | omega | (simp at hsz; omega)
  clear c_Ba0_0 c_Ba0_1 c_Ba0_2 c_Ba0_3
  clear hb
  by_cases hZ_a1 : ((a1n0 + (sizeS a1X0 a1n0) : Nat) : Int) ≤ ((1048576 : Int) - (((a0n3 : Nat) : Int)))
  rotate_left
  · rw [szv_no hZ_a1]
    go_wp2_with fail
    go_ret
    exact ⟨rfl, FB.out.now⟩
  rw [szv_yes hZ_a1]
  have hL_a1 : ¬ ((((1048576 : Int) - (((a0n3 : Nat) : Int))) - (((a1n0 : Nat) : Int) + (((sizeS a1X0 a1n0) : Nat) : Int))) < 0) := by omega
  have c_Ba0_0 := Ba0.out.now 0 _ rfl
  have c_Ba0_1 := Ba0.out.now 1 _ rfl
  have c_Ba0_2 := Ba0.out.now 2 _ rfl
  have c_Ba0_3 := Ba0.out.now 3 _ rfl
  go_wp2_with fail
  refine (sz_StringS ha2m0 ha2s0 Fa20.out.row (by omega) (by omega)).mono ?_; rintro e w3 ⟨rfl, hb⟩
  replace FB := Lib.hid (FB.out.b hb)
  replace Fa03 := Lib.hid (Fa03.out.b hb)
  replace Fa10 := Lib.hid (Fa10.out.b hb)
  replace Fa20 := Lib.hid (Fa20.out.b hb)
  replace Ba0 := Lib.hid (Ba0.out.b hb)
  have z_w3 : w2.heap.size ≤ w3.heap.size := by have hsz := hb.size; first | omega | (simp at hsz; omega)
  clear c_Ba0_0 c_Ba0_1 c_Ba0_2 c_Ba0_3
  clear hb
  by_cases hZ_a2 : ((a2n0 + (sizeS a2X0 a2n0) : Nat) : Int) ≤ (((1048576 : Int) - (((a0n3 : Nat) : Int))) - (((a1n0 : Nat) : Int) + (((sizeS a1X0 a1n0) : Nat) : Int)))
  rotate_left
  · rw [szv_no hZ_a2]
    go_wp2_with fail
    go_ret
    exact ⟨rfl, FB.out.now⟩
  rw [szv_yes hZ_a2]
  have hL_a2 : ¬ (((((1048576 : Int) - (((a0n3 : Nat) : Int))) - (((a1n0 : Nat) : Int) + (((sizeS a1X0 a1n0) : Nat) : Int))) - (((a2n0 : Nat) : Int) + (((sizeS a2X0 a2n0) : Nat) : Int))) < 0) := by omega
  have c_Ba0_0 := Ba0.out.now 0 _ rfl
  have c_Ba0_1 := Ba0.out.now 1 _ rfl
  have c_Ba0_2 := Ba0.out.now 2 _ rfl
  have c_Ba0_3 := Ba0.out.now 3 _ rfl
  replace S1 := Lib.hid (S1.out (by omega))
  replace S2 := Lib.hid (S2.out (by omega))
  have ha0k3 : a0n3 ≤ 1048576 := by omega
  have ha1k0 : a1n0 ≤ 1048576 := by omega
  have ha2k0 : a2n0 ≤ 1048576 := by omega
  go_wp2_with fail
  refine (to_Table ha0k3 Fa03.out.row).mono ?_; rintro e w4 ⟨tma0A3, tma0c3, rfl, ho3, hb⟩
  replace FB := Lib.hid (FB.out.b hb)
  replace Fa03 := Lib.hid (Fa03.out.b hb)
  replace Fa10 := Lib.hid (Fa10.out.b hb)
  replace Fa20 := Lib.hid (Fa20.out.b hb)
  replace Ba0 := Lib.hid (Ba0.out.b hb)
  have z_w4 : w3.heap.size ≤ w4.heap.size := by have hsz := hb.size; first | omega | (simp at hsz; omega)
  clear c_Ba0_0 c_Ba0_1 c_Ba0_2 c_Ba0_3
  have Otma03 := Lib.hid (owned (ho3.mono (lo' := w3.heap.size) (Nat.le_refl _) (Nat.le_refl _)))
  clear hb ho3
  go_wp2_with fail
  refine (to_StringS ha1k0 Fa10.out.row).mono ?_; rintro e w5 ⟨tma1A0, tma1c0, rfl, ho0, hb⟩
  replace FB := Lib.hid (FB.out.b hb)
  replace Fa03 := Lib.hid (Fa03.out.b hb)
  replace Fa10 := Lib.hid (Fa10.out.b hb)
  replace Fa20 := Lib.hid (Fa20.out.b hb)
  replace Ba0 := Lib.hid (Ba0.out.b hb)
  replace Otma03 := Lib.hid (Otma03.out.b hb)
  have z_w5 : w4.heap.size ≤ w5.heap.size := by have hsz := hb.size; first | omega | (simp at hsz; omega)
  have Otma10 := Lib.hid (owned (ho0.mono (lo' := w4.heap.size) (Nat.le_refl _) (Nat.le_refl _)))
  clear hb ho0
  go_wp2_with fail
  refine (to_StringS ha2k0 Fa20.out.row).mono ?_; rintro e w6 ⟨tma2A0, tma2c0, rfl, ho0, hb⟩
  replace FB := Lib.hid (FB.out.b hb)
  replace Fa03 := Lib.hid (Fa03.out.b hb)
  replace Fa10 := Lib.hid (Fa10.out.b hb)
  replace Fa20 := Lib.hid (Fa20.out.b hb)
  replace Ba0 := Lib.hid (Ba0.out.b hb)
  replace Otma03 := Lib.hid (Otma03.out.b hb)
  replace Otma10 := Lib.hid (Otma10.out.b hb)
  have z_w6 : w5.heap.size ≤ w6.heap.size := by have hsz := hb.size; first | omega | (simp at hsz; omega)
  have Otma20 := Lib.hid (owned (ho0.mono (lo' := w5.heap.size) (Nat.le_refl _) (Nat.le_refl _)))
  clear hb ho0
  go_wp2_with fail
  refine (S1.out _ _ _ _ _ _ _ Otma03.out.orow Otma10.out.orow Otma20.out.orow).mono ?_; rintro e w7 ⟨mr0A0, mr0c0, rfl, hrr00, hb⟩
  replace FB := Lib.hid (FB.out.b hb)
  replace Fa03 := Lib.hid (Fa03.out.b hb)
  replace Fa10 := Lib.hid (Fa10.out.b hb)
  replace Fa20 := Lib.hid (Fa20.out.b hb)
  replace Ba0 := Lib.hid (Ba0.out.b hb)
  replace Otma03 := Lib.hid (Otma03.out.b hb)
  replace Otma10 := Lib.hid (Otma10.out.b hb)
  replace Otma20 := Lib.hid (Otma20.out.b hb)
  have z_w7 : w6.heap.size ≤ w7.heap.size := by have hsz := hb.size; first | omega | (simp at hsz; omega)
  have Vmr00 := Lib.hid (rd_of_row hrr00)
  clear hb hrr00
  clear Otma03 Otma10 Otma20
  have c_Ba0_0 := Ba0.out.now 0 _ rfl
  have c_Ba0_1 := Ba0.out.now 1 _ rfl
  have c_Ba0_2 := Ba0.out.now 2 _ rfl
  have c_Ba0_3 := Ba0.out.now 3 _ rfl
  go_wp2_with fail
  refine (to_Table ha0k3 Fa03.out.row).mono ?_; rintro e w8 ⟨xa0A3, xa0c3, rfl, ho3, hb⟩
  replace FB := Lib.hid (FB.out.b hb)
  replace Fa03 := Lib.hid (Fa03.out.b hb)
  replace Fa10 := Lib.hid (Fa10.out.b hb)
  replace Fa20 := Lib.hid (Fa20.out.b hb)
  replace Ba0 := Lib.hid (Ba0.out.b hb)
  replace Vmr00 := Lib.hid (Vmr00.out.b hb)
  have z_w8 : w7.heap.size ≤ w8.heap.size := by have hsz := hb.size; first | omega | (simp at hsz; omega)
  clear c_Ba0_0 c_Ba0_1 c_Ba0_2 c_Ba0_3
  have Oxa03 := Lib.hid (owned (ho3.mono (lo' := w7.heap.size) (Nat.le_refl _) (Nat.le_refl _)))
  clear hb ho3
  replace FB := Lib.hid (FB.out.alloc (.cells #[.int .i64 a0z0, .int .i64 a0z1, .int .i64 a0z2, .slice xa0A3 a0n3 xa0c3] 57))
  replace Fa03 := Lib.hid (Fa03.out.alloc (.cells #[.int .i64 a0z0, .int .i64 a0z1, .int .i64 a0z2, .slice xa0A3 a0n3 xa0c3] 57))
  replace Fa10 := Lib.hid (Fa10.out.alloc (.cells #[.int .i64 a0z0, .int .i64 a0z1, .int .i64 a0z2, .slice xa0A3 a0n3 xa0c3] 57))
  replace Fa20 := Lib.hid (Fa20.out.alloc (.cells #[.int .i64 a0z0, .int .i64 a0z1, .int .i64 a0z2, .slice xa0A3 a0n3 xa0c3] 57))
  replace Ba0 := Lib.hid (Ba0.out.alloc (.cells #[.int .i64 a0z0, .int .i64 a0z1, .int .i64 a0z2, .slice xa0A3 a0n3 xa0c3] 57))
  replace Vmr00 := Lib.hid (Vmr00.out.alloc (.cells #[.int .i64 a0z0, .int .i64 a0z1, .int .i64 a0z2, .slice xa0A3 a0n3 xa0c3] 57))
  replace Oxa03 := Lib.hid (Oxa03.out.alloc (.cells #[.int .i64 a0z0, .int .i64 a0z1, .int .i64 a0z2, .slice xa0A3 a0n3 xa0c3] 57))
  have Yxa0 := Lib.hid (boxed w8 #[.int .i64 a0z0, .int .i64 a0z1, .int .i64 a0z2, .slice xa0A3 a0n3 xa0c3] 57)
  have c_Ba0_0 := Ba0.out.now 0 _ rfl
  have c_Ba0_1 := Ba0.out.now 1 _ rfl
  have c_Ba0_2 := Ba0.out.now 2 _ rfl
  have c_Ba0_3 := Ba0.out.now 3 _ rfl
  go_wp2_with fail
  refine (to_StringS ha1k0 Fa10.out.row).mono ?_; rintro e w9 ⟨xa1A0, xa1c0, rfl, ho0, hb⟩
  replace FB := Lib.hid (FB.out.b hb)
  replace Fa03 := Lib.hid (Fa03.out.b hb)
  replace Fa10 := Lib.hid (Fa10.out.b hb)
  replace Fa20 := Lib.hid (Fa20.out.b hb)
  replace Ba0 := Lib.hid (Ba0.out.b hb)
  replace Vmr00 := Lib.hid (Vmr00.out.b hb)
  replace Oxa03 := Lib.hid (Oxa03.out.b hb)
  replace Yxa0 := Lib.hid (Yxa0.out.b hb)
  have z_w9 : w8.heap.size + 1 ≤ w9.heap.size := by have hsz := hb.size; first | omega | (simp at hsz; omega)
  clear c_Ba0_0 c_Ba0_1 c_Ba0_2 c_Ba0_3
  have Oxa10 := Lib.hid (owned (ho0.mono (lo' := w8.heap.size + 1) (by simp) (Nat.le_refl _)))
  clear hb ho0
  have c_Ba0_0 := Ba0.out.now 0 _ rfl
  have c_Ba0_1 := Ba0.out.now 1 _ rfl
  have c_Ba0_2 := Ba0.out.now 2 _ rfl
  have c_Ba0_3 := Ba0.out.now 3 _ rfl
  go_wp2_with fail
  refine (to_StringS ha2k0 Fa20.out.row).mono ?_; rintro e w10 ⟨xa2A0, xa2c0, rfl, ho0, hb⟩
  replace FB := Lib.hid (FB.out.b hb)
  replace Fa03 := Lib.hid (Fa03.out.b hb)
  replace Fa10 := Lib.hid (Fa10.out.b hb)
  replace Fa20 := Lib.hid (Fa20.out.b hb)
  replace Ba0 := Lib.hid (Ba0.out.b hb)
  replace Vmr00 := Lib.hid (Vmr00.out.b hb)
  replace Oxa03 := Lib.hid (Oxa03.out.b hb)
  replace Yxa0 := Lib.hid (Yxa0.out.b hb)
  replace Oxa10 := Lib.hid (Oxa10.out.b hb)
  have z_w10 : w9.heap.size ≤ w10.heap.size := by have hsz := hb.size; first | omega | (simp at hsz; omega)
  clear c_Ba0_0 c_Ba0_1 c_Ba0_2 c_Ba0_3
  have Oxa20 := Lib.hid (owned (ho0.mono (lo' := w9.heap.size) (Nat.le_refl _) (Nat.le_refl _)))
  clear hb ho0
  have c_Yxa0_0 := Yxa0.out.now 0 _ rfl
  have c_Yxa0_1 := Yxa0.out.now 1 _ rfl
  have c_Yxa0_2 := Yxa0.out.now 2 _ rfl
  have c_Yxa0_3 := Yxa0.out.now 3 _ rfl
  go_wp2_with fail
  refine (S2.out _ _ _ _ _ _ _ Oxa03.out.orow Oxa10.out.orow Oxa20.out.orow).mono ?_; rintro e w11 ⟨gr0A0, gr0c0, rfl, hrr00, hb⟩
  replace FB := Lib.hid (FB.out.b hb)
  replace Fa03 := Lib.hid (Fa03.out.b hb)
  replace Fa10 := Lib.hid (Fa10.out.b hb)
  replace Fa20 := Lib.hid (Fa20.out.b hb)
  replace Ba0 := Lib.hid (Ba0.out.b hb)
  replace Vmr00 := Lib.hid (Vmr00.out.b hb)
  replace Oxa03 := Lib.hid (Oxa03.out.b hb)
  replace Yxa0 := Lib.hid (Yxa0.out.b hb)
  replace Oxa10 := Lib.hid (Oxa10.out.b hb)
  replace Oxa20 := Lib.hid (Oxa20.out.b hb)
  have z_w11 : w10.heap.size ≤ w11.heap.size := by have hsz := hb.size; first | omega | (simp at hsz; omega)
  clear c_Yxa0_0 c_Yxa0_1 c_Yxa0_2 c_Yxa0_3
  have Ogr00 := Lib.hid (owned (hrr00.mono (lo' := w10.heap.size) (Nat.le_refl _) (Nat.le_refl _)))
  clear hb hrr00
  go_wp2_with fail
  refine (eq_IntS hr0m0 Ogr00.out.orow Vmr00.out.row).mono ?_; rintro e w12 ⟨rfl, hb⟩
  replace FB := Lib.hid (FB.out.b hb)
  replace Fa03 := Lib.hid (Fa03.out.b hb)
  replace Fa10 := Lib.hid (Fa10.out.b hb)
  replace Fa20 := Lib.hid (Fa20.out.b hb)
  replace Ba0 := Lib.hid (Ba0.out.b hb)
  replace Vmr00 := Lib.hid (Vmr00.out.b hb)
  replace Oxa03 := Lib.hid (Oxa03.out.b hb)
  replace Yxa0 := Lib.hid (Yxa0.out.b hb)
  replace Oxa10 := Lib.hid (Oxa10.out.b hb)
  replace Oxa20 := Lib.hid (Oxa20.out.b hb)
  replace Ogr00 := Lib.hid (Ogr00.out.b hb)
  have z_w12 : w11.heap.size ≤ w12.heap.size := by have hsz := hb.size; first | omega | (simp at hsz; omega)
  clear hb
  have c_Ba0_0 := Ba0.out.now 0 _ rfl
  have c_Ba0_1 := Ba0.out.now 1 _ rfl
  have c_Ba0_2 := Ba0.out.now 2 _ rfl
  have c_Ba0_3 := Ba0.out.now 3 _ rfl
  have c_Yxa0_0 := Yxa0.out.now 0 _ rfl
  have c_Yxa0_1 := Yxa0.out.now 1 _ rfl
  have c_Yxa0_2 := Yxa0.out.now 2 _ rfl
  have c_Yxa0_3 := Yxa0.out.now 3 _ rfl
  go_wp2_with fail
  go_region_held3 (fun w' => w'.cell? ⟨w.heap.size, 0, none⟩ = some (.int .i64 a0z0) ∧ w'.cell? ⟨w.heap.size, 1, none⟩ = some (.int .i64 a0z1) ∧ w'.cell? ⟨w.heap.size, 2, none⟩ = some (.int .i64 a0z2) ∧ w'.cell? ⟨w.heap.size, 3, none⟩ = some (.slice a0A3 a0n3 a0c3) ∧ w'.cell? ⟨w8.heap.size, 0, none⟩ = some (.int .i64 a0z0) ∧ w'.cell? ⟨w8.heap.size, 1, none⟩ = some (.int .i64 a0z1) ∧ w'.cell? ⟨w8.heap.size, 2, none⟩ = some (.int .i64 a0z2) ∧ w'.cell? ⟨w8.heap.size, 3, none⟩ = some (.slice xa0A3 a0n3 xa0c3))
    (first | (go_keep; done) | exact ⟨(((Ba0.out.b hq1).b hq2)).now 0 _ rfl, (((Ba0.out.b hq1).b hq2)).now 1 _ rfl, (((Ba0.out.b hq1).b hq2)).now 2 _ rfl, (((Ba0.out.b hq1).b hq2)).now 3 _ rfl, (((Yxa0.out.b hq1).b hq2)).now 0 _ rfl, (((Yxa0.out.b hq1).b hq2)).now 1 _ rfl, (((Yxa0.out.b hq1).b hq2)).now 2 _ rfl, (((Yxa0.out.b hq1).b hq2)).now 3 _ rfl⟩ | exact ⟨((Ba0.out.b hq1)).now 0 _ rfl, ((Ba0.out.b hq1)).now 1 _ rfl, ((Ba0.out.b hq1)).now 2 _ rfl, ((Ba0.out.b hq1)).now 3 _ rfl, ((Yxa0.out.b hq1)).now 0 _ rfl, ((Yxa0.out.b hq1)).now 1 _ rfl, ((Yxa0.out.b hq1)).now 2 _ rfl, ((Yxa0.out.b hq1)).now 3 _ rfl⟩)
    (first
      | (have hqz := hq1; clear hqz; go_at_call 40; (first | refine (eq_Table ha0k3 ((Oxa03.out.b hq1)).orow (owned ho3).orow).mono ?_); rintro e w14 ⟨rfl, hq2⟩)
      | (go_at_call 38; (first | refine (to_Table ha0k3 (Fa03.out).row).mono ?_ | refine (to_Table ha0k3 (GRow.drew (Fa03.out).row)).mono ?_); rintro e w13 ⟨ya0A3, ya0c3, rfl, ho3, hq1'⟩; have hq1 := of_drew hq1'; clear hq1'))
  replace FB := Lib.hid (FB.out.b hq1)
  replace Fa03 := Lib.hid (Fa03.out.b hq1)
  replace Fa10 := Lib.hid (Fa10.out.b hq1)
  replace Fa20 := Lib.hid (Fa20.out.b hq1)
  replace Ba0 := Lib.hid (Ba0.out.b hq1)
  replace Vmr00 := Lib.hid (Vmr00.out.b hq1)
  replace Oxa03 := Lib.hid (Oxa03.out.b hq1)
  replace Yxa0 := Lib.hid (Yxa0.out.b hq1)
  replace Oxa10 := Lib.hid (Oxa10.out.b hq1)
  replace Oxa20 := Lib.hid (Oxa20.out.b hq1)
  replace Ogr00 := Lib.hid (Ogr00.out.b hq1)
  replace FB := Lib.hid (FB.out.b hq2)
  replace Fa03 := Lib.hid (Fa03.out.b hq2)
  replace Fa10 := Lib.hid (Fa10.out.b hq2)
  replace Fa20 := Lib.hid (Fa20.out.b hq2)
  replace Ba0 := Lib.hid (Ba0.out.b hq2)
  replace Vmr00 := Lib.hid (Vmr00.out.b hq2)
  replace Oxa03 := Lib.hid (Oxa03.out.b hq2)
  replace Yxa0 := Lib.hid (Yxa0.out.b hq2)
  replace Oxa10 := Lib.hid (Oxa10.out.b hq2)
  replace Oxa20 := Lib.hid (Oxa20.out.b hq2)
  replace Ogr00 := Lib.hid (Ogr00.out.b hq2)
  have z_w13 : w12.heap.size ≤ w13.heap.size := by have hsz := hq1.size; first | omega | (simp at hsz; omega)
  have z_w14 : w13.heap.size ≤ w14.heap.size := hq2.size
  clear c_Ba0_0 c_Ba0_1 c_Ba0_2 c_Ba0_3 c_Yxa0_0 c_Yxa0_1 c_Yxa0_2 c_Yxa0_3
  clear hq1 hq2 ho3
  go_wp2_with fail
  refine (to_StringS ha1k0 Fa10.out.row).mono ?_; rintro e w15 ⟨ya1A0, ya1c0, rfl, ho0, hb⟩
  replace FB := Lib.hid (FB.out.b hb)
  replace Fa03 := Lib.hid (Fa03.out.b hb)
  replace Fa10 := Lib.hid (Fa10.out.b hb)
  replace Fa20 := Lib.hid (Fa20.out.b hb)
  replace Ba0 := Lib.hid (Ba0.out.b hb)
  replace Vmr00 := Lib.hid (Vmr00.out.b hb)
  replace Oxa03 := Lib.hid (Oxa03.out.b hb)
  replace Yxa0 := Lib.hid (Yxa0.out.b hb)
  replace Oxa10 := Lib.hid (Oxa10.out.b hb)
  replace Oxa20 := Lib.hid (Oxa20.out.b hb)
  replace Ogr00 := Lib.hid (Ogr00.out.b hb)
  have z_w15 : w14.heap.size ≤ w15.heap.size := by have hsz := hb.size; first | omega | (simp at hsz; omega)
  have Oya10 := Lib.hid (owned (ho0.mono (lo' := w14.heap.size) (Nat.le_refl _) (Nat.le_refl _)))
  clear hb ho0
  go_wp2_with fail
  refine (eq_StringS ha1k0 Oxa10.out.orow Oya10.out.orow).mono ?_; rintro e w16 ⟨rfl, hb⟩
  replace FB := Lib.hid (FB.out.b hb)
  replace Fa03 := Lib.hid (Fa03.out.b hb)
  replace Fa10 := Lib.hid (Fa10.out.b hb)
  replace Fa20 := Lib.hid (Fa20.out.b hb)
  replace Ba0 := Lib.hid (Ba0.out.b hb)
  replace Vmr00 := Lib.hid (Vmr00.out.b hb)
  replace Oxa03 := Lib.hid (Oxa03.out.b hb)
  replace Yxa0 := Lib.hid (Yxa0.out.b hb)
  replace Oxa10 := Lib.hid (Oxa10.out.b hb)
  replace Oxa20 := Lib.hid (Oxa20.out.b hb)
  replace Ogr00 := Lib.hid (Ogr00.out.b hb)
  replace Oya10 := Lib.hid (Oya10.out.b hb)
  have z_w16 : w15.heap.size ≤ w16.heap.size := by have hsz := hb.size; first | omega | (simp at hsz; omega)
  clear hb
  clear Oya10
  go_wp2_with fail
  refine (to_StringS ha2k0 Fa20.out.row).mono ?_; rintro e w17 ⟨ya2A0, ya2c0, rfl, ho0, hb⟩
  replace FB := Lib.hid (FB.out.b hb)
  replace Fa03 := Lib.hid (Fa03.out.b hb)
  replace Fa10 := Lib.hid (Fa10.out.b hb)
  replace Fa20 := Lib.hid (Fa20.out.b hb)
  replace Ba0 := Lib.hid (Ba0.out.b hb)
  replace Vmr00 := Lib.hid (Vmr00.out.b hb)
  replace Oxa03 := Lib.hid (Oxa03.out.b hb)
  replace Yxa0 := Lib.hid (Yxa0.out.b hb)
  replace Oxa10 := Lib.hid (Oxa10.out.b hb)
  replace Oxa20 := Lib.hid (Oxa20.out.b hb)
  replace Ogr00 := Lib.hid (Ogr00.out.b hb)
  have z_w17 : w16.heap.size ≤ w17.heap.size := by have hsz := hb.size; first | omega | (simp at hsz; omega)
  have Oya20 := Lib.hid (owned (ho0.mono (lo' := w16.heap.size) (Nat.le_refl _) (Nat.le_refl _)))
  clear hb ho0
  go_wp2_with fail
  refine (eq_StringS ha2k0 Oxa20.out.orow Oya20.out.orow).mono ?_; rintro e w18 ⟨rfl, hb⟩
  replace FB := Lib.hid (FB.out.b hb)
  replace Fa03 := Lib.hid (Fa03.out.b hb)
  replace Fa10 := Lib.hid (Fa10.out.b hb)
  replace Fa20 := Lib.hid (Fa20.out.b hb)
  replace Ba0 := Lib.hid (Ba0.out.b hb)
  replace Vmr00 := Lib.hid (Vmr00.out.b hb)
  replace Oxa03 := Lib.hid (Oxa03.out.b hb)
  replace Yxa0 := Lib.hid (Yxa0.out.b hb)
  replace Oxa10 := Lib.hid (Oxa10.out.b hb)
  replace Oxa20 := Lib.hid (Oxa20.out.b hb)
  replace Ogr00 := Lib.hid (Ogr00.out.b hb)
  replace Oya20 := Lib.hid (Oya20.out.b hb)
  have z_w18 : w17.heap.size ≤ w18.heap.size := by have hsz := hb.size; first | omega | (simp at hsz; omega)
  clear hb
  clear Oya20
  have c_Yxa0_0 := Yxa0.out.now 0 _ rfl
  have c_Yxa0_1 := Yxa0.out.now 1 _ rfl
  have c_Yxa0_2 := Yxa0.out.now 2 _ rfl
  have c_Yxa0_3 := Yxa0.out.now 3 _ rfl
  go_wp2_with fail
  refine (mark_Table ha0k3 Oxa03.out.now Oxa03.out.top (by omega) (by omega)).mono ?_; rintro e w19 ⟨rfl, hm0, hg⟩
  replace FB := Lib.hid (FB.out.far hg (by omega))
  replace Fa03 := Lib.hid (Fa03.out.far hg (by omega))
  replace Fa10 := Lib.hid (Fa10.out.far hg (by omega))
  replace Fa20 := Lib.hid (Fa20.out.far hg (by omega))
  replace Ba0 := Lib.hid (Ba0.out.far hg (by omega))
  replace Vmr00 := Lib.hid (Vmr00.out.far hg (by omega))
  replace Yxa0 := Lib.hid (Yxa0.out.far hg (by omega))
  replace Oxa10 := Lib.hid (Oxa10.out.far hg (by omega))
  replace Oxa20 := Lib.hid (Oxa20.out.far hg (by omega))
  replace Ogr00 := Lib.hid (Ogr00.out.far hg (by omega))
  have z_w19 : w18.heap.size ≤ w19.heap.size := by have hsz := hg.size; first | omega | (simp at hsz; omega)
  replace Oxa03 := Lib.hid (At.mk hm0 (Nat.le_trans Oxa03.out.top hg.size) (Ow.lives _ _ _ _ _ _))
  clear c_Yxa0_0 c_Yxa0_1 c_Yxa0_2 c_Yxa0_3
  clear hg hm0
  clear Oxa03 Yxa0
  go_wp2_with fail
  refine (mark_StringS ha1k0 Oxa10.out.now Oxa10.out.top (by omega) (by omega)).mono ?_; rintro e w20 ⟨rfl, hm0, hg⟩
  replace FB := Lib.hid (FB.out.far hg (by omega))
  replace Fa03 := Lib.hid (Fa03.out.far hg (by omega))
  replace Fa10 := Lib.hid (Fa10.out.far hg (by omega))
  replace Fa20 := Lib.hid (Fa20.out.far hg (by omega))
  replace Ba0 := Lib.hid (Ba0.out.far hg (by omega))
  replace Vmr00 := Lib.hid (Vmr00.out.far hg (by omega))
  replace Oxa20 := Lib.hid (Oxa20.out.far hg (by omega))
  replace Ogr00 := Lib.hid (Ogr00.out.far hg (by omega))
  have z_w20 : w19.heap.size ≤ w20.heap.size := by have hsz := hg.size; first | omega | (simp at hsz; omega)
  replace Oxa10 := Lib.hid (At.mk hm0 (Nat.le_trans Oxa10.out.top hg.size) (Ow.lives _ _ _ _ _ _))
  clear hg hm0
  clear Oxa10
  go_wp2_with fail
  refine (mark_StringS ha2k0 Oxa20.out.now Oxa20.out.top (by omega) (by omega)).mono ?_; rintro e w21 ⟨rfl, hm0, hg⟩
  replace FB := Lib.hid (FB.out.far hg (by omega))
  replace Fa03 := Lib.hid (Fa03.out.far hg (by omega))
  replace Fa10 := Lib.hid (Fa10.out.far hg (by omega))
  replace Fa20 := Lib.hid (Fa20.out.far hg (by omega))
  replace Ba0 := Lib.hid (Ba0.out.far hg (by omega))
  replace Vmr00 := Lib.hid (Vmr00.out.far hg (by omega))
  replace Ogr00 := Lib.hid (Ogr00.out.far hg (by omega))
  have z_w21 : w20.heap.size ≤ w21.heap.size := by have hsz := hg.size; first | omega | (simp at hsz; omega)
  replace Oxa20 := Lib.hid (At.mk hm0 (Nat.le_trans Oxa20.out.top hg.size) (Ow.lives _ _ _ _ _ _))
  clear hg hm0
  clear Oxa20
  go_wp2_with fail
  refine (eq_IntS hr0m0 Ogr00.out.orow Vmr00.out.row).mono ?_; rintro e w22 ⟨rfl, hb⟩
  replace FB := Lib.hid (FB.out.b hb)
  replace Fa03 := Lib.hid (Fa03.out.b hb)
  replace Fa10 := Lib.hid (Fa10.out.b hb)
  replace Fa20 := Lib.hid (Fa20.out.b hb)
  replace Ba0 := Lib.hid (Ba0.out.b hb)
  replace Vmr00 := Lib.hid (Vmr00.out.b hb)
  replace Ogr00 := Lib.hid (Ogr00.out.b hb)
  have z_w22 : w21.heap.size ≤ w22.heap.size := by have hsz := hb.size; first | omega | (simp at hsz; omega)
  clear hb
  go_wp2_with fail
  refine (mark_IntS hr0m0 Ogr00.out.now Ogr00.out.top (by omega) (by omega)).mono ?_; rintro e w23 ⟨rfl, hm0, hg⟩
  replace FB := Lib.hid (FB.out.far hg (by omega))
  replace Fa03 := Lib.hid (Fa03.out.far hg (by omega))
  replace Fa10 := Lib.hid (Fa10.out.far hg (by omega))
  replace Fa20 := Lib.hid (Fa20.out.far hg (by omega))
  replace Ba0 := Lib.hid (Ba0.out.far hg (by omega))
  replace Vmr00 := Lib.hid (Vmr00.out.far hg (by omega))
  have z_w23 : w22.heap.size ≤ w23.heap.size := by have hsz := hg.size; first | omega | (simp at hsz; omega)
  replace Ogr00 := Lib.hid (At.mk hm0 (Nat.le_trans Ogr00.out.top hg.size) (Ow.lives _ _ _ _ _ _))
  clear hg hm0
  go_wp2_with fail
  refine (held_IntS hr0m0 Ogr00.out.orow (by omega) (by omega)).mono ?_; rintro e w24 ⟨rfl, hb⟩
  replace FB := Lib.hid (FB.out.b hb)
  replace Fa03 := Lib.hid (Fa03.out.b hb)
  replace Fa10 := Lib.hid (Fa10.out.b hb)
  replace Fa20 := Lib.hid (Fa20.out.b hb)
  replace Ba0 := Lib.hid (Ba0.out.b hb)
  replace Vmr00 := Lib.hid (Vmr00.out.b hb)
  replace Ogr00 := Lib.hid (Ogr00.out.b hb)
  have z_w24 : w23.heap.size ≤ w24.heap.size := by have hsz := hb.size; first | omega | (simp at hsz; omega)
  clear hb
  have c_Ba0_0 := Ba0.out.now 0 _ rfl
  have c_Ba0_1 := Ba0.out.now 1 _ rfl
  have c_Ba0_2 := Ba0.out.now 2 _ rfl
  have c_Ba0_3 := Ba0.out.now 3 _ rfl
  go_wp2_with fail
  refine (to_Table ha0k3 Fa03.out.row).mono ?_; rintro e w25 ⟨tha0A3, tha0c3, rfl, ho3, hb⟩
  replace FB := Lib.hid (FB.out.b hb)
  replace Fa03 := Lib.hid (Fa03.out.b hb)
  replace Fa10 := Lib.hid (Fa10.out.b hb)
  replace Fa20 := Lib.hid (Fa20.out.b hb)
  replace Ba0 := Lib.hid (Ba0.out.b hb)
  replace Vmr00 := Lib.hid (Vmr00.out.b hb)
  replace Ogr00 := Lib.hid (Ogr00.out.b hb)
  have z_w25 : w24.heap.size ≤ w25.heap.size := by have hsz := hb.size; first | omega | (simp at hsz; omega)
  clear c_Ba0_0 c_Ba0_1 c_Ba0_2 c_Ba0_3
  have Otha03 := Lib.hid (owned (ho3.mono (lo' := w24.heap.size) (Nat.le_refl _) (Nat.le_refl _)))
  clear hb ho3
  go_wp2_with fail
  refine (to_StringS ha1k0 Fa10.out.row).mono ?_; rintro e w26 ⟨tha1A0, tha1c0, rfl, ho0, hb⟩
  replace FB := Lib.hid (FB.out.b hb)
  replace Fa03 := Lib.hid (Fa03.out.b hb)
  replace Fa10 := Lib.hid (Fa10.out.b hb)
  replace Fa20 := Lib.hid (Fa20.out.b hb)
  replace Ba0 := Lib.hid (Ba0.out.b hb)
  replace Vmr00 := Lib.hid (Vmr00.out.b hb)
  replace Ogr00 := Lib.hid (Ogr00.out.b hb)
  replace Otha03 := Lib.hid (Otha03.out.b hb)
  have z_w26 : w25.heap.size ≤ w26.heap.size := by have hsz := hb.size; first | omega | (simp at hsz; omega)
  have Otha10 := Lib.hid (owned (ho0.mono (lo' := w25.heap.size) (Nat.le_refl _) (Nat.le_refl _)))
  clear hb ho0
  go_wp2_with fail
  refine (to_StringS ha2k0 Fa20.out.row).mono ?_; rintro e w27 ⟨tha2A0, tha2c0, rfl, ho0, hb⟩
  replace FB := Lib.hid (FB.out.b hb)
  replace Fa03 := Lib.hid (Fa03.out.b hb)
  replace Fa10 := Lib.hid (Fa10.out.b hb)
  replace Fa20 := Lib.hid (Fa20.out.b hb)
  replace Ba0 := Lib.hid (Ba0.out.b hb)
  replace Vmr00 := Lib.hid (Vmr00.out.b hb)
  replace Ogr00 := Lib.hid (Ogr00.out.b hb)
  replace Otha03 := Lib.hid (Otha03.out.b hb)
  replace Otha10 := Lib.hid (Otha10.out.b hb)
  have z_w27 : w26.heap.size ≤ w27.heap.size := by have hsz := hb.size; first | omega | (simp at hsz; omega)
  have Otha20 := Lib.hid (owned (ho0.mono (lo' := w26.heap.size) (Nat.le_refl _) (Nat.le_refl _)))
  clear hb ho0
  go_wp2_with fail
  refine (S2.out _ _ _ _ _ _ _ Otha03.out.orow Otha10.out.orow Otha20.out.orow).mono ?_; rintro e w28 ⟨hr0A0, hr0c0, rfl, hrr00, hb⟩
  replace FB := Lib.hid (FB.out.b hb)
  replace Fa03 := Lib.hid (Fa03.out.b hb)
  replace Fa10 := Lib.hid (Fa10.out.b hb)
  replace Fa20 := Lib.hid (Fa20.out.b hb)
  replace Ba0 := Lib.hid (Ba0.out.b hb)
  replace Vmr00 := Lib.hid (Vmr00.out.b hb)
  replace Ogr00 := Lib.hid (Ogr00.out.b hb)
  replace Otha03 := Lib.hid (Otha03.out.b hb)
  replace Otha10 := Lib.hid (Otha10.out.b hb)
  replace Otha20 := Lib.hid (Otha20.out.b hb)
  have z_w28 : w27.heap.size ≤ w28.heap.size := by have hsz := hb.size; first | omega | (simp at hsz; omega)
  have Ohr00 := Lib.hid (owned (hrr00.mono (lo' := w27.heap.size) (Nat.le_refl _) (Nat.le_refl _)))
  clear hb hrr00
  clear Otha03 Otha10 Otha20
  go_wp2_with fail
  refine (eq_IntS hr0m0 Ohr00.out.orow Vmr00.out.row).mono ?_; rintro e w29 ⟨rfl, hb⟩
  replace FB := Lib.hid (FB.out.b hb)
  replace Fa03 := Lib.hid (Fa03.out.b hb)
  replace Fa10 := Lib.hid (Fa10.out.b hb)
  replace Fa20 := Lib.hid (Fa20.out.b hb)
  replace Ba0 := Lib.hid (Ba0.out.b hb)
  replace Vmr00 := Lib.hid (Vmr00.out.b hb)
  replace Ogr00 := Lib.hid (Ogr00.out.b hb)
  replace Ohr00 := Lib.hid (Ohr00.out.b hb)
  have z_w29 : w28.heap.size ≤ w29.heap.size := by have hsz := hb.size; first | omega | (simp at hsz; omega)
  clear hb
  go_wp2_with fail
  refine (held_IntS hr0m0 Ogr00.out.orow (by omega) (by omega)).mono ?_; rintro e w30 ⟨rfl, hb⟩
  replace FB := Lib.hid (FB.out.b hb)
  replace Fa03 := Lib.hid (Fa03.out.b hb)
  replace Fa10 := Lib.hid (Fa10.out.b hb)
  replace Fa20 := Lib.hid (Fa20.out.b hb)
  replace Ba0 := Lib.hid (Ba0.out.b hb)
  replace Vmr00 := Lib.hid (Vmr00.out.b hb)
  replace Ogr00 := Lib.hid (Ogr00.out.b hb)
  replace Ohr00 := Lib.hid (Ohr00.out.b hb)
  have z_w30 : w29.heap.size ≤ w30.heap.size := by have hsz := hb.size; first | omega | (simp at hsz; omega)
  clear hb
  go_wp2_with fail
  go_ret
  exact ⟨rfl, FB.out.now⟩
/-! last -/
theorem walk_FnExactPrintFalse (w : World) (z0 : Int) (_w0 : (Lit.int .i64 z0).wf = true) (z1 : Int) (_w1 : (Lit.int .i64 z1).wf = true) (z2 : Int) (_w2 : (Lit.int .i64 z2).wf = true) (A : Option Addr) (n c : Nat) (X : Nat → Int) (hm : n ≤ maxLen) (hr : IRow w A n X) (K : Option Addr) (k kc : Nat) (S : Nat → ByteArray) (hm2 : k ≤ maxLen) (hr2 : SRow w K k S) (L : Option Addr) (t tc : Nat) (T : Nat → ByteArray) (hm3 : t ≤ maxLen) (hr3 : SRow w L t T) :
    Calls Try.prog 10 #[.agg #[.int .i64 z0, .int .i64 z1, .int .i64 z2, .slice A n c], .slice K k kc, .slice L t tc] w fun e w' => e = .returned (.bool true) ∧ Below w.heap.size w w' := by
  by_cases h : TaV z0 z1 z2 n X ∧ keysB S k = true ∧ textsB T t = true
  · obtain ⟨hv, hkb, htb⟩ := h
    obtain ⟨g, rfl⟩ : ∃ q : Nat, z1 = q := ⟨z1.toNat, by have := hv.2.1; omega⟩
    obtain ⟨v, rfl⟩ : ∃ q : Nat, z2 = q := ⟨z2.toNat, by have := hv.2.2.1; omega⟩
    have ht := textsB_size htb
    have hl := flL_len (fun i => psB z0 g v X (T i) && !hasZ S k (T i)) t
    exact main_FnExactPrintFalse z0 g v n X k S t T _ (lstW (flL (fun i => psB z0 g v X (T i) && !hasZ S k (T i)) t)) true A c K kc L tc w hm hr hm2 hr2.grow hr2.size hm3 hr3.grow hr3.size (by omega)
      (fun hn _ _ _ _ _ _ w g1 g2 g3 => (spec_printFalse hv hkb htb (by omega) g1 (by omega) (by omega) hr2.size hr3.size g2 g3).mono fun e w' h => h.row) (fun hn _ _ _ _ _ _ w g1 g2 g3 => impl_printFalse hv hkb htb (by omega) g1 (by omega) (by omega) hr2.size hr3.size g2 g3)
  · exact main_FnExactPrintFalse z0 z1 z2 n X k S t T 0 (fun _ => 0) false A c K kc L tc w hm hr hm2 hr2.grow hr2.size hm3 hr3.grow hr3.size (by omega)
      (fun hn _ _ _ _ _ _ w g1 g2 g3 => (spec_printFalse_no h (by omega) g1 (by omega) (by omega) hr2.size hr3.size g2 g3).mono fun e w' h => h.row) (fun hn _ _ _ _ _ _ w g1 g2 g3 => impl_printFalse_no h (by omega) g1 (by omega) (by omega) hr2.size hr3.size g2 g3)
end Go.Proofs.Ytpajbcgdoedleab
