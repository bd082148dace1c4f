/- The law of BuildFront, walked: what both sides answer comes in as hypotheses. -/
import Derived.Test.YthaipemgndahfaaObjStT
import Derived.Test.YthaipemgndahfaaObjFr
import Derived.Test.YthaipemgndahfaaFrC
import Derived.Deep.RegionHeld3
namespace Go.Proofs.Ythaipemgndahfaa
open Go.RowKit

set_option maxRecDepth 100000 in
set_option maxHeartbeats 8000000 in
theorem main_FnExactBuildFront (a0n0 : Nat) (a0X0 : Nat → ByteArray) (a1z0 : Int) (r0z0 : Int) (r0n1 : Nat) (r0X1 : Nat → Int) (r0n2 : Nat) (r0X2 : Nat → ByteArray) (r1z0 : Bool) (a0A0 : Option Addr) (a0c0 : Nat) (w : World) (ha0m0 : a0n0 ≤ maxLen) (ha0r0 : GRow w a0A0 a0n0 (strV a0X0)) (ha0s0 : ∀ i, i < a0n0 → (a0X0 i).size ≤ maxLen) (hr0m1 : r0n1 ≤ 1048576) (hr0m2 : r0n2 ≤ 1048576)
    (s1 : a0n0 + (sizeS a0X0 a0n0) ≤ 1048576 → ∀ (ua0A0 : Option Addr) (ua0c0 : Nat) (w : World), GRow w ua0A0 a0n0 (strV a0X0) → Calls Try.prog 12 #[.slice ua0A0 a0n0 ua0c0, .int .i64 a1z0] w fun e w' => ∃ vr0A1 vr0c1 vr0A2 vr0c2, e = .returned (.tuple #[.agg #[.int .i64 r0z0, .slice vr0A1 r0n1 vr0c1, .slice vr0A2 r0n2 vr0c2], .bool r1z0]) ∧ GRow w' vr0A1 r0n1 (intV r0X1) ∧ GRow w' vr0A2 r0n2 (strV r0X2) ∧ Below w.heap.size w w')
    (s2 : a0n0 + (sizeS a0X0 a0n0) ≤ 1048576 → ∀ (ua0A0 : Option Addr) (ua0c0 : Nat) (w : World), GRow w ua0A0 a0n0 (strV a0X0) → Calls Try.prog 14 #[.slice ua0A0 a0n0 ua0c0, .int .i64 a1z0] w fun e w' => ∃ vr0A1 vr0c1 vr0A2 vr0c2, e = .returned (.tuple #[.agg #[.int .i64 r0z0, .slice vr0A1 r0n1 vr0c1, .slice vr0A2 r0n2 vr0c2], .bool r1z0]) ∧ Ow w.heap.size w'.heap.size 3 vr0A1 r0n1 (intV r0X1) w' ∧ Ow w.heap.size w'.heap.size 9 vr0A2 r0n2 (strV r0X2) w' ∧ Apart r0n1 vr0A1 r0n2 vr0A2 ∧ Below w.heap.size w w') :
    Calls Try.prog 3 #[.slice a0A0 a0n0 a0c0, .int .i64 a1z0] w fun e w' => e = .returned (.bool true) ∧ Below w.heap.size w w' := by
  have S1 := Lib.hid s1
  have S2 := Lib.hid s2
  clear s1 s2
  have FB := Lib.hid (At.start w)
  have Fa00 := Lib.hid (rd_of_row ha0r0)
  clear ha0r0
  go_enter Try.func3, Try.ntmps3
  go_wp2_with fail
  refine (sz_StringS ha0m0 ha0s0 Fa00.out.row (by omega) (by omega)).mono ?_; rintro e w1 ⟨rfl, hb⟩
  replace FB := Lib.hid (FB.out.b hb)
  replace Fa00 := Lib.hid (Fa00.out.b hb)
  have z_w1 : w.heap.size ≤ w1.heap.size := by have hsz := hb.size; first | omega | (simp at hsz; omega)
  clear hb
  by_cases hZ_a0 : ((a0n0 + (sizeS a0X0 a0n0) : Nat) : Int) ≤ (1048576 : Int)
  rotate_left
  · rw [szv_no hZ_a0]
    go_wp2_with fail
    go_ret
    exact ⟨rfl, FB.out.now⟩
  rw [szv_yes hZ_a0]
  have hL_a0 : ¬ (((1048576 : Int) - (((a0n0 : Nat) : Int) + (((sizeS a0X0 a0n0) : Nat) : Int))) < 0) := by omega
  replace S1 := Lib.hid (S1.out (by omega))
  replace S2 := Lib.hid (S2.out (by omega))
  have ha0k0 : a0n0 ≤ 1048576 := by omega
  go_wp2_with fail
  refine (to_StringS ha0k0 Fa00.out.row).mono ?_; rintro e w2 ⟨tma0A0, tma0c0, rfl, ho0, hb⟩
  replace FB := Lib.hid (FB.out.b hb)
  replace Fa00 := Lib.hid (Fa00.out.b hb)
  have z_w2 : w1.heap.size ≤ w2.heap.size := by have hsz := hb.size; first | omega | (simp at hsz; omega)
  have Otma00 := Lib.hid (owned (ho0.mono (lo' := w1.heap.size) (Nat.le_refl _) (Nat.le_refl _)))
  clear hb ho0
  go_wp2_with fail
  refine (S1.out _ _ _ Otma00.out.orow).mono ?_; rintro e w3 ⟨mr0A1, mr0c1, mr0A2, mr0c2, rfl, hrr01, hrr02, hb⟩
  replace FB := Lib.hid (FB.out.b hb)
  replace Fa00 := Lib.hid (Fa00.out.b hb)
  replace Otma00 := Lib.hid (Otma00.out.b hb)
  have z_w3 : w2.heap.size ≤ w3.heap.size := by have hsz := hb.size; first | omega | (simp at hsz; omega)
  have Vmr01 := Lib.hid (rd_of_row hrr01)
  have Vmr02 := Lib.hid (rd_of_row hrr02)
  clear hb hrr01 hrr02
  clear Otma00
  replace FB := Lib.hid (FB.out.alloc (.cells #[.int .i64 r0z0, .slice mr0A1 r0n1 mr0c1, .slice mr0A2 r0n2 mr0c2] 26))
  replace Fa00 := Lib.hid (Fa00.out.alloc (.cells #[.int .i64 r0z0, .slice mr0A1 r0n1 mr0c1, .slice mr0A2 r0n2 mr0c2] 26))
  replace Vmr01 := Lib.hid (Vmr01.out.alloc (.cells #[.int .i64 r0z0, .slice mr0A1 r0n1 mr0c1, .slice mr0A2 r0n2 mr0c2] 26))
  replace Vmr02 := Lib.hid (Vmr02.out.alloc (.cells #[.int .i64 r0z0, .slice mr0A1 r0n1 mr0c1, .slice mr0A2 r0n2 mr0c2] 26))
  have Xmr0 := Lib.hid (boxed w3 #[.int .i64 r0z0, .slice mr0A1 r0n1 mr0c1, .slice mr0A2 r0n2 mr0c2] 26)
  go_wp2_with fail
  refine (to_StringS ha0k0 Fa00.out.row).mono ?_; rintro e w4 ⟨xa0A0, xa0c0, rfl, ho0, hb⟩
  replace FB := Lib.hid (FB.out.b hb)
  replace Fa00 := Lib.hid (Fa00.out.b hb)
  replace Vmr01 := Lib.hid (Vmr01.out.b hb)
  replace Vmr02 := Lib.hid (Vmr02.out.b hb)
  replace Xmr0 := Lib.hid (Xmr0.out.b hb)
  have z_w4 : w3.heap.size + 1 ≤ w4.heap.size := by have hsz := hb.size; first | omega | (simp at hsz; omega)
  have Oxa00 := Lib.hid (owned (ho0.mono (lo' := w3.heap.size + 1) (by simp) (Nat.le_refl _)))
  clear hb ho0
  go_wp2_with fail
  refine (S2.out _ _ _ Oxa00.out.orow).mono ?_; rintro e w5 ⟨gr0A1, gr0c1, gr0A2, gr0c2, rfl, hrr01, hrr02, hap_g_0, hb⟩
  replace FB := Lib.hid (FB.out.b hb)
  replace Fa00 := Lib.hid (Fa00.out.b hb)
  replace Vmr01 := Lib.hid (Vmr01.out.b hb)
  replace Vmr02 := Lib.hid (Vmr02.out.b hb)
  replace Xmr0 := Lib.hid (Xmr0.out.b hb)
  replace Oxa00 := Lib.hid (Oxa00.out.b hb)
  have z_w5 : w4.heap.size ≤ w5.heap.size := by have hsz := hb.size; first | omega | (simp at hsz; omega)
  have Ogr01 := Lib.hid (owned (hrr01.mono (lo' := w4.heap.size) (Nat.le_refl _) (Nat.le_refl _)))
  have Ogr02 := Lib.hid (owned (hrr02.mono (lo' := w4.heap.size) (Nat.le_refl _) (Nat.le_refl _)))
  clear hb hrr01 hrr02
  replace FB := Lib.hid (FB.out.alloc (.cells #[.int .i64 r0z0, .slice gr0A1 r0n1 gr0c1, .slice gr0A2 r0n2 gr0c2] 26))
  replace Fa00 := Lib.hid (Fa00.out.alloc (.cells #[.int .i64 r0z0, .slice gr0A1 r0n1 gr0c1, .slice gr0A2 r0n2 gr0c2] 26))
  replace Vmr01 := Lib.hid (Vmr01.out.alloc (.cells #[.int .i64 r0z0, .slice gr0A1 r0n1 gr0c1, .slice gr0A2 r0n2 gr0c2] 26))
  replace Vmr02 := Lib.hid (Vmr02.out.alloc (.cells #[.int .i64 r0z0, .slice gr0A1 r0n1 gr0c1, .slice gr0A2 r0n2 gr0c2] 26))
  replace Xmr0 := Lib.hid (Xmr0.out.alloc (.cells #[.int .i64 r0z0, .slice gr0A1 r0n1 gr0c1, .slice gr0A2 r0n2 gr0c2] 26))
  replace Oxa00 := Lib.hid (Oxa00.out.alloc (.cells #[.int .i64 r0z0, .slice gr0A1 r0n1 gr0c1, .slice gr0A2 r0n2 gr0c2] 26))
  replace Ogr01 := Lib.hid (Ogr01.out.alloc (.cells #[.int .i64 r0z0, .slice gr0A1 r0n1 gr0c1, .slice gr0A2 r0n2 gr0c2] 26))
  replace Ogr02 := Lib.hid (Ogr02.out.alloc (.cells #[.int .i64 r0z0, .slice gr0A1 r0n1 gr0c1, .slice gr0A2 r0n2 gr0c2] 26))
  have Xgr0 := Lib.hid (boxed w5 #[.int .i64 r0z0, .slice gr0A1 r0n1 gr0c1, .slice gr0A2 r0n2 gr0c2] 26)
  have c_Xgr0_0 := Xgr0.out.now 0 _ rfl
  have c_Xgr0_1 := Xgr0.out.now 1 _ rfl
  have c_Xgr0_2 := Xgr0.out.now 2 _ rfl
  have c_Xmr0_0 := Xmr0.out.now 0 _ rfl
  have c_Xmr0_1 := Xmr0.out.now 1 _ rfl
  have c_Xmr0_2 := Xmr0.out.now 2 _ rfl
  go_wp2_with fail
  refine (eq_Front hr0m1 hr0m2 Ogr01.out.orow Ogr02.out.orow Vmr01.out.row Vmr02.out.row).mono ?_; rintro e w6 ⟨rfl, hb⟩
  replace FB := Lib.hid (FB.out.b hb)
  replace Fa00 := Lib.hid (Fa00.out.b hb)
  replace Vmr01 := Lib.hid (Vmr01.out.b hb)
  replace Vmr02 := Lib.hid (Vmr02.out.b hb)
  replace Xmr0 := Lib.hid (Xmr0.out.b hb)
  replace Oxa00 := Lib.hid (Oxa00.out.b hb)
  replace Ogr01 := Lib.hid (Ogr01.out.b hb)
  replace Ogr02 := Lib.hid (Ogr02.out.b hb)
  replace Xgr0 := Lib.hid (Xgr0.out.b hb)
  have z_w6 : w5.heap.size + 1 ≤ w6.heap.size := by have hsz := hb.size; first | omega | (simp at hsz; omega)
  clear c_Xgr0_0 c_Xgr0_1 c_Xgr0_2 c_Xmr0_0 c_Xmr0_1 c_Xmr0_2
  clear hb
  go_wp2_with fail
  refine (to_StringS ha0k0 Fa00.out.row).mono ?_; rintro e w7 ⟨ya0A0, ya0c0, rfl, ho0, hb⟩
  replace FB := Lib.hid (FB.out.b hb)
  replace Fa00 := Lib.hid (Fa00.out.b hb)
  replace Vmr01 := Lib.hid (Vmr01.out.b hb)
  replace Vmr02 := Lib.hid (Vmr02.out.b hb)
  replace Xmr0 := Lib.hid (Xmr0.out.b hb)
  replace Oxa00 := Lib.hid (Oxa00.out.b hb)
  replace Ogr01 := Lib.hid (Ogr01.out.b hb)
  replace Ogr02 := Lib.hid (Ogr02.out.b hb)
  replace Xgr0 := Lib.hid (Xgr0.out.b hb)
  have z_w7 : w6.heap.size ≤ w7.heap.size := by have hsz := hb.size; first | omega | (simp at hsz; omega)
  have Oya00 := Lib.hid (owned (ho0.mono (lo' := w6.heap.size) (Nat.le_refl _) (Nat.le_refl _)))
  clear hb ho0
  go_wp2_with fail
  refine (eq_StringS ha0k0 Oxa00.out.orow Oya00.out.orow).mono ?_; rintro e w8 ⟨rfl, hb⟩
  replace FB := Lib.hid (FB.out.b hb)
  replace Fa00 := Lib.hid (Fa00.out.b hb)
  replace Vmr01 := Lib.hid (Vmr01.out.b hb)
  replace Vmr02 := Lib.hid (Vmr02.out.b hb)
  replace Xmr0 := Lib.hid (Xmr0.out.b hb)
  replace Oxa00 := Lib.hid (Oxa00.out.b hb)
  replace Ogr01 := Lib.hid (Ogr01.out.b hb)
  replace Ogr02 := Lib.hid (Ogr02.out.b hb)
  replace Xgr0 := Lib.hid (Xgr0.out.b hb)
  replace Oya00 := Lib.hid (Oya00.out.b hb)
  have z_w8 : w7.heap.size ≤ w8.heap.size := by have hsz := hb.size; first | omega | (simp at hsz; omega)
  clear hb
  clear Oya00
  go_wp2_with fail
  refine (mark_StringS ha0k0 Oxa00.out.now Oxa00.out.top (by omega) (by omega)).mono ?_; rintro e w9 ⟨rfl, hm0, hg⟩
  replace FB := Lib.hid (FB.out.far hg (by omega))
  replace Fa00 := Lib.hid (Fa00.out.far hg (by omega))
  replace Vmr01 := Lib.hid (Vmr01.out.far hg (by omega))
  replace Vmr02 := Lib.hid (Vmr02.out.far hg (by omega))
  replace Xmr0 := Lib.hid (Xmr0.out.far hg (by omega))
  replace Ogr01 := Lib.hid (Ogr01.out.far hg (by omega))
  replace Ogr02 := Lib.hid (Ogr02.out.far hg (by omega))
  replace Xgr0 := Lib.hid (Xgr0.out.far hg (by omega))
  have z_w9 : w8.heap.size ≤ w9.heap.size := by have hsz := hg.size; first | omega | (simp at hsz; omega)
  replace Oxa00 := Lib.hid (At.mk hm0 (Nat.le_trans Oxa00.out.top hg.size) (Ow.lives _ _ _ _ _ _))
  clear hg hm0
  clear Oxa00
  have c_Xgr0_0 := Xgr0.out.now 0 _ rfl
  have c_Xgr0_1 := Xgr0.out.now 1 _ rfl
  have c_Xgr0_2 := Xgr0.out.now 2 _ rfl
  have c_Xmr0_0 := Xmr0.out.now 0 _ rfl
  have c_Xmr0_1 := Xmr0.out.now 1 _ rfl
  have c_Xmr0_2 := Xmr0.out.now 2 _ rfl
  go_wp2_with fail
  refine (eq_Front hr0m1 hr0m2 Ogr01.out.orow Ogr02.out.orow Vmr01.out.row Vmr02.out.row).mono ?_; rintro e w10 ⟨rfl, hb⟩
  replace FB := Lib.hid (FB.out.b hb)
  replace Fa00 := Lib.hid (Fa00.out.b hb)
  replace Vmr01 := Lib.hid (Vmr01.out.b hb)
  replace Vmr02 := Lib.hid (Vmr02.out.b hb)
  replace Xmr0 := Lib.hid (Xmr0.out.b hb)
  replace Ogr01 := Lib.hid (Ogr01.out.b hb)
  replace Ogr02 := Lib.hid (Ogr02.out.b hb)
  replace Xgr0 := Lib.hid (Xgr0.out.b hb)
  have z_w10 : w9.heap.size ≤ w10.heap.size := by have hsz := hb.size; first | omega | (simp at hsz; omega)
  clear c_Xgr0_0 c_Xgr0_1 c_Xgr0_2 c_Xmr0_0 c_Xmr0_1 c_Xmr0_2
  clear hb
  have c_Xgr0_0 := Xgr0.out.now 0 _ rfl
  have c_Xgr0_1 := Xgr0.out.now 1 _ rfl
  have c_Xgr0_2 := Xgr0.out.now 2 _ rfl
  go_wp2_with fail
  refine (mark_Front hr0m1 hr0m2 Ogr01.out.now Ogr02.out.now Ogr01.out.top hap_g_0 (by omega) (by omega)).mono ?_; rintro e w11 ⟨rfl, hm0, hm1, hg⟩
  replace FB := Lib.hid (FB.out.far hg (by omega))
  replace Fa00 := Lib.hid (Fa00.out.far hg (by omega))
  replace Vmr01 := Lib.hid (Vmr01.out.far hg (by omega))
  replace Vmr02 := Lib.hid (Vmr02.out.far hg (by omega))
  replace Xmr0 := Lib.hid (Xmr0.out.far hg (by omega))
  replace Xgr0 := Lib.hid (Xgr0.out.far hg (by omega))
  have z_w11 : w10.heap.size ≤ w11.heap.size := by have hsz := hg.size; first | omega | (simp at hsz; omega)
  replace Ogr01 := Lib.hid (At.mk hm0 (Nat.le_trans Ogr01.out.top hg.size) (Ow.lives _ _ _ _ _ _))
  replace Ogr02 := Lib.hid (At.mk hm1 (Nat.le_trans Ogr02.out.top hg.size) (Ow.lives _ _ _ _ _ _))
  clear c_Xgr0_0 c_Xgr0_1 c_Xgr0_2
  clear hg hm0 hm1
  have c_Xgr0_0 := Xgr0.out.now 0 _ rfl
  have c_Xgr0_1 := Xgr0.out.now 1 _ rfl
  have c_Xgr0_2 := Xgr0.out.now 2 _ rfl
  go_wp2_with fail
  refine (held_Front hr0m1 hr0m2 Ogr01.out.orow Ogr02.out.orow (by omega) (by omega)).mono ?_; rintro e w12 ⟨rfl, hb⟩
  replace FB := Lib.hid (FB.out.b hb)
  replace Fa00 := Lib.hid (Fa00.out.b hb)
  replace Vmr01 := Lib.hid (Vmr01.out.b hb)
  replace Vmr02 := Lib.hid (Vmr02.out.b hb)
  replace Xmr0 := Lib.hid (Xmr0.out.b hb)
  replace Ogr01 := Lib.hid (Ogr01.out.b hb)
  replace Ogr02 := Lib.hid (Ogr02.out.b hb)
  replace Xgr0 := Lib.hid (Xgr0.out.b hb)
  have z_w12 : w11.heap.size ≤ w12.heap.size := by have hsz := hb.size; first | omega | (simp at hsz; omega)
  clear c_Xgr0_0 c_Xgr0_1 c_Xgr0_2
  clear hb
  go_wp2_with fail
  refine (to_StringS ha0k0 Fa00.out.row).mono ?_; rintro e w13 ⟨tha0A0, tha0c0, rfl, ho0, hb⟩
  replace FB := Lib.hid (FB.out.b hb)
  replace Fa00 := Lib.hid (Fa00.out.b hb)
  replace Vmr01 := Lib.hid (Vmr01.out.b hb)
  replace Vmr02 := Lib.hid (Vmr02.out.b hb)
  replace Xmr0 := Lib.hid (Xmr0.out.b hb)
  replace Ogr01 := Lib.hid (Ogr01.out.b hb)
  replace Ogr02 := Lib.hid (Ogr02.out.b hb)
  replace Xgr0 := Lib.hid (Xgr0.out.b hb)
  have z_w13 : w12.heap.size ≤ w13.heap.size := by have hsz := hb.size; first | omega | (simp at hsz; omega)
  have Otha00 := Lib.hid (owned (ho0.mono (lo' := w12.heap.size) (Nat.le_refl _) (Nat.le_refl _)))
  clear hb ho0
  go_wp2_with fail
  refine (S2.out _ _ _ Otha00.out.orow).mono ?_; rintro e w14 ⟨hr0A1, hr0c1, hr0A2, hr0c2, rfl, hrr01, hrr02, hap_h_0, hb⟩
  replace FB := Lib.hid (FB.out.b hb)
  replace Fa00 := Lib.hid (Fa00.out.b hb)
  replace Vmr01 := Lib.hid (Vmr01.out.b hb)
  replace Vmr02 := Lib.hid (Vmr02.out.b hb)
  replace Xmr0 := Lib.hid (Xmr0.out.b hb)
  replace Ogr01 := Lib.hid (Ogr01.out.b hb)
  replace Ogr02 := Lib.hid (Ogr02.out.b hb)
  replace Xgr0 := Lib.hid (Xgr0.out.b hb)
  replace Otha00 := Lib.hid (Otha00.out.b hb)
  have z_w14 : w13.heap.size ≤ w14.heap.size := by have hsz := hb.size; first | omega | (simp at hsz; omega)
  have Ohr01 := Lib.hid (owned (hrr01.mono (lo' := w13.heap.size) (Nat.le_refl _) (Nat.le_refl _)))
  have Ohr02 := Lib.hid (owned (hrr02.mono (lo' := w13.heap.size) (Nat.le_refl _) (Nat.le_refl _)))
  clear hb hrr01 hrr02
  clear Otha00
  replace FB := Lib.hid (FB.out.alloc (.cells #[.int .i64 r0z0, .slice hr0A1 r0n1 hr0c1, .slice hr0A2 r0n2 hr0c2] 26))
  replace Fa00 := Lib.hid (Fa00.out.alloc (.cells #[.int .i64 r0z0, .slice hr0A1 r0n1 hr0c1, .slice hr0A2 r0n2 hr0c2] 26))
  replace Vmr01 := Lib.hid (Vmr01.out.alloc (.cells #[.int .i64 r0z0, .slice hr0A1 r0n1 hr0c1, .slice hr0A2 r0n2 hr0c2] 26))
  replace Vmr02 := Lib.hid (Vmr02.out.alloc (.cells #[.int .i64 r0z0, .slice hr0A1 r0n1 hr0c1, .slice hr0A2 r0n2 hr0c2] 26))
  replace Xmr0 := Lib.hid (Xmr0.out.alloc (.cells #[.int .i64 r0z0, .slice hr0A1 r0n1 hr0c1, .slice hr0A2 r0n2 hr0c2] 26))
  replace Ogr01 := Lib.hid (Ogr01.out.alloc (.cells #[.int .i64 r0z0, .slice hr0A1 r0n1 hr0c1, .slice hr0A2 r0n2 hr0c2] 26))
  replace Ogr02 := Lib.hid (Ogr02.out.alloc (.cells #[.int .i64 r0z0, .slice hr0A1 r0n1 hr0c1, .slice hr0A2 r0n2 hr0c2] 26))
  replace Xgr0 := Lib.hid (Xgr0.out.alloc (.cells #[.int .i64 r0z0, .slice hr0A1 r0n1 hr0c1, .slice hr0A2 r0n2 hr0c2] 26))
  replace Ohr01 := Lib.hid (Ohr01.out.alloc (.cells #[.int .i64 r0z0, .slice hr0A1 r0n1 hr0c1, .slice hr0A2 r0n2 hr0c2] 26))
  replace Ohr02 := Lib.hid (Ohr02.out.alloc (.cells #[.int .i64 r0z0, .slice hr0A1 r0n1 hr0c1, .slice hr0A2 r0n2 hr0c2] 26))
  have Xhr0 := Lib.hid (boxed w14 #[.int .i64 r0z0, .slice hr0A1 r0n1 hr0c1, .slice hr0A2 r0n2 hr0c2] 26)
  have c_Xhr0_0 := Xhr0.out.now 0 _ rfl
  have c_Xhr0_1 := Xhr0.out.now 1 _ rfl
  have c_Xhr0_2 := Xhr0.out.now 2 _ rfl
  have c_Xmr0_0 := Xmr0.out.now 0 _ rfl
  have c_Xmr0_1 := Xmr0.out.now 1 _ rfl
  have c_Xmr0_2 := Xmr0.out.now 2 _ rfl
  go_wp2_with fail
  refine (eq_Front hr0m1 hr0m2 Ohr01.out.orow Ohr02.out.orow Vmr01.out.row Vmr02.out.row).mono ?_; rintro e w15 ⟨rfl, hb⟩
  replace FB := Lib.hid (FB.out.b hb)
  replace Fa00 := Lib.hid (Fa00.out.b hb)
  replace Vmr01 := Lib.hid (Vmr01.out.b hb)
  replace Vmr02 := Lib.hid (Vmr02.out.b hb)
  replace Xmr0 := Lib.hid (Xmr0.out.b hb)
  replace Ogr01 := Lib.hid (Ogr01.out.b hb)
  replace Ogr02 := Lib.hid (Ogr02.out.b hb)
  replace Xgr0 := Lib.hid (Xgr0.out.b hb)
  replace Ohr01 := Lib.hid (Ohr01.out.b hb)
  replace Ohr02 := Lib.hid (Ohr02.out.b hb)
  replace Xhr0 := Lib.hid (Xhr0.out.b hb)
  have z_w15 : w14.heap.size + 1 ≤ w15.heap.size := by have hsz := hb.size; first | omega | (simp at hsz; omega)
  clear c_Xhr0_0 c_Xhr0_1 c_Xhr0_2 c_Xmr0_0 c_Xmr0_1 c_Xmr0_2
  clear hb
  have c_Xgr0_0 := Xgr0.out.now 0 _ rfl
  have c_Xgr0_1 := Xgr0.out.now 1 _ rfl
  have c_Xgr0_2 := Xgr0.out.now 2 _ rfl
  go_wp2_with fail
  refine (held_Front hr0m1 hr0m2 Ogr01.out.orow Ogr02.out.orow (by omega) (by omega)).mono ?_; rintro e w16 ⟨rfl, hb⟩
  replace FB := Lib.hid (FB.out.b hb)
  replace Fa00 := Lib.hid (Fa00.out.b hb)
  replace Vmr01 := Lib.hid (Vmr01.out.b hb)
  replace Vmr02 := Lib.hid (Vmr02.out.b hb)
  replace Xmr0 := Lib.hid (Xmr0.out.b hb)
  replace Ogr01 := Lib.hid (Ogr01.out.b hb)
  replace Ogr02 := Lib.hid (Ogr02.out.b hb)
  replace Xgr0 := Lib.hid (Xgr0.out.b hb)
  replace Ohr01 := Lib.hid (Ohr01.out.b hb)
  replace Ohr02 := Lib.hid (Ohr02.out.b hb)
  replace Xhr0 := Lib.hid (Xhr0.out.b hb)
  have z_w16 : w15.heap.size ≤ w16.heap.size := by have hsz := hb.size; first | omega | (simp at hsz; omega)
  clear c_Xgr0_0 c_Xgr0_1 c_Xgr0_2
  clear hb
  go_wp2_with fail
  go_ret
  exact ⟨rfl, FB.out.now⟩
/-! last -/
theorem walk_FnExactBuildFront (w : World) (K : Option Addr) (k kc : Nat) (S : Nat → ByteArray) (hm : k ≤ maxLen) (hr : SRow w K k S) (z : Int) (_wz : (Lit.int .i64 z).wf = true) :
    Calls Try.prog 3 #[.slice K k kc, .int .i64 z] w fun e w' => e = .returned (.bool true) ∧ Below w.heap.size w w' := by
  by_cases h : keysB S k = true ∧ 1 ≤ z ∧ z ≤ 16
  · obtain ⟨b, rfl⟩ : ∃ b : Nat, z = b := ⟨z.toNat, by omega⟩
    have hb : 1 ≤ b ∧ b ≤ 16 := by omega
    have hk := keysB_size h.1
    exact main_FnExactBuildFront k S b b k (keepI b S) k (tailF b S) true K kc w hm hr.grow hr.size (by omega) (by omega)
      (fun hn A c w g => (spec_buildFront b h.1 hb (sizeS_all hn) g).mono fun e w' h => h.row) (fun hn A c w g => impl_buildFront b h.1 hb (sizeS_all hn) g)
  · exact main_FnExactBuildFront k S z 0 0 (fun _ => 0) 0 (fun _ => ByteArray.empty) false K kc w hm hr.grow hr.size (by omega) (by omega)
      (fun hn A c w g => (spec_buildFront_no z h (by omega) hr.size g).mono fun e w' h => h.row) (fun hn A c w g => (impl_buildFront_no z h (by omega) hr.size g).mono fun e w' h => h.ow)
end Go.Proofs.Ythaipemgndahfaa
