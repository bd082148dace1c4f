/- The law of PrintFilterOf, walked: what both sides answer comes in as hypotheses. -/
import Derived.Test.YtpajbcgdoedleabObjStr
import Derived.Test.YtpajbcgdoedleabPrintFilterAll
import Derived.Deep.RegionHeld3
namespace Go.Proofs.Ytpajbcgdoedleab
open Go.RowKit

set_option maxRecDepth 100000 in
set_option maxHeartbeats 8000000 in
theorem main_FnExactPrintFilterOf (a0z0 : Int) (a1n0 : Nat) (a1X0 : Nat → ByteArray) (a2z0 : Int) (a3z0 : Int) (r0z0 : Int) (r0z1 : Int) (r0z2 : Int) (r0n3 : Nat) (r0X3 : Nat → Int) (r1z0 : Bool) (a1A0 : Option Addr) (a1c0 : Nat) (w : World) (ha1m0 : a1n0 ≤ maxLen) (ha1r0 : GRow w a1A0 a1n0 (strV a1X0)) (ha1s0 : ∀ i, i < a1n0 → (a1X0 i).size ≤ maxLen) (hr0m3 : r0n3 ≤ 1048576)
    (s1 : a1n0 + (sizeS a1X0 a1n0) ≤ 1048576 → ∀ (ua1A0 : Option Addr) (ua1c0 : Nat) (w : World), GRow w ua1A0 a1n0 (strV a1X0) → Calls Try.prog 47 #[.int .i64 a0z0, .slice ua1A0 a1n0 ua1c0, .int .i64 a2z0, .int .i64 a3z0] w fun e w' => ∃ vr0A3 vr0c3, e = .returned (.tuple #[.agg #[.int .i64 r0z0, .int .i64 r0z1, .int .i64 r0z2, .slice vr0A3 r0n3 vr0c3], .bool r1z0]) ∧ GRow w' vr0A3 r0n3 (intV r0X3) ∧ Below w.heap.size w w')
    (s2 : a1n0 + (sizeS a1X0 a1n0) ≤ 1048576 → ∀ (ua1A0 : Option Addr) (ua1c0 : Nat) (w : World), GRow w ua1A0 a1n0 (strV a1X0) → Calls Try.prog 48 #[.int .i64 a0z0, .slice ua1A0 a1n0 ua1c0, .int .i64 a2z0, .int .i64 a3z0] w fun e w' => ∃ vr0A3 vr0c3, e = .returned (.tuple #[.agg #[.int .i64 r0z0, .int .i64 r0z1, .int .i64 r0z2, .slice vr0A3 r0n3 vr0c3], .bool r1z0]) ∧ Ow w.heap.size w'.heap.size 3 vr0A3 r0n3 (intV r0X3) w' ∧ Below w.heap.size w w') :
    Calls Try.prog 11 #[.int .i64 a0z0, .slice a1A0 a1n0 a1c0, .int .i64 a2z0, .int .i64 a3z0] w fun e w' => e = .returned (.bool true) ∧ Below w.heap.size w w' := by
  have S1 := Lib.hid s1
  have S2 := Lib.hid s2
  clear s1 s2
  have FB := Lib.hid (At.start w)
  have Fa10 := Lib.hid (rd_of_row ha1r0)
  clear ha1r0
  go_enter Try.func11, Try.ntmps11
  go_wp2_with fail
  refine (sz_StringS ha1m0 ha1s0 Fa10.out.row (by omega) (by omega)).mono ?_; rintro e w1 ⟨rfl, hb⟩
  replace FB := Lib.hid (FB.out.b hb)
  replace Fa10 := Lib.hid (Fa10.out.b hb)
  have z_w1 : w.heap.size ≤ w1.heap.size := by have hsz := hb.size; first | omega | (simp at hsz; omega)
  clear hb
  by_cases hZ_a1 : ((a1n0 + (sizeS a1X0 a1n0) : Nat) : Int) ≤ (1048576 : Int)
  rotate_left
  · rw [szv_no hZ_a1]
    go_wp2_with fail
    go_ret
    exact ⟨rfl, FB.out.now⟩
  rw [szv_yes hZ_a1]
  have hL_a1 : ¬ (((1048576 : Int) - (((a1n0 : Nat) : Int) + (((sizeS a1X0 a1n0) : Nat) : Int))) < 0) := by omega
  replace S1 := Lib.hid (S1.out (by omega))
  replace S2 := Lib.hid (S2.out (by omega))
  have ha1k0 : a1n0 ≤ 1048576 := by omega
  go_wp2_with fail
  refine (to_StringS ha1k0 Fa10.out.row).mono ?_; rintro e w2 ⟨tma1A0, tma1c0, rfl, ho0, hb⟩
  replace FB := Lib.hid (FB.out.b hb)
  replace Fa10 := Lib.hid (Fa10.out.b hb)
  have z_w2 : w1.heap.size ≤ w2.heap.size := by have hsz := hb.size; first | omega | (simp at hsz; omega)
  have Otma10 := Lib.hid (owned (ho0.mono (lo' := w1.heap.size) (Nat.le_refl _) (Nat.le_refl _)))
  clear hb ho0
  go_wp2_with fail
  refine (S1.out _ _ _ Otma10.out.orow).mono ?_; rintro e w3 ⟨mr0A3, mr0c3, rfl, hrr03, hb⟩
  replace FB := Lib.hid (FB.out.b hb)
  replace Fa10 := Lib.hid (Fa10.out.b hb)
  replace Otma10 := Lib.hid (Otma10.out.b hb)
  have z_w3 : w2.heap.size ≤ w3.heap.size := by have hsz := hb.size; first | omega | (simp at hsz; omega)
  have Vmr03 := Lib.hid (rd_of_row hrr03)
  clear hb hrr03
  clear Otma10
  replace FB := Lib.hid (FB.out.alloc (.cells #[.int .i64 r0z0, .int .i64 r0z1, .int .i64 r0z2, .slice mr0A3 r0n3 mr0c3] 57))
  replace Fa10 := Lib.hid (Fa10.out.alloc (.cells #[.int .i64 r0z0, .int .i64 r0z1, .int .i64 r0z2, .slice mr0A3 r0n3 mr0c3] 57))
  replace Vmr03 := Lib.hid (Vmr03.out.alloc (.cells #[.int .i64 r0z0, .int .i64 r0z1, .int .i64 r0z2, .slice mr0A3 r0n3 mr0c3] 57))
  have Xmr0 := Lib.hid (boxed w3 #[.int .i64 r0z0, .int .i64 r0z1, .int .i64 r0z2, .slice mr0A3 r0n3 mr0c3] 57)
  go_wp2_with fail
  refine (to_StringS ha1k0 Fa10.out.row).mono ?_; rintro e w4 ⟨xa1A0, xa1c0, rfl, ho0, hb⟩
  replace FB := Lib.hid (FB.out.b hb)
  replace Fa10 := Lib.hid (Fa10.out.b hb)
  replace Vmr03 := Lib.hid (Vmr03.out.b hb)
  replace Xmr0 := Lib.hid (Xmr0.out.b hb)
  have z_w4 : w3.heap.size + 1 ≤ w4.heap.size := by have hsz := hb.size; first | omega | (simp at hsz; omega)
  have Oxa10 := Lib.hid (owned (ho0.mono (lo' := w3.heap.size + 1) (by simp) (Nat.le_refl _)))
  clear hb ho0
  go_wp2_with fail
  refine (S2.out _ _ _ Oxa10.out.orow).mono ?_; rintro e w5 ⟨gr0A3, gr0c3, rfl, hrr03, hb⟩
  replace FB := Lib.hid (FB.out.b hb)
  replace Fa10 := Lib.hid (Fa10.out.b hb)
  replace Vmr03 := Lib.hid (Vmr03.out.b hb)
  replace Xmr0 := Lib.hid (Xmr0.out.b hb)
  replace Oxa10 := Lib.hid (Oxa10.out.b hb)
  have z_w5 : w4.heap.size ≤ w5.heap.size := by have hsz := hb.size; first | omega | (simp at hsz; omega)
  have Ogr03 := Lib.hid (owned (hrr03.mono (lo' := w4.heap.size) (Nat.le_refl _) (Nat.le_refl _)))
  clear hb hrr03
  replace FB := Lib.hid (FB.out.alloc (.cells #[.int .i64 r0z0, .int .i64 r0z1, .int .i64 r0z2, .slice gr0A3 r0n3 gr0c3] 57))
  replace Fa10 := Lib.hid (Fa10.out.alloc (.cells #[.int .i64 r0z0, .int .i64 r0z1, .int .i64 r0z2, .slice gr0A3 r0n3 gr0c3] 57))
  replace Vmr03 := Lib.hid (Vmr03.out.alloc (.cells #[.int .i64 r0z0, .int .i64 r0z1, .int .i64 r0z2, .slice gr0A3 r0n3 gr0c3] 57))
  replace Xmr0 := Lib.hid (Xmr0.out.alloc (.cells #[.int .i64 r0z0, .int .i64 r0z1, .int .i64 r0z2, .slice gr0A3 r0n3 gr0c3] 57))
  replace Oxa10 := Lib.hid (Oxa10.out.alloc (.cells #[.int .i64 r0z0, .int .i64 r0z1, .int .i64 r0z2, .slice gr0A3 r0n3 gr0c3] 57))
  replace Ogr03 := Lib.hid (Ogr03.out.alloc (.cells #[.int .i64 r0z0, .int .i64 r0z1, .int .i64 r0z2, .slice gr0A3 r0n3 gr0c3] 57))
  have Xgr0 := Lib.hid (boxed w5 #[.int .i64 r0z0, .int .i64 r0z1, .int .i64 r0z2, .slice gr0A3 r0n3 gr0c3] 57)
  have c_Xgr0_0 := Xgr0.out.now 0 _ rfl
  have c_Xgr0_1 := Xgr0.out.now 1 _ rfl
  have c_Xgr0_2 := Xgr0.out.now 2 _ rfl
  have c_Xgr0_3 := Xgr0.out.now 3 _ rfl
  have c_Xmr0_0 := Xmr0.out.now 0 _ rfl
  have c_Xmr0_1 := Xmr0.out.now 1 _ rfl
  have c_Xmr0_2 := Xmr0.out.now 2 _ rfl
  have c_Xmr0_3 := Xmr0.out.now 3 _ rfl
  go_wp2_with fail
  refine (eq_Table hr0m3 Ogr03.out.orow Vmr03.out.row).mono ?_; rintro e w6 ⟨rfl, hb⟩
  replace FB := Lib.hid (FB.out.b hb)
  replace Fa10 := Lib.hid (Fa10.out.b hb)
  replace Vmr03 := Lib.hid (Vmr03.out.b hb)
  replace Xmr0 := Lib.hid (Xmr0.out.b hb)
  replace Oxa10 := Lib.hid (Oxa10.out.b hb)
  replace Ogr03 := Lib.hid (Ogr03.out.b hb)
  replace Xgr0 := Lib.hid (Xgr0.out.b hb)
  have z_w6 : w5.heap.size + 1 ≤ w6.heap.size := by have hsz := hb.size; first | omega | (simp at hsz; omega)
  clear c_Xgr0_0 c_Xgr0_1 c_Xgr0_2 c_Xgr0_3 c_Xmr0_0 c_Xmr0_1 c_Xmr0_2 c_Xmr0_3
  clear hb
  go_wp2_with fail
  refine (to_StringS ha1k0 Fa10.out.row).mono ?_; rintro e w7 ⟨ya1A0, ya1c0, rfl, ho0, hb⟩
  replace FB := Lib.hid (FB.out.b hb)
  replace Fa10 := Lib.hid (Fa10.out.b hb)
  replace Vmr03 := Lib.hid (Vmr03.out.b hb)
  replace Xmr0 := Lib.hid (Xmr0.out.b hb)
  replace Oxa10 := Lib.hid (Oxa10.out.b hb)
  replace Ogr03 := Lib.hid (Ogr03.out.b hb)
  replace Xgr0 := Lib.hid (Xgr0.out.b hb)
  have z_w7 : w6.heap.size ≤ w7.heap.size := by have hsz := hb.size; first | omega | (simp at hsz; omega)
  have Oya10 := Lib.hid (owned (ho0.mono (lo' := w6.heap.size) (Nat.le_refl _) (Nat.le_refl _)))
  clear hb ho0
  go_wp2_with fail
  refine (eq_StringS ha1k0 Oxa10.out.orow Oya10.out.orow).mono ?_; rintro e w8 ⟨rfl, hb⟩
  replace FB := Lib.hid (FB.out.b hb)
  replace Fa10 := Lib.hid (Fa10.out.b hb)
  replace Vmr03 := Lib.hid (Vmr03.out.b hb)
  replace Xmr0 := Lib.hid (Xmr0.out.b hb)
  replace Oxa10 := Lib.hid (Oxa10.out.b hb)
  replace Ogr03 := Lib.hid (Ogr03.out.b hb)
  replace Xgr0 := Lib.hid (Xgr0.out.b hb)
  replace Oya10 := Lib.hid (Oya10.out.b hb)
  have z_w8 : w7.heap.size ≤ w8.heap.size := by have hsz := hb.size; first | omega | (simp at hsz; omega)
  clear hb
  clear Oya10
  go_wp2_with fail
  refine (mark_StringS ha1k0 Oxa10.out.now Oxa10.out.top (by omega) (by omega)).mono ?_; rintro e w9 ⟨rfl, hm0, hg⟩
  replace FB := Lib.hid (FB.out.far hg (by omega))
  replace Fa10 := Lib.hid (Fa10.out.far hg (by omega))
  replace Vmr03 := Lib.hid (Vmr03.out.far hg (by omega))
  replace Xmr0 := Lib.hid (Xmr0.out.far hg (by omega))
  replace Ogr03 := Lib.hid (Ogr03.out.far hg (by omega))
  replace Xgr0 := Lib.hid (Xgr0.out.far hg (by omega))
  have z_w9 : w8.heap.size ≤ w9.heap.size := by have hsz := hg.size; first | omega | (simp at hsz; omega)
  replace Oxa10 := Lib.hid (At.mk hm0 (Nat.le_trans Oxa10.out.top hg.size) (Ow.lives _ _ _ _ _ _))
  clear hg hm0
  clear Oxa10
  have c_Xgr0_0 := Xgr0.out.now 0 _ rfl
  have c_Xgr0_1 := Xgr0.out.now 1 _ rfl
  have c_Xgr0_2 := Xgr0.out.now 2 _ rfl
  have c_Xgr0_3 := Xgr0.out.now 3 _ rfl
  have c_Xmr0_0 := Xmr0.out.now 0 _ rfl
  have c_Xmr0_1 := Xmr0.out.now 1 _ rfl
  have c_Xmr0_2 := Xmr0.out.now 2 _ rfl
  have c_Xmr0_3 := Xmr0.out.now 3 _ rfl
  go_wp2_with fail
  refine (eq_Table hr0m3 Ogr03.out.orow Vmr03.out.row).mono ?_; rintro e w10 ⟨rfl, hb⟩
  replace FB := Lib.hid (FB.out.b hb)
  replace Fa10 := Lib.hid (Fa10.out.b hb)
  replace Vmr03 := Lib.hid (Vmr03.out.b hb)
  replace Xmr0 := Lib.hid (Xmr0.out.b hb)
  replace Ogr03 := Lib.hid (Ogr03.out.b hb)
  replace Xgr0 := Lib.hid (Xgr0.out.b hb)
  have z_w10 : w9.heap.size ≤ w10.heap.size := by have hsz := hb.size; first | omega | (simp at hsz; omega)
  clear c_Xgr0_0 c_Xgr0_1 c_Xgr0_2 c_Xgr0_3 c_Xmr0_0 c_Xmr0_1 c_Xmr0_2 c_Xmr0_3
  clear hb
  have c_Xgr0_0 := Xgr0.out.now 0 _ rfl
  have c_Xgr0_1 := Xgr0.out.now 1 _ rfl
  have c_Xgr0_2 := Xgr0.out.now 2 _ rfl
  have c_Xgr0_3 := Xgr0.out.now 3 _ rfl
  go_wp2_with fail
  refine (mark_Table hr0m3 Ogr03.out.now Ogr03.out.top (by omega) (by omega)).mono ?_; rintro e w11 ⟨rfl, hm0, hg⟩
  replace FB := Lib.hid (FB.out.far hg (by omega))
  replace Fa10 := Lib.hid (Fa10.out.far hg (by omega))
  replace Vmr03 := Lib.hid (Vmr03.out.far hg (by omega))
  replace Xmr0 := Lib.hid (Xmr0.out.far hg (by omega))
  replace Xgr0 := Lib.hid (Xgr0.out.far hg (by omega))
  have z_w11 : w10.heap.size ≤ w11.heap.size := by have hsz := hg.size; first | omega | (simp at hsz; omega)
  replace Ogr03 := Lib.hid (At.mk hm0 (Nat.le_trans Ogr03.out.top hg.size) (Ow.lives _ _ _ _ _ _))
  clear c_Xgr0_0 c_Xgr0_1 c_Xgr0_2 c_Xgr0_3
  clear hg hm0
  have c_Xgr0_0 := Xgr0.out.now 0 _ rfl
  have c_Xgr0_1 := Xgr0.out.now 1 _ rfl
  have c_Xgr0_2 := Xgr0.out.now 2 _ rfl
  have c_Xgr0_3 := Xgr0.out.now 3 _ rfl
  go_wp2_with fail
  refine (held_Table hr0m3 Ogr03.out.orow (by omega) (by omega)).mono ?_; rintro e w12 ⟨rfl, hb⟩
  replace FB := Lib.hid (FB.out.b hb)
  replace Fa10 := Lib.hid (Fa10.out.b hb)
  replace Vmr03 := Lib.hid (Vmr03.out.b hb)
  replace Xmr0 := Lib.hid (Xmr0.out.b hb)
  replace Ogr03 := Lib.hid (Ogr03.out.b hb)
  replace Xgr0 := Lib.hid (Xgr0.out.b hb)
  have z_w12 : w11.heap.size ≤ w12.heap.size := by have hsz := hb.size; first | omega | (simp at hsz; omega)
  clear c_Xgr0_0 c_Xgr0_1 c_Xgr0_2 c_Xgr0_3
  clear hb
  go_wp2_with fail
  refine (to_StringS ha1k0 Fa10.out.row).mono ?_; rintro e w13 ⟨tha1A0, tha1c0, rfl, ho0, hb⟩
  replace FB := Lib.hid (FB.out.b hb)
  replace Fa10 := Lib.hid (Fa10.out.b hb)
  replace Vmr03 := Lib.hid (Vmr03.out.b hb)
  replace Xmr0 := Lib.hid (Xmr0.out.b hb)
  replace Ogr03 := Lib.hid (Ogr03.out.b hb)
  replace Xgr0 := Lib.hid (Xgr0.out.b hb)
  have z_w13 : w12.heap.size ≤ w13.heap.size := by have hsz := hb.size; first | omega | (simp at hsz; omega)
  have Otha10 := Lib.hid (owned (ho0.mono (lo' := w12.heap.size) (Nat.le_refl _) (Nat.le_refl _)))
  clear hb ho0
  go_wp2_with fail
  refine (S2.out _ _ _ Otha10.out.orow).mono ?_; rintro e w14 ⟨hr0A3, hr0c3, rfl, hrr03, hb⟩
  replace FB := Lib.hid (FB.out.b hb)
  replace Fa10 := Lib.hid (Fa10.out.b hb)
  replace Vmr03 := Lib.hid (Vmr03.out.b hb)
  replace Xmr0 := Lib.hid (Xmr0.out.b hb)
  replace Ogr03 := Lib.hid (Ogr03.out.b hb)
  replace Xgr0 := Lib.hid (Xgr0.out.b hb)
  replace Otha10 := Lib.hid (Otha10.out.b hb)
  have z_w14 : w13.heap.size ≤ w14.heap.size := by have hsz := hb.size; first | omega | (simp at hsz; omega)
  have Ohr03 := Lib.hid (owned (hrr03.mono (lo' := w13.heap.size) (Nat.le_refl _) (Nat.le_refl _)))
  clear hb hrr03
  clear Otha10
  replace FB := Lib.hid (FB.out.alloc (.cells #[.int .i64 r0z0, .int .i64 r0z1, .int .i64 r0z2, .slice hr0A3 r0n3 hr0c3] 57))
  replace Fa10 := Lib.hid (Fa10.out.alloc (.cells #[.int .i64 r0z0, .int .i64 r0z1, .int .i64 r0z2, .slice hr0A3 r0n3 hr0c3] 57))
  replace Vmr03 := Lib.hid (Vmr03.out.alloc (.cells #[.int .i64 r0z0, .int .i64 r0z1, .int .i64 r0z2, .slice hr0A3 r0n3 hr0c3] 57))
  replace Xmr0 := Lib.hid (Xmr0.out.alloc (.cells #[.int .i64 r0z0, .int .i64 r0z1, .int .i64 r0z2, .slice hr0A3 r0n3 hr0c3] 57))
  replace Ogr03 := Lib.hid (Ogr03.out.alloc (.cells #[.int .i64 r0z0, .int .i64 r0z1, .int .i64 r0z2, .slice hr0A3 r0n3 hr0c3] 57))
  replace Xgr0 := Lib.hid (Xgr0.out.alloc (.cells #[.int .i64 r0z0, .int .i64 r0z1, .int .i64 r0z2, .slice hr0A3 r0n3 hr0c3] 57))
  replace Ohr03 := Lib.hid (Ohr03.out.alloc (.cells #[.int .i64 r0z0, .int .i64 r0z1, .int .i64 r0z2, .slice hr0A3 r0n3 hr0c3] 57))
  have Xhr0 := Lib.hid (boxed w14 #[.int .i64 r0z0, .int .i64 r0z1, .int .i64 r0z2, .slice hr0A3 r0n3 hr0c3] 57)
  have c_Xhr0_0 := Xhr0.out.now 0 _ rfl
  have c_Xhr0_1 := Xhr0.out.now 1 _ rfl
  have c_Xhr0_2 := Xhr0.out.now 2 _ rfl
  have c_Xhr0_3 := Xhr0.out.now 3 _ rfl
  have c_Xmr0_0 := Xmr0.out.now 0 _ rfl
  have c_Xmr0_1 := Xmr0.out.now 1 _ rfl
  have c_Xmr0_2 := Xmr0.out.now 2 _ rfl
  have c_Xmr0_3 := Xmr0.out.now 3 _ rfl
  go_wp2_with fail
  refine (eq_Table hr0m3 Ohr03.out.orow Vmr03.out.row).mono ?_; rintro e w15 ⟨rfl, hb⟩
  replace FB := Lib.hid (FB.out.b hb)
  replace Fa10 := Lib.hid (Fa10.out.b hb)
  replace Vmr03 := Lib.hid (Vmr03.out.b hb)
  replace Xmr0 := Lib.hid (Xmr0.out.b hb)
  replace Ogr03 := Lib.hid (Ogr03.out.b hb)
  replace Xgr0 := Lib.hid (Xgr0.out.b hb)
  replace Ohr03 := Lib.hid (Ohr03.out.b hb)
  replace Xhr0 := Lib.hid (Xhr0.out.b hb)
  have z_w15 : w14.heap.size + 1 ≤ w15.heap.size := by have hsz := hb.size; first | omega | (simp at hsz; omega)
  clear c_Xhr0_0 c_Xhr0_1 c_Xhr0_2 c_Xhr0_3 c_Xmr0_0 c_Xmr0_1 c_Xmr0_2 c_Xmr0_3
  clear hb
  have c_Xgr0_0 := Xgr0.out.now 0 _ rfl
  have c_Xgr0_1 := Xgr0.out.now 1 _ rfl
  have c_Xgr0_2 := Xgr0.out.now 2 _ rfl
  have c_Xgr0_3 := Xgr0.out.now 3 _ rfl
  go_wp2_with fail
  refine (held_Table hr0m3 Ogr03.out.orow (by omega) (by omega)).mono ?_; rintro e w16 ⟨rfl, hb⟩
  replace FB := Lib.hid (FB.out.b hb)
  replace Fa10 := Lib.hid (Fa10.out.b hb)
  replace Vmr03 := Lib.hid (Vmr03.out.b hb)
  replace Xmr0 := Lib.hid (Xmr0.out.b hb)
  replace Ogr03 := Lib.hid (Ogr03.out.b hb)
  replace Xgr0 := Lib.hid (Xgr0.out.b hb)
  replace Ohr03 := Lib.hid (Ohr03.out.b hb)
  replace Xhr0 := Lib.hid (Xhr0.out.b hb)
  have z_w16 : w15.heap.size ≤ w16.heap.size := by have hsz := hb.size; first | omega | (simp at hsz; omega)
  clear c_Xgr0_0 c_Xgr0_1 c_Xgr0_2 c_Xgr0_3
  clear hb
  go_wp2_with fail
  go_ret
  exact ⟨rfl, FB.out.now⟩
/-! last -/
theorem walk_FnExactPrintFilterOf (w : World) (seed : Int) (_ws : (Lit.int .i64 seed).wf = true) (K : Option Addr) (n kc : Nat) (S : Nat → ByteArray) (hm : n ≤ maxLen) (hr : SRow w K n S) (g : Int) (_wg : (Lit.int .i64 g).wf = true) (v : Int) (_wv : (Lit.int .i64 v).wf = true) :
    Calls Try.prog 11 #[.int .i64 seed, .slice K n kc, .int .i64 g, .int .i64 v] w fun e w' => e = .returned (.bool true) ∧ Below w.heap.size w w' := by
  by_cases h : keyedB seed S n g = true ∧ 1 ≤ v ∧ v ≤ 8
  · obtain ⟨hky, hv1, hv2⟩ := h
    obtain ⟨q, rfl⟩ : ∃ q : Nat, g = q := ⟨g.toNat, by have h := hky; unfold keyedB at h; simp only [Bool.and_eq_true, decide_eq_true_eq] at h; omega⟩
    obtain ⟨x, rfl⟩ : ∃ x : Nat, v = x := ⟨v.toNat, by omega⟩
    have hq : q ≤ 24 := by have h := hky; unfold keyedB at h; simp only [Bool.and_eq_true, decide_eq_true_eq] at h; omega
    have hx : 1 ≤ x ∧ x ≤ 8 := by omega
    obtain ⟨z0, z1, z2, l, X, b, hl, hp⟩ := tpPost_twoP (seed := seed) (q := q) (v := x) (n := n) (S := S) (Y := prF seed x S)
    exact main_FnExactPrintFilterOf seed n S q x z0 z1 z2 l X b K kc w hm hr.grow hr.size (by omega)
      (fun _ _ _ w g1 => (spec_printFilter hky hx hp hr.size g1).mono fun e w' h => h.rowP) (fun _ _ _ w g1 => impl_printFilter hky hx hp hr.size g1)
  · exact main_FnExactPrintFilterOf seed n S g v 0 0 0 0 (fun _ => 0) false K kc w hm hr.grow hr.size (by omega)
      (fun hn _ _ w g1 => (spec_printFilter_no h (by omega) hr.size g1).mono fun e w' h => h.rowP)
      (fun hn _ _ w g1 => by
        cases h2 : (prB seed v && keysB S n) with
        | false => exact impl_printFilter_no h2 (by omega) hr.size g1
        | true =>
          rw [Bool.and_eq_true] at h2
          obtain ⟨p0, p1⟩ := prB_out h2.1
          obtain ⟨x, rfl⟩ : ∃ x : Nat, v = x := ⟨v.toNat, by omega⟩
          refine impl_printFilter_seg h2.1 h2.2 ?_ hr.size g1
          cases e : keyedB seed S n g
          · rfl
          · exact absurd ⟨e, p1⟩ h)
end Go.Proofs.Ytpajbcgdoedleab
