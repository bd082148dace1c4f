/- The law of UnpackMarks, walked: what both sides answer comes in as hypotheses. -/
import Derived.Test.YtfhanighnckbhabObjPe
import Derived.Test.YtfhanighnckbhabUnS
import Derived.Deep.RegionHeld3
namespace Go.Proofs.Ytfhanighnckbhab
open Go.RowKit

set_option maxRecDepth 100000 in
set_option maxHeartbeats 8000000 in
theorem main_FnExactUnpackMarks (a0z0 : Int) (a1z0 : Int) (a2z0 : Int) (a2n1 : Nat) (a2X1 : Nat → Int) (r0z0 : Int) (r0z1 : Int) (r0n2 : Nat) (r0X2 : Nat → Int) (r1z0 : Bool) (a2A1 : Option Addr) (a2c1 : Nat) (w : World) (ha2m1 : a2n1 ≤ maxLen) (ha2r1 : GRow w a2A1 a2n1 (intV a2X1)) (hr0m2 : r0n2 ≤ 1048576)
    (s1 : a2n1 ≤ 1048576 → ∀ (ua2A1 : Option Addr) (ua2c1 : Nat) (w : World), GRow w ua2A1 a2n1 (intV a2X1) → Calls Try.prog 29 #[.int .i64 a0z0, .int .i64 a1z0, .agg #[.int .i64 a2z0, .slice ua2A1 a2n1 ua2c1]] w fun e w' => ∃ vr0A2 vr0c2, e = .returned (.tuple #[.agg #[.int .i64 r0z0, .int .i64 r0z1, .slice vr0A2 r0n2 vr0c2], .bool r1z0]) ∧ GRow w' vr0A2 r0n2 (intV r0X2) ∧ Below w.heap.size w w')
    (s2 : a2n1 ≤ 1048576 → ∀ (ua2A1 : Option Addr) (ua2c1 : Nat) (w : World), GRow w ua2A1 a2n1 (intV a2X1) → Calls Try.prog 31 #[.int .i64 a0z0, .int .i64 a1z0, .agg #[.int .i64 a2z0, .slice ua2A1 a2n1 ua2c1]] w fun e w' => ∃ vr0A2 vr0c2, e = .returned (.tuple #[.agg #[.int .i64 r0z0, .int .i64 r0z1, .slice vr0A2 r0n2 vr0c2], .bool r1z0]) ∧ Ow w.heap.size w'.heap.size 3 vr0A2 r0n2 (intV r0X2) w' ∧ Below w.heap.size w w') :
    Calls Try.prog 7 #[.int .i64 a0z0, .int .i64 a1z0, .agg #[.int .i64 a2z0, .slice a2A1 a2n1 a2c1]] w fun e w' => e = .returned (.bool true) ∧ Below w.heap.size w w' := by
  have S1 := Lib.hid s1
  have S2 := Lib.hid s2
  clear s1 s2
  have FB := Lib.hid ((At.start w).alloc (.cells #[.int .i64 a2z0, .slice a2A1 a2n1 a2c1] 41))
  have Fa21 := Lib.hid ((rd_of_row ha2r1).alloc (.cells #[.int .i64 a2z0, .slice a2A1 a2n1 a2c1] 41))
  have Ba2 := Lib.hid (boxed w #[.int .i64 a2z0, .slice a2A1 a2n1 a2c1] 41)
  clear ha2r1
  go_enter Try.func7, Try.ntmps7
  go_wp2_with fail
  refine (sz_Bits ha2m1 (by omega) (by omega)).mono ?_; rintro e w1 ⟨rfl, hb⟩
  replace FB := Lib.hid (FB.out.b hb)
  replace Fa21 := Lib.hid (Fa21.out.b hb)
  replace Ba2 := Lib.hid (Ba2.out.b hb)
  have z_w1 : w.heap.size + 1 ≤ w1.heap.size := by have hsz := hb.size; first | omega | (simp at hsz; omega)
  clear hb
  by_cases hZ_a2 : ((a2n1 : Nat) : Int) ≤ (1048576 : Int)
  rotate_left
  · rw [szv_no hZ_a2]
    go_wp2_with fail
    go_ret
    exact ⟨rfl, FB.out.now⟩
  rw [szv_yes hZ_a2]
  have hL_a2 : ¬ (((1048576 : Int) - (((a2n1 : Nat) : Int))) < 0) := by omega
  have c_Ba2_0 := Ba2.out.now 0 _ rfl
  have c_Ba2_1 := Ba2.out.now 1 _ rfl
  replace S1 := Lib.hid (S1.out (by omega))
  replace S2 := Lib.hid (S2.out (by omega))
  have ha2k1 : a2n1 ≤ 1048576 := by omega
  go_wp2_with fail
  refine (to_Bits ha2k1 Fa21.out.row).mono ?_; rintro e w2 ⟨tma2A1, tma2c1, rfl, ho1, hb⟩
  replace FB := Lib.hid (FB.out.b hb)
  replace Fa21 := Lib.hid (Fa21.out.b hb)
  replace Ba2 := Lib.hid (Ba2.out.b hb)
  have z_w2 : w1.heap.size ≤ w2.heap.size := by have hsz := hb.size; first | omega | (simp at hsz; omega)
  clear c_Ba2_0 c_Ba2_1
  have Otma21 := Lib.hid (owned (ho1.mono (lo' := w1.heap.size) (Nat.le_refl _) (Nat.le_refl _)))
  clear hb ho1
  go_wp2_with fail
  refine (S1.out _ _ _ Otma21.out.orow).mono ?_; rintro e w3 ⟨mr0A2, mr0c2, rfl, hrr02, hb⟩
  replace FB := Lib.hid (FB.out.b hb)
  replace Fa21 := Lib.hid (Fa21.out.b hb)
  replace Ba2 := Lib.hid (Ba2.out.b hb)
  replace Otma21 := Lib.hid (Otma21.out.b hb)
  have z_w3 : w2.heap.size ≤ w3.heap.size := by have hsz := hb.size; first | omega | (simp at hsz; omega)
  have Vmr02 := Lib.hid (rd_of_row hrr02)
  clear hb hrr02
  clear Otma21
  replace FB := Lib.hid (FB.out.alloc (.cells #[.int .i64 r0z0, .int .i64 r0z1, .slice mr0A2 r0n2 mr0c2] 27))
  replace Fa21 := Lib.hid (Fa21.out.alloc (.cells #[.int .i64 r0z0, .int .i64 r0z1, .slice mr0A2 r0n2 mr0c2] 27))
  replace Ba2 := Lib.hid (Ba2.out.alloc (.cells #[.int .i64 r0z0, .int .i64 r0z1, .slice mr0A2 r0n2 mr0c2] 27))
  replace Vmr02 := Lib.hid (Vmr02.out.alloc (.cells #[.int .i64 r0z0, .int .i64 r0z1, .slice mr0A2 r0n2 mr0c2] 27))
  have Xmr0 := Lib.hid (boxed w3 #[.int .i64 r0z0, .int .i64 r0z1, .slice mr0A2 r0n2 mr0c2] 27)
  have c_Ba2_0 := Ba2.out.now 0 _ rfl
  have c_Ba2_1 := Ba2.out.now 1 _ rfl
  go_wp2_with fail
  refine (to_Bits ha2k1 Fa21.out.row).mono ?_; rintro e w4 ⟨xa2A1, xa2c1, rfl, ho1, hb⟩
  replace FB := Lib.hid (FB.out.b hb)
  replace Fa21 := Lib.hid (Fa21.out.b hb)
  replace Ba2 := Lib.hid (Ba2.out.b hb)
  replace Vmr02 := Lib.hid (Vmr02.out.b hb)
  replace Xmr0 := Lib.hid (Xmr0.out.b hb)
  have z_w4 : w3.heap.size + 1 ≤ w4.heap.size := by have hsz := hb.size; first | omega | (simp at hsz; omega)
  clear c_Ba2_0 c_Ba2_1
  have Oxa21 := Lib.hid (owned (ho1.mono (lo' := w3.heap.size + 1) (by simp) (Nat.le_refl _)))
  clear hb ho1
  replace FB := Lib.hid (FB.out.alloc (.cells #[.int .i64 a2z0, .slice xa2A1 a2n1 xa2c1] 35))
  replace Fa21 := Lib.hid (Fa21.out.alloc (.cells #[.int .i64 a2z0, .slice xa2A1 a2n1 xa2c1] 35))
  replace Ba2 := Lib.hid (Ba2.out.alloc (.cells #[.int .i64 a2z0, .slice xa2A1 a2n1 xa2c1] 35))
  replace Vmr02 := Lib.hid (Vmr02.out.alloc (.cells #[.int .i64 a2z0, .slice xa2A1 a2n1 xa2c1] 35))
  replace Xmr0 := Lib.hid (Xmr0.out.alloc (.cells #[.int .i64 a2z0, .slice xa2A1 a2n1 xa2c1] 35))
  replace Oxa21 := Lib.hid (Oxa21.out.alloc (.cells #[.int .i64 a2z0, .slice xa2A1 a2n1 xa2c1] 35))
  have Yxa2 := Lib.hid (boxed w4 #[.int .i64 a2z0, .slice xa2A1 a2n1 xa2c1] 35)
  have c_Yxa2_0 := Yxa2.out.now 0 _ rfl
  have c_Yxa2_1 := Yxa2.out.now 1 _ rfl
  go_wp2_with fail
  refine (S2.out _ _ _ Oxa21.out.orow).mono ?_; rintro e w5 ⟨gr0A2, gr0c2, rfl, hrr02, hb⟩
  replace FB := Lib.hid (FB.out.b hb)
  replace Fa21 := Lib.hid (Fa21.out.b hb)
  replace Ba2 := Lib.hid (Ba2.out.b hb)
  replace Vmr02 := Lib.hid (Vmr02.out.b hb)
  replace Xmr0 := Lib.hid (Xmr0.out.b hb)
  replace Oxa21 := Lib.hid (Oxa21.out.b hb)
  replace Yxa2 := Lib.hid (Yxa2.out.b hb)
  have z_w5 : w4.heap.size + 1 ≤ w5.heap.size := by have hsz := hb.size; first | omega | (simp at hsz; omega)
  clear c_Yxa2_0 c_Yxa2_1
  have Ogr02 := Lib.hid (owned (hrr02.mono (lo' := w4.heap.size + 1) (by simp) (Nat.le_refl _)))
  clear hb hrr02
  replace FB := Lib.hid (FB.out.alloc (.cells #[.int .i64 r0z0, .int .i64 r0z1, .slice gr0A2 r0n2 gr0c2] 27))
  replace Fa21 := Lib.hid (Fa21.out.alloc (.cells #[.int .i64 r0z0, .int .i64 r0z1, .slice gr0A2 r0n2 gr0c2] 27))
  replace Ba2 := Lib.hid (Ba2.out.alloc (.cells #[.int .i64 r0z0, .int .i64 r0z1, .slice gr0A2 r0n2 gr0c2] 27))
  replace Vmr02 := Lib.hid (Vmr02.out.alloc (.cells #[.int .i64 r0z0, .int .i64 r0z1, .slice gr0A2 r0n2 gr0c2] 27))
  replace Xmr0 := Lib.hid (Xmr0.out.alloc (.cells #[.int .i64 r0z0, .int .i64 r0z1, .slice gr0A2 r0n2 gr0c2] 27))
  replace Oxa21 := Lib.hid (Oxa21.out.alloc (.cells #[.int .i64 r0z0, .int .i64 r0z1, .slice gr0A2 r0n2 gr0c2] 27))
  replace Yxa2 := Lib.hid (Yxa2.out.alloc (.cells #[.int .i64 r0z0, .int .i64 r0z1, .slice gr0A2 r0n2 gr0c2] 27))
  replace Ogr02 := Lib.hid (Ogr02.out.alloc (.cells #[.int .i64 r0z0, .int .i64 r0z1, .slice gr0A2 r0n2 gr0c2] 27))
  have Xgr0 := Lib.hid (boxed w5 #[.int .i64 r0z0, .int .i64 r0z1, .slice gr0A2 r0n2 gr0c2] 27)
  have c_Xgr0_0 := Xgr0.out.now 0 _ rfl
  have c_Xgr0_1 := Xgr0.out.now 1 _ rfl
  have c_Xgr0_2 := Xgr0.out.now 2 _ rfl
  have c_Xmr0_0 := Xmr0.out.now 0 _ rfl
  have c_Xmr0_1 := Xmr0.out.now 1 _ rfl
  have c_Xmr0_2 := Xmr0.out.now 2 _ rfl
  go_wp2_with fail
  refine (eq_Peeled hr0m2 Ogr02.out.orow Vmr02.out.row).mono ?_; rintro e w6 ⟨rfl, hb⟩
  replace FB := Lib.hid (FB.out.b hb)
  replace Fa21 := Lib.hid (Fa21.out.b hb)
  replace Ba2 := Lib.hid (Ba2.out.b hb)
  replace Vmr02 := Lib.hid (Vmr02.out.b hb)
  replace Xmr0 := Lib.hid (Xmr0.out.b hb)
  replace Oxa21 := Lib.hid (Oxa21.out.b hb)
  replace Yxa2 := Lib.hid (Yxa2.out.b hb)
  replace Ogr02 := Lib.hid (Ogr02.out.b hb)
  replace Xgr0 := Lib.hid (Xgr0.out.b hb)
  have z_w6 : w5.heap.size + 1 ≤ w6.heap.size := by have hsz := hb.size; first | omega | (simp at hsz; omega)
  clear c_Xgr0_0 c_Xgr0_1 c_Xgr0_2 c_Xmr0_0 c_Xmr0_1 c_Xmr0_2
  clear hb
  have c_Ba2_0 := Ba2.out.now 0 _ rfl
  have c_Ba2_1 := Ba2.out.now 1 _ rfl
  have c_Yxa2_0 := Yxa2.out.now 0 _ rfl
  have c_Yxa2_1 := Yxa2.out.now 1 _ rfl
  go_wp2_with fail
  go_region_held3 (fun w' => w'.cell? ⟨w.heap.size, 0, none⟩ = some (.int .i64 a2z0) ∧ w'.cell? ⟨w.heap.size, 1, none⟩ = some (.slice a2A1 a2n1 a2c1) ∧ w'.cell? ⟨w4.heap.size, 0, none⟩ = some (.int .i64 a2z0) ∧ w'.cell? ⟨w4.heap.size, 1, none⟩ = some (.slice xa2A1 a2n1 xa2c1))
    (first | (go_keep; done) | exact ⟨(((Ba2.out.b hq1).b hq2)).now 0 _ rfl, (((Ba2.out.b hq1).b hq2)).now 1 _ rfl, (((Yxa2.out.b hq1).b hq2)).now 0 _ rfl, (((Yxa2.out.b hq1).b hq2)).now 1 _ rfl⟩ | exact ⟨((Ba2.out.b hq1)).now 0 _ rfl, ((Ba2.out.b hq1)).now 1 _ rfl, ((Yxa2.out.b hq1)).now 0 _ rfl, ((Yxa2.out.b hq1)).now 1 _ rfl⟩)
    (first
      | (have hqz := hq1; clear hqz; go_at_call 24; (first | refine (eq_Bits ha2k1 ((Oxa21.out.b hq1)).orow (owned ho1).orow).mono ?_); rintro e w8 ⟨rfl, hq2⟩)
      | (go_at_call 30; (first | refine (to_Bits ha2k1 (Fa21.out).row).mono ?_ | refine (to_Bits ha2k1 (GRow.drew (Fa21.out).row)).mono ?_); rintro e w7 ⟨ya2A1, ya2c1, rfl, ho1, hq1'⟩; have hq1 := of_drew hq1'; clear hq1'))
  replace FB := Lib.hid (FB.out.b hq1)
  replace Fa21 := Lib.hid (Fa21.out.b hq1)
  replace Ba2 := Lib.hid (Ba2.out.b hq1)
  replace Vmr02 := Lib.hid (Vmr02.out.b hq1)
  replace Xmr0 := Lib.hid (Xmr0.out.b hq1)
  replace Oxa21 := Lib.hid (Oxa21.out.b hq1)
  replace Yxa2 := Lib.hid (Yxa2.out.b hq1)
  replace Ogr02 := Lib.hid (Ogr02.out.b hq1)
  replace Xgr0 := Lib.hid (Xgr0.out.b hq1)
  replace FB := Lib.hid (FB.out.b hq2)
  replace Fa21 := Lib.hid (Fa21.out.b hq2)
  replace Ba2 := Lib.hid (Ba2.out.b hq2)
  replace Vmr02 := Lib.hid (Vmr02.out.b hq2)
  replace Xmr0 := Lib.hid (Xmr0.out.b hq2)
  replace Oxa21 := Lib.hid (Oxa21.out.b hq2)
  replace Yxa2 := Lib.hid (Yxa2.out.b hq2)
  replace Ogr02 := Lib.hid (Ogr02.out.b hq2)
  replace Xgr0 := Lib.hid (Xgr0.out.b hq2)
  have z_w7 : w6.heap.size ≤ w7.heap.size := by have hsz := hq1.size; first | omega | (simp at hsz; omega)
  have z_w8 : w7.heap.size ≤ w8.heap.size := hq2.size
  clear c_Ba2_0 c_Ba2_1 c_Yxa2_0 c_Yxa2_1
  clear hq1 hq2 ho1
  have c_Yxa2_0 := Yxa2.out.now 0 _ rfl
  have c_Yxa2_1 := Yxa2.out.now 1 _ rfl
  go_wp2_with fail
  refine (mark_Bits ha2k1 Oxa21.out.now Oxa21.out.top (by omega) (by omega)).mono ?_; rintro e w9 ⟨rfl, hm0, hg⟩
  replace FB := Lib.hid (FB.out.far hg (by omega))
  replace Fa21 := Lib.hid (Fa21.out.far hg (by omega))
  replace Ba2 := Lib.hid (Ba2.out.far hg (by omega))
  replace Vmr02 := Lib.hid (Vmr02.out.far hg (by omega))
  replace Xmr0 := Lib.hid (Xmr0.out.far hg (by omega))
  replace Yxa2 := Lib.hid (Yxa2.out.far hg (by omega))
  replace Ogr02 := Lib.hid (Ogr02.out.far hg (by omega))
  replace Xgr0 := Lib.hid (Xgr0.out.far hg (by omega))
  have z_w9 : w8.heap.size ≤ w9.heap.size := by have hsz := hg.size; first | omega | (simp at hsz; omega)
  replace Oxa21 := Lib.hid (At.mk hm0 (Nat.le_trans Oxa21.out.top hg.size) (Ow.lives _ _ _ _ _ _))
  clear c_Yxa2_0 c_Yxa2_1
  clear hg hm0
  clear Oxa21 Yxa2
  have c_Xgr0_0 := Xgr0.out.now 0 _ rfl
  have c_Xgr0_1 := Xgr0.out.now 1 _ rfl
  have c_Xgr0_2 := Xgr0.out.now 2 _ rfl
  have c_Xmr0_0 := Xmr0.out.now 0 _ rfl
  have c_Xmr0_1 := Xmr0.out.now 1 _ rfl
  have c_Xmr0_2 := Xmr0.out.now 2 _ rfl
  go_wp2_with fail
  refine (eq_Peeled hr0m2 Ogr02.out.orow Vmr02.out.row).mono ?_; rintro e w10 ⟨rfl, hb⟩
  replace FB := Lib.hid (FB.out.b hb)
  replace Fa21 := Lib.hid (Fa21.out.b hb)
  replace Ba2 := Lib.hid (Ba2.out.b hb)
  replace Vmr02 := Lib.hid (Vmr02.out.b hb)
  replace Xmr0 := Lib.hid (Xmr0.out.b hb)
  replace Ogr02 := Lib.hid (Ogr02.out.b hb)
  replace Xgr0 := Lib.hid (Xgr0.out.b hb)
  have z_w10 : w9.heap.size ≤ w10.heap.size := by have hsz := hb.size; first | omega | (simp at hsz; omega)
  clear c_Xgr0_0 c_Xgr0_1 c_Xgr0_2 c_Xmr0_0 c_Xmr0_1 c_Xmr0_2
  clear hb
  have c_Xgr0_0 := Xgr0.out.now 0 _ rfl
  have c_Xgr0_1 := Xgr0.out.now 1 _ rfl
  have c_Xgr0_2 := Xgr0.out.now 2 _ rfl
  go_wp2_with fail
  refine (mark_Peeled hr0m2 Ogr02.out.now Ogr02.out.top (by omega) (by omega)).mono ?_; rintro e w11 ⟨rfl, hm0, hg⟩
  replace FB := Lib.hid (FB.out.far hg (by omega))
  replace Fa21 := Lib.hid (Fa21.out.far hg (by omega))
  replace Ba2 := Lib.hid (Ba2.out.far hg (by omega))
  replace Vmr02 := Lib.hid (Vmr02.out.far hg (by omega))
  replace Xmr0 := Lib.hid (Xmr0.out.far hg (by omega))
  replace Xgr0 := Lib.hid (Xgr0.out.far hg (by omega))
  have z_w11 : w10.heap.size ≤ w11.heap.size := by have hsz := hg.size; first | omega | (simp at hsz; omega)
  replace Ogr02 := Lib.hid (At.mk hm0 (Nat.le_trans Ogr02.out.top hg.size) (Ow.lives _ _ _ _ _ _))
  clear c_Xgr0_0 c_Xgr0_1 c_Xgr0_2
  clear hg hm0
  have c_Xgr0_0 := Xgr0.out.now 0 _ rfl
  have c_Xgr0_1 := Xgr0.out.now 1 _ rfl
  have c_Xgr0_2 := Xgr0.out.now 2 _ rfl
  go_wp2_with fail
  refine (held_Peeled hr0m2 Ogr02.out.orow (by omega) (by omega)).mono ?_; rintro e w12 ⟨rfl, hb⟩
  replace FB := Lib.hid (FB.out.b hb)
  replace Fa21 := Lib.hid (Fa21.out.b hb)
  replace Ba2 := Lib.hid (Ba2.out.b hb)
  replace Vmr02 := Lib.hid (Vmr02.out.b hb)
  replace Xmr0 := Lib.hid (Xmr0.out.b hb)
  replace Ogr02 := Lib.hid (Ogr02.out.b hb)
  replace Xgr0 := Lib.hid (Xgr0.out.b hb)
  have z_w12 : w11.heap.size ≤ w12.heap.size := by have hsz := hb.size; first | omega | (simp at hsz; omega)
  clear c_Xgr0_0 c_Xgr0_1 c_Xgr0_2
  clear hb
  have c_Ba2_0 := Ba2.out.now 0 _ rfl
  have c_Ba2_1 := Ba2.out.now 1 _ rfl
  go_wp2_with fail
  refine (to_Bits ha2k1 Fa21.out.row).mono ?_; rintro e w13 ⟨tha2A1, tha2c1, rfl, ho1, hb⟩
  replace FB := Lib.hid (FB.out.b hb)
  replace Fa21 := Lib.hid (Fa21.out.b hb)
  replace Ba2 := Lib.hid (Ba2.out.b hb)
  replace Vmr02 := Lib.hid (Vmr02.out.b hb)
  replace Xmr0 := Lib.hid (Xmr0.out.b hb)
  replace Ogr02 := Lib.hid (Ogr02.out.b hb)
  replace Xgr0 := Lib.hid (Xgr0.out.b hb)
  have z_w13 : w12.heap.size ≤ w13.heap.size := by have hsz := hb.size; first | omega | (simp at hsz; omega)
  clear c_Ba2_0 c_Ba2_1
  have Otha21 := Lib.hid (owned (ho1.mono (lo' := w12.heap.size) (Nat.le_refl _) (Nat.le_refl _)))
  clear hb ho1
  go_wp2_with fail
  refine (S2.out _ _ _ Otha21.out.orow).mono ?_; rintro e w14 ⟨hr0A2, hr0c2, rfl, hrr02, hb⟩
  replace FB := Lib.hid (FB.out.b hb)
  replace Fa21 := Lib.hid (Fa21.out.b hb)
  replace Ba2 := Lib.hid (Ba2.out.b hb)
  replace Vmr02 := Lib.hid (Vmr02.out.b hb)
  replace Xmr0 := Lib.hid (Xmr0.out.b hb)
  replace Ogr02 := Lib.hid (Ogr02.out.b hb)
  replace Xgr0 := Lib.hid (Xgr0.out.b hb)
  replace Otha21 := Lib.hid (Otha21.out.b hb)
  have z_w14 : w13.heap.size ≤ w14.heap.size := by have hsz := hb.size; first | omega | (simp at hsz; omega)
  have Ohr02 := Lib.hid (owned (hrr02.mono (lo' := w13.heap.size) (Nat.le_refl _) (Nat.le_refl _)))
  clear hb hrr02
  clear Otha21
  replace FB := Lib.hid (FB.out.alloc (.cells #[.int .i64 r0z0, .int .i64 r0z1, .slice hr0A2 r0n2 hr0c2] 27))
  replace Fa21 := Lib.hid (Fa21.out.alloc (.cells #[.int .i64 r0z0, .int .i64 r0z1, .slice hr0A2 r0n2 hr0c2] 27))
  replace Ba2 := Lib.hid (Ba2.out.alloc (.cells #[.int .i64 r0z0, .int .i64 r0z1, .slice hr0A2 r0n2 hr0c2] 27))
  replace Vmr02 := Lib.hid (Vmr02.out.alloc (.cells #[.int .i64 r0z0, .int .i64 r0z1, .slice hr0A2 r0n2 hr0c2] 27))
  replace Xmr0 := Lib.hid (Xmr0.out.alloc (.cells #[.int .i64 r0z0, .int .i64 r0z1, .slice hr0A2 r0n2 hr0c2] 27))
  replace Ogr02 := Lib.hid (Ogr02.out.alloc (.cells #[.int .i64 r0z0, .int .i64 r0z1, .slice hr0A2 r0n2 hr0c2] 27))
  replace Xgr0 := Lib.hid (Xgr0.out.alloc (.cells #[.int .i64 r0z0, .int .i64 r0z1, .slice hr0A2 r0n2 hr0c2] 27))
  replace Ohr02 := Lib.hid (Ohr02.out.alloc (.cells #[.int .i64 r0z0, .int .i64 r0z1, .slice hr0A2 r0n2 hr0c2] 27))
  have Xhr0 := Lib.hid (boxed w14 #[.int .i64 r0z0, .int .i64 r0z1, .slice hr0A2 r0n2 hr0c2] 27)
  have c_Xhr0_0 := Xhr0.out.now 0 _ rfl
  have c_Xhr0_1 := Xhr0.out.now 1 _ rfl
  have c_Xhr0_2 := Xhr0.out.now 2 _ rfl
  have c_Xmr0_0 := Xmr0.out.now 0 _ rfl
  have c_Xmr0_1 := Xmr0.out.now 1 _ rfl
  have c_Xmr0_2 := Xmr0.out.now 2 _ rfl
  go_wp2_with fail
  refine (eq_Peeled hr0m2 Ohr02.out.orow Vmr02.out.row).mono ?_; rintro e w15 ⟨rfl, hb⟩
  replace FB := Lib.hid (FB.out.b hb)
  replace Fa21 := Lib.hid (Fa21.out.b hb)
  replace Ba2 := Lib.hid (Ba2.out.b hb)
  replace Vmr02 := Lib.hid (Vmr02.out.b hb)
  replace Xmr0 := Lib.hid (Xmr0.out.b hb)
  replace Ogr02 := Lib.hid (Ogr02.out.b hb)
  replace Xgr0 := Lib.hid (Xgr0.out.b hb)
  replace Ohr02 := Lib.hid (Ohr02.out.b hb)
  replace Xhr0 := Lib.hid (Xhr0.out.b hb)
  have z_w15 : w14.heap.size + 1 ≤ w15.heap.size := by have hsz := hb.size; first | omega | (simp at hsz; omega)
  clear c_Xhr0_0 c_Xhr0_1 c_Xhr0_2 c_Xmr0_0 c_Xmr0_1 c_Xmr0_2
  clear hb
  have c_Xgr0_0 := Xgr0.out.now 0 _ rfl
  have c_Xgr0_1 := Xgr0.out.now 1 _ rfl
  have c_Xgr0_2 := Xgr0.out.now 2 _ rfl
  go_wp2_with fail
  refine (held_Peeled hr0m2 Ogr02.out.orow (by omega) (by omega)).mono ?_; rintro e w16 ⟨rfl, hb⟩
  replace FB := Lib.hid (FB.out.b hb)
  replace Fa21 := Lib.hid (Fa21.out.b hb)
  replace Ba2 := Lib.hid (Ba2.out.b hb)
  replace Vmr02 := Lib.hid (Vmr02.out.b hb)
  replace Xmr0 := Lib.hid (Xmr0.out.b hb)
  replace Ogr02 := Lib.hid (Ogr02.out.b hb)
  replace Xgr0 := Lib.hid (Xgr0.out.b hb)
  replace Ohr02 := Lib.hid (Ohr02.out.b hb)
  replace Xhr0 := Lib.hid (Xhr0.out.b hb)
  have z_w16 : w15.heap.size ≤ w16.heap.size := by have hsz := hb.size; first | omega | (simp at hsz; omega)
  clear c_Xgr0_0 c_Xgr0_1 c_Xgr0_2
  clear hb
  go_wp2_with fail
  go_ret
  exact ⟨rfl, FB.out.now⟩
theorem walk_FnExactUnpackMarks (w : World) (sd : Int) (_wd : (Lit.int .i64 sd).wf = true) (sg : Int) (_wg : (Lit.int .i64 sg).wf = true) (z : Int) (_wz : (Lit.int .i64 z).wf = true) (A : Option Addr) (n c : Nat) (X : Nat → Int) (hm : n ≤ maxLen) (hr : IRow w A n X) :
    Calls Try.prog 7 #[.int .i64 sd, .int .i64 sg, .agg #[.int .i64 z, .slice A n c]] w fun e w' => e = .returned (.bool true) ∧ Below w.heap.size w w' := by
  by_cases h : UnOk sd sg z n X
  · obtain ⟨g, rfl⟩ : ∃ g : Nat, sg = g := ⟨sg.toNat, by have := h.2.1; omega⟩
    obtain rfl : z = ((6 * g : Nat) : Int) := by have := h.2.2.2; omega
    have hg : g ≤ 24 := by have := h.2.1; omega
    exact main_FnExactUnpackMarks sd g ((6 * g : Nat) : Int) n X sd g (3 * g) (umY X) true A c w hm hr (by omega)
      (fun hn A c w q => (spec_unpackMarks sd A n c X w g (by omega) q h).mono PdOwn.row)
      (fun hn A c w q => impl_unpackMarks sd A n c X w g (by omega) q h)
  · exact main_FnExactUnpackMarks sd sg z n X 0 0 0 (fun _ => 0) false A c w hm hr (by omega)
      (fun hn A c w q => (spec_unpackMarks_no sd sg z A n c X w (by omega) q h).mono PdOwn.row)
      (fun hn A c w q => impl_unpackMarks_no sd sg z A n c X w (by omega) q h)
end Go.Proofs.Ytfhanighnckbhab
