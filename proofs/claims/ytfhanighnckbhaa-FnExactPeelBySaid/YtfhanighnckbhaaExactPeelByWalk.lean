/- The law of PeelBy, walked: what both sides answer comes in as hypotheses. -/
import Derived.Test.YtfhanighnckbhaaPeelE
import Derived.Deep.RegionHeld3
namespace Go.Proofs.Ytfhanighnckbhaa
open Go.RowKit

set_option maxRecDepth 100000 in
set_option maxHeartbeats 8000000 in
theorem main_FnExactPeelBy (a0z0 : Int) (a0n1 : Nat) (a0L1 : Nat → Nat) (a0X1 : Nat → Nat → Int) (a1n0 : Nat) (a1X0 : Nat → Int) (r0n0 : Nat) (r0X0 : Nat → Int) (r1n0 : Nat) (r1X0 : Nat → Int) (r2z0 : Bool) (a0A1 : Option Addr) (a0c1 : Nat) (a1A0 : Option Addr) (a1c0 : Nat) (w : World) (ha0m1 : a0n1 ≤ maxLen) (ha0r1 : HRow w a0A1 a0n1 a0L1 a0X1) (ha0s1 : ∀ i, i < a0n1 → a0L1 i ≤ maxLen) (_ha1m0 : a1n0 ≤ maxLen) (ha1r0 : GRow w a1A0 a1n0 (intV a1X0)) (hr0m0 : r0n0 ≤ 1048576) (hr1m0 : r1n0 ≤ 1048576)
    (s1 : a1n0 ≤ 1048576 → a0n1 + (sumL a0L1 a0n1) ≤ 1048576 → ∀ (ua0A1 : Option Addr) (ua0c1 : Nat) (ua1A0 : Option Addr) (ua1c0 : Nat) (w : World), HRow w ua0A1 a0n1 a0L1 a0X1 → GRow w ua1A0 a1n0 (intV a1X0) → Calls Try.prog 34 #[.agg #[.int .i64 a0z0, .slice ua0A1 a0n1 ua0c1], .slice ua1A0 a1n0 ua1c0] w fun e w' => ∃ vr0A0 vr0c0 vr1A0 vr1c0, e = .returned (.tuple #[.slice vr0A0 r0n0 vr0c0, .slice vr1A0 r1n0 vr1c0, .bool r2z0]) ∧ GRow w' vr0A0 (2 * r0n0) (intV r0X0) ∧ GRow w' vr1A0 r1n0 (intV r1X0) ∧ Below w.heap.size w w')
    (s2 : a1n0 ≤ 1048576 → a0n1 + (sumL a0L1 a0n1) ≤ 1048576 → ∀ (ua0A1 : Option Addr) (ua0c1 : Nat) (ua1A0 : Option Addr) (ua1c0 : Nat) (w : World), HRow w ua0A1 a0n1 a0L1 a0X1 → GRow w ua1A0 a1n0 (intV a1X0) → Calls Try.prog 36 #[.agg #[.int .i64 a0z0, .slice ua0A1 a0n1 ua0c1], .slice ua1A0 a1n0 ua1c0] w fun e w' => ∃ vr0A0 vr0c0 vr1A0 vr1c0, e = .returned (.tuple #[.slice vr0A0 r0n0 vr0c0, .slice vr1A0 r1n0 vr1c0, .bool r2z0]) ∧ Ow w.heap.size w'.heap.size 82 vr0A0 (2 * r0n0) (intV r0X0) w' ∧ Ow w.heap.size w'.heap.size 3 vr1A0 r1n0 (intV r1X0) w' ∧ Apart (2 * r0n0) vr0A0 r1n0 vr1A0 ∧ Below w.heap.size w w') :
    Calls Try.prog 6 #[.agg #[.int .i64 a0z0, .slice a0A1 a0n1 a0c1], .slice a1A0 a1n0 a1c0] w fun e w' => e = .returned (.bool true) ∧ Below w.heap.size w w' := by
  have S1 := Lib.hid s1
  have S2 := Lib.hid s2
  clear s1 s2
  have FB := Lib.hid ((At.start w).alloc (.cells #[.int .i64 a0z0, .slice a0A1 a0n1 a0c1] 34))
  have Fa01 := Lib.hid ((rd2_of_row ha0r1).alloc (.cells #[.int .i64 a0z0, .slice a0A1 a0n1 a0c1] 34))
  have Fa10 := Lib.hid ((rd_of_row ha1r0).alloc (.cells #[.int .i64 a0z0, .slice a0A1 a0n1 a0c1] 34))
  have Ba0 := Lib.hid (boxed w #[.int .i64 a0z0, .slice a0A1 a0n1 a0c1] 34)
  clear ha0r1 ha1r0
  by_cases hlong_a1 : (1048576 : Int) < (a1n0 : Int)
  · go_enter Try.func6, Try.ntmps6
    go_wp2_with fail
    go_ret
    exact ⟨rfl, FB.out.now⟩
  go_enter Try.func6, Try.ntmps6
  go_wp2_with fail
  refine (sz_Hyper ha0m1 ha0s1 Fa01.out.row2 (by omega) (by omega)).mono ?_; rintro e w1 ⟨rfl, hb⟩
  replace FB := Lib.hid (FB.out.b hb)
  replace Fa01 := Lib.hid (Fa01.out.b hb)
  replace Fa10 := Lib.hid (Fa10.out.b hb)
  replace Ba0 := Lib.hid (Ba0.out.b hb)
  have z_w1 : w.heap.size + 1 ≤ w1.heap.size := by have hsz := hb.size; first | omega | (simp at hsz; omega)
  clear hb
  by_cases hZ_a0 : ((a0n1 + (sumL a0L1 a0n1) : Nat) : Int) ≤ (1048576 : Int)
  rotate_left
  · rw [szv_no hZ_a0]
    go_wp2_with fail
    go_ret
    exact ⟨rfl, FB.out.now⟩
  rw [szv_yes hZ_a0]
  have hL_a0 : ¬ (((1048576 : Int) - (((a0n1 : Nat) : Int) + (((sumL a0L1 a0n1) : Nat) : Int))) < 0) := by omega
  have c_Ba0_0 := Ba0.out.now 0 _ rfl
  have c_Ba0_1 := Ba0.out.now 1 _ rfl
  replace S1 := Lib.hid (S1.out (by omega) (by omega))
  replace S2 := Lib.hid (S2.out (by omega) (by omega))
  have ha0k1 : a0n1 + sumL a0L1 a0n1 ≤ 1048576 := by omega
  have ha1k0 : a1n0 ≤ 1048576 := by omega
  go_wp2_with fail
  refine (to_Hyper ha0k1 Fa01.out.row2).mono ?_; rintro e w2 ⟨tma0A1, tma0c1, rfl, ho1, hb⟩
  replace FB := Lib.hid (FB.out.b hb)
  replace Fa01 := Lib.hid (Fa01.out.b hb)
  replace Fa10 := Lib.hid (Fa10.out.b hb)
  replace Ba0 := Lib.hid (Ba0.out.b hb)
  have z_w2 : w1.heap.size ≤ w2.heap.size := by have hsz := hb.size; first | omega | (simp at hsz; omega)
  clear c_Ba0_0 c_Ba0_1
  have Otma01 := Lib.hid (owned2 (ho1.mono (lo' := w1.heap.size) (Nat.le_refl _) (Nat.le_refl _)))
  clear hb ho1
  go_wp2_with fail
  refine (to_IntS ha1k0 Fa10.out.row).mono ?_; rintro e w3 ⟨tma1A0, tma1c0, rfl, ho0, hb⟩
  replace FB := Lib.hid (FB.out.b hb)
  replace Fa01 := Lib.hid (Fa01.out.b hb)
  replace Fa10 := Lib.hid (Fa10.out.b hb)
  replace Ba0 := Lib.hid (Ba0.out.b hb)
  replace Otma01 := Lib.hid (Otma01.out.b hb)
  have z_w3 : w2.heap.size ≤ w3.heap.size := by have hsz := hb.size; first | omega | (simp at hsz; omega)
  have Otma10 := Lib.hid (owned (ho0.mono (lo' := w2.heap.size) (Nat.le_refl _) (Nat.le_refl _)))
  clear hb ho0
  go_wp2_with fail
  refine (S1.out _ _ _ _ _ Otma01.out.orow2 Otma10.out.orow).mono ?_; rintro e w4 ⟨mr0A0, mr0c0, mr1A0, mr1c0, rfl, hrr00, hrr10, hb⟩
  replace FB := Lib.hid (FB.out.b hb)
  replace Fa01 := Lib.hid (Fa01.out.b hb)
  replace Fa10 := Lib.hid (Fa10.out.b hb)
  replace Ba0 := Lib.hid (Ba0.out.b hb)
  replace Otma01 := Lib.hid (Otma01.out.b hb)
  replace Otma10 := Lib.hid (Otma10.out.b hb)
  have z_w4 : w3.heap.size ≤ w4.heap.size := by have hsz := hb.size; first | omega | (simp at hsz; omega)
  have Vmr00 := Lib.hid (rd_of_row hrr00)
  have Vmr10 := Lib.hid (rd_of_row hrr10)
  clear hb hrr00 hrr10
  clear Otma01 Otma10
  have c_Ba0_0 := Ba0.out.now 0 _ rfl
  have c_Ba0_1 := Ba0.out.now 1 _ rfl
  go_wp2_with fail
  refine (to_Hyper ha0k1 Fa01.out.row2).mono ?_; rintro e w5 ⟨xa0A1, xa0c1, rfl, ho1, hb⟩
  replace FB := Lib.hid (FB.out.b hb)
  replace Fa01 := Lib.hid (Fa01.out.b hb)
  replace Fa10 := Lib.hid (Fa10.out.b hb)
  replace Ba0 := Lib.hid (Ba0.out.b hb)
  replace Vmr00 := Lib.hid (Vmr00.out.b hb)
  replace Vmr10 := Lib.hid (Vmr10.out.b hb)
  have z_w5 : w4.heap.size ≤ w5.heap.size := by have hsz := hb.size; first | omega | (simp at hsz; omega)
  clear c_Ba0_0 c_Ba0_1
  have Oxa01 := Lib.hid (owned2 (ho1.mono (lo' := w4.heap.size) (Nat.le_refl _) (Nat.le_refl _)))
  clear hb ho1
  replace FB := Lib.hid (FB.out.alloc (.cells #[.int .i64 a0z0, .slice xa0A1 a0n1 xa0c1] 26))
  replace Fa01 := Lib.hid (Fa01.out.alloc (.cells #[.int .i64 a0z0, .slice xa0A1 a0n1 xa0c1] 26))
  replace Fa10 := Lib.hid (Fa10.out.alloc (.cells #[.int .i64 a0z0, .slice xa0A1 a0n1 xa0c1] 26))
  replace Ba0 := Lib.hid (Ba0.out.alloc (.cells #[.int .i64 a0z0, .slice xa0A1 a0n1 xa0c1] 26))
  replace Vmr00 := Lib.hid (Vmr00.out.alloc (.cells #[.int .i64 a0z0, .slice xa0A1 a0n1 xa0c1] 26))
  replace Vmr10 := Lib.hid (Vmr10.out.alloc (.cells #[.int .i64 a0z0, .slice xa0A1 a0n1 xa0c1] 26))
  replace Oxa01 := Lib.hid (Oxa01.out.alloc (.cells #[.int .i64 a0z0, .slice xa0A1 a0n1 xa0c1] 26))
  have Yxa0 := Lib.hid (boxed w5 #[.int .i64 a0z0, .slice xa0A1 a0n1 xa0c1] 26)
  have c_Ba0_0 := Ba0.out.now 0 _ rfl
  have c_Ba0_1 := Ba0.out.now 1 _ rfl
  go_wp2_with fail
  refine (to_IntS ha1k0 Fa10.out.row).mono ?_; rintro e w6 ⟨xa1A0, xa1c0, rfl, ho0, hb⟩
  replace FB := Lib.hid (FB.out.b hb)
  replace Fa01 := Lib.hid (Fa01.out.b hb)
  replace Fa10 := Lib.hid (Fa10.out.b hb)
  replace Ba0 := Lib.hid (Ba0.out.b hb)
  replace Vmr00 := Lib.hid (Vmr00.out.b hb)
  replace Vmr10 := Lib.hid (Vmr10.out.b hb)
  replace Oxa01 := Lib.hid (Oxa01.out.b hb)
  replace Yxa0 := Lib.hid (Yxa0.out.b hb)
  have z_w6 : w5.heap.size + 1 ≤ w6.heap.size := by have hsz := hb.size; first | omega | (simp at hsz; omega)
  clear c_Ba0_0 c_Ba0_1
  have Oxa10 := Lib.hid (owned (ho0.mono (lo' := w5.heap.size + 1) (by simp) (Nat.le_refl _)))
  clear hb ho0
  have c_Yxa0_0 := Yxa0.out.now 0 _ rfl
  have c_Yxa0_1 := Yxa0.out.now 1 _ rfl
  go_wp2_with fail
  refine (S2.out _ _ _ _ _ Oxa01.out.orow2 Oxa10.out.orow).mono ?_; rintro e w7 ⟨gr0A0, gr0c0, gr1A0, gr1c0, rfl, hrr00, hrr10, hap_g_0, hb⟩
  replace FB := Lib.hid (FB.out.b hb)
  replace Fa01 := Lib.hid (Fa01.out.b hb)
  replace Fa10 := Lib.hid (Fa10.out.b hb)
  replace Ba0 := Lib.hid (Ba0.out.b hb)
  replace Vmr00 := Lib.hid (Vmr00.out.b hb)
  replace Vmr10 := Lib.hid (Vmr10.out.b hb)
  replace Oxa01 := Lib.hid (Oxa01.out.b hb)
  replace Yxa0 := Lib.hid (Yxa0.out.b hb)
  replace Oxa10 := Lib.hid (Oxa10.out.b hb)
  have z_w7 : w6.heap.size ≤ w7.heap.size := by have hsz := hb.size; first | omega | (simp at hsz; omega)
  clear c_Yxa0_0 c_Yxa0_1
  have Ogr00 := Lib.hid (owned (hrr00.mono (lo' := w6.heap.size) (Nat.le_refl _) (Nat.le_refl _)))
  have Ogr10 := Lib.hid (owned (hrr10.mono (lo' := w6.heap.size) (Nat.le_refl _) (Nat.le_refl _)))
  clear hb hrr00 hrr10
  go_wp2_with fail
  refine (eq_PeelStepS hr0m0 Ogr00.out.orow Vmr00.out.row).mono ?_; rintro e w8 ⟨rfl, hb⟩
  replace FB := Lib.hid (FB.out.b hb)
  replace Fa01 := Lib.hid (Fa01.out.b hb)
  replace Fa10 := Lib.hid (Fa10.out.b hb)
  replace Ba0 := Lib.hid (Ba0.out.b hb)
  replace Vmr00 := Lib.hid (Vmr00.out.b hb)
  replace Vmr10 := Lib.hid (Vmr10.out.b hb)
  replace Oxa01 := Lib.hid (Oxa01.out.b hb)
  replace Yxa0 := Lib.hid (Yxa0.out.b hb)
  replace Oxa10 := Lib.hid (Oxa10.out.b hb)
  replace Ogr00 := Lib.hid (Ogr00.out.b hb)
  replace Ogr10 := Lib.hid (Ogr10.out.b hb)
  have z_w8 : w7.heap.size ≤ w8.heap.size := by have hsz := hb.size; first | omega | (simp at hsz; omega)
  clear hb
  go_wp2_with fail
  refine (eq_IntS hr1m0 Ogr10.out.orow Vmr10.out.row).mono ?_; rintro e w9 ⟨rfl, hb⟩
  replace FB := Lib.hid (FB.out.b hb)
  replace Fa01 := Lib.hid (Fa01.out.b hb)
  replace Fa10 := Lib.hid (Fa10.out.b hb)
  replace Ba0 := Lib.hid (Ba0.out.b hb)
  replace Vmr00 := Lib.hid (Vmr00.out.b hb)
  replace Vmr10 := Lib.hid (Vmr10.out.b hb)
  replace Oxa01 := Lib.hid (Oxa01.out.b hb)
  replace Yxa0 := Lib.hid (Yxa0.out.b hb)
  replace Oxa10 := Lib.hid (Oxa10.out.b hb)
  replace Ogr00 := Lib.hid (Ogr00.out.b hb)
  replace Ogr10 := Lib.hid (Ogr10.out.b hb)
  have z_w9 : w8.heap.size ≤ w9.heap.size := by have hsz := hb.size; first | omega | (simp at hsz; omega)
  clear hb
  have c_Ba0_0 := Ba0.out.now 0 _ rfl
  have c_Ba0_1 := Ba0.out.now 1 _ rfl
  have c_Yxa0_0 := Yxa0.out.now 0 _ rfl
  have c_Yxa0_1 := Yxa0.out.now 1 _ rfl
  go_wp2_with fail
  go_region_held3 (fun w' => w'.cell? ⟨w.heap.size, 0, none⟩ = some (.int .i64 a0z0) ∧ w'.cell? ⟨w.heap.size, 1, none⟩ = some (.slice a0A1 a0n1 a0c1) ∧ w'.cell? ⟨w5.heap.size, 0, none⟩ = some (.int .i64 a0z0) ∧ w'.cell? ⟨w5.heap.size, 1, none⟩ = some (.slice xa0A1 a0n1 xa0c1))
    (first | (go_keep; done) | exact ⟨(((Ba0.out.b hq1).b hq2)).now 0 _ rfl, (((Ba0.out.b hq1).b hq2)).now 1 _ rfl, (((Yxa0.out.b hq1).b hq2)).now 0 _ rfl, (((Yxa0.out.b hq1).b hq2)).now 1 _ rfl⟩ | exact ⟨((Ba0.out.b hq1)).now 0 _ rfl, ((Ba0.out.b hq1)).now 1 _ rfl, ((Yxa0.out.b hq1)).now 0 _ rfl, ((Yxa0.out.b hq1)).now 1 _ rfl⟩)
    (first
      | (have hqz := hq1; clear hqz; go_at_call 17; (first | refine (eq_Hyper ha0k1 ((Oxa01.out.b hq1)).orow2 (owned2 ho1).orow2).mono ?_); rintro e w11 ⟨rfl, hq2⟩)
      | (go_at_call 24; (first | refine (to_Hyper ha0k1 (Fa01.out).row2).mono ?_ | refine (to_Hyper ha0k1 (HRow.drew (Fa01.out).row2)).mono ?_); rintro e w10 ⟨ya0A1, ya0c1, rfl, ho1, hq1'⟩; have hq1 := of_drew hq1'; clear hq1'))
  replace FB := Lib.hid (FB.out.b hq1)
  replace Fa01 := Lib.hid (Fa01.out.b hq1)
  replace Fa10 := Lib.hid (Fa10.out.b hq1)
  replace Ba0 := Lib.hid (Ba0.out.b hq1)
  replace Vmr00 := Lib.hid (Vmr00.out.b hq1)
  replace Vmr10 := Lib.hid (Vmr10.out.b hq1)
  replace Oxa01 := Lib.hid (Oxa01.out.b hq1)
  replace Yxa0 := Lib.hid (Yxa0.out.b hq1)
  replace Oxa10 := Lib.hid (Oxa10.out.b hq1)
  replace Ogr00 := Lib.hid (Ogr00.out.b hq1)
  replace Ogr10 := Lib.hid (Ogr10.out.b hq1)
  replace FB := Lib.hid (FB.out.b hq2)
  replace Fa01 := Lib.hid (Fa01.out.b hq2)
  replace Fa10 := Lib.hid (Fa10.out.b hq2)
  replace Ba0 := Lib.hid (Ba0.out.b hq2)
  replace Vmr00 := Lib.hid (Vmr00.out.b hq2)
  replace Vmr10 := Lib.hid (Vmr10.out.b hq2)
  replace Oxa01 := Lib.hid (Oxa01.out.b hq2)
  replace Yxa0 := Lib.hid (Yxa0.out.b hq2)
  replace Oxa10 := Lib.hid (Oxa10.out.b hq2)
  replace Ogr00 := Lib.hid (Ogr00.out.b hq2)
  replace Ogr10 := Lib.hid (Ogr10.out.b hq2)
  have z_w10 : w9.heap.size ≤ w10.heap.size := by have hsz := hq1.size; first | omega | (simp at hsz; omega)
  have z_w11 : w10.heap.size ≤ w11.heap.size := hq2.size
  clear c_Ba0_0 c_Ba0_1 c_Yxa0_0 c_Yxa0_1
  clear hq1 hq2 ho1
  go_wp2_with fail
  refine (to_IntS ha1k0 Fa10.out.row).mono ?_; rintro e w12 ⟨ya1A0, ya1c0, rfl, ho0, hb⟩
  replace FB := Lib.hid (FB.out.b hb)
  replace Fa01 := Lib.hid (Fa01.out.b hb)
  replace Fa10 := Lib.hid (Fa10.out.b hb)
  replace Ba0 := Lib.hid (Ba0.out.b hb)
  replace Vmr00 := Lib.hid (Vmr00.out.b hb)
  replace Vmr10 := Lib.hid (Vmr10.out.b hb)
  replace Oxa01 := Lib.hid (Oxa01.out.b hb)
  replace Yxa0 := Lib.hid (Yxa0.out.b hb)
  replace Oxa10 := Lib.hid (Oxa10.out.b hb)
  replace Ogr00 := Lib.hid (Ogr00.out.b hb)
  replace Ogr10 := Lib.hid (Ogr10.out.b hb)
  have z_w12 : w11.heap.size ≤ w12.heap.size := by have hsz := hb.size; first | omega | (simp at hsz; omega)
  have Oya10 := Lib.hid (owned (ho0.mono (lo' := w11.heap.size) (Nat.le_refl _) (Nat.le_refl _)))
  clear hb ho0
  go_wp2_with fail
  refine (eq_IntS ha1k0 Oxa10.out.orow Oya10.out.orow).mono ?_; rintro e w13 ⟨rfl, hb⟩
  replace FB := Lib.hid (FB.out.b hb)
  replace Fa01 := Lib.hid (Fa01.out.b hb)
  replace Fa10 := Lib.hid (Fa10.out.b hb)
  replace Ba0 := Lib.hid (Ba0.out.b hb)
  replace Vmr00 := Lib.hid (Vmr00.out.b hb)
  replace Vmr10 := Lib.hid (Vmr10.out.b hb)
  replace Oxa01 := Lib.hid (Oxa01.out.b hb)
  replace Yxa0 := Lib.hid (Yxa0.out.b hb)
  replace Oxa10 := Lib.hid (Oxa10.out.b hb)
  replace Ogr00 := Lib.hid (Ogr00.out.b hb)
  replace Ogr10 := Lib.hid (Ogr10.out.b hb)
  replace Oya10 := Lib.hid (Oya10.out.b hb)
  have z_w13 : w12.heap.size ≤ w13.heap.size := by have hsz := hb.size; first | omega | (simp at hsz; omega)
  clear hb
  clear Oya10
  have c_Yxa0_0 := Yxa0.out.now 0 _ rfl
  have c_Yxa0_1 := Yxa0.out.now 1 _ rfl
  go_wp2_with fail
  refine (mark_Hyper ha0k1 Oxa01.out.now Oxa01.out.top (by omega) (by omega)).mono ?_; rintro e w14 ⟨rfl, hm0, hg⟩
  replace FB := Lib.hid (FB.out.far hg (by omega))
  replace Fa01 := Lib.hid (Fa01.out.far hg (by omega))
  replace Fa10 := Lib.hid (Fa10.out.far hg (by omega))
  replace Ba0 := Lib.hid (Ba0.out.far hg (by omega))
  replace Vmr00 := Lib.hid (Vmr00.out.far hg (by omega))
  replace Vmr10 := Lib.hid (Vmr10.out.far hg (by omega))
  replace Yxa0 := Lib.hid (Yxa0.out.far hg (by omega))
  replace Oxa10 := Lib.hid (Oxa10.out.far hg (by omega))
  replace Ogr00 := Lib.hid (Ogr00.out.far hg (by omega))
  replace Ogr10 := Lib.hid (Ogr10.out.far hg (by omega))
  have z_w14 : w13.heap.size ≤ w14.heap.size := by have hsz := hg.size; first | omega | (simp at hsz; omega)
  replace Oxa01 := Lib.hid (At.mk hm0 (Nat.le_trans Oxa01.out.top hg.size) (Ow2.lives _ _ _ _ _ _))
  clear c_Yxa0_0 c_Yxa0_1
  clear hg hm0
  clear Oxa01 Yxa0
  go_wp2_with fail
  refine (mark_IntS ha1k0 Oxa10.out.now Oxa10.out.top (by omega) (by omega)).mono ?_; rintro e w15 ⟨rfl, hm0, hg⟩
  replace FB := Lib.hid (FB.out.far hg (by omega))
  replace Fa01 := Lib.hid (Fa01.out.far hg (by omega))
  replace Fa10 := Lib.hid (Fa10.out.far hg (by omega))
  replace Ba0 := Lib.hid (Ba0.out.far hg (by omega))
  replace Vmr00 := Lib.hid (Vmr00.out.far hg (by omega))
  replace Vmr10 := Lib.hid (Vmr10.out.far hg (by omega))
  replace Ogr00 := Lib.hid (Ogr00.out.far hg (by omega))
  replace Ogr10 := Lib.hid (Ogr10.out.far hg (by omega))
  have z_w15 : w14.heap.size ≤ w15.heap.size := by have hsz := hg.size; first | omega | (simp at hsz; omega)
  replace Oxa10 := Lib.hid (At.mk hm0 (Nat.le_trans Oxa10.out.top hg.size) (Ow.lives _ _ _ _ _ _))
  clear hg hm0
  clear Oxa10
  go_wp2_with fail
  refine (eq_PeelStepS hr0m0 Ogr00.out.orow Vmr00.out.row).mono ?_; rintro e w16 ⟨rfl, hb⟩
  replace FB := Lib.hid (FB.out.b hb)
  replace Fa01 := Lib.hid (Fa01.out.b hb)
  replace Fa10 := Lib.hid (Fa10.out.b hb)
  replace Ba0 := Lib.hid (Ba0.out.b hb)
  replace Vmr00 := Lib.hid (Vmr00.out.b hb)
  replace Vmr10 := Lib.hid (Vmr10.out.b hb)
  replace Ogr00 := Lib.hid (Ogr00.out.b hb)
  replace Ogr10 := Lib.hid (Ogr10.out.b hb)
  have z_w16 : w15.heap.size ≤ w16.heap.size := by have hsz := hb.size; first | omega | (simp at hsz; omega)
  clear hb
  go_wp2_with fail
  refine (eq_IntS hr1m0 Ogr10.out.orow Vmr10.out.row).mono ?_; rintro e w17 ⟨rfl, hb⟩
  replace FB := Lib.hid (FB.out.b hb)
  replace Fa01 := Lib.hid (Fa01.out.b hb)
  replace Fa10 := Lib.hid (Fa10.out.b hb)
  replace Ba0 := Lib.hid (Ba0.out.b hb)
  replace Vmr00 := Lib.hid (Vmr00.out.b hb)
  replace Vmr10 := Lib.hid (Vmr10.out.b hb)
  replace Ogr00 := Lib.hid (Ogr00.out.b hb)
  replace Ogr10 := Lib.hid (Ogr10.out.b hb)
  have z_w17 : w16.heap.size ≤ w17.heap.size := by have hsz := hb.size; first | omega | (simp at hsz; omega)
  clear hb
  go_wp2_with fail
  refine (markF_PeelStepS hr0m0 Ogr00.out.now Ogr00.out.top (by omega) (by omega)).mono ?_; rintro e w18 ⟨rfl, hm0, htc⟩
  have hg := htc.only (fun _ hk => Ogr00.out.now.blk_lt hk)
  replace Ogr10 := Lib.hid (Ogr10.out.tchO htc (fun _ h1 h2 => hap_g_0.no h2 h1))
  replace FB := Lib.hid (FB.out.far hg (by omega))
  replace Fa01 := Lib.hid (Fa01.out.far hg (by omega))
  replace Fa10 := Lib.hid (Fa10.out.far hg (by omega))
  replace Ba0 := Lib.hid (Ba0.out.far hg (by omega))
  replace Vmr00 := Lib.hid (Vmr00.out.far hg (by omega))
  replace Vmr10 := Lib.hid (Vmr10.out.far hg (by omega))
  have z_w18 : w17.heap.size ≤ w18.heap.size := by have hsz := hg.size; first | omega | (simp at hsz; omega)
  replace Ogr00 := Lib.hid (At.mk hm0 (Nat.le_trans Ogr00.out.top hg.size) (Ow.lives _ _ _ _ _ _))
  clear hg htc hm0
  go_wp2_with fail
  refine (markF_IntS hr1m0 Ogr10.out.now Ogr10.out.top (by omega) (by omega)).mono ?_; rintro e w19 ⟨rfl, hm0, htc⟩
  have hg := htc.only (fun _ hk => Ogr10.out.now.blk_lt hk)
  replace Ogr00 := Lib.hid (Ogr00.out.tchO htc (fun _ h1 h2 => hap_g_0.no h1 h2))
  replace FB := Lib.hid (FB.out.far hg (by omega))
  replace Fa01 := Lib.hid (Fa01.out.far hg (by omega))
  replace Fa10 := Lib.hid (Fa10.out.far hg (by omega))
  replace Ba0 := Lib.hid (Ba0.out.far hg (by omega))
  replace Vmr00 := Lib.hid (Vmr00.out.far hg (by omega))
  replace Vmr10 := Lib.hid (Vmr10.out.far hg (by omega))
  have z_w19 : w18.heap.size ≤ w19.heap.size := by have hsz := hg.size; first | omega | (simp at hsz; omega)
  replace Ogr10 := Lib.hid (At.mk hm0 (Nat.le_trans Ogr10.out.top hg.size) (Ow.lives _ _ _ _ _ _))
  clear hg htc hm0
  go_wp2_with fail
  refine (held_PeelStepS hr0m0 Ogr00.out.orow (by omega) (by omega)).mono ?_; rintro e w20 ⟨rfl, hb⟩
  replace FB := Lib.hid (FB.out.b hb)
  replace Fa01 := Lib.hid (Fa01.out.b hb)
  replace Fa10 := Lib.hid (Fa10.out.b hb)
  replace Ba0 := Lib.hid (Ba0.out.b hb)
  replace Vmr00 := Lib.hid (Vmr00.out.b hb)
  replace Vmr10 := Lib.hid (Vmr10.out.b hb)
  replace Ogr00 := Lib.hid (Ogr00.out.b hb)
  replace Ogr10 := Lib.hid (Ogr10.out.b hb)
  have z_w20 : w19.heap.size ≤ w20.heap.size := by have hsz := hb.size; first | omega | (simp at hsz; omega)
  clear hb
  go_wp2_with fail
  refine (held_IntS hr1m0 Ogr10.out.orow (by omega) (by omega)).mono ?_; rintro e w21 ⟨rfl, hb⟩
  replace FB := Lib.hid (FB.out.b hb)
  replace Fa01 := Lib.hid (Fa01.out.b hb)
  replace Fa10 := Lib.hid (Fa10.out.b hb)
  replace Ba0 := Lib.hid (Ba0.out.b hb)
  replace Vmr00 := Lib.hid (Vmr00.out.b hb)
  replace Vmr10 := Lib.hid (Vmr10.out.b hb)
  replace Ogr00 := Lib.hid (Ogr00.out.b hb)
  replace Ogr10 := Lib.hid (Ogr10.out.b hb)
  have z_w21 : w20.heap.size ≤ w21.heap.size := by have hsz := hb.size; first | omega | (simp at hsz; omega)
  clear hb
  have c_Ba0_0 := Ba0.out.now 0 _ rfl
  have c_Ba0_1 := Ba0.out.now 1 _ rfl
  go_wp2_with fail
  refine (to_Hyper ha0k1 Fa01.out.row2).mono ?_; rintro e w22 ⟨tha0A1, tha0c1, rfl, ho1, hb⟩
  replace FB := Lib.hid (FB.out.b hb)
  replace Fa01 := Lib.hid (Fa01.out.b hb)
  replace Fa10 := Lib.hid (Fa10.out.b hb)
  replace Ba0 := Lib.hid (Ba0.out.b hb)
  replace Vmr00 := Lib.hid (Vmr00.out.b hb)
  replace Vmr10 := Lib.hid (Vmr10.out.b hb)
  replace Ogr00 := Lib.hid (Ogr00.out.b hb)
  replace Ogr10 := Lib.hid (Ogr10.out.b hb)
  have z_w22 : w21.heap.size ≤ w22.heap.size := by have hsz := hb.size; first | omega | (simp at hsz; omega)
  clear c_Ba0_0 c_Ba0_1
  have Otha01 := Lib.hid (owned2 (ho1.mono (lo' := w21.heap.size) (Nat.le_refl _) (Nat.le_refl _)))
  clear hb ho1
  go_wp2_with fail
  refine (to_IntS ha1k0 Fa10.out.row).mono ?_; rintro e w23 ⟨tha1A0, tha1c0, rfl, ho0, hb⟩
  replace FB := Lib.hid (FB.out.b hb)
  replace Fa01 := Lib.hid (Fa01.out.b hb)
  replace Fa10 := Lib.hid (Fa10.out.b hb)
  replace Ba0 := Lib.hid (Ba0.out.b hb)
  replace Vmr00 := Lib.hid (Vmr00.out.b hb)
  replace Vmr10 := Lib.hid (Vmr10.out.b hb)
  replace Ogr00 := Lib.hid (Ogr00.out.b hb)
  replace Ogr10 := Lib.hid (Ogr10.out.b hb)
  replace Otha01 := Lib.hid (Otha01.out.b hb)
  have z_w23 : w22.heap.size ≤ w23.heap.size := by have hsz := hb.size; first | omega | (simp at hsz; omega)
  have Otha10 := Lib.hid (owned (ho0.mono (lo' := w22.heap.size) (Nat.le_refl _) (Nat.le_refl _)))
  clear hb ho0
  go_wp2_with fail
  refine (S2.out _ _ _ _ _ Otha01.out.orow2 Otha10.out.orow).mono ?_; rintro e w24 ⟨hr0A0, hr0c0, hr1A0, hr1c0, rfl, hrr00, hrr10, hap_h_0, hb⟩
  replace FB := Lib.hid (FB.out.b hb)
  replace Fa01 := Lib.hid (Fa01.out.b hb)
  replace Fa10 := Lib.hid (Fa10.out.b hb)
  replace Ba0 := Lib.hid (Ba0.out.b hb)
  replace Vmr00 := Lib.hid (Vmr00.out.b hb)
  replace Vmr10 := Lib.hid (Vmr10.out.b hb)
  replace Ogr00 := Lib.hid (Ogr00.out.b hb)
  replace Ogr10 := Lib.hid (Ogr10.out.b hb)
  replace Otha01 := Lib.hid (Otha01.out.b hb)
  replace Otha10 := Lib.hid (Otha10.out.b hb)
  have z_w24 : w23.heap.size ≤ w24.heap.size := by have hsz := hb.size; first | omega | (simp at hsz; omega)
  have Ohr00 := Lib.hid (owned (hrr00.mono (lo' := w23.heap.size) (Nat.le_refl _) (Nat.le_refl _)))
  have Ohr10 := Lib.hid (owned (hrr10.mono (lo' := w23.heap.size) (Nat.le_refl _) (Nat.le_refl _)))
  clear hb hrr00 hrr10
  clear Otha01 Otha10
  go_wp2_with fail
  refine (eq_PeelStepS hr0m0 Ohr00.out.orow Vmr00.out.row).mono ?_; rintro e w25 ⟨rfl, hb⟩
  replace FB := Lib.hid (FB.out.b hb)
  replace Fa01 := Lib.hid (Fa01.out.b hb)
  replace Fa10 := Lib.hid (Fa10.out.b hb)
  replace Ba0 := Lib.hid (Ba0.out.b hb)
  replace Vmr00 := Lib.hid (Vmr00.out.b hb)
  replace Vmr10 := Lib.hid (Vmr10.out.b hb)
  replace Ogr00 := Lib.hid (Ogr00.out.b hb)
  replace Ogr10 := Lib.hid (Ogr10.out.b hb)
  replace Ohr00 := Lib.hid (Ohr00.out.b hb)
  replace Ohr10 := Lib.hid (Ohr10.out.b hb)
  have z_w25 : w24.heap.size ≤ w25.heap.size := by have hsz := hb.size; first | omega | (simp at hsz; omega)
  clear hb
  go_wp2_with fail
  refine (eq_IntS hr1m0 Ohr10.out.orow Vmr10.out.row).mono ?_; rintro e w26 ⟨rfl, hb⟩
  replace FB := Lib.hid (FB.out.b hb)
  replace Fa01 := Lib.hid (Fa01.out.b hb)
  replace Fa10 := Lib.hid (Fa10.out.b hb)
  replace Ba0 := Lib.hid (Ba0.out.b hb)
  replace Vmr00 := Lib.hid (Vmr00.out.b hb)
  replace Vmr10 := Lib.hid (Vmr10.out.b hb)
  replace Ogr00 := Lib.hid (Ogr00.out.b hb)
  replace Ogr10 := Lib.hid (Ogr10.out.b hb)
  replace Ohr00 := Lib.hid (Ohr00.out.b hb)
  replace Ohr10 := Lib.hid (Ohr10.out.b hb)
  have z_w26 : w25.heap.size ≤ w26.heap.size := by have hsz := hb.size; first | omega | (simp at hsz; omega)
  clear hb
  go_wp2_with fail
  refine (held_PeelStepS hr0m0 Ogr00.out.orow (by omega) (by omega)).mono ?_; rintro e w27 ⟨rfl, hb⟩
  replace FB := Lib.hid (FB.out.b hb)
  replace Fa01 := Lib.hid (Fa01.out.b hb)
  replace Fa10 := Lib.hid (Fa10.out.b hb)
  replace Ba0 := Lib.hid (Ba0.out.b hb)
  replace Vmr00 := Lib.hid (Vmr00.out.b hb)
  replace Vmr10 := Lib.hid (Vmr10.out.b hb)
  replace Ogr00 := Lib.hid (Ogr00.out.b hb)
  replace Ogr10 := Lib.hid (Ogr10.out.b hb)
  replace Ohr00 := Lib.hid (Ohr00.out.b hb)
  replace Ohr10 := Lib.hid (Ohr10.out.b hb)
  have z_w27 : w26.heap.size ≤ w27.heap.size := by have hsz := hb.size; first | omega | (simp at hsz; omega)
  clear hb
  go_wp2_with fail
  refine (held_IntS hr1m0 Ogr10.out.orow (by omega) (by omega)).mono ?_; rintro e w28 ⟨rfl, hb⟩
  replace FB := Lib.hid (FB.out.b hb)
  replace Fa01 := Lib.hid (Fa01.out.b hb)
  replace Fa10 := Lib.hid (Fa10.out.b hb)
  replace Ba0 := Lib.hid (Ba0.out.b hb)
  replace Vmr00 := Lib.hid (Vmr00.out.b hb)
  replace Vmr10 := Lib.hid (Vmr10.out.b hb)
  replace Ogr00 := Lib.hid (Ogr00.out.b hb)
  replace Ogr10 := Lib.hid (Ogr10.out.b hb)
  replace Ohr00 := Lib.hid (Ohr00.out.b hb)
  replace Ohr10 := Lib.hid (Ohr10.out.b hb)
  have z_w28 : w27.heap.size ≤ w28.heap.size := by have hsz := hb.size; first | omega | (simp at hsz; omega)
  clear hb
  go_wp2_with fail
  go_ret
  exact ⟨rfl, FB.out.now⟩
theorem by_is {z n : Nat} {l : Nat → Nat} {X : Nat → Nat → Int} {m : Nat} {C : Nat → Nat} {k : Nat} (h1 : k ≤ m) (h2 : Goes z l X n C k) (h3 : k = m ∨ freL (degF l X (goneS z l X n C k) n) z = []) {w : World} {e : Ending} {w' : World} (h : ByIs z n l X m C w e w') :
    ByOwn k (stF (stE z l X n C) (stP z l X n C)) (leftL (goneS z l X n C k) n).length (lstV (leftL (goneS z l X n C k) n)) true w e w' := by
  obtain ⟨j, g1, g2, g3, g4⟩ := h
  obtain rfl := goes_sameM h1 h2 h3 g1 g2 g3
  exact g4
theorem walk_FnExactPeelBy (w : World) (z : Int) (_wz : (Lit.int .i64 z).wf = true) (A : Option Addr) (n c : Nat) (l : Nat → Nat) (X : Nat → Nat → Int) (hm : n ≤ maxLen) (hs : ∀ i, i < n → l i ≤ maxLen) (hr : HRow w A n l X) (CA : Option Addr) (m cc : Nat) (Y : Nat → Int) (hm2 : m ≤ maxLen) (hr2 : IRow w CA m Y) :
    Calls Try.prog 6 #[.agg #[.int .i64 z, .slice A n c], .slice CA m cc] w fun e w' => e = .returned (.bool true) ∧ Below w.heap.size w w' := by
  by_cases hg : HyperOk z n l X ∧ m ≤ 40 ∧ InAll m Y 0 99
  · obtain ⟨y, rfl⟩ := hg.1.nat
    have hn40 := hg.1.2.2.1
    obtain ⟨k, h1, h2, h3⟩ := goes_exM y l X n (fun j => (Y j).toNat) m
    have hl := leftL_len (goneS y l X n (fun j => (Y j).toNat) k) n
    exact main_FnExactPeelBy y n l X m Y k (stF (stE y l X n fun j => (Y j).toNat) (stP y l X n fun j => (Y j).toNat)) (leftL (goneS y l X n (fun j => (Y j).toNat) k) n).length (lstV (leftL (goneS y l X n (fun j => (Y j).toNat) k) n)) true A c CA cc w hm hr hs hm2 hr2 (by omega) (by omega)
      (fun _ hn A c CA cc w h g => (spec_PeelBy y A n c l X CA m cc Y w hn h hg.1 hg.2.1 g hg.2.2).mono fun e w' hh => ByOwn.row e w' (by_is h1 h2 h3 hh))
      (fun _ hn A c CA cc w h g => (impl_PeelBy y A n c l X CA m cc Y w hn h hg.1 hg.2.1 g hg.2.2).mono fun e w' hh => by_is h1 h2 h3 hh)
  · exact main_FnExactPeelBy z n l X m Y 0 (fun _ => 0) 0 (fun _ => 0) false A c CA cc w hm hr hs hm2 hr2 (by omega) (by omega)
      (fun _ hn A c CA cc w h g => (spec_PeelBy_no z A n c l X CA m cc Y w hn h g hg).mono fun e w' h1 => ByOwn.row e w' (by_none h1.1 h1.2))
      (fun _ hn A c CA cc w h g => (impl_PeelBy_no z A n c l X CA m cc Y w hn h g hg).mono fun e w' h1 => by_none h1.1 h1.2)
end Go.Proofs.Ytfhanighnckbhaa
