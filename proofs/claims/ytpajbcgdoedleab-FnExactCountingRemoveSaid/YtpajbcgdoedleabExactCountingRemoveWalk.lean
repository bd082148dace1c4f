/- The law of CountingRemove, walked: what both sides answer comes in as hypotheses. -/
import Derived.Test.YtpajbcgdoedleabObjCo
import Derived.Test.YtpajbcgdoedleabCoA
import Derived.Deep.RegionHeld3
namespace Go.Proofs.Ytpajbcgdoedleab
open Go.RowKit

set_option maxRecDepth 100000 in
set_option maxHeartbeats 8000000 in
theorem main_FnExactCountingRemove (a0z0 : Int) (a0z1 : Int) (a0n2 : Nat) (a0X2 : Nat → Int) (a1z0 : ByteArray) (r0z0 : Int) (r0z1 : Int) (r0n2 : Nat) (r0X2 : Nat → Int) (r1z0 : Bool) (a0A2 : Option Addr) (a0c2 : Nat) (w : World) (ha0m2 : a0n2 ≤ maxLen) (ha0r2 : GRow w a0A2 a0n2 (intV a0X2)) (_ha1s0 : a1z0.size ≤ maxLen) (hr0m2 : r0n2 ≤ 1048576)
    (s1 : a0n2 ≤ 1048576 → a1z0.size ≤ 1048576 → ∀ (ua0A2 : Option Addr) (ua0c2 : Nat) (w : World), GRow w ua0A2 a0n2 (intV a0X2) → Calls Try.prog 27 #[.agg #[.int .i64 a0z0, .int .i64 a0z1, .slice ua0A2 a0n2 ua0c2], .string a1z0] w fun e w' => ∃ vr0A2 vr0c2, e = .returned (.tuple #[.agg #[.int .i64 r0z0, .int .i64 r0z1, .slice vr0A2 r0n2 vr0c2], .bool r1z0]) ∧ GRow w' vr0A2 r0n2 (intV r0X2) ∧ Below w.heap.size w w')
    (s2 : a0n2 ≤ 1048576 → a1z0.size ≤ 1048576 → ∀ (ua0A2 : Option Addr) (ua0c2 : Nat) (w : World), GRow w ua0A2 a0n2 (intV a0X2) → Calls Try.prog 28 #[.agg #[.int .i64 a0z0, .int .i64 a0z1, .slice ua0A2 a0n2 ua0c2], .string a1z0] w fun e w' => ∃ vr0A2 vr0c2, e = .returned (.tuple #[.agg #[.int .i64 r0z0, .int .i64 r0z1, .slice vr0A2 r0n2 vr0c2], .bool r1z0]) ∧ Ow w.heap.size w'.heap.size 3 vr0A2 r0n2 (intV r0X2) w' ∧ Below w.heap.size w w') :
    Calls Try.prog 6 #[.agg #[.int .i64 a0z0, .int .i64 a0z1, .slice a0A2 a0n2 a0c2], .string a1z0] w fun e w' => e = .returned (.bool true) ∧ Below w.heap.size w w' := by
  have S1 := Lib.hid s1
  have S2 := Lib.hid s2
  clear s1 s2
  have FB := Lib.hid ((At.start w).alloc (.cells #[.int .i64 a0z0, .int .i64 a0z1, .slice a0A2 a0n2 a0c2] 24))
  have Fa02 := Lib.hid ((rd_of_row ha0r2).alloc (.cells #[.int .i64 a0z0, .int .i64 a0z1, .slice a0A2 a0n2 a0c2] 24))
  have Ba0 := Lib.hid (boxed w #[.int .i64 a0z0, .int .i64 a0z1, .slice a0A2 a0n2 a0c2] 24)
  clear ha0r2
  by_cases hlong_a1 : (1048576 : Int) < (a1z0.size : Int)
  · go_enter Try.func6, Try.ntmps6
    go_wp2_with fail
    go_ret
    exact ⟨rfl, FB.out.now⟩
  go_enter Try.func6, Try.ntmps6
  go_wp2_with fail
  refine (sz_Counting ha0m2 (by omega) (by omega)).mono ?_; rintro e w1 ⟨rfl, hb⟩
  replace FB := Lib.hid (FB.out.b hb)
  replace Fa02 := Lib.hid (Fa02.out.b hb)
  replace Ba0 := Lib.hid (Ba0.out.b hb)
  have z_w1 : w.heap.size + 1 ≤ w1.heap.size := by have hsz := hb.size; first | omega | (simp at hsz; omega)
  clear hb
  by_cases hZ_a0 : ((a0n2 : Nat) : Int) ≤ (1048576 : Int)
  rotate_left
  · rw [szv_no hZ_a0]
    go_wp2_with fail
    go_ret
    exact ⟨rfl, FB.out.now⟩
  rw [szv_yes hZ_a0]
  have hL_a0 : ¬ (((1048576 : Int) - (((a0n2 : Nat) : Int))) < 0) := by omega
  have c_Ba0_0 := Ba0.out.now 0 _ rfl
  have c_Ba0_1 := Ba0.out.now 1 _ rfl
  have c_Ba0_2 := Ba0.out.now 2 _ rfl
  replace S1 := Lib.hid (S1.out (by omega) (by omega))
  replace S2 := Lib.hid (S2.out (by omega) (by omega))
  have ha0k2 : a0n2 ≤ 1048576 := by omega
  go_wp2_with fail
  refine (to_Counting ha0k2 Fa02.out.row).mono ?_; rintro e w2 ⟨tma0A2, tma0c2, rfl, ho2, hb⟩
  replace FB := Lib.hid (FB.out.b hb)
  replace Fa02 := Lib.hid (Fa02.out.b hb)
  replace Ba0 := Lib.hid (Ba0.out.b hb)
  have z_w2 : w1.heap.size ≤ w2.heap.size := by have hsz := hb.size; first | omega | (simp at hsz; omega)
  clear c_Ba0_0 c_Ba0_1 c_Ba0_2
  have Otma02 := Lib.hid (owned (ho2.mono (lo' := w1.heap.size) (Nat.le_refl _) (Nat.le_refl _)))
  clear hb ho2
  go_wp2_with fail
  refine (S1.out _ _ _ Otma02.out.orow).mono ?_; rintro e w3 ⟨mr0A2, mr0c2, rfl, hrr02, hb⟩
  replace FB := Lib.hid (FB.out.b hb)
  replace Fa02 := Lib.hid (Fa02.out.b hb)
  replace Ba0 := Lib.hid (Ba0.out.b hb)
  replace Otma02 := Lib.hid (Otma02.out.b hb)
  have z_w3 : w2.heap.size ≤ w3.heap.size := by have hsz := hb.size; first | omega | (simp at hsz; omega)
  have Vmr02 := Lib.hid (rd_of_row hrr02)
  clear hb hrr02
  clear Otma02
  replace FB := Lib.hid (FB.out.alloc (.cells #[.int .i64 r0z0, .int .i64 r0z1, .slice mr0A2 r0n2 mr0c2] 27))
  replace Fa02 := Lib.hid (Fa02.out.alloc (.cells #[.int .i64 r0z0, .int .i64 r0z1, .slice mr0A2 r0n2 mr0c2] 27))
  replace Ba0 := Lib.hid (Ba0.out.alloc (.cells #[.int .i64 r0z0, .int .i64 r0z1, .slice mr0A2 r0n2 mr0c2] 27))
  replace Vmr02 := Lib.hid (Vmr02.out.alloc (.cells #[.int .i64 r0z0, .int .i64 r0z1, .slice mr0A2 r0n2 mr0c2] 27))
  have Xmr0 := Lib.hid (boxed w3 #[.int .i64 r0z0, .int .i64 r0z1, .slice mr0A2 r0n2 mr0c2] 27)
  have c_Ba0_0 := Ba0.out.now 0 _ rfl
  have c_Ba0_1 := Ba0.out.now 1 _ rfl
  have c_Ba0_2 := Ba0.out.now 2 _ rfl
  go_wp2_with fail
  refine (to_Counting ha0k2 Fa02.out.row).mono ?_; rintro e w4 ⟨xa0A2, xa0c2, rfl, ho2, hb⟩
  replace FB := Lib.hid (FB.out.b hb)
  replace Fa02 := Lib.hid (Fa02.out.b hb)
  replace Ba0 := Lib.hid (Ba0.out.b hb)
  replace Vmr02 := Lib.hid (Vmr02.out.b hb)
  replace Xmr0 := Lib.hid (Xmr0.out.b hb)
  have z_w4 : w3.heap.size + 1 ≤ w4.heap.size := by have hsz := hb.size; first | omega | (simp at hsz; omega)
  clear c_Ba0_0 c_Ba0_1 c_Ba0_2
  have Oxa02 := Lib.hid (owned (ho2.mono (lo' := w3.heap.size + 1) (by simp) (Nat.le_refl _)))
  clear hb ho2
  replace FB := Lib.hid (FB.out.alloc (.cells #[.int .i64 a0z0, .int .i64 a0z1, .slice xa0A2 a0n2 xa0c2] 27))
  replace Fa02 := Lib.hid (Fa02.out.alloc (.cells #[.int .i64 a0z0, .int .i64 a0z1, .slice xa0A2 a0n2 xa0c2] 27))
  replace Ba0 := Lib.hid (Ba0.out.alloc (.cells #[.int .i64 a0z0, .int .i64 a0z1, .slice xa0A2 a0n2 xa0c2] 27))
  replace Vmr02 := Lib.hid (Vmr02.out.alloc (.cells #[.int .i64 a0z0, .int .i64 a0z1, .slice xa0A2 a0n2 xa0c2] 27))
  replace Xmr0 := Lib.hid (Xmr0.out.alloc (.cells #[.int .i64 a0z0, .int .i64 a0z1, .slice xa0A2 a0n2 xa0c2] 27))
  replace Oxa02 := Lib.hid (Oxa02.out.alloc (.cells #[.int .i64 a0z0, .int .i64 a0z1, .slice xa0A2 a0n2 xa0c2] 27))
  have Yxa0 := Lib.hid (boxed w4 #[.int .i64 a0z0, .int .i64 a0z1, .slice xa0A2 a0n2 xa0c2] 27)
  have c_Yxa0_0 := Yxa0.out.now 0 _ rfl
  have c_Yxa0_1 := Yxa0.out.now 1 _ rfl
  have c_Yxa0_2 := Yxa0.out.now 2 _ rfl
  go_wp2_with fail
  refine (S2.out _ _ _ Oxa02.out.orow).mono ?_; rintro e w5 ⟨gr0A2, gr0c2, rfl, hrr02, hb⟩
  replace FB := Lib.hid (FB.out.b hb)
  replace Fa02 := Lib.hid (Fa02.out.b hb)
  replace Ba0 := Lib.hid (Ba0.out.b hb)
  replace Vmr02 := Lib.hid (Vmr02.out.b hb)
  replace Xmr0 := Lib.hid (Xmr0.out.b hb)
  replace Oxa02 := Lib.hid (Oxa02.out.b hb)
  replace Yxa0 := Lib.hid (Yxa0.out.b hb)
  have z_w5 : w4.heap.size + 1 ≤ w5.heap.size := by have hsz := hb.size; first | omega | (simp at hsz; omega)
  clear c_Yxa0_0 c_Yxa0_1 c_Yxa0_2
  have Ogr02 := Lib.hid (owned (hrr02.mono (lo' := w4.heap.size + 1) (by simp) (Nat.le_refl _)))
  clear hb hrr02
  replace FB := Lib.hid (FB.out.alloc (.cells #[.int .i64 r0z0, .int .i64 r0z1, .slice gr0A2 r0n2 gr0c2] 27))
  replace Fa02 := Lib.hid (Fa02.out.alloc (.cells #[.int .i64 r0z0, .int .i64 r0z1, .slice gr0A2 r0n2 gr0c2] 27))
  replace Ba0 := Lib.hid (Ba0.out.alloc (.cells #[.int .i64 r0z0, .int .i64 r0z1, .slice gr0A2 r0n2 gr0c2] 27))
  replace Vmr02 := Lib.hid (Vmr02.out.alloc (.cells #[.int .i64 r0z0, .int .i64 r0z1, .slice gr0A2 r0n2 gr0c2] 27))
  replace Xmr0 := Lib.hid (Xmr0.out.alloc (.cells #[.int .i64 r0z0, .int .i64 r0z1, .slice gr0A2 r0n2 gr0c2] 27))
  replace Oxa02 := Lib.hid (Oxa02.out.alloc (.cells #[.int .i64 r0z0, .int .i64 r0z1, .slice gr0A2 r0n2 gr0c2] 27))
  replace Yxa0 := Lib.hid (Yxa0.out.alloc (.cells #[.int .i64 r0z0, .int .i64 r0z1, .slice gr0A2 r0n2 gr0c2] 27))
  replace Ogr02 := Lib.hid (Ogr02.out.alloc (.cells #[.int .i64 r0z0, .int .i64 r0z1, .slice gr0A2 r0n2 gr0c2] 27))
  have Xgr0 := Lib.hid (boxed w5 #[.int .i64 r0z0, .int .i64 r0z1, .slice gr0A2 r0n2 gr0c2] 27)
  have c_Xgr0_0 := Xgr0.out.now 0 _ rfl
  have c_Xgr0_1 := Xgr0.out.now 1 _ rfl
  have c_Xgr0_2 := Xgr0.out.now 2 _ rfl
  have c_Xmr0_0 := Xmr0.out.now 0 _ rfl
  have c_Xmr0_1 := Xmr0.out.now 1 _ rfl
  have c_Xmr0_2 := Xmr0.out.now 2 _ rfl
  go_wp2_with fail
  refine (eq_Counting hr0m2 Ogr02.out.orow Vmr02.out.row).mono ?_; rintro e w6 ⟨rfl, hb⟩
  replace FB := Lib.hid (FB.out.b hb)
  replace Fa02 := Lib.hid (Fa02.out.b hb)
  replace Ba0 := Lib.hid (Ba0.out.b hb)
  replace Vmr02 := Lib.hid (Vmr02.out.b hb)
  replace Xmr0 := Lib.hid (Xmr0.out.b hb)
  replace Oxa02 := Lib.hid (Oxa02.out.b hb)
  replace Yxa0 := Lib.hid (Yxa0.out.b hb)
  replace Ogr02 := Lib.hid (Ogr02.out.b hb)
  replace Xgr0 := Lib.hid (Xgr0.out.b hb)
  have z_w6 : w5.heap.size + 1 ≤ w6.heap.size := by have hsz := hb.size; first | omega | (simp at hsz; omega)
  clear c_Xgr0_0 c_Xgr0_1 c_Xgr0_2 c_Xmr0_0 c_Xmr0_1 c_Xmr0_2
  clear hb
  have c_Ba0_0 := Ba0.out.now 0 _ rfl
  have c_Ba0_1 := Ba0.out.now 1 _ rfl
  have c_Ba0_2 := Ba0.out.now 2 _ rfl
  have c_Yxa0_0 := Yxa0.out.now 0 _ rfl
  have c_Yxa0_1 := Yxa0.out.now 1 _ rfl
  have c_Yxa0_2 := Yxa0.out.now 2 _ rfl
  go_wp2_with fail
  go_region_held3 (fun w' => w'.cell? ⟨w.heap.size, 0, none⟩ = some (.int .i64 a0z0) ∧ w'.cell? ⟨w.heap.size, 1, none⟩ = some (.int .i64 a0z1) ∧ w'.cell? ⟨w.heap.size, 2, none⟩ = some (.slice a0A2 a0n2 a0c2) ∧ w'.cell? ⟨w4.heap.size, 0, none⟩ = some (.int .i64 a0z0) ∧ w'.cell? ⟨w4.heap.size, 1, none⟩ = some (.int .i64 a0z1) ∧ w'.cell? ⟨w4.heap.size, 2, none⟩ = some (.slice xa0A2 a0n2 xa0c2))
    (first | (go_keep; done) | exact ⟨(((Ba0.out.b hq1).b hq2)).now 0 _ rfl, (((Ba0.out.b hq1).b hq2)).now 1 _ rfl, (((Ba0.out.b hq1).b hq2)).now 2 _ rfl, (((Yxa0.out.b hq1).b hq2)).now 0 _ rfl, (((Yxa0.out.b hq1).b hq2)).now 1 _ rfl, (((Yxa0.out.b hq1).b hq2)).now 2 _ rfl⟩ | exact ⟨((Ba0.out.b hq1)).now 0 _ rfl, ((Ba0.out.b hq1)).now 1 _ rfl, ((Ba0.out.b hq1)).now 2 _ rfl, ((Yxa0.out.b hq1)).now 0 _ rfl, ((Yxa0.out.b hq1)).now 1 _ rfl, ((Yxa0.out.b hq1)).now 2 _ rfl⟩)
    (first
      | (have hqz := hq1; clear hqz; go_at_call 16; (first | refine (eq_Counting ha0k2 ((Oxa02.out.b hq1)).orow (owned ho2).orow).mono ?_); rintro e w8 ⟨rfl, hq2⟩)
      | (go_at_call 14; (first | refine (to_Counting ha0k2 (Fa02.out).row).mono ?_ | refine (to_Counting ha0k2 (GRow.drew (Fa02.out).row)).mono ?_); rintro e w7 ⟨ya0A2, ya0c2, rfl, ho2, hq1'⟩; have hq1 := of_drew hq1'; clear hq1'))
  replace FB := Lib.hid (FB.out.b hq1)
  replace Fa02 := Lib.hid (Fa02.out.b hq1)
  replace Ba0 := Lib.hid (Ba0.out.b hq1)
  replace Vmr02 := Lib.hid (Vmr02.out.b hq1)
  replace Xmr0 := Lib.hid (Xmr0.out.b hq1)
  replace Oxa02 := Lib.hid (Oxa02.out.b hq1)
  replace Yxa0 := Lib.hid (Yxa0.out.b hq1)
  replace Ogr02 := Lib.hid (Ogr02.out.b hq1)
  replace Xgr0 := Lib.hid (Xgr0.out.b hq1)
  replace FB := Lib.hid (FB.out.b hq2)
  replace Fa02 := Lib.hid (Fa02.out.b hq2)
  replace Ba0 := Lib.hid (Ba0.out.b hq2)
  replace Vmr02 := Lib.hid (Vmr02.out.b hq2)
  replace Xmr0 := Lib.hid (Xmr0.out.b hq2)
  replace Oxa02 := Lib.hid (Oxa02.out.b hq2)
  replace Yxa0 := Lib.hid (Yxa0.out.b hq2)
  replace Ogr02 := Lib.hid (Ogr02.out.b hq2)
  replace Xgr0 := Lib.hid (Xgr0.out.b hq2)
  have z_w7 : w6.heap.size ≤ w7.heap.size := by have hsz := hq1.size; first | omega | (simp at hsz; omega)
  have z_w8 : w7.heap.size ≤ w8.heap.size := hq2.size
  clear c_Ba0_0 c_Ba0_1 c_Ba0_2 c_Yxa0_0 c_Yxa0_1 c_Yxa0_2
  clear hq1 hq2 ho2
  have c_Yxa0_0 := Yxa0.out.now 0 _ rfl
  have c_Yxa0_1 := Yxa0.out.now 1 _ rfl
  have c_Yxa0_2 := Yxa0.out.now 2 _ rfl
  go_wp2_with fail
  refine (mark_Counting ha0k2 Oxa02.out.now Oxa02.out.top (by omega) (by omega)).mono ?_; rintro e w9 ⟨rfl, hm0, hg⟩
  replace FB := Lib.hid (FB.out.far hg (by omega))
  replace Fa02 := Lib.hid (Fa02.out.far hg (by omega))
  replace Ba0 := Lib.hid (Ba0.out.far hg (by omega))
  replace Vmr02 := Lib.hid (Vmr02.out.far hg (by omega))
  replace Xmr0 := Lib.hid (Xmr0.out.far hg (by omega))
  replace Yxa0 := Lib.hid (Yxa0.out.far hg (by omega))
  replace Ogr02 := Lib.hid (Ogr02.out.far hg (by omega))
  replace Xgr0 := Lib.hid (Xgr0.out.far hg (by omega))
  have z_w9 : w8.heap.size ≤ w9.heap.size := by have hsz := hg.size; first | omega | (simp at hsz; omega)
  replace Oxa02 := Lib.hid (At.mk hm0 (Nat.le_trans Oxa02.out.top hg.size) (Ow.lives _ _ _ _ _ _))
  clear c_Yxa0_0 c_Yxa0_1 c_Yxa0_2
  clear hg hm0
  clear Oxa02 Yxa0
  have c_Xgr0_0 := Xgr0.out.now 0 _ rfl
  have c_Xgr0_1 := Xgr0.out.now 1 _ rfl
  have c_Xgr0_2 := Xgr0.out.now 2 _ rfl
  have c_Xmr0_0 := Xmr0.out.now 0 _ rfl
  have c_Xmr0_1 := Xmr0.out.now 1 _ rfl
  have c_Xmr0_2 := Xmr0.out.now 2 _ rfl
  go_wp2_with fail
  refine (eq_Counting hr0m2 Ogr02.out.orow Vmr02.out.row).mono ?_; rintro e w10 ⟨rfl, hb⟩
  replace FB := Lib.hid (FB.out.b hb)
  replace Fa02 := Lib.hid (Fa02.out.b hb)
  replace Ba0 := Lib.hid (Ba0.out.b hb)
  replace Vmr02 := Lib.hid (Vmr02.out.b hb)
  replace Xmr0 := Lib.hid (Xmr0.out.b hb)
  replace Ogr02 := Lib.hid (Ogr02.out.b hb)
  replace Xgr0 := Lib.hid (Xgr0.out.b hb)
  have z_w10 : w9.heap.size ≤ w10.heap.size := by have hsz := hb.size; first | omega | (simp at hsz; omega)
  clear c_Xgr0_0 c_Xgr0_1 c_Xgr0_2 c_Xmr0_0 c_Xmr0_1 c_Xmr0_2
  clear hb
  have c_Xgr0_0 := Xgr0.out.now 0 _ rfl
  have c_Xgr0_1 := Xgr0.out.now 1 _ rfl
  have c_Xgr0_2 := Xgr0.out.now 2 _ rfl
  go_wp2_with fail
  refine (mark_Counting hr0m2 Ogr02.out.now Ogr02.out.top (by omega) (by omega)).mono ?_; rintro e w11 ⟨rfl, hm0, hg⟩
  replace FB := Lib.hid (FB.out.far hg (by omega))
  replace Fa02 := Lib.hid (Fa02.out.far hg (by omega))
  replace Ba0 := Lib.hid (Ba0.out.far hg (by omega))
  replace Vmr02 := Lib.hid (Vmr02.out.far hg (by omega))
  replace Xmr0 := Lib.hid (Xmr0.out.far hg (by omega))
  replace Xgr0 := Lib.hid (Xgr0.out.far hg (by omega))
  have z_w11 : w10.heap.size ≤ w11.heap.size := by have hsz := hg.size; first | omega | (simp at hsz; omega)
  replace Ogr02 := Lib.hid (At.mk hm0 (Nat.le_trans Ogr02.out.top hg.size) (Ow.lives _ _ _ _ _ _))
  clear c_Xgr0_0 c_Xgr0_1 c_Xgr0_2
  clear hg hm0
  have c_Xgr0_0 := Xgr0.out.now 0 _ rfl
  have c_Xgr0_1 := Xgr0.out.now 1 _ rfl
  have c_Xgr0_2 := Xgr0.out.now 2 _ rfl
  go_wp2_with fail
  refine (held_Counting hr0m2 Ogr02.out.orow (by omega) (by omega)).mono ?_; rintro e w12 ⟨rfl, hb⟩
  replace FB := Lib.hid (FB.out.b hb)
  replace Fa02 := Lib.hid (Fa02.out.b hb)
  replace Ba0 := Lib.hid (Ba0.out.b hb)
  replace Vmr02 := Lib.hid (Vmr02.out.b hb)
  replace Xmr0 := Lib.hid (Xmr0.out.b hb)
  replace Ogr02 := Lib.hid (Ogr02.out.b hb)
  replace Xgr0 := Lib.hid (Xgr0.out.b hb)
  have z_w12 : w11.heap.size ≤ w12.heap.size := by have hsz := hb.size; first | omega | (simp at hsz; omega)
  clear c_Xgr0_0 c_Xgr0_1 c_Xgr0_2
  clear hb
  have c_Ba0_0 := Ba0.out.now 0 _ rfl
  have c_Ba0_1 := Ba0.out.now 1 _ rfl
  have c_Ba0_2 := Ba0.out.now 2 _ rfl
  go_wp2_with fail
  refine (to_Counting ha0k2 Fa02.out.row).mono ?_; rintro e w13 ⟨tha0A2, tha0c2, rfl, ho2, hb⟩
  replace FB := Lib.hid (FB.out.b hb)
  replace Fa02 := Lib.hid (Fa02.out.b hb)
  replace Ba0 := Lib.hid (Ba0.out.b hb)
  replace Vmr02 := Lib.hid (Vmr02.out.b hb)
  replace Xmr0 := Lib.hid (Xmr0.out.b hb)
  replace Ogr02 := Lib.hid (Ogr02.out.b hb)
  replace Xgr0 := Lib.hid (Xgr0.out.b hb)
  have z_w13 : w12.heap.size ≤ w13.heap.size := by have hsz := hb.size; first | omega | (simp at hsz; omega)
  clear c_Ba0_0 c_Ba0_1 c_Ba0_2
  have Otha02 := Lib.hid (owned (ho2.mono (lo' := w12.heap.size) (Nat.le_refl _) (Nat.le_refl _)))
  clear hb ho2
  go_wp2_with fail
  refine (S2.out _ _ _ Otha02.out.orow).mono ?_; rintro e w14 ⟨hr0A2, hr0c2, rfl, hrr02, hb⟩
  replace FB := Lib.hid (FB.out.b hb)
  replace Fa02 := Lib.hid (Fa02.out.b hb)
  replace Ba0 := Lib.hid (Ba0.out.b hb)
  replace Vmr02 := Lib.hid (Vmr02.out.b hb)
  replace Xmr0 := Lib.hid (Xmr0.out.b hb)
  replace Ogr02 := Lib.hid (Ogr02.out.b hb)
  replace Xgr0 := Lib.hid (Xgr0.out.b hb)
  replace Otha02 := Lib.hid (Otha02.out.b hb)
  have z_w14 : w13.heap.size ≤ w14.heap.size := by have hsz := hb.size; first | omega | (simp at hsz; omega)
  have Ohr02 := Lib.hid (owned (hrr02.mono (lo' := w13.heap.size) (Nat.le_refl _) (Nat.le_refl _)))
  clear hb hrr02
  clear Otha02
  replace FB := Lib.hid (FB.out.alloc (.cells #[.int .i64 r0z0, .int .i64 r0z1, .slice hr0A2 r0n2 hr0c2] 27))
  replace Fa02 := Lib.hid (Fa02.out.alloc (.cells #[.int .i64 r0z0, .int .i64 r0z1, .slice hr0A2 r0n2 hr0c2] 27))
  replace Ba0 := Lib.hid (Ba0.out.alloc (.cells #[.int .i64 r0z0, .int .i64 r0z1, .slice hr0A2 r0n2 hr0c2] 27))
  replace Vmr02 := Lib.hid (Vmr02.out.alloc (.cells #[.int .i64 r0z0, .int .i64 r0z1, .slice hr0A2 r0n2 hr0c2] 27))
  replace Xmr0 := Lib.hid (Xmr0.out.alloc (.cells #[.int .i64 r0z0, .int .i64 r0z1, .slice hr0A2 r0n2 hr0c2] 27))
  replace Ogr02 := Lib.hid (Ogr02.out.alloc (.cells #[.int .i64 r0z0, .int .i64 r0z1, .slice hr0A2 r0n2 hr0c2] 27))
  replace Xgr0 := Lib.hid (Xgr0.out.alloc (.cells #[.int .i64 r0z0, .int .i64 r0z1, .slice hr0A2 r0n2 hr0c2] 27))
  replace Ohr02 := Lib.hid (Ohr02.out.alloc (.cells #[.int .i64 r0z0, .int .i64 r0z1, .slice hr0A2 r0n2 hr0c2] 27))
  have Xhr0 := Lib.hid (boxed w14 #[.int .i64 r0z0, .int .i64 r0z1, .slice hr0A2 r0n2 hr0c2] 27)
  have c_Xhr0_0 := Xhr0.out.now 0 _ rfl
  have c_Xhr0_1 := Xhr0.out.now 1 _ rfl
  have c_Xhr0_2 := Xhr0.out.now 2 _ rfl
  have c_Xmr0_0 := Xmr0.out.now 0 _ rfl
  have c_Xmr0_1 := Xmr0.out.now 1 _ rfl
  have c_Xmr0_2 := Xmr0.out.now 2 _ rfl
  go_wp2_with fail
  refine (eq_Counting hr0m2 Ohr02.out.orow Vmr02.out.row).mono ?_; rintro e w15 ⟨rfl, hb⟩
  replace FB := Lib.hid (FB.out.b hb)
  replace Fa02 := Lib.hid (Fa02.out.b hb)
  replace Ba0 := Lib.hid (Ba0.out.b hb)
  replace Vmr02 := Lib.hid (Vmr02.out.b hb)
  replace Xmr0 := Lib.hid (Xmr0.out.b hb)
  replace Ogr02 := Lib.hid (Ogr02.out.b hb)
  replace Xgr0 := Lib.hid (Xgr0.out.b hb)
  replace Ohr02 := Lib.hid (Ohr02.out.b hb)
  replace Xhr0 := Lib.hid (Xhr0.out.b hb)
  have z_w15 : w14.heap.size + 1 ≤ w15.heap.size := by have hsz := hb.size; first | omega | (simp at hsz; omega)
  clear c_Xhr0_0 c_Xhr0_1 c_Xhr0_2 c_Xmr0_0 c_Xmr0_1 c_Xmr0_2
  clear hb
  have c_Xgr0_0 := Xgr0.out.now 0 _ rfl
  have c_Xgr0_1 := Xgr0.out.now 1 _ rfl
  have c_Xgr0_2 := Xgr0.out.now 2 _ rfl
  go_wp2_with fail
  refine (held_Counting hr0m2 Ogr02.out.orow (by omega) (by omega)).mono ?_; rintro e w16 ⟨rfl, hb⟩
  replace FB := Lib.hid (FB.out.b hb)
  replace Fa02 := Lib.hid (Fa02.out.b hb)
  replace Ba0 := Lib.hid (Ba0.out.b hb)
  replace Vmr02 := Lib.hid (Vmr02.out.b hb)
  replace Xmr0 := Lib.hid (Xmr0.out.b hb)
  replace Ogr02 := Lib.hid (Ogr02.out.b hb)
  replace Xgr0 := Lib.hid (Xgr0.out.b hb)
  replace Ohr02 := Lib.hid (Ohr02.out.b hb)
  replace Xhr0 := Lib.hid (Xhr0.out.b hb)
  have z_w16 : w15.heap.size ≤ w16.heap.size := by have hsz := hb.size; first | omega | (simp at hsz; omega)
  clear c_Xgr0_0 c_Xgr0_1 c_Xgr0_2
  clear hb
  go_wp2_with fail
  go_ret
  exact ⟨rfl, FB.out.now⟩
/-! last -/
theorem walk_FnExactCountingRemove (w : World) (z0 : Int) (_w0 : (Lit.int .i64 z0).wf = true) (z1 : Int) (_w1 : (Lit.int .i64 z1).wf = true) (A : Option Addr) (n c : Nat) (X : Nat → Int) (hm : n ≤ maxLen) (hr : IRow w A n X) (s : ByteArray) (hs : s.size ≤ maxLen) :
    Calls Try.prog 6 #[.agg #[.int .i64 z0, .int .i64 z1, .slice A n c], .string s] w fun e w' => e = .returned (.bool true) ∧ Below w.heap.size w w' := by
  by_cases h : CoV z0 z1 n X ∧ isKeyB s.data.toList = true
  · obtain ⟨⟨h0, hX⟩, hk⟩ := h
    obtain ⟨p, z, rfl, hz, h1, h2, h3, h4⟩ := fiB_nat h0
    have hn : n ≤ 512 := by omega
    by_cases hok : cnOk (-1) X (prN z0 s n) p
    · exact main_FnExactCountingRemove z0 p n X s z0 p n (cnF (-1) X (prN z0 s n) p) true A c w hm hr hs (by omega)
        (fun _ _ A c w g => (spec_CountingRemove h0 hX hk hok (by omega) hs g).mono fun e w' h => h.row) (fun _ _ A c w g => impl_CountingRemove h0 hX hk hok (by omega) hs g)
    · exact main_FnExactCountingRemove z0 p n X s 0 0 0 (fun _ => 0) false A c w hm hr hs (by omega)
        (fun _ _ A c w g => (spec_CountingRemove_stop h0 hX hk hok (by omega) hs g).mono fun e w' h => h.row) (fun _ _ A c w g => impl_CountingRemove_stop h0 hX hk hok (by omega) hs g)
  · exact main_FnExactCountingRemove z0 z1 n X s 0 0 0 (fun _ => 0) false A c w hm hr hs (by omega)
      (fun hn _ A c w g => (spec_CountingRemove_no h (by omega) hs g).mono fun e w' h => h.row) (fun hn _ A c w g => impl_CountingRemove_no h (by omega) hs g)
end Go.Proofs.Ytpajbcgdoedleab
