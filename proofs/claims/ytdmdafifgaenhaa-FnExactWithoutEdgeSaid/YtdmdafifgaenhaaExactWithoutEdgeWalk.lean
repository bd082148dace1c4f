/- The law of WithoutEdge, walked: what both sides answer comes in as hypotheses. -/
import Derived.Test.YtdmdafifgaenhaaObjSS
import Derived.Test.YtdmdafifgaenhaaWoutN
import Derived.Deep.RegionHeld3
namespace Go.Proofs.Ytdmdafifgaenhaa
open Go.RowKit

set_option maxRecDepth 100000 in
set_option maxHeartbeats 8000000 in
theorem main_FnExactWithoutEdge (a0z0 : Int) (a0n1 : Nat) (a0L1 : Nat → Nat) (a0X1 : Nat → Nat → Int) (a1z0 : Int) (r0z0 : Int) (r0n1 : Nat) (r0L1 : Nat → Nat) (r0X1 : Nat → Nat → Int) (r1z0 : Bool) (a0A1 : Option Addr) (a0c1 : Nat) (w : World) (ha0m1 : a0n1 ≤ maxLen) (ha0r1 : HRow w a0A1 a0n1 a0L1 a0X1) (ha0s1 : ∀ i, i < a0n1 → a0L1 i ≤ maxLen) (hr0m1 : r0n1 + sumL r0L1 r0n1 ≤ 1048576)
    (s1 : a0n1 + (sumL a0L1 a0n1) ≤ 1048576 → ∀ (ua0A1 : Option Addr) (w : World), HRow w ua0A1 a0n1 a0L1 a0X1 → Calls Try.prog 43 #[.agg #[.int .i64 a0z0, .slice ua0A1 a0n1 a0n1], .int .i64 a1z0] w fun e w' => ∃ vr0A1 vr0c1, e = .returned (.tuple #[.agg #[.int .i64 r0z0, .slice vr0A1 r0n1 vr0c1], .bool r1z0]) ∧ HRow w' vr0A1 r0n1 r0L1 r0X1 ∧ Below w.heap.size w w')
    (s2 : a0n1 + (sumL a0L1 a0n1) ≤ 1048576 → ∀ (ua0A1 : Option Addr) (w : World), HRow w ua0A1 a0n1 a0L1 a0X1 → Calls Try.prog 44 #[.agg #[.int .i64 a0z0, .slice ua0A1 a0n1 a0n1], .int .i64 a1z0] w fun e w' => ∃ vr0A1 vr0c1, e = .returned (.tuple #[.agg #[.int .i64 r0z0, .slice vr0A1 r0n1 vr0c1], .bool r1z0]) ∧ Ow2 w.heap.size w'.heap.size vr0A1 r0n1 r0L1 r0X1 w' ∧ Below w.heap.size w w') :
    Calls Try.prog 8 #[.agg #[.int .i64 a0z0, .slice a0A1 a0n1 a0c1], .int .i64 a1z0] w fun e w' => e = .returned (.bool true) ∧ Below w.heap.size w w' := by
  have S1 := Lib.hid s1
  have S2 := Lib.hid s2
  clear s1 s2
  have FB := Lib.hid ((At.start w).alloc (.cells #[.int .i64 a0z0, .slice a0A1 a0n1 a0c1] 24))
  have Fa01 := Lib.hid ((rd2_of_row ha0r1).alloc (.cells #[.int .i64 a0z0, .slice a0A1 a0n1 a0c1] 24))
  have Ba0 := Lib.hid (boxed w #[.int .i64 a0z0, .slice a0A1 a0n1 a0c1] 24)
  clear ha0r1
  go_enter Try.func8, Try.ntmps8
  go_wp2_with fail
  refine (sz_Hyper ha0m1 ha0s1 Fa01.out.row2 (by omega) (by omega)).mono ?_; rintro e w1 ⟨rfl, hb⟩
  replace FB := Lib.hid (FB.out.b hb)
  replace Fa01 := Lib.hid (Fa01.out.b hb)
  replace Ba0 := Lib.hid (Ba0.out.b hb)
  have z_w1 : w.heap.size + 1 ≤ w1.heap.size := by have hsz := hb.size; first | omega | (simp at hsz; omega)
  clear hb
  by_cases hZ_a0 : ((a0n1 + (sumL a0L1 a0n1) : Nat) : Int) ≤ (1048576 : Int)
  rotate_left
  · rw [szv_no hZ_a0]
    go_wp2_with fail
    go_ret
    exact ⟨rfl, FB.out.now⟩
  rw [szv_yes hZ_a0]
  have hL_a0 : ¬ (((1048576 : Int) - (((a0n1 : Nat) : Int) + (((sumL a0L1 a0n1) : Nat) : Int))) < 0) := by omega
  have c_Ba0_0 := Ba0.out.now 0 _ rfl
  have c_Ba0_1 := Ba0.out.now 1 _ rfl
  replace S1 := Lib.hid (S1.out (by omega))
  replace S2 := Lib.hid (S2.out (by omega))
  have ha0k1 : a0n1 + sumL a0L1 a0n1 ≤ 1048576 := by omega
  go_wp2_with fail
  refine (to_Hypern ha0k1 Fa01.out.row2).mono ?_; rintro e w2 ⟨tma0A1, rfl, ho1, hb⟩
  replace FB := Lib.hid (FB.out.b hb)
  replace Fa01 := Lib.hid (Fa01.out.b hb)
  replace Ba0 := Lib.hid (Ba0.out.b hb)
  have z_w2 : w1.heap.size ≤ w2.heap.size := by have hsz := hb.size; first | omega | (simp at hsz; omega)
  clear c_Ba0_0 c_Ba0_1
  have Otma01 := Lib.hid (owned2 (ho1.mono (lo' := w1.heap.size) (Nat.le_refl _) (Nat.le_refl _)))
  clear hb ho1
  go_wp2_with fail
  refine (S1.out _ _ Otma01.out.orow2).mono ?_; rintro e w3 ⟨mr0A1, mr0c1, rfl, hrr01, hb⟩
  replace FB := Lib.hid (FB.out.b hb)
  replace Fa01 := Lib.hid (Fa01.out.b hb)
  replace Ba0 := Lib.hid (Ba0.out.b hb)
  replace Otma01 := Lib.hid (Otma01.out.b hb)
  have z_w3 : w2.heap.size ≤ w3.heap.size := by have hsz := hb.size; first | omega | (simp at hsz; omega)
  have Vmr01 := Lib.hid (rd2_of_row hrr01)
  clear hb hrr01
  clear Otma01
  replace FB := Lib.hid (FB.out.alloc (.cells #[.int .i64 r0z0, .slice mr0A1 r0n1 mr0c1] 27))
  replace Fa01 := Lib.hid (Fa01.out.alloc (.cells #[.int .i64 r0z0, .slice mr0A1 r0n1 mr0c1] 27))
  replace Ba0 := Lib.hid (Ba0.out.alloc (.cells #[.int .i64 r0z0, .slice mr0A1 r0n1 mr0c1] 27))
  replace Vmr01 := Lib.hid (Vmr01.out.alloc (.cells #[.int .i64 r0z0, .slice mr0A1 r0n1 mr0c1] 27))
  have Xmr0 := Lib.hid (boxed w3 #[.int .i64 r0z0, .slice mr0A1 r0n1 mr0c1] 27)
  have c_Ba0_0 := Ba0.out.now 0 _ rfl
  have c_Ba0_1 := Ba0.out.now 1 _ rfl
  go_wp2_with fail
  refine (to_Hypern ha0k1 Fa01.out.row2).mono ?_; rintro e w4 ⟨xa0A1, rfl, ho1, hb⟩
  replace FB := Lib.hid (FB.out.b hb)
  replace Fa01 := Lib.hid (Fa01.out.b hb)
  replace Ba0 := Lib.hid (Ba0.out.b hb)
  replace Vmr01 := Lib.hid (Vmr01.out.b hb)
  replace Xmr0 := Lib.hid (Xmr0.out.b hb)
  have z_w4 : w3.heap.size + 1 ≤ w4.heap.size := by have hsz := hb.size; first | omega | (simp at hsz; omega)
  clear c_Ba0_0 c_Ba0_1
  have Oxa01 := Lib.hid (owned2 (ho1.mono (lo' := w3.heap.size + 1) (by simp) (Nat.le_refl _)))
  clear hb ho1
  replace FB := Lib.hid (FB.out.alloc (.cells #[.int .i64 a0z0, .slice xa0A1 a0n1 a0n1] 27))
  replace Fa01 := Lib.hid (Fa01.out.alloc (.cells #[.int .i64 a0z0, .slice xa0A1 a0n1 a0n1] 27))
  replace Ba0 := Lib.hid (Ba0.out.alloc (.cells #[.int .i64 a0z0, .slice xa0A1 a0n1 a0n1] 27))
  replace Vmr01 := Lib.hid (Vmr01.out.alloc (.cells #[.int .i64 a0z0, .slice xa0A1 a0n1 a0n1] 27))
  replace Xmr0 := Lib.hid (Xmr0.out.alloc (.cells #[.int .i64 a0z0, .slice xa0A1 a0n1 a0n1] 27))
  replace Oxa01 := Lib.hid (Oxa01.out.alloc (.cells #[.int .i64 a0z0, .slice xa0A1 a0n1 a0n1] 27))
  have Yxa0 := Lib.hid (boxed w4 #[.int .i64 a0z0, .slice xa0A1 a0n1 a0n1] 27)
  have c_Yxa0_0 := Yxa0.out.now 0 _ rfl
  have c_Yxa0_1 := Yxa0.out.now 1 _ rfl
  go_wp2_with fail
  refine (S2.out _ _ Oxa01.out.orow2).mono ?_; rintro e w5 ⟨gr0A1, gr0c1, rfl, hrr01, hb⟩
  replace FB := Lib.hid (FB.out.b hb)
  replace Fa01 := Lib.hid (Fa01.out.b hb)
  replace Ba0 := Lib.hid (Ba0.out.b hb)
  replace Vmr01 := Lib.hid (Vmr01.out.b hb)
  replace Xmr0 := Lib.hid (Xmr0.out.b hb)
  replace Oxa01 := Lib.hid (Oxa01.out.b hb)
  replace Yxa0 := Lib.hid (Yxa0.out.b hb)
  have z_w5 : w4.heap.size + 1 ≤ w5.heap.size := by have hsz := hb.size; first | omega | (simp at hsz; omega)
  clear c_Yxa0_0 c_Yxa0_1
  have Ogr01 := Lib.hid (owned2 (hrr01.mono (lo' := w4.heap.size + 1) (by simp) (Nat.le_refl _)))
  clear hb hrr01
  replace FB := Lib.hid (FB.out.alloc (.cells #[.int .i64 r0z0, .slice gr0A1 r0n1 gr0c1] 27))
  replace Fa01 := Lib.hid (Fa01.out.alloc (.cells #[.int .i64 r0z0, .slice gr0A1 r0n1 gr0c1] 27))
  replace Ba0 := Lib.hid (Ba0.out.alloc (.cells #[.int .i64 r0z0, .slice gr0A1 r0n1 gr0c1] 27))
  replace Vmr01 := Lib.hid (Vmr01.out.alloc (.cells #[.int .i64 r0z0, .slice gr0A1 r0n1 gr0c1] 27))
  replace Xmr0 := Lib.hid (Xmr0.out.alloc (.cells #[.int .i64 r0z0, .slice gr0A1 r0n1 gr0c1] 27))
  replace Oxa01 := Lib.hid (Oxa01.out.alloc (.cells #[.int .i64 r0z0, .slice gr0A1 r0n1 gr0c1] 27))
  replace Yxa0 := Lib.hid (Yxa0.out.alloc (.cells #[.int .i64 r0z0, .slice gr0A1 r0n1 gr0c1] 27))
  replace Ogr01 := Lib.hid (Ogr01.out.alloc (.cells #[.int .i64 r0z0, .slice gr0A1 r0n1 gr0c1] 27))
  have Xgr0 := Lib.hid (boxed w5 #[.int .i64 r0z0, .slice gr0A1 r0n1 gr0c1] 27)
  have c_Xgr0_0 := Xgr0.out.now 0 _ rfl
  have c_Xgr0_1 := Xgr0.out.now 1 _ rfl
  have c_Xmr0_0 := Xmr0.out.now 0 _ rfl
  have c_Xmr0_1 := Xmr0.out.now 1 _ rfl
  go_wp2_with fail
  refine (eq_Hyper hr0m1 Ogr01.out.orow2 Vmr01.out.row2).mono ?_; rintro e w6 ⟨rfl, hb⟩
  replace FB := Lib.hid (FB.out.b hb)
  replace Fa01 := Lib.hid (Fa01.out.b hb)
  replace Ba0 := Lib.hid (Ba0.out.b hb)
  replace Vmr01 := Lib.hid (Vmr01.out.b hb)
  replace Xmr0 := Lib.hid (Xmr0.out.b hb)
  replace Oxa01 := Lib.hid (Oxa01.out.b hb)
  replace Yxa0 := Lib.hid (Yxa0.out.b hb)
  replace Ogr01 := Lib.hid (Ogr01.out.b hb)
  replace Xgr0 := Lib.hid (Xgr0.out.b hb)
  have z_w6 : w5.heap.size + 1 ≤ w6.heap.size := by have hsz := hb.size; first | omega | (simp at hsz; omega)
  clear c_Xgr0_0 c_Xgr0_1 c_Xmr0_0 c_Xmr0_1
  clear hb
  have c_Ba0_0 := Ba0.out.now 0 _ rfl
  have c_Ba0_1 := Ba0.out.now 1 _ rfl
  have c_Yxa0_0 := Yxa0.out.now 0 _ rfl
  have c_Yxa0_1 := Yxa0.out.now 1 _ rfl
  go_wp2_with fail
  go_region_held3 (fun w' => w'.cell? ⟨w.heap.size, 0, none⟩ = some (.int .i64 a0z0) ∧ w'.cell? ⟨w.heap.size, 1, none⟩ = some (.slice a0A1 a0n1 a0c1) ∧ w'.cell? ⟨w4.heap.size, 0, none⟩ = some (.int .i64 a0z0) ∧ w'.cell? ⟨w4.heap.size, 1, none⟩ = some (.slice xa0A1 a0n1 a0n1))
    (first | (go_keep; done) | exact ⟨(((Ba0.out.b hq1).b hq2)).now 0 _ rfl, (((Ba0.out.b hq1).b hq2)).now 1 _ rfl, (((Yxa0.out.b hq1).b hq2)).now 0 _ rfl, (((Yxa0.out.b hq1).b hq2)).now 1 _ rfl⟩ | exact ⟨((Ba0.out.b hq1)).now 0 _ rfl, ((Ba0.out.b hq1)).now 1 _ rfl, ((Yxa0.out.b hq1)).now 0 _ rfl, ((Yxa0.out.b hq1)).now 1 _ rfl⟩)
    (first
      | (have hqz := hq1; clear hqz; go_at_call 24; (first | refine (eq_Hyper ha0k1 ((Oxa01.out.b hq1)).orow2 (owned2 ho1).orow2).mono ?_); rintro e w8 ⟨rfl, hq2⟩)
      | (go_at_call 22; (first | refine (to_Hypern ha0k1 (Fa01.out).row2).mono ?_ | refine (to_Hypern ha0k1 (HRow.drew (Fa01.out).row2)).mono ?_); rintro e w7 ⟨ya0A1, rfl, ho1, hq1'⟩; have hq1 := of_drew hq1'; clear hq1'))
  replace FB := Lib.hid (FB.out.b hq1)
  replace Fa01 := Lib.hid (Fa01.out.b hq1)
  replace Ba0 := Lib.hid (Ba0.out.b hq1)
  replace Vmr01 := Lib.hid (Vmr01.out.b hq1)
  replace Xmr0 := Lib.hid (Xmr0.out.b hq1)
  replace Oxa01 := Lib.hid (Oxa01.out.b hq1)
  replace Yxa0 := Lib.hid (Yxa0.out.b hq1)
  replace Ogr01 := Lib.hid (Ogr01.out.b hq1)
  replace Xgr0 := Lib.hid (Xgr0.out.b hq1)
  replace FB := Lib.hid (FB.out.b hq2)
  replace Fa01 := Lib.hid (Fa01.out.b hq2)
  replace Ba0 := Lib.hid (Ba0.out.b hq2)
  replace Vmr01 := Lib.hid (Vmr01.out.b hq2)
  replace Xmr0 := Lib.hid (Xmr0.out.b hq2)
  replace Oxa01 := Lib.hid (Oxa01.out.b hq2)
  replace Yxa0 := Lib.hid (Yxa0.out.b hq2)
  replace Ogr01 := Lib.hid (Ogr01.out.b hq2)
  replace Xgr0 := Lib.hid (Xgr0.out.b hq2)
  have z_w7 : w6.heap.size ≤ w7.heap.size := by have hsz := hq1.size; first | omega | (simp at hsz; omega)
  have z_w8 : w7.heap.size ≤ w8.heap.size := hq2.size
  clear c_Ba0_0 c_Ba0_1 c_Yxa0_0 c_Yxa0_1
  clear hq1 hq2 ho1
  have c_Yxa0_0 := Yxa0.out.now 0 _ rfl
  have c_Yxa0_1 := Yxa0.out.now 1 _ rfl
  go_wp2_with fail
  refine (mark_Hyper ha0k1 Oxa01.out.now Oxa01.out.top (by omega) (by omega)).mono ?_; rintro e w9 ⟨rfl, hm0, hg⟩
  replace FB := Lib.hid (FB.out.far hg (by omega))
  replace Fa01 := Lib.hid (Fa01.out.far hg (by omega))
  replace Ba0 := Lib.hid (Ba0.out.far hg (by omega))
  replace Vmr01 := Lib.hid (Vmr01.out.far hg (by omega))
  replace Xmr0 := Lib.hid (Xmr0.out.far hg (by omega))
  replace Yxa0 := Lib.hid (Yxa0.out.far hg (by omega))
  replace Ogr01 := Lib.hid (Ogr01.out.far hg (by omega))
  replace Xgr0 := Lib.hid (Xgr0.out.far hg (by omega))
  have z_w9 : w8.heap.size ≤ w9.heap.size := by have hsz := hg.size; first | omega | (simp at hsz; omega)
  replace Oxa01 := Lib.hid (At.mk hm0 (Nat.le_trans Oxa01.out.top hg.size) (Ow2.lives _ _ _ _ _ _))
  clear c_Yxa0_0 c_Yxa0_1
  clear hg hm0
  clear Oxa01 Yxa0
  have c_Xgr0_0 := Xgr0.out.now 0 _ rfl
  have c_Xgr0_1 := Xgr0.out.now 1 _ rfl
  have c_Xmr0_0 := Xmr0.out.now 0 _ rfl
  have c_Xmr0_1 := Xmr0.out.now 1 _ rfl
  go_wp2_with fail
  refine (eq_Hyper hr0m1 Ogr01.out.orow2 Vmr01.out.row2).mono ?_; rintro e w10 ⟨rfl, hb⟩
  replace FB := Lib.hid (FB.out.b hb)
  replace Fa01 := Lib.hid (Fa01.out.b hb)
  replace Ba0 := Lib.hid (Ba0.out.b hb)
  replace Vmr01 := Lib.hid (Vmr01.out.b hb)
  replace Xmr0 := Lib.hid (Xmr0.out.b hb)
  replace Ogr01 := Lib.hid (Ogr01.out.b hb)
  replace Xgr0 := Lib.hid (Xgr0.out.b hb)
  have z_w10 : w9.heap.size ≤ w10.heap.size := by have hsz := hb.size; first | omega | (simp at hsz; omega)
  clear c_Xgr0_0 c_Xgr0_1 c_Xmr0_0 c_Xmr0_1
  clear hb
  have c_Xgr0_0 := Xgr0.out.now 0 _ rfl
  have c_Xgr0_1 := Xgr0.out.now 1 _ rfl
  go_wp2_with fail
  refine (mark_Hyper hr0m1 Ogr01.out.now Ogr01.out.top (by omega) (by omega)).mono ?_; rintro e w11 ⟨rfl, hm0, hg⟩
  replace FB := Lib.hid (FB.out.far hg (by omega))
  replace Fa01 := Lib.hid (Fa01.out.far hg (by omega))
  replace Ba0 := Lib.hid (Ba0.out.far hg (by omega))
  replace Vmr01 := Lib.hid (Vmr01.out.far hg (by omega))
  replace Xmr0 := Lib.hid (Xmr0.out.far hg (by omega))
  replace Xgr0 := Lib.hid (Xgr0.out.far hg (by omega))
  have z_w11 : w10.heap.size ≤ w11.heap.size := by have hsz := hg.size; first | omega | (simp at hsz; omega)
  replace Ogr01 := Lib.hid (At.mk hm0 (Nat.le_trans Ogr01.out.top hg.size) (Ow2.lives _ _ _ _ _ _))
  clear c_Xgr0_0 c_Xgr0_1
  clear hg hm0
  have c_Xgr0_0 := Xgr0.out.now 0 _ rfl
  have c_Xgr0_1 := Xgr0.out.now 1 _ rfl
  go_wp2_with fail
  refine (held_Hyper hr0m1 Ogr01.out.orow2 (by omega) (by omega)).mono ?_; rintro e w12 ⟨rfl, hb⟩
  replace FB := Lib.hid (FB.out.b hb)
  replace Fa01 := Lib.hid (Fa01.out.b hb)
  replace Ba0 := Lib.hid (Ba0.out.b hb)
  replace Vmr01 := Lib.hid (Vmr01.out.b hb)
  replace Xmr0 := Lib.hid (Xmr0.out.b hb)
  replace Ogr01 := Lib.hid (Ogr01.out.b hb)
  replace Xgr0 := Lib.hid (Xgr0.out.b hb)
  have z_w12 : w11.heap.size ≤ w12.heap.size := by have hsz := hb.size; first | omega | (simp at hsz; omega)
  clear c_Xgr0_0 c_Xgr0_1
  clear hb
  have c_Ba0_0 := Ba0.out.now 0 _ rfl
  have c_Ba0_1 := Ba0.out.now 1 _ rfl
  go_wp2_with fail
  refine (to_Hypern ha0k1 Fa01.out.row2).mono ?_; rintro e w13 ⟨tha0A1, rfl, ho1, hb⟩
  replace FB := Lib.hid (FB.out.b hb)
  replace Fa01 := Lib.hid (Fa01.out.b hb)
  replace Ba0 := Lib.hid (Ba0.out.b hb)
  replace Vmr01 := Lib.hid (Vmr01.out.b hb)
  replace Xmr0 := Lib.hid (Xmr0.out.b hb)
  replace Ogr01 := Lib.hid (Ogr01.out.b hb)
  replace Xgr0 := Lib.hid (Xgr0.out.b hb)
  have z_w13 : w12.heap.size ≤ w13.heap.size := by have hsz := hb.size; first | omega | (simp at hsz; omega)
  clear c_Ba0_0 c_Ba0_1
  have Otha01 := Lib.hid (owned2 (ho1.mono (lo' := w12.heap.size) (Nat.le_refl _) (Nat.le_refl _)))
  clear hb ho1
  go_wp2_with fail
  refine (S2.out _ _ Otha01.out.orow2).mono ?_; rintro e w14 ⟨hr0A1, hr0c1, rfl, hrr01, hb⟩
  replace FB := Lib.hid (FB.out.b hb)
  replace Fa01 := Lib.hid (Fa01.out.b hb)
  replace Ba0 := Lib.hid (Ba0.out.b hb)
  replace Vmr01 := Lib.hid (Vmr01.out.b hb)
  replace Xmr0 := Lib.hid (Xmr0.out.b hb)
  replace Ogr01 := Lib.hid (Ogr01.out.b hb)
  replace Xgr0 := Lib.hid (Xgr0.out.b hb)
  replace Otha01 := Lib.hid (Otha01.out.b hb)
  have z_w14 : w13.heap.size ≤ w14.heap.size := by have hsz := hb.size; first | omega | (simp at hsz; omega)
  have Ohr01 := Lib.hid (owned2 (hrr01.mono (lo' := w13.heap.size) (Nat.le_refl _) (Nat.le_refl _)))
  clear hb hrr01
  clear Otha01
  replace FB := Lib.hid (FB.out.alloc (.cells #[.int .i64 r0z0, .slice hr0A1 r0n1 hr0c1] 27))
  replace Fa01 := Lib.hid (Fa01.out.alloc (.cells #[.int .i64 r0z0, .slice hr0A1 r0n1 hr0c1] 27))
  replace Ba0 := Lib.hid (Ba0.out.alloc (.cells #[.int .i64 r0z0, .slice hr0A1 r0n1 hr0c1] 27))
  replace Vmr01 := Lib.hid (Vmr01.out.alloc (.cells #[.int .i64 r0z0, .slice hr0A1 r0n1 hr0c1] 27))
  replace Xmr0 := Lib.hid (Xmr0.out.alloc (.cells #[.int .i64 r0z0, .slice hr0A1 r0n1 hr0c1] 27))
  replace Ogr01 := Lib.hid (Ogr01.out.alloc (.cells #[.int .i64 r0z0, .slice hr0A1 r0n1 hr0c1] 27))
  replace Xgr0 := Lib.hid (Xgr0.out.alloc (.cells #[.int .i64 r0z0, .slice hr0A1 r0n1 hr0c1] 27))
  replace Ohr01 := Lib.hid (Ohr01.out.alloc (.cells #[.int .i64 r0z0, .slice hr0A1 r0n1 hr0c1] 27))
  have Xhr0 := Lib.hid (boxed w14 #[.int .i64 r0z0, .slice hr0A1 r0n1 hr0c1] 27)
  have c_Xhr0_0 := Xhr0.out.now 0 _ rfl
  have c_Xhr0_1 := Xhr0.out.now 1 _ rfl
  have c_Xmr0_0 := Xmr0.out.now 0 _ rfl
  have c_Xmr0_1 := Xmr0.out.now 1 _ rfl
  go_wp2_with fail
  refine (eq_Hyper hr0m1 Ohr01.out.orow2 Vmr01.out.row2).mono ?_; rintro e w15 ⟨rfl, hb⟩
  replace FB := Lib.hid (FB.out.b hb)
  replace Fa01 := Lib.hid (Fa01.out.b hb)
  replace Ba0 := Lib.hid (Ba0.out.b hb)
  replace Vmr01 := Lib.hid (Vmr01.out.b hb)
  replace Xmr0 := Lib.hid (Xmr0.out.b hb)
  replace Ogr01 := Lib.hid (Ogr01.out.b hb)
  replace Xgr0 := Lib.hid (Xgr0.out.b hb)
  replace Ohr01 := Lib.hid (Ohr01.out.b hb)
  replace Xhr0 := Lib.hid (Xhr0.out.b hb)
  have z_w15 : w14.heap.size + 1 ≤ w15.heap.size := by have hsz := hb.size; first | omega | (simp at hsz; omega)
  clear c_Xhr0_0 c_Xhr0_1 c_Xmr0_0 c_Xmr0_1
  clear hb
  have c_Xgr0_0 := Xgr0.out.now 0 _ rfl
  have c_Xgr0_1 := Xgr0.out.now 1 _ rfl
  go_wp2_with fail
  refine (held_Hyper hr0m1 Ogr01.out.orow2 (by omega) (by omega)).mono ?_; rintro e w16 ⟨rfl, hb⟩
  replace FB := Lib.hid (FB.out.b hb)
  replace Fa01 := Lib.hid (Fa01.out.b hb)
  replace Ba0 := Lib.hid (Ba0.out.b hb)
  replace Vmr01 := Lib.hid (Vmr01.out.b hb)
  replace Xmr0 := Lib.hid (Xmr0.out.b hb)
  replace Ogr01 := Lib.hid (Ogr01.out.b hb)
  replace Xgr0 := Lib.hid (Xgr0.out.b hb)
  replace Ohr01 := Lib.hid (Ohr01.out.b hb)
  replace Xhr0 := Lib.hid (Xhr0.out.b hb)
  have z_w16 : w15.heap.size ≤ w16.heap.size := by have hsz := hb.size; first | omega | (simp at hsz; omega)
  clear c_Xgr0_0 c_Xgr0_1
  clear hb
  go_wp2_with fail
  go_ret
  exact ⟨rfl, FB.out.now⟩
theorem sumL_threes {L : Nat → Nat} : ∀ n, (∀ i, i < n → L i = 3) → sumL L n = 3 * n
  | 0, _ => rfl
  | n + 1, h => by rw [sumL, sumL_threes n (fun i hi => h i (by omega)), h n (by omega)]; omega
theorem walk_FnExactWithoutEdge (w : World) (z : Int) (_wz : (Lit.int .i64 z).wf = true) (A : Option Addr) (n c : Nat) (l : Nat → Nat) (X : Nat → Nat → Int) (hm : n ≤ maxLen) (hs : ∀ i, i < n → l i ≤ maxLen) (hr : HRow w A n l X) (p : Int) (_wp : (Lit.int .i64 p).wf = true) :
    Calls Try.prog 8 #[.agg #[.int .i64 z, .slice A n c], .int .i64 p] w fun e w' => e = .returned (.bool true) ∧ Below w.heap.size w w' := by
  by_cases hg : HyperOk z n l X ∧ 0 ≤ p ∧ p < n
  · obtain ⟨hg, hp0, hp1⟩ := hg
    obtain ⟨k, rfl⟩ := hg.nat
    obtain ⟨i, rfl⟩ := Int.eq_ofNat_of_zero_le hp0
    have hn40 := hg.2.2.1
    have hi : i < n := by omega
    have h3 : sumL (fun j => l (skp i j)) (i + (n - (i + 1))) = 3 * (i + (n - (i + 1))) := sumL_threes _ (fun j hj => hg.three _ (by unfold skp; split <;> omega))
    exact main_FnExactWithoutEdge k n l X i k (i + (n - (i + 1))) (fun j => l (skp i j)) (fun j => X (skp i j)) true A c w hm hr hs (by omega)
      (fun hn A w h => spec_withoutEdge k A n n l X i w hn h hg hi) (fun hn A w h => impl_withoutEdge k A n l X i w hn h hg hi)
  · refine main_FnExactWithoutEdge z n l X p 0 0 (fun _ => 0) (fun _ _ => 0) false A c w hm hr hs (by simp [sumL]) ?_ ?_
    · intro hn A w h
      have hno : Calls Try.prog 43 #[.agg #[.int .i64 z, .slice A n n], .int .i64 p] w (HypNo w) := by
        by_cases h1 : HyperOk z n l X
        · exact spec_withoutEdge_no2 z A n n l X p w hn h h1 (fun h2 => hg ⟨h1, h2⟩)
        · exact spec_withoutEdge_no1 z A n n l X p w hn h h1
      exact hno.mono fun e w' ⟨h1, h2⟩ => ⟨none, 0, h1, (ow2_zero 0 0 none _ _ w').rd.row (Nat.zero_le _), h2⟩
    · intro hn A w h
      have hno : Calls Try.prog 44 #[.agg #[.int .i64 z, .slice A n n], .int .i64 p] w (HypNo w) := by
        by_cases h1 : HyperOk z n l X
        · exact impl_withoutEdge_no2 z A n n l X p w hn h h1 (fun h2 => hg ⟨h1, h2⟩)
        · exact impl_withoutEdge_no1 z A n n l X p w hn h h1
      exact hno.mono fun e w' ⟨h1, h2⟩ => ⟨none, 0, h1, ow2_zero _ _ _ _ _ _, h2⟩
end Go.Proofs.Ytdmdafifgaenhaa
