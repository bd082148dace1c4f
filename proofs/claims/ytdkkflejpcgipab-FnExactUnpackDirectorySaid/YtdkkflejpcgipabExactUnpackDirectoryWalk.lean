/- The law of UnpackDirectory, walked: what both sides answer comes in as hypotheses. -/
import Derived.Test.YtdkkflejpcgipabObjRank
import Derived.Test.YtdkkflejpcgipabUnpackS
import Derived.Deep.RegionHeld3
import Derived.Deep.DeepCutAuto
namespace Go.Proofs.Ytdkkflejpcgipab
open Go.RowKit

set_option maxRecDepth 100000 in
set_option maxHeartbeats 8000000 in
theorem main_FnExactUnpackDirectory (a0z0 : Int) (a0n1 : Nat) (a0X1 : Nat → Int) (a1z0 : Int) (a1n1 : Nat) (a1X1 : Nat → Int) (r0z0 : Int) (r0n1 : Nat) (r0X1 : Nat → Int) (r0n2 : Nat) (r0X2 : Nat → Int) (r0n3 : Nat) (r0X3 : Nat → Int) (r1z0 : Bool) (a0A1 : Option Addr) (a0c1 : Nat) (a1A1 : Option Addr) (a1c1 : Nat) (w : World) (ha0m1 : a0n1 ≤ maxLen) (ha0r1 : GRow w a0A1 a0n1 (intV a0X1)) (ha1m1 : a1n1 ≤ maxLen) (ha1r1 : GRow w a1A1 a1n1 (intV a1X1)) (hr0m1 : r0n1 ≤ 1048576) (hr0m2 : r0n2 ≤ 1048576) (hr0m3 : r0n3 ≤ 1048576)
    (s1 : a0n1 + a1n1 ≤ 1048576 → ∀ (ua0A1 : Option Addr) (ua0c1 : Nat) (ua1A1 : Option Addr) (ua1c1 : Nat) (w : World), GRow w ua0A1 a0n1 (intV a0X1) → GRow w ua1A1 a1n1 (intV a1X1) → Calls Try.prog 37 #[.agg #[.int .i64 a0z0, .slice ua0A1 a0n1 ua0c1], .agg #[.int .i64 a1z0, .slice ua1A1 a1n1 ua1c1]] w fun e w' => ∃ vr0A1 vr0c1 vr0A2 vr0c2 vr0A3 vr0c3, e = .returned (.tuple #[.agg #[.int .i64 r0z0, .slice vr0A1 r0n1 vr0c1, .slice vr0A2 r0n2 vr0c2, .slice vr0A3 r0n3 vr0c3], .bool r1z0]) ∧ Ow w.heap.size w'.heap.size 3 vr0A1 r0n1 (intV r0X1) w' ∧ Ow w.heap.size w'.heap.size 3 vr0A2 r0n2 (intV r0X2) w' ∧ Ow w.heap.size w'.heap.size 3 vr0A3 r0n3 (intV r0X3) w' ∧ Below w.heap.size w w')
    (s2 : a0n1 + a1n1 ≤ 1048576 → ∀ (ua0A1 : Option Addr) (ua0c1 : Nat) (ua1A1 : Option Addr) (ua1c1 : Nat) (w : World), GRow w ua0A1 a0n1 (intV a0X1) → GRow w ua1A1 a1n1 (intV a1X1) → Calls Try.prog 38 #[.agg #[.int .i64 a0z0, .slice ua0A1 a0n1 ua0c1], .agg #[.int .i64 a1z0, .slice ua1A1 a1n1 ua1c1]] w fun e w' => ∃ vr0A1 vr0c1 vr0A2 vr0c2 vr0A3 vr0c3, e = .returned (.tuple #[.agg #[.int .i64 r0z0, .slice vr0A1 r0n1 vr0c1, .slice vr0A2 r0n2 vr0c2, .slice vr0A3 r0n3 vr0c3], .bool r1z0]) ∧ Ow w.heap.size w'.heap.size 3 vr0A1 r0n1 (intV r0X1) w' ∧ Ow w.heap.size w'.heap.size 3 vr0A2 r0n2 (intV r0X2) w' ∧ Ow w.heap.size w'.heap.size 3 vr0A3 r0n3 (intV r0X3) w' ∧ Apart r0n1 vr0A1 r0n2 vr0A2 ∧ Apart r0n1 vr0A1 r0n3 vr0A3 ∧ Apart r0n2 vr0A2 r0n3 vr0A3 ∧ Below w.heap.size w w') :
    Calls Try.prog 11 #[.agg #[.int .i64 a0z0, .slice a0A1 a0n1 a0c1], .agg #[.int .i64 a1z0, .slice a1A1 a1n1 a1c1]] w fun e w' => e = .returned (.bool true) ∧ Below w.heap.size w w' := by
  have S1 := Lib.hid s1
  have S2 := Lib.hid s2
  clear s1 s2
  have FB := Lib.hid (((At.start w).alloc (.cells #[.int .i64 a0z0, .slice a0A1 a0n1 a0c1] 36)).alloc (.cells #[.int .i64 a1z0, .slice a1A1 a1n1 a1c1] 36))
  have Fa01 := Lib.hid (((rd_of_row ha0r1).alloc (.cells #[.int .i64 a0z0, .slice a0A1 a0n1 a0c1] 36)).alloc (.cells #[.int .i64 a1z0, .slice a1A1 a1n1 a1c1] 36))
  have Fa11 := Lib.hid (((rd_of_row ha1r1).alloc (.cells #[.int .i64 a0z0, .slice a0A1 a0n1 a0c1] 36)).alloc (.cells #[.int .i64 a1z0, .slice a1A1 a1n1 a1c1] 36))
  have Ba0 := Lib.hid ((boxed w #[.int .i64 a0z0, .slice a0A1 a0n1 a0c1] 36).alloc (.cells #[.int .i64 a1z0, .slice a1A1 a1n1 a1c1] 36))
  have Ba1 := Lib.hid (boxed_at (w.alloc (.cells #[.int .i64 a0z0, .slice a0A1 a0n1 a0c1] 36)) (w.heap.size + 1) (by simp) #[.int .i64 a1z0, .slice a1A1 a1n1 a1c1] 36)
  clear ha0r1 ha1r1
  go_enter Try.func11, Try.ntmps11
  go_wp2_with fail
  refine (sz_Bits ha0m1 (by omega) (by omega)).mono ?_; rintro e w1 ⟨rfl, hb⟩
  replace FB := Lib.hid (FB.out.b hb)
  replace Fa01 := Lib.hid (Fa01.out.b hb)
  replace Fa11 := Lib.hid (Fa11.out.b hb)
  replace Ba0 := Lib.hid (Ba0.out.b hb)
  replace Ba1 := Lib.hid (Ba1.out.b hb)
  have z_w1 : w.heap.size + 2 ≤ w1.heap.size := by have hsz := hb.size; first | omega | (simp at hsz; omega)
  clear hb
  by_cases hZ_a0 : ((a0n1 : Nat) : Int) ≤ (1048576 : Int)
  rotate_left
  · rw [szv_no hZ_a0]
    go_wp2_with fail
    go_ret
    exact ⟨rfl, FB.out.now⟩
  rw [szv_yes hZ_a0]
  have hL_a0 : ¬ (((1048576 : Int) - (((a0n1 : Nat) : Int))) < 0) := by omega
  have c_Ba0_0 := Ba0.out.now 0 _ rfl
  have c_Ba0_1 := Ba0.out.now 1 _ rfl
  have c_Ba1_0 := Ba1.out.now 0 _ rfl
  have c_Ba1_1 := Ba1.out.now 1 _ rfl
  go_wp2_with fail
  refine (sz_Bits ha1m1 (by omega) (by omega)).mono ?_; rintro e w2 ⟨rfl, hb⟩
  replace FB := Lib.hid (FB.out.b hb)
  replace Fa01 := Lib.hid (Fa01.out.b hb)
  replace Fa11 := Lib.hid (Fa11.out.b hb)
  replace Ba0 := Lib.hid (Ba0.out.b hb)
  replace Ba1 := Lib.hid (Ba1.out.b hb)
  have z_w2 : w1.heap.size ≤ w2.heap.size := by have hsz := hb.size; first | omega | (simp at hsz; omega)
  clear c_Ba0_0 c_Ba0_1 c_Ba1_0 c_Ba1_1
  clear hb
  by_cases hZ_a1 : ((a1n1 : Nat) : Int) ≤ ((1048576 : Int) - (((a0n1 : Nat) : Int)))
  rotate_left
  · rw [szv_no hZ_a1]
    go_wp2_with fail
    go_ret
    exact ⟨rfl, FB.out.now⟩
  rw [szv_yes hZ_a1]
  have hL_a1 : ¬ ((((1048576 : Int) - (((a0n1 : Nat) : Int))) - (((a1n1 : Nat) : Int))) < 0) := by omega
  have c_Ba0_0 := Ba0.out.now 0 _ rfl
  have c_Ba0_1 := Ba0.out.now 1 _ rfl
  have c_Ba1_0 := Ba1.out.now 0 _ rfl
  have c_Ba1_1 := Ba1.out.now 1 _ rfl
  replace S1 := Lib.hid (S1.out (by omega))
  replace S2 := Lib.hid (S2.out (by omega))
  have ha0k1 : a0n1 ≤ 1048576 := by omega
  have ha1k1 : a1n1 ≤ 1048576 := by omega
  go_upto_region 8 with fail
  have hcur : w2.heap.size ≤ w2.heap.size := Nat.le_refl _
  have HK : ∀ w', Below w2.heap.size w2 w' → w'.cell? ⟨w.heap.size, 0, none⟩ = some (.int .i64 a0z0) ∧ w'.cell? ⟨w.heap.size, 1, none⟩ = some (.slice a0A1 a0n1 a0c1) ∧ w'.cell? ⟨w.heap.size + 1, 0, none⟩ = some (.int .i64 a1z0) ∧ w'.cell? ⟨w.heap.size + 1, 1, none⟩ = some (.slice a1A1 a1n1 a1c1) := fun w' hb => ⟨(Ba0.out.b hb).now 0 _ rfl, (Ba0.out.b hb).now 1 _ rfl, (Ba1.out.b hb).now 0 _ rfl, (Ba1.out.b hb).now 1 _ rfl⟩
  go_cut [6, 7] (fun s6 s7 wx => ∃ (bx_m : Nat) (mr0A1 : Option Addr) (mr0c1 : Nat) (mr0A2 : Option Addr) (mr0c2 : Nat) (mr0A3 : Option Addr) (mr0c3 : Nat), s6 = .pointer (some ⟨bx_m, 0, none⟩) ∧ s7 = .bool r1z0 ∧ w2.heap.size ≤ bx_m ∧ At bx_m (bx_m + 1) (BoxC bx_m [.int .i64 r0z0, .slice mr0A1 r0n1 mr0c1, .slice mr0A2 r0n2 mr0c2, .slice mr0A3 r0n3 mr0c3]) wx ∧ GRow wx mr0A1 r0n1 (intV r0X1) ∧ GRow wx mr0A2 r0n2 (intV r0X2) ∧ GRow wx mr0A3 r0n3 (intV r0X3) ∧ Below w2.heap.size w2 wx)
  case first =>
    go_region_held3 (fun w' => w'.cell? ⟨w.heap.size, 0, none⟩ = some (.int .i64 a0z0) ∧ w'.cell? ⟨w.heap.size, 1, none⟩ = some (.slice a0A1 a0n1 a0c1) ∧ w'.cell? ⟨w.heap.size + 1, 0, none⟩ = some (.int .i64 a1z0) ∧ w'.cell? ⟨w.heap.size + 1, 1, none⟩ = some (.slice a1A1 a1n1 a1c1))
      (first | (go_keep; done) | exact HK _ (below_setAt (below_setAt (below_setAt (below_setAt (hq3) NB.ge _) NB.ge _) NB.ge _) NB.ge _) | exact HK _ (hq3.alloc hq3.size _) | exact HK _ hq3 | exact HK _ (hq2.alloc hq2.size _) | exact HK _ hq2 | exact HK _ (hq1.alloc hq1.size _) | exact HK _ hq1 | exact HK _ ((Below.refl _ _).alloc (Nat.le_refl _) _))
      (first
        | (have hqz := hq2; clear hqz; go_at_call 37; (first | refine (S1.out _ _ _ _ _ hG_a01 hG_a11).mono ?_ | refine (S1.out _ _ _ _ _ (hG_a01.al _) (hG_a11.al _)).mono ?_); rintro e w5 ⟨mr0A1, mr0c1, mr0A2, mr0c2, mr0A3, mr0c3, rfl, hrr01, hrr02, hrr03, hb⟩; (first | (have hq3 := hq2.trans (hb.mono hq2.size)) | (have hq3 := hq2.trans ((below_al hb).mono hq2.size))); (first | (replace hrr01 := Ow.over hrr01 NB.lt; replace hrr02 := Ow.over hrr02 NB.lt; replace hrr03 := Ow.over hrr03 NB.lt; replace NB := NB.b hb; have dd0 := NB.cell 0 _ rfl; have ff0 := NB.free 0; have dd1 := NB.cell 1 _ rfl; have ff1 := NB.free 1; have dd2 := NB.cell 2 _ rfl; have ff2 := NB.free 2; have dd3 := NB.cell 3 _ rfl; have ff3 := NB.free 3) | (have NB := NBX.new hq2.size hb; replace hrr01 := Ow.overNew hrr01; replace hrr02 := Ow.overNew hrr02; replace hrr03 := Ow.overNew hrr03; have dd0 := NB.cell 0 _ rfl; have ff0 := NB.free 0; have dd1 := NB.cell 1 _ rfl; have ff1 := NB.free 1; have dd2 := NB.cell 2 _ rfl; have ff2 := NB.free 2; have dd3 := NB.cell 3 _ rfl; have ff3 := NB.free 3) | skip); clear hb)
        | (have hqz := hq1; clear hqz; go_at_call 26; (first | refine (to_Bits ha1k1 (Fa11.out.b hq1).row).mono ?_ | refine (to_Bits ha1k1 ((Fa11.out.b hq1).row.al _)).mono ?_); rintro e w4 ⟨tma1A1, tma1c1, rfl, ho_a11, hb⟩; (first | (have hq2 := hq1.trans (hb.mono hq1.size)) | (have hq2 := hq1.trans ((below_al hb).mono hq1.size))); (first | (replace NB := NB.b hb) | (have NB := NBX.new hq1.size hb) | skip); (first | (replace hG_a01 := hG_a01.b hb) | (replace hG_a01 := hG_a01.b (below_al hb))); have hG_a11 := (Ow.rd ho_a11).row (Nat.le_refl _); clear hb ho_a11)
        | (go_at_call 26; (first | refine (to_Bits ha0k1 Fa01.out.row).mono ?_ | refine (to_Bits ha0k1 Fa01.out.rowD).mono ?_ | refine (to_Bits ha0k1 (Fa01.out.row.al _)).mono ?_ | refine (to_Bits ha0k1 (Fa01.out.row.alD _)).mono ?_); rintro e w3 ⟨tma0A1, tma0c1, rfl, ho_a01, hb'⟩; have hb := of_drew hb'; clear hb'; (first | (have hq1 : Below w2.heap.size w2 w3 := hb) | (have hq1 : Below w2.heap.size w2 w3 := below_al hb)); (first | (replace NB := NB.b hb) | (have NB := NBX.new hcur hb) | skip); have hG_a01 := (Ow.rd ho_a01).row (Nat.le_refl _); clear hb ho_a01))
    all_goals go_wp2_with fail
    all_goals go_meet
    all_goals first
      | exact ⟨_, _, _, _, _, _, _, rfl, rfl, NB.ge, ((((NB.set 0 _).set 1 _).set 2 _).set 3 _).box, At.orow ((((hrr01.setC (Nat.le_refl _) 0 _).setC (Nat.le_refl _) 1 _).setC (Nat.le_refl _) 2 _).setC (Nat.le_refl _) 3 _), At.orow ((((hrr02.setC (Nat.le_refl _) 0 _).setC (Nat.le_refl _) 1 _).setC (Nat.le_refl _) 2 _).setC (Nat.le_refl _) 3 _), At.orow ((((hrr03.setC (Nat.le_refl _) 0 _).setC (Nat.le_refl _) 1 _).setC (Nat.le_refl _) 2 _).setC (Nat.le_refl _) 3 _), (below_setAt (below_setAt (below_setAt (below_setAt hq3 NB.ge _) NB.ge _) NB.ge _) NB.ge _)⟩
      | exact ⟨_, _, _, _, _, _, _, rfl, rfl, hq3.size, boxed _ _ _, ((Ow.rd hrr01).row (Nat.le_refl _)).al _, ((Ow.rd hrr02).row (Nat.le_refl _)).al _, ((Ow.rd hrr03).row (Nat.le_refl _)).al _, hq3.alloc hq3.size _⟩
  case rest =>
  obtain ⟨bx_m, mr0A1, mr0c1, mr0A2, mr0c2, mr0A3, mr0c3, rfl, rfl, hge, hbx, hrr01, hrr02, hrr03, hbl⟩ := hcut
  clear HK hcur
  clear c_Ba0_0 c_Ba0_1 c_Ba1_0 c_Ba1_1
  replace FB := Lib.hid (FB.out.b hbl)
  replace Fa01 := Lib.hid (Fa01.out.b hbl)
  replace Fa11 := Lib.hid (Fa11.out.b hbl)
  replace Ba0 := Lib.hid (Ba0.out.b hbl)
  replace Ba1 := Lib.hid (Ba1.out.b hbl)
  have z_wc : w2.heap.size ≤ wc.heap.size := hbl.size
  have z_bx_m : w2.heap.size ≤ bx_m := hge
  have zt_bx_m : bx_m + 1 ≤ wc.heap.size := hbx.top
  have Xmr0 := Lib.hid (hbx)
  have Vmr01 := Lib.hid (rd_of_row hrr01)
  have Vmr02 := Lib.hid (rd_of_row hrr02)
  have Vmr03 := Lib.hid (rd_of_row hrr03)
  clear hbl hge hbx hrr01 hrr02 hrr03
  have c_Ba0_0 := Ba0.out.now 0 _ rfl
  have c_Ba0_1 := Ba0.out.now 1 _ rfl
  have c_Ba1_0 := Ba1.out.now 0 _ rfl
  have c_Ba1_1 := Ba1.out.now 1 _ rfl
  go_wp2_with fail
  refine (to_Bits ha0k1 Fa01.out.row).mono ?_; rintro e w6 ⟨xa0A1, xa0c1, rfl, ho1, hb⟩
  replace FB := Lib.hid (FB.out.b hb)
  replace Fa01 := Lib.hid (Fa01.out.b hb)
  replace Fa11 := Lib.hid (Fa11.out.b hb)
  replace Ba0 := Lib.hid (Ba0.out.b hb)
  replace Ba1 := Lib.hid (Ba1.out.b hb)
  replace Xmr0 := Lib.hid (Xmr0.out.b hb)
  replace Vmr01 := Lib.hid (Vmr01.out.b hb)
  replace Vmr02 := Lib.hid (Vmr02.out.b hb)
  replace Vmr03 := Lib.hid (Vmr03.out.b hb)
  have z_w6 : wc.heap.size ≤ w6.heap.size := by have hsz := hb.size; first | omega | (simp at hsz; omega)
  clear c_Ba0_0 c_Ba0_1 c_Ba1_0 c_Ba1_1
  have Oxa01 := Lib.hid (owned (ho1.mono (lo' := wc.heap.size) (Nat.le_refl _) (Nat.le_refl _)))
  clear hb ho1
  replace FB := Lib.hid (FB.out.alloc (.cells #[.int .i64 a0z0, .slice xa0A1 a0n1 xa0c1] 27))
  replace Fa01 := Lib.hid (Fa01.out.alloc (.cells #[.int .i64 a0z0, .slice xa0A1 a0n1 xa0c1] 27))
  replace Fa11 := Lib.hid (Fa11.out.alloc (.cells #[.int .i64 a0z0, .slice xa0A1 a0n1 xa0c1] 27))
  replace Ba0 := Lib.hid (Ba0.out.alloc (.cells #[.int .i64 a0z0, .slice xa0A1 a0n1 xa0c1] 27))
  replace Ba1 := Lib.hid (Ba1.out.alloc (.cells #[.int .i64 a0z0, .slice xa0A1 a0n1 xa0c1] 27))
  replace Xmr0 := Lib.hid (Xmr0.out.alloc (.cells #[.int .i64 a0z0, .slice xa0A1 a0n1 xa0c1] 27))
  replace Vmr01 := Lib.hid (Vmr01.out.alloc (.cells #[.int .i64 a0z0, .slice xa0A1 a0n1 xa0c1] 27))
  replace Vmr02 := Lib.hid (Vmr02.out.alloc (.cells #[.int .i64 a0z0, .slice xa0A1 a0n1 xa0c1] 27))
  replace Vmr03 := Lib.hid (Vmr03.out.alloc (.cells #[.int .i64 a0z0, .slice xa0A1 a0n1 xa0c1] 27))
  replace Oxa01 := Lib.hid (Oxa01.out.alloc (.cells #[.int .i64 a0z0, .slice xa0A1 a0n1 xa0c1] 27))
  have Yxa0 := Lib.hid (boxed w6 #[.int .i64 a0z0, .slice xa0A1 a0n1 xa0c1] 27)
  have c_Ba0_0 := Ba0.out.now 0 _ rfl
  have c_Ba0_1 := Ba0.out.now 1 _ rfl
  have c_Ba1_0 := Ba1.out.now 0 _ rfl
  have c_Ba1_1 := Ba1.out.now 1 _ rfl
  go_wp2_with fail
  refine (to_Bits ha1k1 Fa11.out.row).mono ?_; rintro e w7 ⟨xa1A1, xa1c1, rfl, ho1, hb⟩
  replace FB := Lib.hid (FB.out.b hb)
  replace Fa01 := Lib.hid (Fa01.out.b hb)
  replace Fa11 := Lib.hid (Fa11.out.b hb)
  replace Ba0 := Lib.hid (Ba0.out.b hb)
  replace Ba1 := Lib.hid (Ba1.out.b hb)
  replace Xmr0 := Lib.hid (Xmr0.out.b hb)
  replace Vmr01 := Lib.hid (Vmr01.out.b hb)
  replace Vmr02 := Lib.hid (Vmr02.out.b hb)
  replace Vmr03 := Lib.hid (Vmr03.out.b hb)
  replace Oxa01 := Lib.hid (Oxa01.out.b hb)
  replace Yxa0 := Lib.hid (Yxa0.out.b hb)
  have z_w7 : w6.heap.size + 1 ≤ w7.heap.size := by have hsz := hb.size; first | omega | (simp at hsz; omega)
  clear c_Ba0_0 c_Ba0_1 c_Ba1_0 c_Ba1_1
  have Oxa11 := Lib.hid (owned (ho1.mono (lo' := w6.heap.size + 1) (by simp) (Nat.le_refl _)))
  clear hb ho1
  replace FB := Lib.hid (FB.out.alloc (.cells #[.int .i64 a1z0, .slice xa1A1 a1n1 xa1c1] 27))
  replace Fa01 := Lib.hid (Fa01.out.alloc (.cells #[.int .i64 a1z0, .slice xa1A1 a1n1 xa1c1] 27))
  replace Fa11 := Lib.hid (Fa11.out.alloc (.cells #[.int .i64 a1z0, .slice xa1A1 a1n1 xa1c1] 27))
  replace Ba0 := Lib.hid (Ba0.out.alloc (.cells #[.int .i64 a1z0, .slice xa1A1 a1n1 xa1c1] 27))
  replace Ba1 := Lib.hid (Ba1.out.alloc (.cells #[.int .i64 a1z0, .slice xa1A1 a1n1 xa1c1] 27))
  replace Xmr0 := Lib.hid (Xmr0.out.alloc (.cells #[.int .i64 a1z0, .slice xa1A1 a1n1 xa1c1] 27))
  replace Vmr01 := Lib.hid (Vmr01.out.alloc (.cells #[.int .i64 a1z0, .slice xa1A1 a1n1 xa1c1] 27))
  replace Vmr02 := Lib.hid (Vmr02.out.alloc (.cells #[.int .i64 a1z0, .slice xa1A1 a1n1 xa1c1] 27))
  replace Vmr03 := Lib.hid (Vmr03.out.alloc (.cells #[.int .i64 a1z0, .slice xa1A1 a1n1 xa1c1] 27))
  replace Oxa01 := Lib.hid (Oxa01.out.alloc (.cells #[.int .i64 a1z0, .slice xa1A1 a1n1 xa1c1] 27))
  replace Yxa0 := Lib.hid (Yxa0.out.alloc (.cells #[.int .i64 a1z0, .slice xa1A1 a1n1 xa1c1] 27))
  replace Oxa11 := Lib.hid (Oxa11.out.alloc (.cells #[.int .i64 a1z0, .slice xa1A1 a1n1 xa1c1] 27))
  have Yxa1 := Lib.hid (boxed w7 #[.int .i64 a1z0, .slice xa1A1 a1n1 xa1c1] 27)
  have c_Yxa0_0 := Yxa0.out.now 0 _ rfl
  have c_Yxa0_1 := Yxa0.out.now 1 _ rfl
  have c_Yxa1_0 := Yxa1.out.now 0 _ rfl
  have c_Yxa1_1 := Yxa1.out.now 1 _ rfl
  go_wp2_with fail
  refine (S2.out _ _ _ _ _ Oxa01.out.orow Oxa11.out.orow).mono ?_; rintro e w8 ⟨gr0A1, gr0c1, gr0A2, gr0c2, gr0A3, gr0c3, rfl, hrr01, hrr02, hrr03, hap_g_0, hap_g_1, hap_g_2, hb⟩
  replace FB := Lib.hid (FB.out.b hb)
  replace Fa01 := Lib.hid (Fa01.out.b hb)
  replace Fa11 := Lib.hid (Fa11.out.b hb)
  replace Ba0 := Lib.hid (Ba0.out.b hb)
  replace Ba1 := Lib.hid (Ba1.out.b hb)
  replace Xmr0 := Lib.hid (Xmr0.out.b hb)
  replace Vmr01 := Lib.hid (Vmr01.out.b hb)
  replace Vmr02 := Lib.hid (Vmr02.out.b hb)
  replace Vmr03 := Lib.hid (Vmr03.out.b hb)
  replace Oxa01 := Lib.hid (Oxa01.out.b hb)
  replace Yxa0 := Lib.hid (Yxa0.out.b hb)
  replace Oxa11 := Lib.hid (Oxa11.out.b hb)
  replace Yxa1 := Lib.hid (Yxa1.out.b hb)
  have z_w8 : w7.heap.size + 1 ≤ w8.heap.size := by have hsz := hb.size; first | omega | (simp at hsz; omega)
  clear c_Yxa0_0 c_Yxa0_1 c_Yxa1_0 c_Yxa1_1
  have Ogr01 := Lib.hid (owned (hrr01.mono (lo' := w7.heap.size + 1) (by simp) (Nat.le_refl _)))
  have Ogr02 := Lib.hid (owned (hrr02.mono (lo' := w7.heap.size + 1) (by simp) (Nat.le_refl _)))
  have Ogr03 := Lib.hid (owned (hrr03.mono (lo' := w7.heap.size + 1) (by simp) (Nat.le_refl _)))
  clear hb hrr01 hrr02 hrr03
  replace FB := Lib.hid (FB.out.alloc (.cells #[.int .i64 r0z0, .slice gr0A1 r0n1 gr0c1, .slice gr0A2 r0n2 gr0c2, .slice gr0A3 r0n3 gr0c3] 44))
  replace Fa01 := Lib.hid (Fa01.out.alloc (.cells #[.int .i64 r0z0, .slice gr0A1 r0n1 gr0c1, .slice gr0A2 r0n2 gr0c2, .slice gr0A3 r0n3 gr0c3] 44))
  replace Fa11 := Lib.hid (Fa11.out.alloc (.cells #[.int .i64 r0z0, .slice gr0A1 r0n1 gr0c1, .slice gr0A2 r0n2 gr0c2, .slice gr0A3 r0n3 gr0c3] 44))
  replace Ba0 := Lib.hid (Ba0.out.alloc (.cells #[.int .i64 r0z0, .slice gr0A1 r0n1 gr0c1, .slice gr0A2 r0n2 gr0c2, .slice gr0A3 r0n3 gr0c3] 44))
  replace Ba1 := Lib.hid (Ba1.out.alloc (.cells #[.int .i64 r0z0, .slice gr0A1 r0n1 gr0c1, .slice gr0A2 r0n2 gr0c2, .slice gr0A3 r0n3 gr0c3] 44))
  replace Xmr0 := Lib.hid (Xmr0.out.alloc (.cells #[.int .i64 r0z0, .slice gr0A1 r0n1 gr0c1, .slice gr0A2 r0n2 gr0c2, .slice gr0A3 r0n3 gr0c3] 44))
  replace Vmr01 := Lib.hid (Vmr01.out.alloc (.cells #[.int .i64 r0z0, .slice gr0A1 r0n1 gr0c1, .slice gr0A2 r0n2 gr0c2, .slice gr0A3 r0n3 gr0c3] 44))
  replace Vmr02 := Lib.hid (Vmr02.out.alloc (.cells #[.int .i64 r0z0, .slice gr0A1 r0n1 gr0c1, .slice gr0A2 r0n2 gr0c2, .slice gr0A3 r0n3 gr0c3] 44))
  replace Vmr03 := Lib.hid (Vmr03.out.alloc (.cells #[.int .i64 r0z0, .slice gr0A1 r0n1 gr0c1, .slice gr0A2 r0n2 gr0c2, .slice gr0A3 r0n3 gr0c3] 44))
  replace Oxa01 := Lib.hid (Oxa01.out.alloc (.cells #[.int .i64 r0z0, .slice gr0A1 r0n1 gr0c1, .slice gr0A2 r0n2 gr0c2, .slice gr0A3 r0n3 gr0c3] 44))
  replace Yxa0 := Lib.hid (Yxa0.out.alloc (.cells #[.int .i64 r0z0, .slice gr0A1 r0n1 gr0c1, .slice gr0A2 r0n2 gr0c2, .slice gr0A3 r0n3 gr0c3] 44))
  replace Oxa11 := Lib.hid (Oxa11.out.alloc (.cells #[.int .i64 r0z0, .slice gr0A1 r0n1 gr0c1, .slice gr0A2 r0n2 gr0c2, .slice gr0A3 r0n3 gr0c3] 44))
  replace Yxa1 := Lib.hid (Yxa1.out.alloc (.cells #[.int .i64 r0z0, .slice gr0A1 r0n1 gr0c1, .slice gr0A2 r0n2 gr0c2, .slice gr0A3 r0n3 gr0c3] 44))
  replace Ogr01 := Lib.hid (Ogr01.out.alloc (.cells #[.int .i64 r0z0, .slice gr0A1 r0n1 gr0c1, .slice gr0A2 r0n2 gr0c2, .slice gr0A3 r0n3 gr0c3] 44))
  replace Ogr02 := Lib.hid (Ogr02.out.alloc (.cells #[.int .i64 r0z0, .slice gr0A1 r0n1 gr0c1, .slice gr0A2 r0n2 gr0c2, .slice gr0A3 r0n3 gr0c3] 44))
  replace Ogr03 := Lib.hid (Ogr03.out.alloc (.cells #[.int .i64 r0z0, .slice gr0A1 r0n1 gr0c1, .slice gr0A2 r0n2 gr0c2, .slice gr0A3 r0n3 gr0c3] 44))
  have Xgr0 := Lib.hid (boxed w8 #[.int .i64 r0z0, .slice gr0A1 r0n1 gr0c1, .slice gr0A2 r0n2 gr0c2, .slice gr0A3 r0n3 gr0c3] 44)
  have c_Xgr0_0 := Xgr0.out.now 0 _ rfl
  have c_Xgr0_1 := Xgr0.out.now 1 _ rfl
  have c_Xgr0_2 := Xgr0.out.now 2 _ rfl
  have c_Xgr0_3 := Xgr0.out.now 3 _ rfl
  have c_Xmr0_0 := Xmr0.out.now 0 _ rfl
  have c_Xmr0_1 := Xmr0.out.now 1 _ rfl
  have c_Xmr0_2 := Xmr0.out.now 2 _ rfl
  have c_Xmr0_3 := Xmr0.out.now 3 _ rfl
  go_wp2_with fail
  refine (eq_Ranked hr0m1 hr0m2 hr0m3 Ogr01.out.orow Ogr02.out.orow Ogr03.out.orow Vmr01.out.row Vmr02.out.row Vmr03.out.row).mono ?_; rintro e w9 ⟨rfl, hb⟩
  replace FB := Lib.hid (FB.out.b hb)
  replace Fa01 := Lib.hid (Fa01.out.b hb)
  replace Fa11 := Lib.hid (Fa11.out.b hb)
  replace Ba0 := Lib.hid (Ba0.out.b hb)
  replace Ba1 := Lib.hid (Ba1.out.b hb)
  replace Xmr0 := Lib.hid (Xmr0.out.b hb)
  replace Vmr01 := Lib.hid (Vmr01.out.b hb)
  replace Vmr02 := Lib.hid (Vmr02.out.b hb)
  replace Vmr03 := Lib.hid (Vmr03.out.b hb)
  replace Oxa01 := Lib.hid (Oxa01.out.b hb)
  replace Yxa0 := Lib.hid (Yxa0.out.b hb)
  replace Oxa11 := Lib.hid (Oxa11.out.b hb)
  replace Yxa1 := Lib.hid (Yxa1.out.b hb)
  replace Ogr01 := Lib.hid (Ogr01.out.b hb)
  replace Ogr02 := Lib.hid (Ogr02.out.b hb)
  replace Ogr03 := Lib.hid (Ogr03.out.b hb)
  replace Xgr0 := Lib.hid (Xgr0.out.b hb)
  have z_w9 : w8.heap.size + 1 ≤ w9.heap.size := by have hsz := hb.size; first | omega | (simp at hsz; omega)
  clear c_Xgr0_0 c_Xgr0_1 c_Xgr0_2 c_Xgr0_3 c_Xmr0_0 c_Xmr0_1 c_Xmr0_2 c_Xmr0_3
  clear hb
  have c_Ba0_0 := Ba0.out.now 0 _ rfl
  have c_Ba0_1 := Ba0.out.now 1 _ rfl
  have c_Yxa0_0 := Yxa0.out.now 0 _ rfl
  have c_Yxa0_1 := Yxa0.out.now 1 _ rfl
  go_wp2_with fail
  go_region_held3 (fun w' => w'.cell? ⟨w.heap.size, 0, none⟩ = some (.int .i64 a0z0) ∧ w'.cell? ⟨w.heap.size, 1, none⟩ = some (.slice a0A1 a0n1 a0c1) ∧ w'.cell? ⟨w6.heap.size, 0, none⟩ = some (.int .i64 a0z0) ∧ w'.cell? ⟨w6.heap.size, 1, none⟩ = some (.slice xa0A1 a0n1 xa0c1))
    (first | (go_keep; done) | exact ⟨(((Ba0.out.b hq1).b hq2)).now 0 _ rfl, (((Ba0.out.b hq1).b hq2)).now 1 _ rfl, (((Yxa0.out.b hq1).b hq2)).now 0 _ rfl, (((Yxa0.out.b hq1).b hq2)).now 1 _ rfl⟩ | exact ⟨((Ba0.out.b hq1)).now 0 _ rfl, ((Ba0.out.b hq1)).now 1 _ rfl, ((Yxa0.out.b hq1)).now 0 _ rfl, ((Yxa0.out.b hq1)).now 1 _ rfl⟩)
    (first
      | (have hqz := hq1; clear hqz; go_at_call 19; (first | refine (eq_Bits ha0k1 ((Oxa01.out.b hq1)).orow (owned ho1).orow).mono ?_); rintro e w11 ⟨rfl, hq2⟩)
      | (go_at_call 26; (first | refine (to_Bits ha0k1 (Fa01.out).row).mono ?_ | refine (to_Bits ha0k1 (GRow.drew (Fa01.out).row)).mono ?_); rintro e w10 ⟨ya0A1, ya0c1, rfl, ho1, hq1'⟩; have hq1 := of_drew hq1'; clear hq1'))
  replace FB := Lib.hid (FB.out.b hq1)
  replace Fa01 := Lib.hid (Fa01.out.b hq1)
  replace Fa11 := Lib.hid (Fa11.out.b hq1)
  replace Ba0 := Lib.hid (Ba0.out.b hq1)
  replace Ba1 := Lib.hid (Ba1.out.b hq1)
  replace Xmr0 := Lib.hid (Xmr0.out.b hq1)
  replace Vmr01 := Lib.hid (Vmr01.out.b hq1)
  replace Vmr02 := Lib.hid (Vmr02.out.b hq1)
  replace Vmr03 := Lib.hid (Vmr03.out.b hq1)
  replace Oxa01 := Lib.hid (Oxa01.out.b hq1)
  replace Yxa0 := Lib.hid (Yxa0.out.b hq1)
  replace Oxa11 := Lib.hid (Oxa11.out.b hq1)
  replace Yxa1 := Lib.hid (Yxa1.out.b hq1)
  replace Ogr01 := Lib.hid (Ogr01.out.b hq1)
  replace Ogr02 := Lib.hid (Ogr02.out.b hq1)
  replace Ogr03 := Lib.hid (Ogr03.out.b hq1)
  replace Xgr0 := Lib.hid (Xgr0.out.b hq1)
  replace FB := Lib.hid (FB.out.b hq2)
  replace Fa01 := Lib.hid (Fa01.out.b hq2)
  replace Fa11 := Lib.hid (Fa11.out.b hq2)
  replace Ba0 := Lib.hid (Ba0.out.b hq2)
  replace Ba1 := Lib.hid (Ba1.out.b hq2)
  replace Xmr0 := Lib.hid (Xmr0.out.b hq2)
  replace Vmr01 := Lib.hid (Vmr01.out.b hq2)
  replace Vmr02 := Lib.hid (Vmr02.out.b hq2)
  replace Vmr03 := Lib.hid (Vmr03.out.b hq2)
  replace Oxa01 := Lib.hid (Oxa01.out.b hq2)
  replace Yxa0 := Lib.hid (Yxa0.out.b hq2)
  replace Oxa11 := Lib.hid (Oxa11.out.b hq2)
  replace Yxa1 := Lib.hid (Yxa1.out.b hq2)
  replace Ogr01 := Lib.hid (Ogr01.out.b hq2)
  replace Ogr02 := Lib.hid (Ogr02.out.b hq2)
  replace Ogr03 := Lib.hid (Ogr03.out.b hq2)
  replace Xgr0 := Lib.hid (Xgr0.out.b hq2)
  have z_w10 : w9.heap.size ≤ w10.heap.size := by have hsz := hq1.size; first | omega | (simp at hsz; omega)
  have z_w11 : w10.heap.size ≤ w11.heap.size := hq2.size
  clear c_Ba0_0 c_Ba0_1 c_Yxa0_0 c_Yxa0_1
  clear hq1 hq2 ho1
  have c_Ba1_0 := Ba1.out.now 0 _ rfl
  have c_Ba1_1 := Ba1.out.now 1 _ rfl
  have c_Yxa1_0 := Yxa1.out.now 0 _ rfl
  have c_Yxa1_1 := Yxa1.out.now 1 _ rfl
  go_wp2_with fail
  go_region_held3 (fun w' => w'.cell? ⟨w.heap.size + 1, 0, none⟩ = some (.int .i64 a1z0) ∧ w'.cell? ⟨w.heap.size + 1, 1, none⟩ = some (.slice a1A1 a1n1 a1c1) ∧ w'.cell? ⟨w7.heap.size, 0, none⟩ = some (.int .i64 a1z0) ∧ w'.cell? ⟨w7.heap.size, 1, none⟩ = some (.slice xa1A1 a1n1 xa1c1))
    (first | (go_keep; done) | exact ⟨(((Ba1.out.b hq1).b hq2)).now 0 _ rfl, (((Ba1.out.b hq1).b hq2)).now 1 _ rfl, (((Yxa1.out.b hq1).b hq2)).now 0 _ rfl, (((Yxa1.out.b hq1).b hq2)).now 1 _ rfl⟩ | exact ⟨((Ba1.out.b hq1)).now 0 _ rfl, ((Ba1.out.b hq1)).now 1 _ rfl, ((Yxa1.out.b hq1)).now 0 _ rfl, ((Yxa1.out.b hq1)).now 1 _ rfl⟩)
    (first
      | (have hqz := hq1; clear hqz; go_at_call 19; (first | refine (eq_Bits ha1k1 ((Oxa11.out.b hq1)).orow (owned ho1).orow).mono ?_); rintro e w13 ⟨rfl, hq2⟩)
      | (go_at_call 26; (first | refine (to_Bits ha1k1 (Fa11.out).row).mono ?_ | refine (to_Bits ha1k1 (GRow.drew (Fa11.out).row)).mono ?_); rintro e w12 ⟨ya1A1, ya1c1, rfl, ho1, hq1'⟩; have hq1 := of_drew hq1'; clear hq1'))
  replace FB := Lib.hid (FB.out.b hq1)
  replace Fa01 := Lib.hid (Fa01.out.b hq1)
  replace Fa11 := Lib.hid (Fa11.out.b hq1)
  replace Ba0 := Lib.hid (Ba0.out.b hq1)
  replace Ba1 := Lib.hid (Ba1.out.b hq1)
  replace Xmr0 := Lib.hid (Xmr0.out.b hq1)
  replace Vmr01 := Lib.hid (Vmr01.out.b hq1)
  replace Vmr02 := Lib.hid (Vmr02.out.b hq1)
  replace Vmr03 := Lib.hid (Vmr03.out.b hq1)
  replace Oxa01 := Lib.hid (Oxa01.out.b hq1)
  replace Yxa0 := Lib.hid (Yxa0.out.b hq1)
  replace Oxa11 := Lib.hid (Oxa11.out.b hq1)
  replace Yxa1 := Lib.hid (Yxa1.out.b hq1)
  replace Ogr01 := Lib.hid (Ogr01.out.b hq1)
  replace Ogr02 := Lib.hid (Ogr02.out.b hq1)
  replace Ogr03 := Lib.hid (Ogr03.out.b hq1)
  replace Xgr0 := Lib.hid (Xgr0.out.b hq1)
  replace FB := Lib.hid (FB.out.b hq2)
  replace Fa01 := Lib.hid (Fa01.out.b hq2)
  replace Fa11 := Lib.hid (Fa11.out.b hq2)
  replace Ba0 := Lib.hid (Ba0.out.b hq2)
  replace Ba1 := Lib.hid (Ba1.out.b hq2)
  replace Xmr0 := Lib.hid (Xmr0.out.b hq2)
  replace Vmr01 := Lib.hid (Vmr01.out.b hq2)
  replace Vmr02 := Lib.hid (Vmr02.out.b hq2)
  replace Vmr03 := Lib.hid (Vmr03.out.b hq2)
  replace Oxa01 := Lib.hid (Oxa01.out.b hq2)
  replace Yxa0 := Lib.hid (Yxa0.out.b hq2)
  replace Oxa11 := Lib.hid (Oxa11.out.b hq2)
  replace Yxa1 := Lib.hid (Yxa1.out.b hq2)
  replace Ogr01 := Lib.hid (Ogr01.out.b hq2)
  replace Ogr02 := Lib.hid (Ogr02.out.b hq2)
  replace Ogr03 := Lib.hid (Ogr03.out.b hq2)
  replace Xgr0 := Lib.hid (Xgr0.out.b hq2)
  have z_w12 : w11.heap.size ≤ w12.heap.size := by have hsz := hq1.size; first | omega | (simp at hsz; omega)
  have z_w13 : w12.heap.size ≤ w13.heap.size := hq2.size
  clear c_Ba1_0 c_Ba1_1 c_Yxa1_0 c_Yxa1_1
  clear hq1 hq2 ho1
  have c_Yxa0_0 := Yxa0.out.now 0 _ rfl
  have c_Yxa0_1 := Yxa0.out.now 1 _ rfl
  have c_Yxa1_0 := Yxa1.out.now 0 _ rfl
  have c_Yxa1_1 := Yxa1.out.now 1 _ rfl
  go_wp2_with fail
  refine (mark_Bits ha0k1 Oxa01.out.now Oxa01.out.top (by omega) (by omega)).mono ?_; rintro e w14 ⟨rfl, hm0, hg⟩
  replace FB := Lib.hid (FB.out.far hg (by omega))
  replace Fa01 := Lib.hid (Fa01.out.far hg (by omega))
  replace Fa11 := Lib.hid (Fa11.out.far hg (by omega))
  replace Ba0 := Lib.hid (Ba0.out.far hg (by omega))
  replace Ba1 := Lib.hid (Ba1.out.far hg (by omega))
  replace Xmr0 := Lib.hid (Xmr0.out.far hg (by omega))
  replace Vmr01 := Lib.hid (Vmr01.out.far hg (by omega))
  replace Vmr02 := Lib.hid (Vmr02.out.far hg (by omega))
  replace Vmr03 := Lib.hid (Vmr03.out.far hg (by omega))
  replace Yxa0 := Lib.hid (Yxa0.out.far hg (by omega))
  replace Oxa11 := Lib.hid (Oxa11.out.far hg (by omega))
  replace Yxa1 := Lib.hid (Yxa1.out.far hg (by omega))
  replace Ogr01 := Lib.hid (Ogr01.out.far hg (by omega))
  replace Ogr02 := Lib.hid (Ogr02.out.far hg (by omega))
  replace Ogr03 := Lib.hid (Ogr03.out.far hg (by omega))
  replace Xgr0 := Lib.hid (Xgr0.out.far hg (by omega))
  have z_w14 : w13.heap.size ≤ w14.heap.size := by have hsz := hg.size; first | omega | (simp at hsz; omega)
  replace Oxa01 := Lib.hid (At.mk hm0 (Nat.le_trans Oxa01.out.top hg.size) (Ow.lives _ _ _ _ _ _))
  clear c_Yxa0_0 c_Yxa0_1 c_Yxa1_0 c_Yxa1_1
  clear hg hm0
  clear Oxa01 Yxa0
  have c_Yxa1_0 := Yxa1.out.now 0 _ rfl
  have c_Yxa1_1 := Yxa1.out.now 1 _ rfl
  go_wp2_with fail
  refine (mark_Bits ha1k1 Oxa11.out.now Oxa11.out.top (by omega) (by omega)).mono ?_; rintro e w15 ⟨rfl, hm0, hg⟩
  replace FB := Lib.hid (FB.out.far hg (by omega))
  replace Fa01 := Lib.hid (Fa01.out.far hg (by omega))
  replace Fa11 := Lib.hid (Fa11.out.far hg (by omega))
  replace Ba0 := Lib.hid (Ba0.out.far hg (by omega))
  replace Ba1 := Lib.hid (Ba1.out.far hg (by omega))
  replace Xmr0 := Lib.hid (Xmr0.out.far hg (by omega))
  replace Vmr01 := Lib.hid (Vmr01.out.far hg (by omega))
  replace Vmr02 := Lib.hid (Vmr02.out.far hg (by omega))
  replace Vmr03 := Lib.hid (Vmr03.out.far hg (by omega))
  replace Yxa1 := Lib.hid (Yxa1.out.far hg (by omega))
  replace Ogr01 := Lib.hid (Ogr01.out.far hg (by omega))
  replace Ogr02 := Lib.hid (Ogr02.out.far hg (by omega))
  replace Ogr03 := Lib.hid (Ogr03.out.far hg (by omega))
  replace Xgr0 := Lib.hid (Xgr0.out.far hg (by omega))
  have z_w15 : w14.heap.size ≤ w15.heap.size := by have hsz := hg.size; first | omega | (simp at hsz; omega)
  replace Oxa11 := Lib.hid (At.mk hm0 (Nat.le_trans Oxa11.out.top hg.size) (Ow.lives _ _ _ _ _ _))
  clear c_Yxa1_0 c_Yxa1_1
  clear hg hm0
  clear Oxa11 Yxa1
  have c_Xgr0_0 := Xgr0.out.now 0 _ rfl
  have c_Xgr0_1 := Xgr0.out.now 1 _ rfl
  have c_Xgr0_2 := Xgr0.out.now 2 _ rfl
  have c_Xgr0_3 := Xgr0.out.now 3 _ rfl
  have c_Xmr0_0 := Xmr0.out.now 0 _ rfl
  have c_Xmr0_1 := Xmr0.out.now 1 _ rfl
  have c_Xmr0_2 := Xmr0.out.now 2 _ rfl
  have c_Xmr0_3 := Xmr0.out.now 3 _ rfl
  go_wp2_with fail
  refine (eq_Ranked hr0m1 hr0m2 hr0m3 Ogr01.out.orow Ogr02.out.orow Ogr03.out.orow Vmr01.out.row Vmr02.out.row Vmr03.out.row).mono ?_; rintro e w16 ⟨rfl, hb⟩
  replace FB := Lib.hid (FB.out.b hb)
  replace Fa01 := Lib.hid (Fa01.out.b hb)
  replace Fa11 := Lib.hid (Fa11.out.b hb)
  replace Ba0 := Lib.hid (Ba0.out.b hb)
  replace Ba1 := Lib.hid (Ba1.out.b hb)
  replace Xmr0 := Lib.hid (Xmr0.out.b hb)
  replace Vmr01 := Lib.hid (Vmr01.out.b hb)
  replace Vmr02 := Lib.hid (Vmr02.out.b hb)
  replace Vmr03 := Lib.hid (Vmr03.out.b hb)
  replace Ogr01 := Lib.hid (Ogr01.out.b hb)
  replace Ogr02 := Lib.hid (Ogr02.out.b hb)
  replace Ogr03 := Lib.hid (Ogr03.out.b hb)
  replace Xgr0 := Lib.hid (Xgr0.out.b hb)
  have z_w16 : w15.heap.size ≤ w16.heap.size := by have hsz := hb.size; first | omega | (simp at hsz; omega)
  clear c_Xgr0_0 c_Xgr0_1 c_Xgr0_2 c_Xgr0_3 c_Xmr0_0 c_Xmr0_1 c_Xmr0_2 c_Xmr0_3
  clear hb
  have c_Xgr0_0 := Xgr0.out.now 0 _ rfl
  have c_Xgr0_1 := Xgr0.out.now 1 _ rfl
  have c_Xgr0_2 := Xgr0.out.now 2 _ rfl
  have c_Xgr0_3 := Xgr0.out.now 3 _ rfl
  go_wp2_with fail
  refine (mark_Ranked hr0m1 hr0m2 hr0m3 Ogr01.out.now Ogr02.out.now Ogr03.out.now Ogr01.out.top hap_g_0 hap_g_1 hap_g_2 (by omega) (by omega)).mono ?_; rintro e w17 ⟨rfl, hm0, hm1, hm2, hg⟩
  replace FB := Lib.hid (FB.out.far hg (by omega))
  replace Fa01 := Lib.hid (Fa01.out.far hg (by omega))
  replace Fa11 := Lib.hid (Fa11.out.far hg (by omega))
  replace Ba0 := Lib.hid (Ba0.out.far hg (by omega))
  replace Ba1 := Lib.hid (Ba1.out.far hg (by omega))
  replace Xmr0 := Lib.hid (Xmr0.out.far hg (by omega))
  replace Vmr01 := Lib.hid (Vmr01.out.far hg (by omega))
  replace Vmr02 := Lib.hid (Vmr02.out.far hg (by omega))
  replace Vmr03 := Lib.hid (Vmr03.out.far hg (by omega))
  replace Xgr0 := Lib.hid (Xgr0.out.far hg (by omega))
  have z_w17 : w16.heap.size ≤ w17.heap.size := by have hsz := hg.size; first | omega | (simp at hsz; omega)
  replace Ogr01 := Lib.hid (At.mk hm0 (Nat.le_trans Ogr01.out.top hg.size) (Ow.lives _ _ _ _ _ _))
  replace Ogr02 := Lib.hid (At.mk hm1 (Nat.le_trans Ogr02.out.top hg.size) (Ow.lives _ _ _ _ _ _))
  replace Ogr03 := Lib.hid (At.mk hm2 (Nat.le_trans Ogr03.out.top hg.size) (Ow.lives _ _ _ _ _ _))
  clear c_Xgr0_0 c_Xgr0_1 c_Xgr0_2 c_Xgr0_3
  clear hg hm0 hm1 hm2
  have c_Xgr0_0 := Xgr0.out.now 0 _ rfl
  have c_Xgr0_1 := Xgr0.out.now 1 _ rfl
  have c_Xgr0_2 := Xgr0.out.now 2 _ rfl
  have c_Xgr0_3 := Xgr0.out.now 3 _ rfl
  go_wp2_with fail
  refine (held_Ranked hr0m1 hr0m2 hr0m3 Ogr01.out.orow Ogr02.out.orow Ogr03.out.orow (by omega) (by omega)).mono ?_; rintro e w18 ⟨rfl, hb⟩
  replace FB := Lib.hid (FB.out.b hb)
  replace Fa01 := Lib.hid (Fa01.out.b hb)
  replace Fa11 := Lib.hid (Fa11.out.b hb)
  replace Ba0 := Lib.hid (Ba0.out.b hb)
  replace Ba1 := Lib.hid (Ba1.out.b hb)
  replace Xmr0 := Lib.hid (Xmr0.out.b hb)
  replace Vmr01 := Lib.hid (Vmr01.out.b hb)
  replace Vmr02 := Lib.hid (Vmr02.out.b hb)
  replace Vmr03 := Lib.hid (Vmr03.out.b hb)
  replace Ogr01 := Lib.hid (Ogr01.out.b hb)
  replace Ogr02 := Lib.hid (Ogr02.out.b hb)
  replace Ogr03 := Lib.hid (Ogr03.out.b hb)
  replace Xgr0 := Lib.hid (Xgr0.out.b hb)
  have z_w18 : w17.heap.size ≤ w18.heap.size := by have hsz := hb.size; first | omega | (simp at hsz; omega)
  clear c_Xgr0_0 c_Xgr0_1 c_Xgr0_2 c_Xgr0_3
  clear hb
  have c_Ba0_0 := Ba0.out.now 0 _ rfl
  have c_Ba0_1 := Ba0.out.now 1 _ rfl
  have c_Ba1_0 := Ba1.out.now 0 _ rfl
  have c_Ba1_1 := Ba1.out.now 1 _ rfl
  go_upto_region 31 with fail
  have hcur : w18.heap.size ≤ w18.heap.size := Nat.le_refl _
  have HK : ∀ w', Below w18.heap.size w18 w' → w'.cell? ⟨w.heap.size, 0, none⟩ = some (.int .i64 a0z0) ∧ w'.cell? ⟨w.heap.size, 1, none⟩ = some (.slice a0A1 a0n1 a0c1) ∧ w'.cell? ⟨w.heap.size + 1, 0, none⟩ = some (.int .i64 a1z0) ∧ w'.cell? ⟨w.heap.size + 1, 1, none⟩ = some (.slice a1A1 a1n1 a1c1) := fun w' hb => ⟨(Ba0.out.b hb).now 0 _ rfl, (Ba0.out.b hb).now 1 _ rfl, (Ba1.out.b hb).now 0 _ rfl, (Ba1.out.b hb).now 1 _ rfl⟩
  go_cut [15, 16] (fun s15 s16 wx => ∃ (bx_h : Nat) (hr0A1 : Option Addr) (hr0c1 : Nat) (hr0A2 : Option Addr) (hr0c2 : Nat) (hr0A3 : Option Addr) (hr0c3 : Nat), s15 = .pointer (some ⟨bx_h, 0, none⟩) ∧ s16 = .bool r1z0 ∧ w18.heap.size ≤ bx_h ∧ At bx_h (bx_h + 1) (BoxC bx_h [.int .i64 r0z0, .slice hr0A1 r0n1 hr0c1, .slice hr0A2 r0n2 hr0c2, .slice hr0A3 r0n3 hr0c3]) wx ∧ GRow wx hr0A1 r0n1 (intV r0X1) ∧ GRow wx hr0A2 r0n2 (intV r0X2) ∧ GRow wx hr0A3 r0n3 (intV r0X3) ∧ Below w18.heap.size w18 wx)
  case first =>
    go_region_held3 (fun w' => w'.cell? ⟨w.heap.size, 0, none⟩ = some (.int .i64 a0z0) ∧ w'.cell? ⟨w.heap.size, 1, none⟩ = some (.slice a0A1 a0n1 a0c1) ∧ w'.cell? ⟨w.heap.size + 1, 0, none⟩ = some (.int .i64 a1z0) ∧ w'.cell? ⟨w.heap.size + 1, 1, none⟩ = some (.slice a1A1 a1n1 a1c1))
      (first | (go_keep; done) | exact HK _ (below_setAt (below_setAt (below_setAt (below_setAt (hq3) NB.ge _) NB.ge _) NB.ge _) NB.ge _) | exact HK _ (hq3.alloc hq3.size _) | exact HK _ hq3 | exact HK _ (hq2.alloc hq2.size _) | exact HK _ hq2 | exact HK _ (hq1.alloc hq1.size _) | exact HK _ hq1 | exact HK _ ((Below.refl _ _).alloc (Nat.le_refl _) _))
      (first
        | (have hqz := hq2; clear hqz; go_at_call 38; (first | refine (S2.out _ _ _ _ _ hG_a01 hG_a11).mono ?_ | refine (S2.out _ _ _ _ _ (hG_a01.al _) (hG_a11.al _)).mono ?_); rintro e w21 ⟨hr0A1, hr0c1, hr0A2, hr0c2, hr0A3, hr0c3, rfl, hrr01, hrr02, hrr03, hap_h_0, hap_h_1, hap_h_2, hb⟩; (first | (have hq3 := hq2.trans (hb.mono hq2.size)) | (have hq3 := hq2.trans ((below_al hb).mono hq2.size))); (first | (replace hrr01 := Ow.over hrr01 NB.lt; replace hrr02 := Ow.over hrr02 NB.lt; replace hrr03 := Ow.over hrr03 NB.lt; replace NB := NB.b hb; have dd0 := NB.cell 0 _ rfl; have ff0 := NB.free 0; have dd1 := NB.cell 1 _ rfl; have ff1 := NB.free 1; have dd2 := NB.cell 2 _ rfl; have ff2 := NB.free 2; have dd3 := NB.cell 3 _ rfl; have ff3 := NB.free 3) | (have NB := NBX.new hq2.size hb; replace hrr01 := Ow.overNew hrr01; replace hrr02 := Ow.overNew hrr02; replace hrr03 := Ow.overNew hrr03; have dd0 := NB.cell 0 _ rfl; have ff0 := NB.free 0; have dd1 := NB.cell 1 _ rfl; have ff1 := NB.free 1; have dd2 := NB.cell 2 _ rfl; have ff2 := NB.free 2; have dd3 := NB.cell 3 _ rfl; have ff3 := NB.free 3) | skip); clear hb)
        | (have hqz := hq1; clear hqz; go_at_call 26; (first | refine (to_Bits ha1k1 (Fa11.out.b hq1).row).mono ?_ | refine (to_Bits ha1k1 ((Fa11.out.b hq1).row.al _)).mono ?_); rintro e w20 ⟨tha1A1, tha1c1, rfl, ho_a11, hb⟩; (first | (have hq2 := hq1.trans (hb.mono hq1.size)) | (have hq2 := hq1.trans ((below_al hb).mono hq1.size))); (first | (replace NB := NB.b hb) | (have NB := NBX.new hq1.size hb) | skip); (first | (replace hG_a01 := hG_a01.b hb) | (replace hG_a01 := hG_a01.b (below_al hb))); have hG_a11 := (Ow.rd ho_a11).row (Nat.le_refl _); clear hb ho_a11)
        | (go_at_call 26; (first | refine (to_Bits ha0k1 Fa01.out.row).mono ?_ | refine (to_Bits ha0k1 Fa01.out.rowD).mono ?_ | refine (to_Bits ha0k1 (Fa01.out.row.al _)).mono ?_ | refine (to_Bits ha0k1 (Fa01.out.row.alD _)).mono ?_); rintro e w19 ⟨tha0A1, tha0c1, rfl, ho_a01, hb'⟩; have hb := of_drew hb'; clear hb'; (first | (have hq1 : Below w18.heap.size w18 w19 := hb) | (have hq1 : Below w18.heap.size w18 w19 := below_al hb)); (first | (replace NB := NB.b hb) | (have NB := NBX.new hcur hb) | skip); have hG_a01 := (Ow.rd ho_a01).row (Nat.le_refl _); clear hb ho_a01))
    all_goals go_wp2_with fail
    all_goals go_meet
    all_goals first
      | exact ⟨_, _, _, _, _, _, _, rfl, rfl, NB.ge, ((((NB.set 0 _).set 1 _).set 2 _).set 3 _).box, At.orow ((((hrr01.setC (Nat.le_refl _) 0 _).setC (Nat.le_refl _) 1 _).setC (Nat.le_refl _) 2 _).setC (Nat.le_refl _) 3 _), At.orow ((((hrr02.setC (Nat.le_refl _) 0 _).setC (Nat.le_refl _) 1 _).setC (Nat.le_refl _) 2 _).setC (Nat.le_refl _) 3 _), At.orow ((((hrr03.setC (Nat.le_refl _) 0 _).setC (Nat.le_refl _) 1 _).setC (Nat.le_refl _) 2 _).setC (Nat.le_refl _) 3 _), (below_setAt (below_setAt (below_setAt (below_setAt hq3 NB.ge _) NB.ge _) NB.ge _) NB.ge _)⟩
      | exact ⟨_, _, _, _, _, _, _, rfl, rfl, hq3.size, boxed _ _ _, ((Ow.rd hrr01).row (Nat.le_refl _)).al _, ((Ow.rd hrr02).row (Nat.le_refl _)).al _, ((Ow.rd hrr03).row (Nat.le_refl _)).al _, hq3.alloc hq3.size _⟩
  case rest =>
  obtain ⟨bx_h, hr0A1, hr0c1, hr0A2, hr0c2, hr0A3, hr0c3, rfl, rfl, hge, hbx, hrr01, hrr02, hrr03, hbl⟩ := hcut
  clear HK hcur
  clear c_Ba0_0 c_Ba0_1 c_Ba1_0 c_Ba1_1
  replace FB := Lib.hid (FB.out.b hbl)
  replace Fa01 := Lib.hid (Fa01.out.b hbl)
  replace Fa11 := Lib.hid (Fa11.out.b hbl)
  replace Ba0 := Lib.hid (Ba0.out.b hbl)
  replace Ba1 := Lib.hid (Ba1.out.b hbl)
  replace Xmr0 := Lib.hid (Xmr0.out.b hbl)
  replace Vmr01 := Lib.hid (Vmr01.out.b hbl)
  replace Vmr02 := Lib.hid (Vmr02.out.b hbl)
  replace Vmr03 := Lib.hid (Vmr03.out.b hbl)
  replace Ogr01 := Lib.hid (Ogr01.out.b hbl)
  replace Ogr02 := Lib.hid (Ogr02.out.b hbl)
  replace Ogr03 := Lib.hid (Ogr03.out.b hbl)
  replace Xgr0 := Lib.hid (Xgr0.out.b hbl)
  have z_wc : w18.heap.size ≤ wc.heap.size := hbl.size
  have z_bx_h : w18.heap.size ≤ bx_h := hge
  have zt_bx_h : bx_h + 1 ≤ wc.heap.size := hbx.top
  have Xhr0 := Lib.hid (hbx)
  have Vhr01 := Lib.hid (rd_of_row hrr01)
  have Vhr02 := Lib.hid (rd_of_row hrr02)
  have Vhr03 := Lib.hid (rd_of_row hrr03)
  clear hbl hge hbx hrr01 hrr02 hrr03
  have c_Xhr0_0 := Xhr0.out.now 0 _ rfl
  have c_Xhr0_1 := Xhr0.out.now 1 _ rfl
  have c_Xhr0_2 := Xhr0.out.now 2 _ rfl
  have c_Xhr0_3 := Xhr0.out.now 3 _ rfl
  have c_Xmr0_0 := Xmr0.out.now 0 _ rfl
  have c_Xmr0_1 := Xmr0.out.now 1 _ rfl
  have c_Xmr0_2 := Xmr0.out.now 2 _ rfl
  have c_Xmr0_3 := Xmr0.out.now 3 _ rfl
  go_wp2_with fail
  refine (eq_Ranked hr0m1 hr0m2 hr0m3 Vhr01.out.row Vhr02.out.row Vhr03.out.row Vmr01.out.row Vmr02.out.row Vmr03.out.row).mono ?_; rintro e w22 ⟨rfl, hb⟩
  replace FB := Lib.hid (FB.out.b hb)
  replace Fa01 := Lib.hid (Fa01.out.b hb)
  replace Fa11 := Lib.hid (Fa11.out.b hb)
  replace Ba0 := Lib.hid (Ba0.out.b hb)
  replace Ba1 := Lib.hid (Ba1.out.b hb)
  replace Xmr0 := Lib.hid (Xmr0.out.b hb)
  replace Vmr01 := Lib.hid (Vmr01.out.b hb)
  replace Vmr02 := Lib.hid (Vmr02.out.b hb)
  replace Vmr03 := Lib.hid (Vmr03.out.b hb)
  replace Ogr01 := Lib.hid (Ogr01.out.b hb)
  replace Ogr02 := Lib.hid (Ogr02.out.b hb)
  replace Ogr03 := Lib.hid (Ogr03.out.b hb)
  replace Xgr0 := Lib.hid (Xgr0.out.b hb)
  replace Xhr0 := Lib.hid (Xhr0.out.b hb)
  replace Vhr01 := Lib.hid (Vhr01.out.b hb)
  replace Vhr02 := Lib.hid (Vhr02.out.b hb)
  replace Vhr03 := Lib.hid (Vhr03.out.b hb)
  have z_w22 : wc.heap.size ≤ w22.heap.size := by have hsz := hb.size; first | omega | (simp at hsz; omega)
  clear c_Xhr0_0 c_Xhr0_1 c_Xhr0_2 c_Xhr0_3 c_Xmr0_0 c_Xmr0_1 c_Xmr0_2 c_Xmr0_3
  clear hb
  have c_Xgr0_0 := Xgr0.out.now 0 _ rfl
  have c_Xgr0_1 := Xgr0.out.now 1 _ rfl
  have c_Xgr0_2 := Xgr0.out.now 2 _ rfl
  have c_Xgr0_3 := Xgr0.out.now 3 _ rfl
  go_wp2_with fail
  refine (held_Ranked hr0m1 hr0m2 hr0m3 Ogr01.out.orow Ogr02.out.orow Ogr03.out.orow (by omega) (by omega)).mono ?_; rintro e w23 ⟨rfl, hb⟩
  replace FB := Lib.hid (FB.out.b hb)
  replace Fa01 := Lib.hid (Fa01.out.b hb)
  replace Fa11 := Lib.hid (Fa11.out.b hb)
  replace Ba0 := Lib.hid (Ba0.out.b hb)
  replace Ba1 := Lib.hid (Ba1.out.b hb)
  replace Xmr0 := Lib.hid (Xmr0.out.b hb)
  replace Vmr01 := Lib.hid (Vmr01.out.b hb)
  replace Vmr02 := Lib.hid (Vmr02.out.b hb)
  replace Vmr03 := Lib.hid (Vmr03.out.b hb)
  replace Ogr01 := Lib.hid (Ogr01.out.b hb)
  replace Ogr02 := Lib.hid (Ogr02.out.b hb)
  replace Ogr03 := Lib.hid (Ogr03.out.b hb)
  replace Xgr0 := Lib.hid (Xgr0.out.b hb)
  replace Xhr0 := Lib.hid (Xhr0.out.b hb)
  replace Vhr01 := Lib.hid (Vhr01.out.b hb)
  replace Vhr02 := Lib.hid (Vhr02.out.b hb)
  replace Vhr03 := Lib.hid (Vhr03.out.b hb)
  have z_w23 : w22.heap.size ≤ w23.heap.size := by have hsz := hb.size; first | omega | (simp at hsz; omega)
  clear c_Xgr0_0 c_Xgr0_1 c_Xgr0_2 c_Xgr0_3
  clear hb
  go_wp2_with fail
  go_ret
  exact ⟨rfl, FB.out.now⟩

theorem walk_FnExactUnpackDirectory (w : World) (z : Int) (_wz : (Lit.int .i64 z).wf = true) (A : Option Addr) (n c : Nat) (X : Nat → Int) (m1 : n ≤ maxLen) (y1 : IRow w A n X) (y : Int) (_wy : (Lit.int .i64 y).wf = true) (B : Option Addr) (m d : Nat) (Y : Nat → Int) (m2 : m ≤ maxLen) (y2 : IRow w B m Y) :
    Calls Try.prog 11 #[.agg #[.int .i64 z, .slice A n c], .agg #[.int .i64 y, .slice B m d]] w fun e w' => e = .returned (.bool true) ∧ Below w.heap.size w w' := by
  by_cases hg : Good z n X
  · obtain ⟨z, rfl⟩ := Int.eq_ofNat_of_zero_le hg.1
    have hz1 : z ≤ 4096 := by have := hg.2.1; omega
    have hn1 : n = (z + 15) / 16 := by have := hg.2.2.1; omega
    by_cases hq : y = ((13 * ((z + 63) / 64) + 6 * n : Nat) : Int) ∧ SameI m Y ((13 * ((z + 63) / 64) + 6 * n + 15) / 16) (packX (wdR X) ((z + 63) / 64) n)
    · have hh : Good y m Y := by rw [hq.1]; exact good_same (pack_good (W := wdR X) (s := (z + 63) / 64) (n := n) (by omega)) hq.2
      exact main_FnExactUnpackDirectory z n X y m Y z n X ((z + 63) / 64) (supI (wdR X)) n (blkI (wdR X)) true A c B d w m1 y1 m2 y2 (by omega) (by omega) (by omega)
        (fun hs A c B d w g1 g2 => spec_unpack_yes z y A n c X B m d Y w (by omega) (by omega) g1 g2 hg hh hq)
        (fun hs A c B d w g1 g2 => impl_unpack_yes z y A n c X B m d Y w (by omega) (by omega) g1 g2 hg hq.1 hq.2)
    · refine main_FnExactUnpackDirectory z n X y m Y 0 0 (fun _ => 0) 0 (fun _ => 0) 0 (fun _ => 0) false A c B d w m1 y1 m2 y2 (by omega) (by omega) (by omega) ?_ ?_
      · by_cases hh : Good y m Y
        · exact (fun hs A c B d w g1 g2 => spec_unpack_no z y A n c X B m d Y w (by omega) (by omega) g1 g2 hg hh hq)
        · exact (fun hs A c B d w g1 g2 => spec_unpack_bad2 z y A n c X B m d Y w (by omega) (by omega) g1 g2 hg hh)
      · by_cases hd : y = ((13 * ((z + 63) / 64) + 6 * n : Nat) : Int)
        · exact (fun hs A c B d w g1 g2 => impl_unpack_words z y A n c X B m d Y w (by omega) (by omega) g1 g2 hg hd (fun h => hq ⟨hd, h⟩))
        · exact (fun hs A c B d w g1 g2 => impl_unpack_size z y A n c X B m d Y w (by omega) (by omega) g1 g2 hg hd)
  · exact main_FnExactUnpackDirectory z n X y m Y 0 0 (fun _ => 0) 0 (fun _ => 0) 0 (fun _ => 0) false A c B d w m1 y1 m2 y2 (by omega) (by omega) (by omega)
      (fun hs A c B d w g1 g2 => spec_unpack_bad z y A n c X B m d Y w (by omega) (by omega) g1 g2 hg)
      (fun hs A c B d w g1 g2 => impl_unpack_bad z y A n c X B m d Y w (by omega) (by omega) g1 g2 hg)
end Go.Proofs.Ytdkkflejpcgipab
