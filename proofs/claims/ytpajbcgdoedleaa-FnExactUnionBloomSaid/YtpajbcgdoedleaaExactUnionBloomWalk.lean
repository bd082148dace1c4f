/- The law of UnionBloom, walked: what both sides answer comes in as hypotheses. -/
import Derived.Test.YtpajbcgdoedleaaObjBl
import Derived.Test.YtpajbcgdoedleaaBlW
import Derived.Deep.RegionHeld3
import Derived.Deep.DeepCutAuto
namespace Go.Proofs.Ytpajbcgdoedleaa
open Go.RowKit

set_option maxRecDepth 100000 in
set_option maxHeartbeats 8000000 in
theorem main_FnExactUnionBloom (a0z0 : Int) (a0z1 : Int) (a0z2 : Int) (a0n3 : Nat) (a0X3 : Nat → Int) (a1z0 : Int) (a1z1 : Int) (a1z2 : Int) (a1n3 : Nat) (a1X3 : Nat → Int) (r0z0 : Int) (r0z1 : Int) (r0z2 : Int) (r0n3 : Nat) (r0X3 : Nat → Int) (r1z0 : Bool) (a0A3 : Option Addr) (a0c3 : Nat) (a1A3 : Option Addr) (a1c3 : Nat) (w : World) (ha0m3 : a0n3 ≤ maxLen) (ha0r3 : GRow w a0A3 a0n3 (intV a0X3)) (ha1m3 : a1n3 ≤ maxLen) (ha1r3 : GRow w a1A3 a1n3 (intV a1X3)) (hr0m3 : r0n3 ≤ 1048576)
    (s1 : a0n3 + a1n3 ≤ 1048576 → ∀ (ua0A3 : Option Addr) (ua0c3 : Nat) (ua1A3 : Option Addr) (ua1c3 : Nat) (w : World), GRow w ua0A3 a0n3 (intV a0X3) → GRow w ua1A3 a1n3 (intV a1X3) → Calls Try.prog 38 #[.agg #[.int .i64 a0z0, .int .i64 a0z1, .int .i64 a0z2, .slice ua0A3 a0n3 ua0c3], .agg #[.int .i64 a1z0, .int .i64 a1z1, .int .i64 a1z2, .slice ua1A3 a1n3 ua1c3]] w fun e w' => ∃ vr0A3 vr0c3, e = .returned (.tuple #[.agg #[.int .i64 r0z0, .int .i64 r0z1, .int .i64 r0z2, .slice vr0A3 r0n3 vr0c3], .bool r1z0]) ∧ Ow w.heap.size w'.heap.size 3 vr0A3 r0n3 (intV r0X3) w' ∧ Below w.heap.size w w')
    (s2 : a0n3 + a1n3 ≤ 1048576 → ∀ (ua0A3 : Option Addr) (ua0c3 : Nat) (ua1A3 : Option Addr) (ua1c3 : Nat) (w : World), GRow w ua0A3 a0n3 (intV a0X3) → GRow w ua1A3 a1n3 (intV a1X3) → Calls Try.prog 39 #[.agg #[.int .i64 a0z0, .int .i64 a0z1, .int .i64 a0z2, .slice ua0A3 a0n3 ua0c3], .agg #[.int .i64 a1z0, .int .i64 a1z1, .int .i64 a1z2, .slice ua1A3 a1n3 ua1c3]] w fun e w' => ∃ vr0A3 vr0c3, e = .returned (.tuple #[.agg #[.int .i64 r0z0, .int .i64 r0z1, .int .i64 r0z2, .slice vr0A3 r0n3 vr0c3], .bool r1z0]) ∧ Ow w.heap.size w'.heap.size 3 vr0A3 r0n3 (intV r0X3) w' ∧ Below w.heap.size w w') :
    Calls Try.prog 9 #[.agg #[.int .i64 a0z0, .int .i64 a0z1, .int .i64 a0z2, .slice a0A3 a0n3 a0c3], .agg #[.int .i64 a1z0, .int .i64 a1z1, .int .i64 a1z2, .slice a1A3 a1n3 a1c3]] w fun e w' => e = .returned (.bool true) ∧ Below w.heap.size w w' := by
  have S1 := Lib.hid s1
  have S2 := Lib.hid s2
  clear s1 s2
  have FB := Lib.hid (((At.start w).alloc (.cells #[.int .i64 a0z0, .int .i64 a0z1, .int .i64 a0z2, .slice a0A3 a0n3 a0c3] 26)).alloc (.cells #[.int .i64 a1z0, .int .i64 a1z1, .int .i64 a1z2, .slice a1A3 a1n3 a1c3] 26))
  have Fa03 := Lib.hid (((rd_of_row ha0r3).alloc (.cells #[.int .i64 a0z0, .int .i64 a0z1, .int .i64 a0z2, .slice a0A3 a0n3 a0c3] 26)).alloc (.cells #[.int .i64 a1z0, .int .i64 a1z1, .int .i64 a1z2, .slice a1A3 a1n3 a1c3] 26))
  have Fa13 := Lib.hid (((rd_of_row ha1r3).alloc (.cells #[.int .i64 a0z0, .int .i64 a0z1, .int .i64 a0z2, .slice a0A3 a0n3 a0c3] 26)).alloc (.cells #[.int .i64 a1z0, .int .i64 a1z1, .int .i64 a1z2, .slice a1A3 a1n3 a1c3] 26))
  have Ba0 := Lib.hid ((boxed w #[.int .i64 a0z0, .int .i64 a0z1, .int .i64 a0z2, .slice a0A3 a0n3 a0c3] 26).alloc (.cells #[.int .i64 a1z0, .int .i64 a1z1, .int .i64 a1z2, .slice a1A3 a1n3 a1c3] 26))
  have Ba1 := Lib.hid (boxed_at (w.alloc (.cells #[.int .i64 a0z0, .int .i64 a0z1, .int .i64 a0z2, .slice a0A3 a0n3 a0c3] 26)) (w.heap.size + 1) (by simp) #[.int .i64 a1z0, .int .i64 a1z1, .int .i64 a1z2, .slice a1A3 a1n3 a1c3] 26)
  clear ha0r3 ha1r3
  go_enter Try.func9, Try.ntmps9
  go_wp2_with fail
  refine (sz_Bloom ha0m3 (by omega) (by omega)).mono ?_; rintro e w1 ⟨rfl, hb⟩
  replace FB := Lib.hid (FB.out.b hb)
  replace Fa03 := Lib.hid (Fa03.out.b hb)
  replace Fa13 := Lib.hid (Fa13.out.b hb)
  replace Ba0 := Lib.hid (Ba0.out.b hb)
  replace Ba1 := Lib.hid (Ba1.out.b hb)
  have z_w1 : w.heap.size + 2 ≤ w1.heap.size := by have hsz := hb.size; first | omega | (simp at hsz; omega)
  clear hb
  by_cases hZ_a0 : ((a0n3 : Nat) : Int) ≤ (1048576 : Int)
  rotate_left
  · rw [szv_no hZ_a0]
    go_wp2_with fail
    go_ret
    exact ⟨rfl, FB.out.now⟩
  rw [szv_yes hZ_a0]
  have hL_a0 : ¬ (((1048576 : Int) - (((a0n3 : Nat) : Int))) < 0) := by omega
  have c_Ba0_0 := Ba0.out.now 0 _ rfl
  have c_Ba0_1 := Ba0.out.now 1 _ rfl
  have c_Ba0_2 := Ba0.out.now 2 _ rfl
  have c_Ba0_3 := Ba0.out.now 3 _ rfl
  have c_Ba1_0 := Ba1.out.now 0 _ rfl
  have c_Ba1_1 := Ba1.out.now 1 _ rfl
  have c_Ba1_2 := Ba1.out.now 2 _ rfl
  have c_Ba1_3 := Ba1.out.now 3 _ rfl
  go_wp2_with fail
  refine (sz_Bloom ha1m3 (by omega) (by omega)).mono ?_; rintro e w2 ⟨rfl, hb⟩
  replace FB := Lib.hid (FB.out.b hb)
  replace Fa03 := Lib.hid (Fa03.out.b hb)
  replace Fa13 := Lib.hid (Fa13.out.b hb)
  replace Ba0 := Lib.hid (Ba0.out.b hb)
  replace Ba1 := Lib.hid (Ba1.out.b hb)
  have z_w2 : w1.heap.size ≤ w2.heap.size := by have hsz := hb.size; first | omega | (simp at hsz; omega)
  clear c_Ba0_0 c_Ba0_1 c_Ba0_2 c_Ba0_3 c_Ba1_0 c_Ba1_1 c_Ba1_2 c_Ba1_3
  clear hb
  by_cases hZ_a1 : ((a1n3 : Nat) : Int) ≤ ((1048576 : Int) - (((a0n3 : Nat) : Int)))
  rotate_left
  · rw [szv_no hZ_a1]
    go_wp2_with fail
    go_ret
    exact ⟨rfl, FB.out.now⟩
  rw [szv_yes hZ_a1]
  have hL_a1 : ¬ ((((1048576 : Int) - (((a0n3 : Nat) : Int))) - (((a1n3 : Nat) : Int))) < 0) := by omega
  have c_Ba0_0 := Ba0.out.now 0 _ rfl
  have c_Ba0_1 := Ba0.out.now 1 _ rfl
  have c_Ba0_2 := Ba0.out.now 2 _ rfl
  have c_Ba0_3 := Ba0.out.now 3 _ rfl
  have c_Ba1_0 := Ba1.out.now 0 _ rfl
  have c_Ba1_1 := Ba1.out.now 1 _ rfl
  have c_Ba1_2 := Ba1.out.now 2 _ rfl
  have c_Ba1_3 := Ba1.out.now 3 _ rfl
  replace S1 := Lib.hid (S1.out (by omega))
  replace S2 := Lib.hid (S2.out (by omega))
  have ha0k3 : a0n3 ≤ 1048576 := by omega
  have ha1k3 : a1n3 ≤ 1048576 := by omega
  go_upto_region 8 with fail
  have hcur : w2.heap.size ≤ w2.heap.size := Nat.le_refl _
  have HK : ∀ w', Below w2.heap.size w2 w' → w'.cell? ⟨w.heap.size, 0, none⟩ = some (.int .i64 a0z0) ∧ w'.cell? ⟨w.heap.size, 1, none⟩ = some (.int .i64 a0z1) ∧ w'.cell? ⟨w.heap.size, 2, none⟩ = some (.int .i64 a0z2) ∧ w'.cell? ⟨w.heap.size, 3, none⟩ = some (.slice a0A3 a0n3 a0c3) ∧ w'.cell? ⟨w.heap.size + 1, 0, none⟩ = some (.int .i64 a1z0) ∧ w'.cell? ⟨w.heap.size + 1, 1, none⟩ = some (.int .i64 a1z1) ∧ w'.cell? ⟨w.heap.size + 1, 2, none⟩ = some (.int .i64 a1z2) ∧ w'.cell? ⟨w.heap.size + 1, 3, none⟩ = some (.slice a1A3 a1n3 a1c3) := fun w' hb => ⟨(Ba0.out.b hb).now 0 _ rfl, (Ba0.out.b hb).now 1 _ rfl, (Ba0.out.b hb).now 2 _ rfl, (Ba0.out.b hb).now 3 _ rfl, (Ba1.out.b hb).now 0 _ rfl, (Ba1.out.b hb).now 1 _ rfl, (Ba1.out.b hb).now 2 _ rfl, (Ba1.out.b hb).now 3 _ rfl⟩
  go_cut [6, 7] (fun s6 s7 wx => ∃ (bx_m : Nat) (mr0A3 : Option Addr) (mr0c3 : Nat), s6 = .pointer (some ⟨bx_m, 0, none⟩) ∧ s7 = .bool r1z0 ∧ w2.heap.size ≤ bx_m ∧ At bx_m (bx_m + 1) (BoxC bx_m [.int .i64 r0z0, .int .i64 r0z1, .int .i64 r0z2, .slice mr0A3 r0n3 mr0c3]) wx ∧ GRow wx mr0A3 r0n3 (intV r0X3) ∧ Below w2.heap.size w2 wx)
  case first =>
    go_region_held3 (fun w' => w'.cell? ⟨w.heap.size, 0, none⟩ = some (.int .i64 a0z0) ∧ w'.cell? ⟨w.heap.size, 1, none⟩ = some (.int .i64 a0z1) ∧ w'.cell? ⟨w.heap.size, 2, none⟩ = some (.int .i64 a0z2) ∧ w'.cell? ⟨w.heap.size, 3, none⟩ = some (.slice a0A3 a0n3 a0c3) ∧ w'.cell? ⟨w.heap.size + 1, 0, none⟩ = some (.int .i64 a1z0) ∧ w'.cell? ⟨w.heap.size + 1, 1, none⟩ = some (.int .i64 a1z1) ∧ w'.cell? ⟨w.heap.size + 1, 2, none⟩ = some (.int .i64 a1z2) ∧ w'.cell? ⟨w.heap.size + 1, 3, none⟩ = some (.slice a1A3 a1n3 a1c3))
      (first | (go_keep; done) | exact HK _ (below_setAt (below_setAt (below_setAt (below_setAt (hq3) NB.ge _) NB.ge _) NB.ge _) NB.ge _) | exact HK _ (hq3.alloc hq3.size _) | exact HK _ hq3 | exact HK _ (hq2.alloc hq2.size _) | exact HK _ hq2 | exact HK _ (hq1.alloc hq1.size _) | exact HK _ hq1 | exact HK _ ((Below.refl _ _).alloc (Nat.le_refl _) _))
      (first
        | (have hqz := hq2; clear hqz; go_at_call 38; (first | refine (S1.out _ _ _ _ _ hG_a03 hG_a13).mono ?_ | refine (S1.out _ _ _ _ _ (hG_a03.al _) (hG_a13.al _)).mono ?_); rintro e w5 ⟨mr0A3, mr0c3, rfl, hrr03, hb⟩; (first | (have hq3 := hq2.trans (hb.mono hq2.size)) | (have hq3 := hq2.trans ((below_al hb).mono hq2.size))); (first | (replace hrr03 := Ow.over hrr03 NB.lt; replace NB := NB.b hb; have dd0 := NB.cell 0 _ rfl; have ff0 := NB.free 0; have dd1 := NB.cell 1 _ rfl; have ff1 := NB.free 1; have dd2 := NB.cell 2 _ rfl; have ff2 := NB.free 2; have dd3 := NB.cell 3 _ rfl; have ff3 := NB.free 3) | (have NB := NBX.new hq2.size hb; replace hrr03 := Ow.overNew hrr03; have dd0 := NB.cell 0 _ rfl; have ff0 := NB.free 0; have dd1 := NB.cell 1 _ rfl; have ff1 := NB.free 1; have dd2 := NB.cell 2 _ rfl; have ff2 := NB.free 2; have dd3 := NB.cell 3 _ rfl; have ff3 := NB.free 3) | skip); clear hb)
        | (have hqz := hq1; clear hqz; go_at_call 16; (first | refine (to_Bloom ha1k3 (Fa13.out.b hq1).row).mono ?_ | refine (to_Bloom ha1k3 ((Fa13.out.b hq1).row.al _)).mono ?_); rintro e w4 ⟨tma1A3, tma1c3, rfl, ho_a13, hb⟩; (first | (have hq2 := hq1.trans (hb.mono hq1.size)) | (have hq2 := hq1.trans ((below_al hb).mono hq1.size))); (first | (replace NB := NB.b hb) | (have NB := NBX.new hq1.size hb) | skip); (first | (replace hG_a03 := hG_a03.b hb) | (replace hG_a03 := hG_a03.b (below_al hb))); have hG_a13 := (Ow.rd ho_a13).row (Nat.le_refl _); clear hb ho_a13)
        | (go_at_call 16; (first | refine (to_Bloom ha0k3 Fa03.out.row).mono ?_ | refine (to_Bloom ha0k3 Fa03.out.rowD).mono ?_ | refine (to_Bloom ha0k3 (Fa03.out.row.al _)).mono ?_ | refine (to_Bloom ha0k3 (Fa03.out.row.alD _)).mono ?_); rintro e w3 ⟨tma0A3, tma0c3, rfl, ho_a03, hb'⟩; have hb := of_drew hb'; clear hb'; (first | (have hq1 : Below w2.heap.size w2 w3 := hb) | (have hq1 : Below w2.heap.size w2 w3 := below_al hb)); (first | (replace NB := NB.b hb) | (have NB := NBX.new hcur hb) | skip); have hG_a03 := (Ow.rd ho_a03).row (Nat.le_refl _); clear hb ho_a03))
    all_goals go_wp2_with fail
    all_goals go_meet
    all_goals first
      | exact ⟨_, _, _, rfl, rfl, NB.ge, ((((NB.set 0 _).set 1 _).set 2 _).set 3 _).box, At.orow ((((hrr03.setC (Nat.le_refl _) 0 _).setC (Nat.le_refl _) 1 _).setC (Nat.le_refl _) 2 _).setC (Nat.le_refl _) 3 _), (below_setAt (below_setAt (below_setAt (below_setAt hq3 NB.ge _) NB.ge _) NB.ge _) NB.ge _)⟩
      | exact ⟨_, _, _, rfl, rfl, hq3.size, boxed _ _ _, ((Ow.rd hrr03).row (Nat.le_refl _)).al _, hq3.alloc hq3.size _⟩
  case rest =>
  obtain ⟨bx_m, mr0A3, mr0c3, rfl, rfl, hge, hbx, hrr03, hbl⟩ := hcut
  clear HK hcur
  clear c_Ba0_0 c_Ba0_1 c_Ba0_2 c_Ba0_3 c_Ba1_0 c_Ba1_1 c_Ba1_2 c_Ba1_3
  replace FB := Lib.hid (FB.out.b hbl)
  replace Fa03 := Lib.hid (Fa03.out.b hbl)
  replace Fa13 := Lib.hid (Fa13.out.b hbl)
  replace Ba0 := Lib.hid (Ba0.out.b hbl)
  replace Ba1 := Lib.hid (Ba1.out.b hbl)
  have z_wc : w2.heap.size ≤ wc.heap.size := hbl.size
  have z_bx_m : w2.heap.size ≤ bx_m := hge
  have zt_bx_m : bx_m + 1 ≤ wc.heap.size := hbx.top
  have Xmr0 := Lib.hid (hbx)
  have Vmr03 := Lib.hid (rd_of_row hrr03)
  clear hbl hge hbx hrr03
  have c_Ba0_0 := Ba0.out.now 0 _ rfl
  have c_Ba0_1 := Ba0.out.now 1 _ rfl
  have c_Ba0_2 := Ba0.out.now 2 _ rfl
  have c_Ba0_3 := Ba0.out.now 3 _ rfl
  have c_Ba1_0 := Ba1.out.now 0 _ rfl
  have c_Ba1_1 := Ba1.out.now 1 _ rfl
  have c_Ba1_2 := Ba1.out.now 2 _ rfl
  have c_Ba1_3 := Ba1.out.now 3 _ rfl
  go_wp2_with fail
  refine (to_Bloom ha0k3 Fa03.out.row).mono ?_; rintro e w6 ⟨xa0A3, xa0c3, rfl, ho3, hb⟩
  replace FB := Lib.hid (FB.out.b hb)
  replace Fa03 := Lib.hid (Fa03.out.b hb)
  replace Fa13 := Lib.hid (Fa13.out.b hb)
  replace Ba0 := Lib.hid (Ba0.out.b hb)
  replace Ba1 := Lib.hid (Ba1.out.b hb)
  replace Xmr0 := Lib.hid (Xmr0.out.b hb)
  replace Vmr03 := Lib.hid (Vmr03.out.b hb)
  have z_w6 : wc.heap.size ≤ w6.heap.size := by have hsz := hb.size; first | omega | (simp at hsz; omega)
  clear c_Ba0_0 c_Ba0_1 c_Ba0_2 c_Ba0_3 c_Ba1_0 c_Ba1_1 c_Ba1_2 c_Ba1_3
  have Oxa03 := Lib.hid (owned (ho3.mono (lo' := wc.heap.size) (Nat.le_refl _) (Nat.le_refl _)))
  clear hb ho3
  replace FB := Lib.hid (FB.out.alloc (.cells #[.int .i64 a0z0, .int .i64 a0z1, .int .i64 a0z2, .slice xa0A3 a0n3 xa0c3] 31))
  replace Fa03 := Lib.hid (Fa03.out.alloc (.cells #[.int .i64 a0z0, .int .i64 a0z1, .int .i64 a0z2, .slice xa0A3 a0n3 xa0c3] 31))
  replace Fa13 := Lib.hid (Fa13.out.alloc (.cells #[.int .i64 a0z0, .int .i64 a0z1, .int .i64 a0z2, .slice xa0A3 a0n3 xa0c3] 31))
  replace Ba0 := Lib.hid (Ba0.out.alloc (.cells #[.int .i64 a0z0, .int .i64 a0z1, .int .i64 a0z2, .slice xa0A3 a0n3 xa0c3] 31))
  replace Ba1 := Lib.hid (Ba1.out.alloc (.cells #[.int .i64 a0z0, .int .i64 a0z1, .int .i64 a0z2, .slice xa0A3 a0n3 xa0c3] 31))
  replace Xmr0 := Lib.hid (Xmr0.out.alloc (.cells #[.int .i64 a0z0, .int .i64 a0z1, .int .i64 a0z2, .slice xa0A3 a0n3 xa0c3] 31))
  replace Vmr03 := Lib.hid (Vmr03.out.alloc (.cells #[.int .i64 a0z0, .int .i64 a0z1, .int .i64 a0z2, .slice xa0A3 a0n3 xa0c3] 31))
  replace Oxa03 := Lib.hid (Oxa03.out.alloc (.cells #[.int .i64 a0z0, .int .i64 a0z1, .int .i64 a0z2, .slice xa0A3 a0n3 xa0c3] 31))
  have Yxa0 := Lib.hid (boxed w6 #[.int .i64 a0z0, .int .i64 a0z1, .int .i64 a0z2, .slice xa0A3 a0n3 xa0c3] 31)
  have c_Ba0_0 := Ba0.out.now 0 _ rfl
  have c_Ba0_1 := Ba0.out.now 1 _ rfl
  have c_Ba0_2 := Ba0.out.now 2 _ rfl
  have c_Ba0_3 := Ba0.out.now 3 _ rfl
  have c_Ba1_0 := Ba1.out.now 0 _ rfl
  have c_Ba1_1 := Ba1.out.now 1 _ rfl
  have c_Ba1_2 := Ba1.out.now 2 _ rfl
  have c_Ba1_3 := Ba1.out.now 3 _ rfl
  go_wp2_with fail
  refine (to_Bloom ha1k3 Fa13.out.row).mono ?_; rintro e w7 ⟨xa1A3, xa1c3, rfl, ho3, hb⟩
  replace FB := Lib.hid (FB.out.b hb)
  replace Fa03 := Lib.hid (Fa03.out.b hb)
  replace Fa13 := Lib.hid (Fa13.out.b hb)
  replace Ba0 := Lib.hid (Ba0.out.b hb)
  replace Ba1 := Lib.hid (Ba1.out.b hb)
  replace Xmr0 := Lib.hid (Xmr0.out.b hb)
  replace Vmr03 := Lib.hid (Vmr03.out.b hb)
  replace Oxa03 := Lib.hid (Oxa03.out.b hb)
  replace Yxa0 := Lib.hid (Yxa0.out.b hb)
  have z_w7 : w6.heap.size + 1 ≤ w7.heap.size := by have hsz := hb.size; first | omega | (simp at hsz; omega)
  clear c_Ba0_0 c_Ba0_1 c_Ba0_2 c_Ba0_3 c_Ba1_0 c_Ba1_1 c_Ba1_2 c_Ba1_3
  have Oxa13 := Lib.hid (owned (ho3.mono (lo' := w6.heap.size + 1) (by simp) (Nat.le_refl _)))
  clear hb ho3
  replace FB := Lib.hid (FB.out.alloc (.cells #[.int .i64 a1z0, .int .i64 a1z1, .int .i64 a1z2, .slice xa1A3 a1n3 xa1c3] 31))
  replace Fa03 := Lib.hid (Fa03.out.alloc (.cells #[.int .i64 a1z0, .int .i64 a1z1, .int .i64 a1z2, .slice xa1A3 a1n3 xa1c3] 31))
  replace Fa13 := Lib.hid (Fa13.out.alloc (.cells #[.int .i64 a1z0, .int .i64 a1z1, .int .i64 a1z2, .slice xa1A3 a1n3 xa1c3] 31))
  replace Ba0 := Lib.hid (Ba0.out.alloc (.cells #[.int .i64 a1z0, .int .i64 a1z1, .int .i64 a1z2, .slice xa1A3 a1n3 xa1c3] 31))
  replace Ba1 := Lib.hid (Ba1.out.alloc (.cells #[.int .i64 a1z0, .int .i64 a1z1, .int .i64 a1z2, .slice xa1A3 a1n3 xa1c3] 31))
  replace Xmr0 := Lib.hid (Xmr0.out.alloc (.cells #[.int .i64 a1z0, .int .i64 a1z1, .int .i64 a1z2, .slice xa1A3 a1n3 xa1c3] 31))
  replace Vmr03 := Lib.hid (Vmr03.out.alloc (.cells #[.int .i64 a1z0, .int .i64 a1z1, .int .i64 a1z2, .slice xa1A3 a1n3 xa1c3] 31))
  replace Oxa03 := Lib.hid (Oxa03.out.alloc (.cells #[.int .i64 a1z0, .int .i64 a1z1, .int .i64 a1z2, .slice xa1A3 a1n3 xa1c3] 31))
  replace Yxa0 := Lib.hid (Yxa0.out.alloc (.cells #[.int .i64 a1z0, .int .i64 a1z1, .int .i64 a1z2, .slice xa1A3 a1n3 xa1c3] 31))
  replace Oxa13 := Lib.hid (Oxa13.out.alloc (.cells #[.int .i64 a1z0, .int .i64 a1z1, .int .i64 a1z2, .slice xa1A3 a1n3 xa1c3] 31))
  have Yxa1 := Lib.hid (boxed w7 #[.int .i64 a1z0, .int .i64 a1z1, .int .i64 a1z2, .slice xa1A3 a1n3 xa1c3] 31)
  have c_Yxa0_0 := Yxa0.out.now 0 _ rfl
  have c_Yxa0_1 := Yxa0.out.now 1 _ rfl
  have c_Yxa0_2 := Yxa0.out.now 2 _ rfl
  have c_Yxa0_3 := Yxa0.out.now 3 _ rfl
  have c_Yxa1_0 := Yxa1.out.now 0 _ rfl
  have c_Yxa1_1 := Yxa1.out.now 1 _ rfl
  have c_Yxa1_2 := Yxa1.out.now 2 _ rfl
  have c_Yxa1_3 := Yxa1.out.now 3 _ rfl
  go_wp2_with fail
  refine (S2.out _ _ _ _ _ Oxa03.out.orow Oxa13.out.orow).mono ?_; rintro e w8 ⟨gr0A3, gr0c3, rfl, hrr03, hb⟩
  replace FB := Lib.hid (FB.out.b hb)
  replace Fa03 := Lib.hid (Fa03.out.b hb)
  replace Fa13 := Lib.hid (Fa13.out.b hb)
  replace Ba0 := Lib.hid (Ba0.out.b hb)
  replace Ba1 := Lib.hid (Ba1.out.b hb)
  replace Xmr0 := Lib.hid (Xmr0.out.b hb)
  replace Vmr03 := Lib.hid (Vmr03.out.b hb)
  replace Oxa03 := Lib.hid (Oxa03.out.b hb)
  replace Yxa0 := Lib.hid (Yxa0.out.b hb)
  replace Oxa13 := Lib.hid (Oxa13.out.b hb)
  replace Yxa1 := Lib.hid (Yxa1.out.b hb)
  have z_w8 : w7.heap.size + 1 ≤ w8.heap.size := by have hsz := hb.size; first | omega | (simp at hsz; omega)
  clear c_Yxa0_0 c_Yxa0_1 c_Yxa0_2 c_Yxa0_3 c_Yxa1_0 c_Yxa1_1 c_Yxa1_2 c_Yxa1_3
  have Ogr03 := Lib.hid (owned (hrr03.mono (lo' := w7.heap.size + 1) (by simp) (Nat.le_refl _)))
  clear hb hrr03
  replace FB := Lib.hid (FB.out.alloc (.cells #[.int .i64 r0z0, .int .i64 r0z1, .int .i64 r0z2, .slice gr0A3 r0n3 gr0c3] 31))
  replace Fa03 := Lib.hid (Fa03.out.alloc (.cells #[.int .i64 r0z0, .int .i64 r0z1, .int .i64 r0z2, .slice gr0A3 r0n3 gr0c3] 31))
  replace Fa13 := Lib.hid (Fa13.out.alloc (.cells #[.int .i64 r0z0, .int .i64 r0z1, .int .i64 r0z2, .slice gr0A3 r0n3 gr0c3] 31))
  replace Ba0 := Lib.hid (Ba0.out.alloc (.cells #[.int .i64 r0z0, .int .i64 r0z1, .int .i64 r0z2, .slice gr0A3 r0n3 gr0c3] 31))
  replace Ba1 := Lib.hid (Ba1.out.alloc (.cells #[.int .i64 r0z0, .int .i64 r0z1, .int .i64 r0z2, .slice gr0A3 r0n3 gr0c3] 31))
  replace Xmr0 := Lib.hid (Xmr0.out.alloc (.cells #[.int .i64 r0z0, .int .i64 r0z1, .int .i64 r0z2, .slice gr0A3 r0n3 gr0c3] 31))
  replace Vmr03 := Lib.hid (Vmr03.out.alloc (.cells #[.int .i64 r0z0, .int .i64 r0z1, .int .i64 r0z2, .slice gr0A3 r0n3 gr0c3] 31))
  replace Oxa03 := Lib.hid (Oxa03.out.alloc (.cells #[.int .i64 r0z0, .int .i64 r0z1, .int .i64 r0z2, .slice gr0A3 r0n3 gr0c3] 31))
  replace Yxa0 := Lib.hid (Yxa0.out.alloc (.cells #[.int .i64 r0z0, .int .i64 r0z1, .int .i64 r0z2, .slice gr0A3 r0n3 gr0c3] 31))
  replace Oxa13 := Lib.hid (Oxa13.out.alloc (.cells #[.int .i64 r0z0, .int .i64 r0z1, .int .i64 r0z2, .slice gr0A3 r0n3 gr0c3] 31))
  replace Yxa1 := Lib.hid (Yxa1.out.alloc (.cells #[.int .i64 r0z0, .int .i64 r0z1, .int .i64 r0z2, .slice gr0A3 r0n3 gr0c3] 31))
  replace Ogr03 := Lib.hid (Ogr03.out.alloc (.cells #[.int .i64 r0z0, .int .i64 r0z1, .int .i64 r0z2, .slice gr0A3 r0n3 gr0c3] 31))
  have Xgr0 := Lib.hid (boxed w8 #[.int .i64 r0z0, .int .i64 r0z1, .int .i64 r0z2, .slice gr0A3 r0n3 gr0c3] 31)
  have c_Xgr0_0 := Xgr0.out.now 0 _ rfl
  have c_Xgr0_1 := Xgr0.out.now 1 _ rfl
  have c_Xgr0_2 := Xgr0.out.now 2 _ rfl
  have c_Xgr0_3 := Xgr0.out.now 3 _ rfl
  have c_Xmr0_0 := Xmr0.out.now 0 _ rfl
  have c_Xmr0_1 := Xmr0.out.now 1 _ rfl
  have c_Xmr0_2 := Xmr0.out.now 2 _ rfl
  have c_Xmr0_3 := Xmr0.out.now 3 _ rfl
  go_wp2_with fail
  refine (eq_Bloom hr0m3 Ogr03.out.orow Vmr03.out.row).mono ?_; rintro e w9 ⟨rfl, hb⟩
  replace FB := Lib.hid (FB.out.b hb)
  replace Fa03 := Lib.hid (Fa03.out.b hb)
  replace Fa13 := Lib.hid (Fa13.out.b hb)
  replace Ba0 := Lib.hid (Ba0.out.b hb)
  replace Ba1 := Lib.hid (Ba1.out.b hb)
  replace Xmr0 := Lib.hid (Xmr0.out.b hb)
  replace Vmr03 := Lib.hid (Vmr03.out.b hb)
  replace Oxa03 := Lib.hid (Oxa03.out.b hb)
  replace Yxa0 := Lib.hid (Yxa0.out.b hb)
  replace Oxa13 := Lib.hid (Oxa13.out.b hb)
  replace Yxa1 := Lib.hid (Yxa1.out.b hb)
  replace Ogr03 := Lib.hid (Ogr03.out.b hb)
  replace Xgr0 := Lib.hid (Xgr0.out.b hb)
  have z_w9 : w8.heap.size + 1 ≤ w9.heap.size := by have hsz := hb.size; first | omega | (simp at hsz; omega)
  clear c_Xgr0_0 c_Xgr0_1 c_Xgr0_2 c_Xgr0_3 c_Xmr0_0 c_Xmr0_1 c_Xmr0_2 c_Xmr0_3
  clear hb
  have c_Ba0_0 := Ba0.out.now 0 _ rfl
  have c_Ba0_1 := Ba0.out.now 1 _ rfl
  have c_Ba0_2 := Ba0.out.now 2 _ rfl
  have c_Ba0_3 := Ba0.out.now 3 _ rfl
  have c_Yxa0_0 := Yxa0.out.now 0 _ rfl
  have c_Yxa0_1 := Yxa0.out.now 1 _ rfl
  have c_Yxa0_2 := Yxa0.out.now 2 _ rfl
  have c_Yxa0_3 := Yxa0.out.now 3 _ rfl
  go_wp2_with fail
  go_region_held3 (fun w' => w'.cell? ⟨w.heap.size, 0, none⟩ = some (.int .i64 a0z0) ∧ w'.cell? ⟨w.heap.size, 1, none⟩ = some (.int .i64 a0z1) ∧ w'.cell? ⟨w.heap.size, 2, none⟩ = some (.int .i64 a0z2) ∧ w'.cell? ⟨w.heap.size, 3, none⟩ = some (.slice a0A3 a0n3 a0c3) ∧ w'.cell? ⟨w6.heap.size, 0, none⟩ = some (.int .i64 a0z0) ∧ w'.cell? ⟨w6.heap.size, 1, none⟩ = some (.int .i64 a0z1) ∧ w'.cell? ⟨w6.heap.size, 2, none⟩ = some (.int .i64 a0z2) ∧ w'.cell? ⟨w6.heap.size, 3, none⟩ = some (.slice xa0A3 a0n3 xa0c3))
    (first | (go_keep; done) | exact ⟨(((Ba0.out.b hq1).b hq2)).now 0 _ rfl, (((Ba0.out.b hq1).b hq2)).now 1 _ rfl, (((Ba0.out.b hq1).b hq2)).now 2 _ rfl, (((Ba0.out.b hq1).b hq2)).now 3 _ rfl, (((Yxa0.out.b hq1).b hq2)).now 0 _ rfl, (((Yxa0.out.b hq1).b hq2)).now 1 _ rfl, (((Yxa0.out.b hq1).b hq2)).now 2 _ rfl, (((Yxa0.out.b hq1).b hq2)).now 3 _ rfl⟩ | exact ⟨((Ba0.out.b hq1)).now 0 _ rfl, ((Ba0.out.b hq1)).now 1 _ rfl, ((Ba0.out.b hq1)).now 2 _ rfl, ((Ba0.out.b hq1)).now 3 _ rfl, ((Yxa0.out.b hq1)).now 0 _ rfl, ((Yxa0.out.b hq1)).now 1 _ rfl, ((Yxa0.out.b hq1)).now 2 _ rfl, ((Yxa0.out.b hq1)).now 3 _ rfl⟩)
    (first
      | (have hqz := hq1; clear hqz; go_at_call 18; (first | refine (eq_Bloom ha0k3 ((Oxa03.out.b hq1)).orow (owned ho3).orow).mono ?_); rintro e w11 ⟨rfl, hq2⟩)
      | (go_at_call 16; (first | refine (to_Bloom ha0k3 (Fa03.out).row).mono ?_ | refine (to_Bloom ha0k3 (GRow.drew (Fa03.out).row)).mono ?_); rintro e w10 ⟨ya0A3, ya0c3, rfl, ho3, hq1'⟩; have hq1 := of_drew hq1'; clear hq1'))
  replace FB := Lib.hid (FB.out.b hq1)
  replace Fa03 := Lib.hid (Fa03.out.b hq1)
  replace Fa13 := Lib.hid (Fa13.out.b hq1)
  replace Ba0 := Lib.hid (Ba0.out.b hq1)
  replace Ba1 := Lib.hid (Ba1.out.b hq1)
  replace Xmr0 := Lib.hid (Xmr0.out.b hq1)
  replace Vmr03 := Lib.hid (Vmr03.out.b hq1)
  replace Oxa03 := Lib.hid (Oxa03.out.b hq1)
  replace Yxa0 := Lib.hid (Yxa0.out.b hq1)
  replace Oxa13 := Lib.hid (Oxa13.out.b hq1)
  replace Yxa1 := Lib.hid (Yxa1.out.b hq1)
  replace Ogr03 := Lib.hid (Ogr03.out.b hq1)
  replace Xgr0 := Lib.hid (Xgr0.out.b hq1)
  replace FB := Lib.hid (FB.out.b hq2)
  replace Fa03 := Lib.hid (Fa03.out.b hq2)
  replace Fa13 := Lib.hid (Fa13.out.b hq2)
  replace Ba0 := Lib.hid (Ba0.out.b hq2)
  replace Ba1 := Lib.hid (Ba1.out.b hq2)
  replace Xmr0 := Lib.hid (Xmr0.out.b hq2)
  replace Vmr03 := Lib.hid (Vmr03.out.b hq2)
  replace Oxa03 := Lib.hid (Oxa03.out.b hq2)
  replace Yxa0 := Lib.hid (Yxa0.out.b hq2)
  replace Oxa13 := Lib.hid (Oxa13.out.b hq2)
  replace Yxa1 := Lib.hid (Yxa1.out.b hq2)
  replace Ogr03 := Lib.hid (Ogr03.out.b hq2)
  replace Xgr0 := Lib.hid (Xgr0.out.b hq2)
  have z_w10 : w9.heap.size ≤ w10.heap.size := by have hsz := hq1.size; first | omega | (simp at hsz; omega)
  have z_w11 : w10.heap.size ≤ w11.heap.size := hq2.size
  clear c_Ba0_0 c_Ba0_1 c_Ba0_2 c_Ba0_3 c_Yxa0_0 c_Yxa0_1 c_Yxa0_2 c_Yxa0_3
  clear hq1 hq2 ho3
  have c_Ba1_0 := Ba1.out.now 0 _ rfl
  have c_Ba1_1 := Ba1.out.now 1 _ rfl
  have c_Ba1_2 := Ba1.out.now 2 _ rfl
  have c_Ba1_3 := Ba1.out.now 3 _ rfl
  have c_Yxa1_0 := Yxa1.out.now 0 _ rfl
  have c_Yxa1_1 := Yxa1.out.now 1 _ rfl
  have c_Yxa1_2 := Yxa1.out.now 2 _ rfl
  have c_Yxa1_3 := Yxa1.out.now 3 _ rfl
  go_wp2_with fail
  go_region_held3 (fun w' => w'.cell? ⟨w.heap.size + 1, 0, none⟩ = some (.int .i64 a1z0) ∧ w'.cell? ⟨w.heap.size + 1, 1, none⟩ = some (.int .i64 a1z1) ∧ w'.cell? ⟨w.heap.size + 1, 2, none⟩ = some (.int .i64 a1z2) ∧ w'.cell? ⟨w.heap.size + 1, 3, none⟩ = some (.slice a1A3 a1n3 a1c3) ∧ w'.cell? ⟨w7.heap.size, 0, none⟩ = some (.int .i64 a1z0) ∧ w'.cell? ⟨w7.heap.size, 1, none⟩ = some (.int .i64 a1z1) ∧ w'.cell? ⟨w7.heap.size, 2, none⟩ = some (.int .i64 a1z2) ∧ w'.cell? ⟨w7.heap.size, 3, none⟩ = some (.slice xa1A3 a1n3 xa1c3))
    (first | (go_keep; done) | exact ⟨(((Ba1.out.b hq1).b hq2)).now 0 _ rfl, (((Ba1.out.b hq1).b hq2)).now 1 _ rfl, (((Ba1.out.b hq1).b hq2)).now 2 _ rfl, (((Ba1.out.b hq1).b hq2)).now 3 _ rfl, (((Yxa1.out.b hq1).b hq2)).now 0 _ rfl, (((Yxa1.out.b hq1).b hq2)).now 1 _ rfl, (((Yxa1.out.b hq1).b hq2)).now 2 _ rfl, (((Yxa1.out.b hq1).b hq2)).now 3 _ rfl⟩ | exact ⟨((Ba1.out.b hq1)).now 0 _ rfl, ((Ba1.out.b hq1)).now 1 _ rfl, ((Ba1.out.b hq1)).now 2 _ rfl, ((Ba1.out.b hq1)).now 3 _ rfl, ((Yxa1.out.b hq1)).now 0 _ rfl, ((Yxa1.out.b hq1)).now 1 _ rfl, ((Yxa1.out.b hq1)).now 2 _ rfl, ((Yxa1.out.b hq1)).now 3 _ rfl⟩)
    (first
      | (have hqz := hq1; clear hqz; go_at_call 18; (first | refine (eq_Bloom ha1k3 ((Oxa13.out.b hq1)).orow (owned ho3).orow).mono ?_); rintro e w13 ⟨rfl, hq2⟩)
      | (go_at_call 16; (first | refine (to_Bloom ha1k3 (Fa13.out).row).mono ?_ | refine (to_Bloom ha1k3 (GRow.drew (Fa13.out).row)).mono ?_); rintro e w12 ⟨ya1A3, ya1c3, rfl, ho3, hq1'⟩; have hq1 := of_drew hq1'; clear hq1'))
  replace FB := Lib.hid (FB.out.b hq1)
  replace Fa03 := Lib.hid (Fa03.out.b hq1)
  replace Fa13 := Lib.hid (Fa13.out.b hq1)
  replace Ba0 := Lib.hid (Ba0.out.b hq1)
  replace Ba1 := Lib.hid (Ba1.out.b hq1)
  replace Xmr0 := Lib.hid (Xmr0.out.b hq1)
  replace Vmr03 := Lib.hid (Vmr03.out.b hq1)
  replace Oxa03 := Lib.hid (Oxa03.out.b hq1)
  replace Yxa0 := Lib.hid (Yxa0.out.b hq1)
  replace Oxa13 := Lib.hid (Oxa13.out.b hq1)
  replace Yxa1 := Lib.hid (Yxa1.out.b hq1)
  replace Ogr03 := Lib.hid (Ogr03.out.b hq1)
  replace Xgr0 := Lib.hid (Xgr0.out.b hq1)
  replace FB := Lib.hid (FB.out.b hq2)
  replace Fa03 := Lib.hid (Fa03.out.b hq2)
  replace Fa13 := Lib.hid (Fa13.out.b hq2)
  replace Ba0 := Lib.hid (Ba0.out.b hq2)
  replace Ba1 := Lib.hid (Ba1.out.b hq2)
  replace Xmr0 := Lib.hid (Xmr0.out.b hq2)
  replace Vmr03 := Lib.hid (Vmr03.out.b hq2)
  replace Oxa03 := Lib.hid (Oxa03.out.b hq2)
  replace Yxa0 := Lib.hid (Yxa0.out.b hq2)
  replace Oxa13 := Lib.hid (Oxa13.out.b hq2)
  replace Yxa1 := Lib.hid (Yxa1.out.b hq2)
  replace Ogr03 := Lib.hid (Ogr03.out.b hq2)
  replace Xgr0 := Lib.hid (Xgr0.out.b hq2)
  have z_w12 : w11.heap.size ≤ w12.heap.size := by have hsz := hq1.size; first | omega | (simp at hsz; omega)
  have z_w13 : w12.heap.size ≤ w13.heap.size := hq2.size
  clear c_Ba1_0 c_Ba1_1 c_Ba1_2 c_Ba1_3 c_Yxa1_0 c_Yxa1_1 c_Yxa1_2 c_Yxa1_3
  clear hq1 hq2 ho3
  have c_Yxa0_0 := Yxa0.out.now 0 _ rfl
  have c_Yxa0_1 := Yxa0.out.now 1 _ rfl
  have c_Yxa0_2 := Yxa0.out.now 2 _ rfl
  have c_Yxa0_3 := Yxa0.out.now 3 _ rfl
  have c_Yxa1_0 := Yxa1.out.now 0 _ rfl
  have c_Yxa1_1 := Yxa1.out.now 1 _ rfl
  have c_Yxa1_2 := Yxa1.out.now 2 _ rfl
  have c_Yxa1_3 := Yxa1.out.now 3 _ rfl
  go_wp2_with fail
  refine (mark_Bloom ha0k3 Oxa03.out.now Oxa03.out.top (by omega) (by omega)).mono ?_; rintro e w14 ⟨rfl, hm0, hg⟩
  replace FB := Lib.hid (FB.out.far hg (by omega))
  replace Fa03 := Lib.hid (Fa03.out.far hg (by omega))
  replace Fa13 := Lib.hid (Fa13.out.far hg (by omega))
  replace Ba0 := Lib.hid (Ba0.out.far hg (by omega))
  replace Ba1 := Lib.hid (Ba1.out.far hg (by omega))
  replace Xmr0 := Lib.hid (Xmr0.out.far hg (by omega))
  replace Vmr03 := Lib.hid (Vmr03.out.far hg (by omega))
  replace Yxa0 := Lib.hid (Yxa0.out.far hg (by omega))
  replace Oxa13 := Lib.hid (Oxa13.out.far hg (by omega))
  replace Yxa1 := Lib.hid (Yxa1.out.far hg (by omega))
  replace Ogr03 := Lib.hid (Ogr03.out.far hg (by omega))
  replace Xgr0 := Lib.hid (Xgr0.out.far hg (by omega))
  have z_w14 : w13.heap.size ≤ w14.heap.size := by have hsz := hg.size; first | omega | (simp at hsz; omega)
  replace Oxa03 := Lib.hid (At.mk hm0 (Nat.le_trans Oxa03.out.top hg.size) (Ow.lives _ _ _ _ _ _))
  clear c_Yxa0_0 c_Yxa0_1 c_Yxa0_2 c_Yxa0_3 c_Yxa1_0 c_Yxa1_1 c_Yxa1_2 c_Yxa1_3
  clear hg hm0
  clear Oxa03 Yxa0
  have c_Yxa1_0 := Yxa1.out.now 0 _ rfl
  have c_Yxa1_1 := Yxa1.out.now 1 _ rfl
  have c_Yxa1_2 := Yxa1.out.now 2 _ rfl
  have c_Yxa1_3 := Yxa1.out.now 3 _ rfl
  go_wp2_with fail
  refine (mark_Bloom ha1k3 Oxa13.out.now Oxa13.out.top (by omega) (by omega)).mono ?_; rintro e w15 ⟨rfl, hm0, hg⟩
  replace FB := Lib.hid (FB.out.far hg (by omega))
  replace Fa03 := Lib.hid (Fa03.out.far hg (by omega))
  replace Fa13 := Lib.hid (Fa13.out.far hg (by omega))
  replace Ba0 := Lib.hid (Ba0.out.far hg (by omega))
  replace Ba1 := Lib.hid (Ba1.out.far hg (by omega))
  replace Xmr0 := Lib.hid (Xmr0.out.far hg (by omega))
  replace Vmr03 := Lib.hid (Vmr03.out.far hg (by omega))
  replace Yxa1 := Lib.hid (Yxa1.out.far hg (by omega))
  replace Ogr03 := Lib.hid (Ogr03.out.far hg (by omega))
  replace Xgr0 := Lib.hid (Xgr0.out.far hg (by omega))
  have z_w15 : w14.heap.size ≤ w15.heap.size := by have hsz := hg.size; first | omega | (simp at hsz; omega)
  replace Oxa13 := Lib.hid (At.mk hm0 (Nat.le_trans Oxa13.out.top hg.size) (Ow.lives _ _ _ _ _ _))
  clear c_Yxa1_0 c_Yxa1_1 c_Yxa1_2 c_Yxa1_3
  clear hg hm0
  clear Oxa13 Yxa1
  have c_Xgr0_0 := Xgr0.out.now 0 _ rfl
  have c_Xgr0_1 := Xgr0.out.now 1 _ rfl
  have c_Xgr0_2 := Xgr0.out.now 2 _ rfl
  have c_Xgr0_3 := Xgr0.out.now 3 _ rfl
  have c_Xmr0_0 := Xmr0.out.now 0 _ rfl
  have c_Xmr0_1 := Xmr0.out.now 1 _ rfl
  have c_Xmr0_2 := Xmr0.out.now 2 _ rfl
  have c_Xmr0_3 := Xmr0.out.now 3 _ rfl
  go_wp2_with fail
  refine (eq_Bloom hr0m3 Ogr03.out.orow Vmr03.out.row).mono ?_; rintro e w16 ⟨rfl, hb⟩
  replace FB := Lib.hid (FB.out.b hb)
  replace Fa03 := Lib.hid (Fa03.out.b hb)
  replace Fa13 := Lib.hid (Fa13.out.b hb)
  replace Ba0 := Lib.hid (Ba0.out.b hb)
  replace Ba1 := Lib.hid (Ba1.out.b hb)
  replace Xmr0 := Lib.hid (Xmr0.out.b hb)
  replace Vmr03 := Lib.hid (Vmr03.out.b hb)
  replace Ogr03 := Lib.hid (Ogr03.out.b hb)
  replace Xgr0 := Lib.hid (Xgr0.out.b hb)
  have z_w16 : w15.heap.size ≤ w16.heap.size := by have hsz := hb.size; first | omega | (simp at hsz; omega)
  clear c_Xgr0_0 c_Xgr0_1 c_Xgr0_2 c_Xgr0_3 c_Xmr0_0 c_Xmr0_1 c_Xmr0_2 c_Xmr0_3
  clear hb
  have c_Xgr0_0 := Xgr0.out.now 0 _ rfl
  have c_Xgr0_1 := Xgr0.out.now 1 _ rfl
  have c_Xgr0_2 := Xgr0.out.now 2 _ rfl
  have c_Xgr0_3 := Xgr0.out.now 3 _ rfl
  go_wp2_with fail
  refine (mark_Bloom hr0m3 Ogr03.out.now Ogr03.out.top (by omega) (by omega)).mono ?_; rintro e w17 ⟨rfl, hm0, hg⟩
  replace FB := Lib.hid (FB.out.far hg (by omega))
  replace Fa03 := Lib.hid (Fa03.out.far hg (by omega))
  replace Fa13 := Lib.hid (Fa13.out.far hg (by omega))
  replace Ba0 := Lib.hid (Ba0.out.far hg (by omega))
  replace Ba1 := Lib.hid (Ba1.out.far hg (by omega))
  replace Xmr0 := Lib.hid (Xmr0.out.far hg (by omega))
  replace Vmr03 := Lib.hid (Vmr03.out.far hg (by omega))
  replace Xgr0 := Lib.hid (Xgr0.out.far hg (by omega))
  have z_w17 : w16.heap.size ≤ w17.heap.size := by have hsz := hg.size; first | omega | (simp at hsz; omega)
  replace Ogr03 := Lib.hid (At.mk hm0 (Nat.le_trans Ogr03.out.top hg.size) (Ow.lives _ _ _ _ _ _))
  clear c_Xgr0_0 c_Xgr0_1 c_Xgr0_2 c_Xgr0_3
  clear hg hm0
  have c_Xgr0_0 := Xgr0.out.now 0 _ rfl
  have c_Xgr0_1 := Xgr0.out.now 1 _ rfl
  have c_Xgr0_2 := Xgr0.out.now 2 _ rfl
  have c_Xgr0_3 := Xgr0.out.now 3 _ rfl
  go_wp2_with fail
  refine (held_Bloom hr0m3 Ogr03.out.orow (by omega) (by omega)).mono ?_; rintro e w18 ⟨rfl, hb⟩
  replace FB := Lib.hid (FB.out.b hb)
  replace Fa03 := Lib.hid (Fa03.out.b hb)
  replace Fa13 := Lib.hid (Fa13.out.b hb)
  replace Ba0 := Lib.hid (Ba0.out.b hb)
  replace Ba1 := Lib.hid (Ba1.out.b hb)
  replace Xmr0 := Lib.hid (Xmr0.out.b hb)
  replace Vmr03 := Lib.hid (Vmr03.out.b hb)
  replace Ogr03 := Lib.hid (Ogr03.out.b hb)
  replace Xgr0 := Lib.hid (Xgr0.out.b hb)
  have z_w18 : w17.heap.size ≤ w18.heap.size := by have hsz := hb.size; first | omega | (simp at hsz; omega)
  clear c_Xgr0_0 c_Xgr0_1 c_Xgr0_2 c_Xgr0_3
  clear hb
  have c_Ba0_0 := Ba0.out.now 0 _ rfl
  have c_Ba0_1 := Ba0.out.now 1 _ rfl
  have c_Ba0_2 := Ba0.out.now 2 _ rfl
  have c_Ba0_3 := Ba0.out.now 3 _ rfl
  have c_Ba1_0 := Ba1.out.now 0 _ rfl
  have c_Ba1_1 := Ba1.out.now 1 _ rfl
  have c_Ba1_2 := Ba1.out.now 2 _ rfl
  have c_Ba1_3 := Ba1.out.now 3 _ rfl
  go_upto_region 31 with fail
  have hcur : w18.heap.size ≤ w18.heap.size := Nat.le_refl _
  have HK : ∀ w', Below w18.heap.size w18 w' → w'.cell? ⟨w.heap.size, 0, none⟩ = some (.int .i64 a0z0) ∧ w'.cell? ⟨w.heap.size, 1, none⟩ = some (.int .i64 a0z1) ∧ w'.cell? ⟨w.heap.size, 2, none⟩ = some (.int .i64 a0z2) ∧ w'.cell? ⟨w.heap.size, 3, none⟩ = some (.slice a0A3 a0n3 a0c3) ∧ w'.cell? ⟨w.heap.size + 1, 0, none⟩ = some (.int .i64 a1z0) ∧ w'.cell? ⟨w.heap.size + 1, 1, none⟩ = some (.int .i64 a1z1) ∧ w'.cell? ⟨w.heap.size + 1, 2, none⟩ = some (.int .i64 a1z2) ∧ w'.cell? ⟨w.heap.size + 1, 3, none⟩ = some (.slice a1A3 a1n3 a1c3) := fun w' hb => ⟨(Ba0.out.b hb).now 0 _ rfl, (Ba0.out.b hb).now 1 _ rfl, (Ba0.out.b hb).now 2 _ rfl, (Ba0.out.b hb).now 3 _ rfl, (Ba1.out.b hb).now 0 _ rfl, (Ba1.out.b hb).now 1 _ rfl, (Ba1.out.b hb).now 2 _ rfl, (Ba1.out.b hb).now 3 _ rfl⟩
  go_cut [15, 16] (fun s15 s16 wx => ∃ (bx_h : Nat) (hr0A3 : Option Addr) (hr0c3 : Nat), s15 = .pointer (some ⟨bx_h, 0, none⟩) ∧ s16 = .bool r1z0 ∧ w18.heap.size ≤ bx_h ∧ At bx_h (bx_h + 1) (BoxC bx_h [.int .i64 r0z0, .int .i64 r0z1, .int .i64 r0z2, .slice hr0A3 r0n3 hr0c3]) wx ∧ GRow wx hr0A3 r0n3 (intV r0X3) ∧ Below w18.heap.size w18 wx)
  case first =>
    go_region_held3 (fun w' => w'.cell? ⟨w.heap.size, 0, none⟩ = some (.int .i64 a0z0) ∧ w'.cell? ⟨w.heap.size, 1, none⟩ = some (.int .i64 a0z1) ∧ w'.cell? ⟨w.heap.size, 2, none⟩ = some (.int .i64 a0z2) ∧ w'.cell? ⟨w.heap.size, 3, none⟩ = some (.slice a0A3 a0n3 a0c3) ∧ w'.cell? ⟨w.heap.size + 1, 0, none⟩ = some (.int .i64 a1z0) ∧ w'.cell? ⟨w.heap.size + 1, 1, none⟩ = some (.int .i64 a1z1) ∧ w'.cell? ⟨w.heap.size + 1, 2, none⟩ = some (.int .i64 a1z2) ∧ w'.cell? ⟨w.heap.size + 1, 3, none⟩ = some (.slice a1A3 a1n3 a1c3))
      (first | (go_keep; done) | exact HK _ (below_setAt (below_setAt (below_setAt (below_setAt (hq3) NB.ge _) NB.ge _) NB.ge _) NB.ge _) | exact HK _ (hq3.alloc hq3.size _) | exact HK _ hq3 | exact HK _ (hq2.alloc hq2.size _) | exact HK _ hq2 | exact HK _ (hq1.alloc hq1.size _) | exact HK _ hq1 | exact HK _ ((Below.refl _ _).alloc (Nat.le_refl _) _))
      (first
        | (have hqz := hq2; clear hqz; go_at_call 39; (first | refine (S2.out _ _ _ _ _ hG_a03 hG_a13).mono ?_ | refine (S2.out _ _ _ _ _ (hG_a03.al _) (hG_a13.al _)).mono ?_); rintro e w21 ⟨hr0A3, hr0c3, rfl, hrr03, hb⟩; (first | (have hq3 := hq2.trans (hb.mono hq2.size)) | (have hq3 := hq2.trans ((below_al hb).mono hq2.size))); (first | (replace hrr03 := Ow.over hrr03 NB.lt; replace NB := NB.b hb; have dd0 := NB.cell 0 _ rfl; have ff0 := NB.free 0; have dd1 := NB.cell 1 _ rfl; have ff1 := NB.free 1; have dd2 := NB.cell 2 _ rfl; have ff2 := NB.free 2; have dd3 := NB.cell 3 _ rfl; have ff3 := NB.free 3) | (have NB := NBX.new hq2.size hb; replace hrr03 := Ow.overNew hrr03; have dd0 := NB.cell 0 _ rfl; have ff0 := NB.free 0; have dd1 := NB.cell 1 _ rfl; have ff1 := NB.free 1; have dd2 := NB.cell 2 _ rfl; have ff2 := NB.free 2; have dd3 := NB.cell 3 _ rfl; have ff3 := NB.free 3) | skip); clear hb)
        | (have hqz := hq1; clear hqz; go_at_call 16; (first | refine (to_Bloom ha1k3 (Fa13.out.b hq1).row).mono ?_ | refine (to_Bloom ha1k3 ((Fa13.out.b hq1).row.al _)).mono ?_); rintro e w20 ⟨tha1A3, tha1c3, rfl, ho_a13, hb⟩; (first | (have hq2 := hq1.trans (hb.mono hq1.size)) | (have hq2 := hq1.trans ((below_al hb).mono hq1.size))); (first | (replace NB := NB.b hb) | (have NB := NBX.new hq1.size hb) | skip); (first | (replace hG_a03 := hG_a03.b hb) | (replace hG_a03 := hG_a03.b (below_al hb))); have hG_a13 := (Ow.rd ho_a13).row (Nat.le_refl _); clear hb ho_a13)
        | (go_at_call 16; (first | refine (to_Bloom ha0k3 Fa03.out.row).mono ?_ | refine (to_Bloom ha0k3 Fa03.out.rowD).mono ?_ | refine (to_Bloom ha0k3 (Fa03.out.row.al _)).mono ?_ | refine (to_Bloom ha0k3 (Fa03.out.row.alD _)).mono ?_); rintro e w19 ⟨tha0A3, tha0c3, rfl, ho_a03, hb'⟩; have hb := of_drew hb'; clear hb'; (first | (have hq1 : Below w18.heap.size w18 w19 := hb) | (have hq1 : Below w18.heap.size w18 w19 := below_al hb)); (first | (replace NB := NB.b hb) | (have NB := NBX.new hcur hb) | skip); have hG_a03 := (Ow.rd ho_a03).row (Nat.le_refl _); clear hb ho_a03))
    all_goals go_wp2_with fail
    all_goals go_meet
    all_goals first
      | exact ⟨_, _, _, rfl, rfl, NB.ge, ((((NB.set 0 _).set 1 _).set 2 _).set 3 _).box, At.orow ((((hrr03.setC (Nat.le_refl _) 0 _).setC (Nat.le_refl _) 1 _).setC (Nat.le_refl _) 2 _).setC (Nat.le_refl _) 3 _), (below_setAt (below_setAt (below_setAt (below_setAt hq3 NB.ge _) NB.ge _) NB.ge _) NB.ge _)⟩
      | exact ⟨_, _, _, rfl, rfl, hq3.size, boxed _ _ _, ((Ow.rd hrr03).row (Nat.le_refl _)).al _, hq3.alloc hq3.size _⟩
  case rest =>
  obtain ⟨bx_h, hr0A3, hr0c3, rfl, rfl, hge, hbx, hrr03, hbl⟩ := hcut
  clear HK hcur
  clear c_Ba0_0 c_Ba0_1 c_Ba0_2 c_Ba0_3 c_Ba1_0 c_Ba1_1 c_Ba1_2 c_Ba1_3
  replace FB := Lib.hid (FB.out.b hbl)
  replace Fa03 := Lib.hid (Fa03.out.b hbl)
  replace Fa13 := Lib.hid (Fa13.out.b hbl)
  replace Ba0 := Lib.hid (Ba0.out.b hbl)
  replace Ba1 := Lib.hid (Ba1.out.b hbl)
  replace Xmr0 := Lib.hid (Xmr0.out.b hbl)
  replace Vmr03 := Lib.hid (Vmr03.out.b hbl)
  replace Ogr03 := Lib.hid (Ogr03.out.b hbl)
  replace Xgr0 := Lib.hid (Xgr0.out.b hbl)
  have z_wc : w18.heap.size ≤ wc.heap.size := hbl.size
  have z_bx_h : w18.heap.size ≤ bx_h := hge
  have zt_bx_h : bx_h + 1 ≤ wc.heap.size := hbx.top
  have Xhr0 := Lib.hid (hbx)
  have Vhr03 := Lib.hid (rd_of_row hrr03)
  clear hbl hge hbx hrr03
  have c_Xhr0_0 := Xhr0.out.now 0 _ rfl
  have c_Xhr0_1 := Xhr0.out.now 1 _ rfl
  have c_Xhr0_2 := Xhr0.out.now 2 _ rfl
  have c_Xhr0_3 := Xhr0.out.now 3 _ rfl
  have c_Xmr0_0 := Xmr0.out.now 0 _ rfl
  have c_Xmr0_1 := Xmr0.out.now 1 _ rfl
  have c_Xmr0_2 := Xmr0.out.now 2 _ rfl
  have c_Xmr0_3 := Xmr0.out.now 3 _ rfl
  go_wp2_with fail
  refine (eq_Bloom hr0m3 Vhr03.out.row Vmr03.out.row).mono ?_; rintro e w22 ⟨rfl, hb⟩
  replace FB := Lib.hid (FB.out.b hb)
  replace Fa03 := Lib.hid (Fa03.out.b hb)
  replace Fa13 := Lib.hid (Fa13.out.b hb)
  replace Ba0 := Lib.hid (Ba0.out.b hb)
  replace Ba1 := Lib.hid (Ba1.out.b hb)
  replace Xmr0 := Lib.hid (Xmr0.out.b hb)
  replace Vmr03 := Lib.hid (Vmr03.out.b hb)
  replace Ogr03 := Lib.hid (Ogr03.out.b hb)
  replace Xgr0 := Lib.hid (Xgr0.out.b hb)
  replace Xhr0 := Lib.hid (Xhr0.out.b hb)
  replace Vhr03 := Lib.hid (Vhr03.out.b hb)
  have z_w22 : wc.heap.size ≤ w22.heap.size := by have hsz := hb.size; first | omega | (simp at hsz; omega)
  clear c_Xhr0_0 c_Xhr0_1 c_Xhr0_2 c_Xhr0_3 c_Xmr0_0 c_Xmr0_1 c_Xmr0_2 c_Xmr0_3
  clear hb
  have c_Xgr0_0 := Xgr0.out.now 0 _ rfl
  have c_Xgr0_1 := Xgr0.out.now 1 _ rfl
  have c_Xgr0_2 := Xgr0.out.now 2 _ rfl
  have c_Xgr0_3 := Xgr0.out.now 3 _ rfl
  go_wp2_with fail
  refine (held_Bloom hr0m3 Ogr03.out.orow (by omega) (by omega)).mono ?_; rintro e w23 ⟨rfl, hb⟩
  replace FB := Lib.hid (FB.out.b hb)
  replace Fa03 := Lib.hid (Fa03.out.b hb)
  replace Fa13 := Lib.hid (Fa13.out.b hb)
  replace Ba0 := Lib.hid (Ba0.out.b hb)
  replace Ba1 := Lib.hid (Ba1.out.b hb)
  replace Xmr0 := Lib.hid (Xmr0.out.b hb)
  replace Vmr03 := Lib.hid (Vmr03.out.b hb)
  replace Ogr03 := Lib.hid (Ogr03.out.b hb)
  replace Xgr0 := Lib.hid (Xgr0.out.b hb)
  replace Xhr0 := Lib.hid (Xhr0.out.b hb)
  replace Vhr03 := Lib.hid (Vhr03.out.b hb)
  have z_w23 : w22.heap.size ≤ w23.heap.size := by have hsz := hb.size; first | omega | (simp at hsz; omega)
  clear c_Xgr0_0 c_Xgr0_1 c_Xgr0_2 c_Xgr0_3
  clear hb
  go_wp2_with fail
  go_ret
  exact ⟨rfl, FB.out.now⟩
/-! last -/
theorem walk_FnExactUnionBloom (w : World) (z0 : Int) (_wz0 : (Lit.int .i64 z0).wf = true) (z1 : Int) (_wz1 : (Lit.int .i64 z1).wf = true) (z2 : Int) (_wz2 : (Lit.int .i64 z2).wf = true) (A : Option Addr) (n c : Nat) (X : Nat → Int) (hm : n ≤ maxLen) (hr : IRow w A n X) (y0 : Int) (_wy0 : (Lit.int .i64 y0).wf = true) (y1 : Int) (_wy1 : (Lit.int .i64 y1).wf = true) (y2 : Int) (_wy2 : (Lit.int .i64 y2).wf = true) (B : Option Addr) (m d : Nat) (Y : Nat → Int) (hm2 : m ≤ maxLen) (hr2 : IRow w B m Y) :
    Calls Try.prog 9 #[.agg #[.int .i64 z0, .int .i64 z1, .int .i64 z2, .slice A n c], .agg #[.int .i64 y0, .int .i64 y1, .int .i64 y2, .slice B m d]] w fun e w' => e = .returned (.bool true) ∧ Below w.heap.size w w' := by
  by_cases hR : AlP z0 z1 z2 n X y0 y1 y2 m Y
  · obtain ⟨⟨h, g1⟩, ⟨_, g2⟩, rfl, rfl, rfl⟩ := hR
    obtain ⟨p, z, rfl, rfl, h1, h2, h3, h4⟩ := fiB_nat h
    obtain rfl : n = m := by have := g1.2.2.1; have := g2.2.2.1; omega
    have hn : n ≤ 1048576 := by have := g1.2.2.1; omega
    exact main_FnExactUnionBloom z0 p z n X z0 p z n Y z0 p z n (fun i => (wordsOf (fun k => bitX X k || bitX Y k) i : Int)) true A c B d w hm hr hm2 hr2 hn
      (fun _ _ _ _ _ w r1 r2 => (spec_union h g1 g2 hn r1 r2).mono fun e w' h => h.ans) (fun _ _ _ _ _ w r1 r2 => (impl_union h g1 g2 hn r1 r2).mono fun e w' h => h.ans)
  · exact main_FnExactUnionBloom z0 z1 z2 n X y0 y1 y2 m Y 0 0 0 0 (fun _ => 0) false A c B d w hm hr hm2 hr2 (by omega)
      (fun _ _ _ _ _ w r1 r2 => spec_union_no hR (by omega) (by omega) r1 r2) (fun _ _ _ _ _ w r1 r2 => impl_union_no hR (by omega) (by omega) r1 r2)
end Go.Proofs.Ytpajbcgdoedleaa
