/- The law of MergeFronts, walked: what both sides answer comes in as hypotheses. -/
import Derived.Test.YthaipemgndahfaaObjFr
import Derived.Test.YthaipemgndahfaaFrZ
import Derived.Deep.RegionHeld3
import Derived.Deep.DeepCutAuto
namespace Go.Proofs.Ythaipemgndahfaa
open Go.RowKit

set_option maxRecDepth 100000 in
set_option maxHeartbeats 8000000 in
theorem main_FnExactMergeFronts (a0z0 : Int) (a0n1 : Nat) (a0X1 : Nat → Int) (a0n2 : Nat) (a0X2 : Nat → ByteArray) (a1z0 : Int) (a1n1 : Nat) (a1X1 : Nat → Int) (a1n2 : Nat) (a1X2 : Nat → ByteArray) (r0z0 : Int) (r0n1 : Nat) (r0X1 : Nat → Int) (r0n2 : Nat) (r0X2 : Nat → ByteArray) (r1z0 : Bool) (a0A1 : Option Addr) (a0c1 : Nat) (a0A2 : Option Addr) (a0c2 : Nat) (a1A1 : Option Addr) (a1c1 : Nat) (a1A2 : Option Addr) (a1c2 : Nat) (w : World) (ha0m1 : a0n1 ≤ maxLen) (ha0r1 : GRow w a0A1 a0n1 (intV a0X1)) (ha0m2 : a0n2 ≤ maxLen) (ha0r2 : GRow w a0A2 a0n2 (strV a0X2)) (ha0s2 : ∀ i, i < a0n2 → (a0X2 i).size ≤ maxLen) (ha1m1 : a1n1 ≤ maxLen) (ha1r1 : GRow w a1A1 a1n1 (intV a1X1)) (ha1m2 : a1n2 ≤ maxLen) (ha1r2 : GRow w a1A2 a1n2 (strV a1X2)) (ha1s2 : ∀ i, i < a1n2 → (a1X2 i).size ≤ maxLen) (hr0m1 : r0n1 ≤ 1048576) (hr0m2 : r0n2 ≤ 1048576)
    (s1 : a0n1 + a0n2 + (sizeS a0X2 a0n2) + a1n1 + a1n2 + (sizeS a1X2 a1n2) ≤ 1048576 → ∀ (ua0A1 : Option Addr) (ua0c1 : Nat) (ua0A2 : Option Addr) (ua0c2 : Nat) (ua1A1 : Option Addr) (ua1c1 : Nat) (ua1A2 : Option Addr) (ua1c2 : Nat) (w : World), GRow w ua0A1 a0n1 (intV a0X1) → GRow w ua0A2 a0n2 (strV a0X2) → GRow w ua1A1 a1n1 (intV a1X1) → GRow w ua1A2 a1n2 (strV a1X2) → Calls Try.prog 32 #[.agg #[.int .i64 a0z0, .slice ua0A1 a0n1 ua0c1, .slice ua0A2 a0n2 ua0c2], .agg #[.int .i64 a1z0, .slice ua1A1 a1n1 ua1c1, .slice ua1A2 a1n2 ua1c2]] w fun e w' => ∃ vr0A1 vr0c1 vr0A2 vr0c2, e = .returned (.tuple #[.agg #[.int .i64 r0z0, .slice vr0A1 r0n1 vr0c1, .slice vr0A2 r0n2 vr0c2], .bool r1z0]) ∧ Ow w.heap.size w'.heap.size 3 vr0A1 r0n1 (intV r0X1) w' ∧ Ow w.heap.size w'.heap.size 9 vr0A2 r0n2 (strV r0X2) w' ∧ Below w.heap.size w w')
    (s2 : a0n1 + a0n2 + (sizeS a0X2 a0n2) + a1n1 + a1n2 + (sizeS a1X2 a1n2) ≤ 1048576 → ∀ (ua0A1 : Option Addr) (ua0c1 : Nat) (ua0A2 : Option Addr) (ua0c2 : Nat) (ua1A1 : Option Addr) (ua1c1 : Nat) (ua1A2 : Option Addr) (ua1c2 : Nat) (w : World), GRow w ua0A1 a0n1 (intV a0X1) → GRow w ua0A2 a0n2 (strV a0X2) → GRow w ua1A1 a1n1 (intV a1X1) → GRow w ua1A2 a1n2 (strV a1X2) → Calls Try.prog 33 #[.agg #[.int .i64 a0z0, .slice ua0A1 a0n1 ua0c1, .slice ua0A2 a0n2 ua0c2], .agg #[.int .i64 a1z0, .slice ua1A1 a1n1 ua1c1, .slice ua1A2 a1n2 ua1c2]] w fun e w' => ∃ vr0A1 vr0c1 vr0A2 vr0c2, e = .returned (.tuple #[.agg #[.int .i64 r0z0, .slice vr0A1 r0n1 vr0c1, .slice vr0A2 r0n2 vr0c2], .bool r1z0]) ∧ Ow w.heap.size w'.heap.size 3 vr0A1 r0n1 (intV r0X1) w' ∧ Ow w.heap.size w'.heap.size 9 vr0A2 r0n2 (strV r0X2) w' ∧ Apart r0n1 vr0A1 r0n2 vr0A2 ∧ Below w.heap.size w w') :
    Calls Try.prog 9 #[.agg #[.int .i64 a0z0, .slice a0A1 a0n1 a0c1, .slice a0A2 a0n2 a0c2], .agg #[.int .i64 a1z0, .slice a1A1 a1n1 a1c1, .slice a1A2 a1n2 a1c2]] w fun e w' => e = .returned (.bool true) ∧ Below w.heap.size w w' := by
  have S1 := Lib.hid s1
  have S2 := Lib.hid s2
  clear s1 s2
  have FB := Lib.hid (((At.start w).alloc (.cells #[.int .i64 a0z0, .slice a0A1 a0n1 a0c1, .slice a0A2 a0n2 a0c2] 34)).alloc (.cells #[.int .i64 a1z0, .slice a1A1 a1n1 a1c1, .slice a1A2 a1n2 a1c2] 34))
  have Fa01 := Lib.hid (((rd_of_row ha0r1).alloc (.cells #[.int .i64 a0z0, .slice a0A1 a0n1 a0c1, .slice a0A2 a0n2 a0c2] 34)).alloc (.cells #[.int .i64 a1z0, .slice a1A1 a1n1 a1c1, .slice a1A2 a1n2 a1c2] 34))
  have Fa02 := Lib.hid (((rd_of_row ha0r2).alloc (.cells #[.int .i64 a0z0, .slice a0A1 a0n1 a0c1, .slice a0A2 a0n2 a0c2] 34)).alloc (.cells #[.int .i64 a1z0, .slice a1A1 a1n1 a1c1, .slice a1A2 a1n2 a1c2] 34))
  have Fa11 := Lib.hid (((rd_of_row ha1r1).alloc (.cells #[.int .i64 a0z0, .slice a0A1 a0n1 a0c1, .slice a0A2 a0n2 a0c2] 34)).alloc (.cells #[.int .i64 a1z0, .slice a1A1 a1n1 a1c1, .slice a1A2 a1n2 a1c2] 34))
  have Fa12 := Lib.hid (((rd_of_row ha1r2).alloc (.cells #[.int .i64 a0z0, .slice a0A1 a0n1 a0c1, .slice a0A2 a0n2 a0c2] 34)).alloc (.cells #[.int .i64 a1z0, .slice a1A1 a1n1 a1c1, .slice a1A2 a1n2 a1c2] 34))
  have Ba0 := Lib.hid ((boxed w #[.int .i64 a0z0, .slice a0A1 a0n1 a0c1, .slice a0A2 a0n2 a0c2] 34).alloc (.cells #[.int .i64 a1z0, .slice a1A1 a1n1 a1c1, .slice a1A2 a1n2 a1c2] 34))
  have Ba1 := Lib.hid (boxed_at (w.alloc (.cells #[.int .i64 a0z0, .slice a0A1 a0n1 a0c1, .slice a0A2 a0n2 a0c2] 34)) (w.heap.size + 1) (by simp) #[.int .i64 a1z0, .slice a1A1 a1n1 a1c1, .slice a1A2 a1n2 a1c2] 34)
  clear ha0r1 ha0r2 ha1r1 ha1r2
  go_enter Try.func9, Try.ntmps9
  go_wp2_with fail
  refine (sz_Front ha0m1 ha0m2 ha0s2 Fa02.out.row (by omega) (by omega)).mono ?_; rintro e w1 ⟨rfl, hb⟩
  replace FB := Lib.hid (FB.out.b hb)
  replace Fa01 := Lib.hid (Fa01.out.b hb)
  replace Fa02 := Lib.hid (Fa02.out.b hb)
  replace Fa11 := Lib.hid (Fa11.out.b hb)
  replace Fa12 := Lib.hid (Fa12.out.b hb)
  replace Ba0 := Lib.hid (Ba0.out.b hb)
  replace Ba1 := Lib.hid (Ba1.out.b hb)
  have z_w1 : w.heap.size + 2 ≤ w1.heap.size := by have hsz := hb.size; first | omega | (simp at hsz; omega)
  clear hb
  by_cases hZ_a0 : ((a0n1 + a0n2 + (sizeS a0X2 a0n2) : Nat) : Int) ≤ (1048576 : Int)
  rotate_left
  · rw [szv_no hZ_a0]
    go_wp2_with fail
    go_ret
    exact ⟨rfl, FB.out.now⟩
  rw [szv_yes hZ_a0]
  have hL_a0 : ¬ (((1048576 : Int) - (((a0n1 : Nat) : Int) + ((a0n2 : Nat) : Int) + (((sizeS a0X2 a0n2) : Nat) : Int))) < 0) := by omega
  have c_Ba0_0 := Ba0.out.now 0 _ rfl
  have c_Ba0_1 := Ba0.out.now 1 _ rfl
  have c_Ba0_2 := Ba0.out.now 2 _ rfl
  have c_Ba1_0 := Ba1.out.now 0 _ rfl
  have c_Ba1_1 := Ba1.out.now 1 _ rfl
  have c_Ba1_2 := Ba1.out.now 2 _ rfl
  go_wp2_with fail
  refine (sz_Front ha1m1 ha1m2 ha1s2 Fa12.out.row (by omega) (by omega)).mono ?_; rintro e w2 ⟨rfl, hb⟩
  replace FB := Lib.hid (FB.out.b hb)
  replace Fa01 := Lib.hid (Fa01.out.b hb)
  replace Fa02 := Lib.hid (Fa02.out.b hb)
  replace Fa11 := Lib.hid (Fa11.out.b hb)
  replace Fa12 := Lib.hid (Fa12.out.b hb)
  replace Ba0 := Lib.hid (Ba0.out.b hb)
  replace Ba1 := Lib.hid (Ba1.out.b hb)
  have z_w2 : w1.heap.size ≤ w2.heap.size := by have hsz := hb.size; first | omega | (simp at hsz; omega)
  clear c_Ba0_0 c_Ba0_1 c_Ba0_2 c_Ba1_0 c_Ba1_1 c_Ba1_2
  clear hb
  by_cases hZ_a1 : ((a1n1 + a1n2 + (sizeS a1X2 a1n2) : Nat) : Int) ≤ ((1048576 : Int) - (((a0n1 : Nat) : Int) + ((a0n2 : Nat) : Int) + (((sizeS a0X2 a0n2) : Nat) : Int)))
  rotate_left
  · rw [szv_no hZ_a1]
    go_wp2_with fail
    go_ret
    exact ⟨rfl, FB.out.now⟩
  rw [szv_yes hZ_a1]
  have hL_a1 : ¬ ((((1048576 : Int) - (((a0n1 : Nat) : Int) + ((a0n2 : Nat) : Int) + (((sizeS a0X2 a0n2) : Nat) : Int))) - (((a1n1 : Nat) : Int) + ((a1n2 : Nat) : Int) + (((sizeS a1X2 a1n2) : Nat) : Int))) < 0) := by omega
  have c_Ba0_0 := Ba0.out.now 0 _ rfl
  have c_Ba0_1 := Ba0.out.now 1 _ rfl
  have c_Ba0_2 := Ba0.out.now 2 _ rfl
  have c_Ba1_0 := Ba1.out.now 0 _ rfl
  have c_Ba1_1 := Ba1.out.now 1 _ rfl
  have c_Ba1_2 := Ba1.out.now 2 _ rfl
  replace S1 := Lib.hid (S1.out (by omega))
  replace S2 := Lib.hid (S2.out (by omega))
  have ha0k1 : a0n1 ≤ 1048576 := by omega
  have ha0k2 : a0n2 ≤ 1048576 := by omega
  have ha1k1 : a1n1 ≤ 1048576 := by omega
  have ha1k2 : a1n2 ≤ 1048576 := by omega
  go_upto_region 8 with fail
  have hcur : w2.heap.size ≤ w2.heap.size := Nat.le_refl _
  have HK : ∀ w', Below w2.heap.size w2 w' → w'.cell? ⟨w.heap.size, 0, none⟩ = some (.int .i64 a0z0) ∧ w'.cell? ⟨w.heap.size, 1, none⟩ = some (.slice a0A1 a0n1 a0c1) ∧ w'.cell? ⟨w.heap.size, 2, none⟩ = some (.slice a0A2 a0n2 a0c2) ∧ w'.cell? ⟨w.heap.size + 1, 0, none⟩ = some (.int .i64 a1z0) ∧ w'.cell? ⟨w.heap.size + 1, 1, none⟩ = some (.slice a1A1 a1n1 a1c1) ∧ w'.cell? ⟨w.heap.size + 1, 2, none⟩ = some (.slice a1A2 a1n2 a1c2) := fun w' hb => ⟨(Ba0.out.b hb).now 0 _ rfl, (Ba0.out.b hb).now 1 _ rfl, (Ba0.out.b hb).now 2 _ rfl, (Ba1.out.b hb).now 0 _ rfl, (Ba1.out.b hb).now 1 _ rfl, (Ba1.out.b hb).now 2 _ rfl⟩
  go_cut [6, 7] (fun s6 s7 wx => ∃ (bx_m : Nat) (mr0A1 : Option Addr) (mr0c1 : Nat) (mr0A2 : Option Addr) (mr0c2 : Nat), s6 = .pointer (some ⟨bx_m, 0, none⟩) ∧ s7 = .bool r1z0 ∧ w2.heap.size ≤ bx_m ∧ At bx_m (bx_m + 1) (BoxC bx_m [.int .i64 r0z0, .slice mr0A1 r0n1 mr0c1, .slice mr0A2 r0n2 mr0c2]) wx ∧ GRow wx mr0A1 r0n1 (intV r0X1) ∧ GRow wx mr0A2 r0n2 (strV r0X2) ∧ Below w2.heap.size w2 wx)
  case first =>
    go_region_held3 (fun w' => w'.cell? ⟨w.heap.size, 0, none⟩ = some (.int .i64 a0z0) ∧ w'.cell? ⟨w.heap.size, 1, none⟩ = some (.slice a0A1 a0n1 a0c1) ∧ w'.cell? ⟨w.heap.size, 2, none⟩ = some (.slice a0A2 a0n2 a0c2) ∧ w'.cell? ⟨w.heap.size + 1, 0, none⟩ = some (.int .i64 a1z0) ∧ w'.cell? ⟨w.heap.size + 1, 1, none⟩ = some (.slice a1A1 a1n1 a1c1) ∧ w'.cell? ⟨w.heap.size + 1, 2, none⟩ = some (.slice a1A2 a1n2 a1c2))
      (first | (go_keep; done) | exact HK _ (below_setAt (below_setAt (below_setAt (hq3) NB.ge _) NB.ge _) NB.ge _) | exact HK _ (hq3.alloc hq3.size _) | exact HK _ hq3 | exact HK _ (hq2.alloc hq2.size _) | exact HK _ hq2 | exact HK _ (hq1.alloc hq1.size _) | exact HK _ hq1 | exact HK _ ((Below.refl _ _).alloc (Nat.le_refl _) _))
      (first
        | (have hqz := hq2; clear hqz; go_at_call 32; (first | refine (S1.out _ _ _ _ _ _ _ _ _ hG_a01 hG_a02 hG_a11 hG_a12).mono ?_ | refine (S1.out _ _ _ _ _ _ _ _ _ (hG_a01.al _) (hG_a02.al _) (hG_a11.al _) (hG_a12.al _)).mono ?_); rintro e w5 ⟨mr0A1, mr0c1, mr0A2, mr0c2, rfl, hrr01, hrr02, hb⟩; (first | (have hq3 := hq2.trans (hb.mono hq2.size)) | (have hq3 := hq2.trans ((below_al hb).mono hq2.size))); (first | (replace hrr01 := Ow.over hrr01 NB.lt; replace hrr02 := Ow.over hrr02 NB.lt; replace NB := NB.b hb; have dd0 := NB.cell 0 _ rfl; have ff0 := NB.free 0; have dd1 := NB.cell 1 _ rfl; have ff1 := NB.free 1; have dd2 := NB.cell 2 _ rfl; have ff2 := NB.free 2) | (have NB := NBX.new hq2.size hb; replace hrr01 := Ow.overNew hrr01; replace hrr02 := Ow.overNew hrr02; have dd0 := NB.cell 0 _ rfl; have ff0 := NB.free 0; have dd1 := NB.cell 1 _ rfl; have ff1 := NB.free 1; have dd2 := NB.cell 2 _ rfl; have ff2 := NB.free 2) | skip); clear hb)
        | (have hqz := hq1; clear hqz; go_at_call 22; (first | refine (to_Front ha1k1 ha1k2 (Fa11.out.b hq1).row (Fa12.out.b hq1).row).mono ?_ | refine (to_Front ha1k1 ha1k2 ((Fa11.out.b hq1).row.al _) ((Fa12.out.b hq1).row.al _)).mono ?_); rintro e w4 ⟨tma1A1, tma1c1, tma1A2, tma1c2, rfl, ho_a11, ho_a12, hz_a1_0, hb⟩; (first | (have hq2 := hq1.trans (hb.mono hq1.size)) | (have hq2 := hq1.trans ((below_al hb).mono hq1.size))); (first | (replace NB := NB.b hb) | (have NB := NBX.new hq1.size hb) | skip); (first | (replace hG_a01 := hG_a01.b hb) | (replace hG_a01 := hG_a01.b (below_al hb))); (first | (replace hG_a02 := hG_a02.b hb) | (replace hG_a02 := hG_a02.b (below_al hb))); have hG_a11 := (Ow.rd ho_a11).row (Nat.le_refl _); have hG_a12 := (Ow.rd ho_a12).row (Nat.le_refl _); clear hb ho_a11 ho_a12 hz_a1_0)
        | (go_at_call 22; (first | refine (to_Front ha0k1 ha0k2 Fa01.out.row Fa02.out.row).mono ?_ | refine (to_Front ha0k1 ha0k2 Fa01.out.rowD Fa02.out.rowD).mono ?_ | refine (to_Front ha0k1 ha0k2 (Fa01.out.row.al _) (Fa02.out.row.al _)).mono ?_ | refine (to_Front ha0k1 ha0k2 (Fa01.out.row.alD _) (Fa02.out.row.alD _)).mono ?_); rintro e w3 ⟨tma0A1, tma0c1, tma0A2, tma0c2, rfl, ho_a01, ho_a02, hz_a0_0, hb'⟩; have hb := of_drew hb'; clear hb'; (first | (have hq1 : Below w2.heap.size w2 w3 := hb) | (have hq1 : Below w2.heap.size w2 w3 := below_al hb)); (first | (replace NB := NB.b hb) | (have NB := NBX.new hcur hb) | skip); have hG_a01 := (Ow.rd ho_a01).row (Nat.le_refl _); have hG_a02 := (Ow.rd ho_a02).row (Nat.le_refl _); clear hb ho_a01 ho_a02 hz_a0_0))
    all_goals go_wp2_with fail
    all_goals go_meet
    all_goals first
      | exact ⟨_, _, _, _, _, rfl, rfl, NB.ge, (((NB.set 0 _).set 1 _).set 2 _).box, At.orow (((hrr01.setC (Nat.le_refl _) 0 _).setC (Nat.le_refl _) 1 _).setC (Nat.le_refl _) 2 _), At.orow (((hrr02.setC (Nat.le_refl _) 0 _).setC (Nat.le_refl _) 1 _).setC (Nat.le_refl _) 2 _), (below_setAt (below_setAt (below_setAt hq3 NB.ge _) NB.ge _) NB.ge _)⟩
      | exact ⟨_, _, _, _, _, rfl, rfl, hq3.size, boxed _ _ _, ((Ow.rd hrr01).row (Nat.le_refl _)).al _, ((Ow.rd hrr02).row (Nat.le_refl _)).al _, hq3.alloc hq3.size _⟩
  case rest =>
  obtain ⟨bx_m, mr0A1, mr0c1, mr0A2, mr0c2, rfl, rfl, hge, hbx, hrr01, hrr02, hbl⟩ := hcut
  clear HK hcur
  clear c_Ba0_0 c_Ba0_1 c_Ba0_2 c_Ba1_0 c_Ba1_1 c_Ba1_2
  replace FB := Lib.hid (FB.out.b hbl)
  replace Fa01 := Lib.hid (Fa01.out.b hbl)
  replace Fa02 := Lib.hid (Fa02.out.b hbl)
  replace Fa11 := Lib.hid (Fa11.out.b hbl)
  replace Fa12 := Lib.hid (Fa12.out.b hbl)
  replace Ba0 := Lib.hid (Ba0.out.b hbl)
  replace Ba1 := Lib.hid (Ba1.out.b hbl)
  have z_wc : w2.heap.size ≤ wc.heap.size := hbl.size
  have z_bx_m : w2.heap.size ≤ bx_m := hge
  have zt_bx_m : bx_m + 1 ≤ wc.heap.size := hbx.top
  have Xmr0 := Lib.hid (hbx)
  have Vmr01 := Lib.hid (rd_of_row hrr01)
  have Vmr02 := Lib.hid (rd_of_row hrr02)
  clear hbl hge hbx hrr01 hrr02
  have c_Ba0_0 := Ba0.out.now 0 _ rfl
  have c_Ba0_1 := Ba0.out.now 1 _ rfl
  have c_Ba0_2 := Ba0.out.now 2 _ rfl
  have c_Ba1_0 := Ba1.out.now 0 _ rfl
  have c_Ba1_1 := Ba1.out.now 1 _ rfl
  have c_Ba1_2 := Ba1.out.now 2 _ rfl
  go_wp2_with fail
  refine (to_Front ha0k1 ha0k2 Fa01.out.row Fa02.out.row).mono ?_; rintro e w6 ⟨xa0A1, xa0c1, xa0A2, xa0c2, rfl, ho1, ho2, hap_xa0_0, hb⟩
  replace FB := Lib.hid (FB.out.b hb)
  replace Fa01 := Lib.hid (Fa01.out.b hb)
  replace Fa02 := Lib.hid (Fa02.out.b hb)
  replace Fa11 := Lib.hid (Fa11.out.b hb)
  replace Fa12 := Lib.hid (Fa12.out.b hb)
  replace Ba0 := Lib.hid (Ba0.out.b hb)
  replace Ba1 := Lib.hid (Ba1.out.b hb)
  replace Xmr0 := Lib.hid (Xmr0.out.b hb)
  replace Vmr01 := Lib.hid (Vmr01.out.b hb)
  replace Vmr02 := Lib.hid (Vmr02.out.b hb)
  have z_w6 : wc.heap.size ≤ w6.heap.size := by have hsz := hb.size; first | omega | (simp at hsz; omega)
  clear c_Ba0_0 c_Ba0_1 c_Ba0_2 c_Ba1_0 c_Ba1_1 c_Ba1_2
  have Oxa01 := Lib.hid (owned (ho1.mono (lo' := wc.heap.size) (Nat.le_refl _) (Nat.le_refl _)))
  have Oxa02 := Lib.hid (owned (ho2.mono (lo' := wc.heap.size) (Nat.le_refl _) (Nat.le_refl _)))
  clear hb ho1 ho2
  replace FB := Lib.hid (FB.out.alloc (.cells #[.int .i64 a0z0, .slice xa0A1 a0n1 xa0c1, .slice xa0A2 a0n2 xa0c2] 26))
  replace Fa01 := Lib.hid (Fa01.out.alloc (.cells #[.int .i64 a0z0, .slice xa0A1 a0n1 xa0c1, .slice xa0A2 a0n2 xa0c2] 26))
  replace Fa02 := Lib.hid (Fa02.out.alloc (.cells #[.int .i64 a0z0, .slice xa0A1 a0n1 xa0c1, .slice xa0A2 a0n2 xa0c2] 26))
  replace Fa11 := Lib.hid (Fa11.out.alloc (.cells #[.int .i64 a0z0, .slice xa0A1 a0n1 xa0c1, .slice xa0A2 a0n2 xa0c2] 26))
  replace Fa12 := Lib.hid (Fa12.out.alloc (.cells #[.int .i64 a0z0, .slice xa0A1 a0n1 xa0c1, .slice xa0A2 a0n2 xa0c2] 26))
  replace Ba0 := Lib.hid (Ba0.out.alloc (.cells #[.int .i64 a0z0, .slice xa0A1 a0n1 xa0c1, .slice xa0A2 a0n2 xa0c2] 26))
  replace Ba1 := Lib.hid (Ba1.out.alloc (.cells #[.int .i64 a0z0, .slice xa0A1 a0n1 xa0c1, .slice xa0A2 a0n2 xa0c2] 26))
  replace Xmr0 := Lib.hid (Xmr0.out.alloc (.cells #[.int .i64 a0z0, .slice xa0A1 a0n1 xa0c1, .slice xa0A2 a0n2 xa0c2] 26))
  replace Vmr01 := Lib.hid (Vmr01.out.alloc (.cells #[.int .i64 a0z0, .slice xa0A1 a0n1 xa0c1, .slice xa0A2 a0n2 xa0c2] 26))
  replace Vmr02 := Lib.hid (Vmr02.out.alloc (.cells #[.int .i64 a0z0, .slice xa0A1 a0n1 xa0c1, .slice xa0A2 a0n2 xa0c2] 26))
  replace Oxa01 := Lib.hid (Oxa01.out.alloc (.cells #[.int .i64 a0z0, .slice xa0A1 a0n1 xa0c1, .slice xa0A2 a0n2 xa0c2] 26))
  replace Oxa02 := Lib.hid (Oxa02.out.alloc (.cells #[.int .i64 a0z0, .slice xa0A1 a0n1 xa0c1, .slice xa0A2 a0n2 xa0c2] 26))
  have Yxa0 := Lib.hid (boxed w6 #[.int .i64 a0z0, .slice xa0A1 a0n1 xa0c1, .slice xa0A2 a0n2 xa0c2] 26)
  have c_Ba0_0 := Ba0.out.now 0 _ rfl
  have c_Ba0_1 := Ba0.out.now 1 _ rfl
  have c_Ba0_2 := Ba0.out.now 2 _ rfl
  have c_Ba1_0 := Ba1.out.now 0 _ rfl
  have c_Ba1_1 := Ba1.out.now 1 _ rfl
  have c_Ba1_2 := Ba1.out.now 2 _ rfl
  go_wp2_with fail
  refine (to_Front ha1k1 ha1k2 Fa11.out.row Fa12.out.row).mono ?_; rintro e w7 ⟨xa1A1, xa1c1, xa1A2, xa1c2, rfl, ho1, ho2, hap_xa1_0, hb⟩
  replace FB := Lib.hid (FB.out.b hb)
  replace Fa01 := Lib.hid (Fa01.out.b hb)
  replace Fa02 := Lib.hid (Fa02.out.b hb)
  replace Fa11 := Lib.hid (Fa11.out.b hb)
  replace Fa12 := Lib.hid (Fa12.out.b hb)
  replace Ba0 := Lib.hid (Ba0.out.b hb)
  replace Ba1 := Lib.hid (Ba1.out.b hb)
  replace Xmr0 := Lib.hid (Xmr0.out.b hb)
  replace Vmr01 := Lib.hid (Vmr01.out.b hb)
  replace Vmr02 := Lib.hid (Vmr02.out.b hb)
  replace Oxa01 := Lib.hid (Oxa01.out.b hb)
  replace Oxa02 := Lib.hid (Oxa02.out.b hb)
  replace Yxa0 := Lib.hid (Yxa0.out.b hb)
  have z_w7 : w6.heap.size + 1 ≤ w7.heap.size := by have hsz := hb.size; first | omega | (simp at hsz; omega)
  clear c_Ba0_0 c_Ba0_1 c_Ba0_2 c_Ba1_0 c_Ba1_1 c_Ba1_2
  have Oxa11 := Lib.hid (owned (ho1.mono (lo' := w6.heap.size + 1) (by simp) (Nat.le_refl _)))
  have Oxa12 := Lib.hid (owned (ho2.mono (lo' := w6.heap.size + 1) (by simp) (Nat.le_refl _)))
  clear hb ho1 ho2
  replace FB := Lib.hid (FB.out.alloc (.cells #[.int .i64 a1z0, .slice xa1A1 a1n1 xa1c1, .slice xa1A2 a1n2 xa1c2] 26))
  replace Fa01 := Lib.hid (Fa01.out.alloc (.cells #[.int .i64 a1z0, .slice xa1A1 a1n1 xa1c1, .slice xa1A2 a1n2 xa1c2] 26))
  replace Fa02 := Lib.hid (Fa02.out.alloc (.cells #[.int .i64 a1z0, .slice xa1A1 a1n1 xa1c1, .slice xa1A2 a1n2 xa1c2] 26))
  replace Fa11 := Lib.hid (Fa11.out.alloc (.cells #[.int .i64 a1z0, .slice xa1A1 a1n1 xa1c1, .slice xa1A2 a1n2 xa1c2] 26))
  replace Fa12 := Lib.hid (Fa12.out.alloc (.cells #[.int .i64 a1z0, .slice xa1A1 a1n1 xa1c1, .slice xa1A2 a1n2 xa1c2] 26))
  replace Ba0 := Lib.hid (Ba0.out.alloc (.cells #[.int .i64 a1z0, .slice xa1A1 a1n1 xa1c1, .slice xa1A2 a1n2 xa1c2] 26))
  replace Ba1 := Lib.hid (Ba1.out.alloc (.cells #[.int .i64 a1z0, .slice xa1A1 a1n1 xa1c1, .slice xa1A2 a1n2 xa1c2] 26))
  replace Xmr0 := Lib.hid (Xmr0.out.alloc (.cells #[.int .i64 a1z0, .slice xa1A1 a1n1 xa1c1, .slice xa1A2 a1n2 xa1c2] 26))
  replace Vmr01 := Lib.hid (Vmr01.out.alloc (.cells #[.int .i64 a1z0, .slice xa1A1 a1n1 xa1c1, .slice xa1A2 a1n2 xa1c2] 26))
  replace Vmr02 := Lib.hid (Vmr02.out.alloc (.cells #[.int .i64 a1z0, .slice xa1A1 a1n1 xa1c1, .slice xa1A2 a1n2 xa1c2] 26))
  replace Oxa01 := Lib.hid (Oxa01.out.alloc (.cells #[.int .i64 a1z0, .slice xa1A1 a1n1 xa1c1, .slice xa1A2 a1n2 xa1c2] 26))
  replace Oxa02 := Lib.hid (Oxa02.out.alloc (.cells #[.int .i64 a1z0, .slice xa1A1 a1n1 xa1c1, .slice xa1A2 a1n2 xa1c2] 26))
  replace Yxa0 := Lib.hid (Yxa0.out.alloc (.cells #[.int .i64 a1z0, .slice xa1A1 a1n1 xa1c1, .slice xa1A2 a1n2 xa1c2] 26))
  replace Oxa11 := Lib.hid (Oxa11.out.alloc (.cells #[.int .i64 a1z0, .slice xa1A1 a1n1 xa1c1, .slice xa1A2 a1n2 xa1c2] 26))
  replace Oxa12 := Lib.hid (Oxa12.out.alloc (.cells #[.int .i64 a1z0, .slice xa1A1 a1n1 xa1c1, .slice xa1A2 a1n2 xa1c2] 26))
  have Yxa1 := Lib.hid (boxed w7 #[.int .i64 a1z0, .slice xa1A1 a1n1 xa1c1, .slice xa1A2 a1n2 xa1c2] 26)
  have c_Yxa0_0 := Yxa0.out.now 0 _ rfl
  have c_Yxa0_1 := Yxa0.out.now 1 _ rfl
  have c_Yxa0_2 := Yxa0.out.now 2 _ rfl
  have c_Yxa1_0 := Yxa1.out.now 0 _ rfl
  have c_Yxa1_1 := Yxa1.out.now 1 _ rfl
  have c_Yxa1_2 := Yxa1.out.now 2 _ rfl
  go_wp2_with fail
  refine (S2.out _ _ _ _ _ _ _ _ _ Oxa01.out.orow Oxa02.out.orow Oxa11.out.orow Oxa12.out.orow).mono ?_; rintro e w8 ⟨gr0A1, gr0c1, gr0A2, gr0c2, rfl, hrr01, hrr02, hap_g_0, hb⟩
  replace FB := Lib.hid (FB.out.b hb)
  replace Fa01 := Lib.hid (Fa01.out.b hb)
  replace Fa02 := Lib.hid (Fa02.out.b hb)
  replace Fa11 := Lib.hid (Fa11.out.b hb)
  replace Fa12 := Lib.hid (Fa12.out.b hb)
  replace Ba0 := Lib.hid (Ba0.out.b hb)
  replace Ba1 := Lib.hid (Ba1.out.b hb)
  replace Xmr0 := Lib.hid (Xmr0.out.b hb)
  replace Vmr01 := Lib.hid (Vmr01.out.b hb)
  replace Vmr02 := Lib.hid (Vmr02.out.b hb)
  replace Oxa01 := Lib.hid (Oxa01.out.b hb)
  replace Oxa02 := Lib.hid (Oxa02.out.b hb)
  replace Yxa0 := Lib.hid (Yxa0.out.b hb)
  replace Oxa11 := Lib.hid (Oxa11.out.b hb)
  replace Oxa12 := Lib.hid (Oxa12.out.b hb)
  replace Yxa1 := Lib.hid (Yxa1.out.b hb)
  have z_w8 : w7.heap.size + 1 ≤ w8.heap.size := by have hsz := hb.size; first | omega | (simp at hsz; omega)
  clear c_Yxa0_0 c_Yxa0_1 c_Yxa0_2 c_Yxa1_0 c_Yxa1_1 c_Yxa1_2
  have Ogr01 := Lib.hid (owned (hrr01.mono (lo' := w7.heap.size + 1) (by simp) (Nat.le_refl _)))
  have Ogr02 := Lib.hid (owned (hrr02.mono (lo' := w7.heap.size + 1) (by simp) (Nat.le_refl _)))
  clear hb hrr01 hrr02
  replace FB := Lib.hid (FB.out.alloc (.cells #[.int .i64 r0z0, .slice gr0A1 r0n1 gr0c1, .slice gr0A2 r0n2 gr0c2] 26))
  replace Fa01 := Lib.hid (Fa01.out.alloc (.cells #[.int .i64 r0z0, .slice gr0A1 r0n1 gr0c1, .slice gr0A2 r0n2 gr0c2] 26))
  replace Fa02 := Lib.hid (Fa02.out.alloc (.cells #[.int .i64 r0z0, .slice gr0A1 r0n1 gr0c1, .slice gr0A2 r0n2 gr0c2] 26))
  replace Fa11 := Lib.hid (Fa11.out.alloc (.cells #[.int .i64 r0z0, .slice gr0A1 r0n1 gr0c1, .slice gr0A2 r0n2 gr0c2] 26))
  replace Fa12 := Lib.hid (Fa12.out.alloc (.cells #[.int .i64 r0z0, .slice gr0A1 r0n1 gr0c1, .slice gr0A2 r0n2 gr0c2] 26))
  replace Ba0 := Lib.hid (Ba0.out.alloc (.cells #[.int .i64 r0z0, .slice gr0A1 r0n1 gr0c1, .slice gr0A2 r0n2 gr0c2] 26))
  replace Ba1 := Lib.hid (Ba1.out.alloc (.cells #[.int .i64 r0z0, .slice gr0A1 r0n1 gr0c1, .slice gr0A2 r0n2 gr0c2] 26))
  replace Xmr0 := Lib.hid (Xmr0.out.alloc (.cells #[.int .i64 r0z0, .slice gr0A1 r0n1 gr0c1, .slice gr0A2 r0n2 gr0c2] 26))
  replace Vmr01 := Lib.hid (Vmr01.out.alloc (.cells #[.int .i64 r0z0, .slice gr0A1 r0n1 gr0c1, .slice gr0A2 r0n2 gr0c2] 26))
  replace Vmr02 := Lib.hid (Vmr02.out.alloc (.cells #[.int .i64 r0z0, .slice gr0A1 r0n1 gr0c1, .slice gr0A2 r0n2 gr0c2] 26))
  replace Oxa01 := Lib.hid (Oxa01.out.alloc (.cells #[.int .i64 r0z0, .slice gr0A1 r0n1 gr0c1, .slice gr0A2 r0n2 gr0c2] 26))
  replace Oxa02 := Lib.hid (Oxa02.out.alloc (.cells #[.int .i64 r0z0, .slice gr0A1 r0n1 gr0c1, .slice gr0A2 r0n2 gr0c2] 26))
  replace Yxa0 := Lib.hid (Yxa0.out.alloc (.cells #[.int .i64 r0z0, .slice gr0A1 r0n1 gr0c1, .slice gr0A2 r0n2 gr0c2] 26))
  replace Oxa11 := Lib.hid (Oxa11.out.alloc (.cells #[.int .i64 r0z0, .slice gr0A1 r0n1 gr0c1, .slice gr0A2 r0n2 gr0c2] 26))
  replace Oxa12 := Lib.hid (Oxa12.out.alloc (.cells #[.int .i64 r0z0, .slice gr0A1 r0n1 gr0c1, .slice gr0A2 r0n2 gr0c2] 26))
  replace Yxa1 := Lib.hid (Yxa1.out.alloc (.cells #[.int .i64 r0z0, .slice gr0A1 r0n1 gr0c1, .slice gr0A2 r0n2 gr0c2] 26))
  replace Ogr01 := Lib.hid (Ogr01.out.alloc (.cells #[.int .i64 r0z0, .slice gr0A1 r0n1 gr0c1, .slice gr0A2 r0n2 gr0c2] 26))
  replace Ogr02 := Lib.hid (Ogr02.out.alloc (.cells #[.int .i64 r0z0, .slice gr0A1 r0n1 gr0c1, .slice gr0A2 r0n2 gr0c2] 26))
  have Xgr0 := Lib.hid (boxed w8 #[.int .i64 r0z0, .slice gr0A1 r0n1 gr0c1, .slice gr0A2 r0n2 gr0c2] 26)
  have c_Xgr0_0 := Xgr0.out.now 0 _ rfl
  have c_Xgr0_1 := Xgr0.out.now 1 _ rfl
  have c_Xgr0_2 := Xgr0.out.now 2 _ rfl
  have c_Xmr0_0 := Xmr0.out.now 0 _ rfl
  have c_Xmr0_1 := Xmr0.out.now 1 _ rfl
  have c_Xmr0_2 := Xmr0.out.now 2 _ rfl
  go_wp2_with fail
  refine (eq_Front hr0m1 hr0m2 Ogr01.out.orow Ogr02.out.orow Vmr01.out.row Vmr02.out.row).mono ?_; rintro e w9 ⟨rfl, hb⟩
  replace FB := Lib.hid (FB.out.b hb)
  replace Fa01 := Lib.hid (Fa01.out.b hb)
  replace Fa02 := Lib.hid (Fa02.out.b hb)
  replace Fa11 := Lib.hid (Fa11.out.b hb)
  replace Fa12 := Lib.hid (Fa12.out.b hb)
  replace Ba0 := Lib.hid (Ba0.out.b hb)
  replace Ba1 := Lib.hid (Ba1.out.b hb)
  replace Xmr0 := Lib.hid (Xmr0.out.b hb)
  replace Vmr01 := Lib.hid (Vmr01.out.b hb)
  replace Vmr02 := Lib.hid (Vmr02.out.b hb)
  replace Oxa01 := Lib.hid (Oxa01.out.b hb)
  replace Oxa02 := Lib.hid (Oxa02.out.b hb)
  replace Yxa0 := Lib.hid (Yxa0.out.b hb)
  replace Oxa11 := Lib.hid (Oxa11.out.b hb)
  replace Oxa12 := Lib.hid (Oxa12.out.b hb)
  replace Yxa1 := Lib.hid (Yxa1.out.b hb)
  replace Ogr01 := Lib.hid (Ogr01.out.b hb)
  replace Ogr02 := Lib.hid (Ogr02.out.b hb)
  replace Xgr0 := Lib.hid (Xgr0.out.b hb)
  have z_w9 : w8.heap.size + 1 ≤ w9.heap.size := by have hsz := hb.size; first | omega | (simp at hsz; omega)
  clear c_Xgr0_0 c_Xgr0_1 c_Xgr0_2 c_Xmr0_0 c_Xmr0_1 c_Xmr0_2
  clear hb
  have c_Ba0_0 := Ba0.out.now 0 _ rfl
  have c_Ba0_1 := Ba0.out.now 1 _ rfl
  have c_Ba0_2 := Ba0.out.now 2 _ rfl
  have c_Yxa0_0 := Yxa0.out.now 0 _ rfl
  have c_Yxa0_1 := Yxa0.out.now 1 _ rfl
  have c_Yxa0_2 := Yxa0.out.now 2 _ rfl
  go_wp2_with fail
  go_region_held3 (fun w' => w'.cell? ⟨w.heap.size, 0, none⟩ = some (.int .i64 a0z0) ∧ w'.cell? ⟨w.heap.size, 1, none⟩ = some (.slice a0A1 a0n1 a0c1) ∧ w'.cell? ⟨w.heap.size, 2, none⟩ = some (.slice a0A2 a0n2 a0c2) ∧ w'.cell? ⟨w6.heap.size, 0, none⟩ = some (.int .i64 a0z0) ∧ w'.cell? ⟨w6.heap.size, 1, none⟩ = some (.slice xa0A1 a0n1 xa0c1) ∧ w'.cell? ⟨w6.heap.size, 2, none⟩ = some (.slice xa0A2 a0n2 xa0c2))
    (first | (go_keep; done) | exact ⟨(((Ba0.out.b hq1).b hq2)).now 0 _ rfl, (((Ba0.out.b hq1).b hq2)).now 1 _ rfl, (((Ba0.out.b hq1).b hq2)).now 2 _ rfl, (((Yxa0.out.b hq1).b hq2)).now 0 _ rfl, (((Yxa0.out.b hq1).b hq2)).now 1 _ rfl, (((Yxa0.out.b hq1).b hq2)).now 2 _ rfl⟩ | exact ⟨((Ba0.out.b hq1)).now 0 _ rfl, ((Ba0.out.b hq1)).now 1 _ rfl, ((Ba0.out.b hq1)).now 2 _ rfl, ((Yxa0.out.b hq1)).now 0 _ rfl, ((Yxa0.out.b hq1)).now 1 _ rfl, ((Yxa0.out.b hq1)).now 2 _ rfl⟩)
    (first
      | (have hqz := hq1; clear hqz; go_at_call 15; (first | refine (eq_Front ha0k1 ha0k2 ((Oxa01.out.b hq1)).orow ((Oxa02.out.b hq1)).orow (owned ho1).orow (owned ho2).orow).mono ?_); rintro e w11 ⟨rfl, hq2⟩)
      | (go_at_call 22; (first | refine (to_Front ha0k1 ha0k2 (Fa01.out).row (Fa02.out).row).mono ?_ | refine (to_Front ha0k1 ha0k2 (GRow.drew (Fa01.out).row) (GRow.drew (Fa02.out).row)).mono ?_); rintro e w10 ⟨ya0A1, ya0c1, ya0A2, ya0c2, rfl, ho1, ho2, hz0, hq1'⟩; have hq1 := of_drew hq1'; clear hq1'))
  replace FB := Lib.hid (FB.out.b hq1)
  replace Fa01 := Lib.hid (Fa01.out.b hq1)
  replace Fa02 := Lib.hid (Fa02.out.b hq1)
  replace Fa11 := Lib.hid (Fa11.out.b hq1)
  replace Fa12 := Lib.hid (Fa12.out.b hq1)
  replace Ba0 := Lib.hid (Ba0.out.b hq1)
  replace Ba1 := Lib.hid (Ba1.out.b hq1)
  replace Xmr0 := Lib.hid (Xmr0.out.b hq1)
  replace Vmr01 := Lib.hid (Vmr01.out.b hq1)
  replace Vmr02 := Lib.hid (Vmr02.out.b hq1)
  replace Oxa01 := Lib.hid (Oxa01.out.b hq1)
  replace Oxa02 := Lib.hid (Oxa02.out.b hq1)
  replace Yxa0 := Lib.hid (Yxa0.out.b hq1)
  replace Oxa11 := Lib.hid (Oxa11.out.b hq1)
  replace Oxa12 := Lib.hid (Oxa12.out.b hq1)
  replace Yxa1 := Lib.hid (Yxa1.out.b hq1)
  replace Ogr01 := Lib.hid (Ogr01.out.b hq1)
  replace Ogr02 := Lib.hid (Ogr02.out.b hq1)
  replace Xgr0 := Lib.hid (Xgr0.out.b hq1)
  replace FB := Lib.hid (FB.out.b hq2)
  replace Fa01 := Lib.hid (Fa01.out.b hq2)
  replace Fa02 := Lib.hid (Fa02.out.b hq2)
  replace Fa11 := Lib.hid (Fa11.out.b hq2)
  replace Fa12 := Lib.hid (Fa12.out.b hq2)
  replace Ba0 := Lib.hid (Ba0.out.b hq2)
  replace Ba1 := Lib.hid (Ba1.out.b hq2)
  replace Xmr0 := Lib.hid (Xmr0.out.b hq2)
  replace Vmr01 := Lib.hid (Vmr01.out.b hq2)
  replace Vmr02 := Lib.hid (Vmr02.out.b hq2)
  replace Oxa01 := Lib.hid (Oxa01.out.b hq2)
  replace Oxa02 := Lib.hid (Oxa02.out.b hq2)
  replace Yxa0 := Lib.hid (Yxa0.out.b hq2)
  replace Oxa11 := Lib.hid (Oxa11.out.b hq2)
  replace Oxa12 := Lib.hid (Oxa12.out.b hq2)
  replace Yxa1 := Lib.hid (Yxa1.out.b hq2)
  replace Ogr01 := Lib.hid (Ogr01.out.b hq2)
  replace Ogr02 := Lib.hid (Ogr02.out.b hq2)
  replace Xgr0 := Lib.hid (Xgr0.out.b hq2)
  have z_w10 : w9.heap.size ≤ w10.heap.size := by have hsz := hq1.size; first | omega | (simp at hsz; omega)
  have z_w11 : w10.heap.size ≤ w11.heap.size := hq2.size
  clear c_Ba0_0 c_Ba0_1 c_Ba0_2 c_Yxa0_0 c_Yxa0_1 c_Yxa0_2
  clear hq1 hq2 ho1 ho2 hz0
  have c_Ba1_0 := Ba1.out.now 0 _ rfl
  have c_Ba1_1 := Ba1.out.now 1 _ rfl
  have c_Ba1_2 := Ba1.out.now 2 _ rfl
  have c_Yxa1_0 := Yxa1.out.now 0 _ rfl
  have c_Yxa1_1 := Yxa1.out.now 1 _ rfl
  have c_Yxa1_2 := Yxa1.out.now 2 _ rfl
  go_wp2_with fail
  go_region_held3 (fun w' => w'.cell? ⟨w.heap.size + 1, 0, none⟩ = some (.int .i64 a1z0) ∧ w'.cell? ⟨w.heap.size + 1, 1, none⟩ = some (.slice a1A1 a1n1 a1c1) ∧ w'.cell? ⟨w.heap.size + 1, 2, none⟩ = some (.slice a1A2 a1n2 a1c2) ∧ w'.cell? ⟨w7.heap.size, 0, none⟩ = some (.int .i64 a1z0) ∧ w'.cell? ⟨w7.heap.size, 1, none⟩ = some (.slice xa1A1 a1n1 xa1c1) ∧ w'.cell? ⟨w7.heap.size, 2, none⟩ = some (.slice xa1A2 a1n2 xa1c2))
    (first | (go_keep; done) | exact ⟨(((Ba1.out.b hq1).b hq2)).now 0 _ rfl, (((Ba1.out.b hq1).b hq2)).now 1 _ rfl, (((Ba1.out.b hq1).b hq2)).now 2 _ rfl, (((Yxa1.out.b hq1).b hq2)).now 0 _ rfl, (((Yxa1.out.b hq1).b hq2)).now 1 _ rfl, (((Yxa1.out.b hq1).b hq2)).now 2 _ rfl⟩ | exact ⟨((Ba1.out.b hq1)).now 0 _ rfl, ((Ba1.out.b hq1)).now 1 _ rfl, ((Ba1.out.b hq1)).now 2 _ rfl, ((Yxa1.out.b hq1)).now 0 _ rfl, ((Yxa1.out.b hq1)).now 1 _ rfl, ((Yxa1.out.b hq1)).now 2 _ rfl⟩)
    (first
      | (have hqz := hq1; clear hqz; go_at_call 15; (first | refine (eq_Front ha1k1 ha1k2 ((Oxa11.out.b hq1)).orow ((Oxa12.out.b hq1)).orow (owned ho1).orow (owned ho2).orow).mono ?_); rintro e w13 ⟨rfl, hq2⟩)
      | (go_at_call 22; (first | refine (to_Front ha1k1 ha1k2 (Fa11.out).row (Fa12.out).row).mono ?_ | refine (to_Front ha1k1 ha1k2 (GRow.drew (Fa11.out).row) (GRow.drew (Fa12.out).row)).mono ?_); rintro e w12 ⟨ya1A1, ya1c1, ya1A2, ya1c2, rfl, ho1, ho2, hz0, hq1'⟩; have hq1 := of_drew hq1'; clear hq1'))
  replace FB := Lib.hid (FB.out.b hq1)
  replace Fa01 := Lib.hid (Fa01.out.b hq1)
  replace Fa02 := Lib.hid (Fa02.out.b hq1)
  replace Fa11 := Lib.hid (Fa11.out.b hq1)
  replace Fa12 := Lib.hid (Fa12.out.b hq1)
  replace Ba0 := Lib.hid (Ba0.out.b hq1)
  replace Ba1 := Lib.hid (Ba1.out.b hq1)
  replace Xmr0 := Lib.hid (Xmr0.out.b hq1)
  replace Vmr01 := Lib.hid (Vmr01.out.b hq1)
  replace Vmr02 := Lib.hid (Vmr02.out.b hq1)
  replace Oxa01 := Lib.hid (Oxa01.out.b hq1)
  replace Oxa02 := Lib.hid (Oxa02.out.b hq1)
  replace Yxa0 := Lib.hid (Yxa0.out.b hq1)
  replace Oxa11 := Lib.hid (Oxa11.out.b hq1)
  replace Oxa12 := Lib.hid (Oxa12.out.b hq1)
  replace Yxa1 := Lib.hid (Yxa1.out.b hq1)
  replace Ogr01 := Lib.hid (Ogr01.out.b hq1)
  replace Ogr02 := Lib.hid (Ogr02.out.b hq1)
  replace Xgr0 := Lib.hid (Xgr0.out.b hq1)
  replace FB := Lib.hid (FB.out.b hq2)
  replace Fa01 := Lib.hid (Fa01.out.b hq2)
  replace Fa02 := Lib.hid (Fa02.out.b hq2)
  replace Fa11 := Lib.hid (Fa11.out.b hq2)
  replace Fa12 := Lib.hid (Fa12.out.b hq2)
  replace Ba0 := Lib.hid (Ba0.out.b hq2)
  replace Ba1 := Lib.hid (Ba1.out.b hq2)
  replace Xmr0 := Lib.hid (Xmr0.out.b hq2)
  replace Vmr01 := Lib.hid (Vmr01.out.b hq2)
  replace Vmr02 := Lib.hid (Vmr02.out.b hq2)
  replace Oxa01 := Lib.hid (Oxa01.out.b hq2)
  replace Oxa02 := Lib.hid (Oxa02.out.b hq2)
  replace Yxa0 := Lib.hid (Yxa0.out.b hq2)
  replace Oxa11 := Lib.hid (Oxa11.out.b hq2)
  replace Oxa12 := Lib.hid (Oxa12.out.b hq2)
  replace Yxa1 := Lib.hid (Yxa1.out.b hq2)
  replace Ogr01 := Lib.hid (Ogr01.out.b hq2)
  replace Ogr02 := Lib.hid (Ogr02.out.b hq2)
  replace Xgr0 := Lib.hid (Xgr0.out.b hq2)
  have z_w12 : w11.heap.size ≤ w12.heap.size := by have hsz := hq1.size; first | omega | (simp at hsz; omega)
  have z_w13 : w12.heap.size ≤ w13.heap.size := hq2.size
  clear c_Ba1_0 c_Ba1_1 c_Ba1_2 c_Yxa1_0 c_Yxa1_1 c_Yxa1_2
  clear hq1 hq2 ho1 ho2 hz0
  have c_Yxa0_0 := Yxa0.out.now 0 _ rfl
  have c_Yxa0_1 := Yxa0.out.now 1 _ rfl
  have c_Yxa0_2 := Yxa0.out.now 2 _ rfl
  have c_Yxa1_0 := Yxa1.out.now 0 _ rfl
  have c_Yxa1_1 := Yxa1.out.now 1 _ rfl
  have c_Yxa1_2 := Yxa1.out.now 2 _ rfl
  go_wp2_with fail
  refine (mark_Front ha0k1 ha0k2 Oxa01.out.now Oxa02.out.now Oxa01.out.top hap_xa0_0 (by omega) (by omega)).mono ?_; rintro e w14 ⟨rfl, hm0, hm1, hg⟩
  replace FB := Lib.hid (FB.out.far hg (by omega))
  replace Fa01 := Lib.hid (Fa01.out.far hg (by omega))
  replace Fa02 := Lib.hid (Fa02.out.far hg (by omega))
  replace Fa11 := Lib.hid (Fa11.out.far hg (by omega))
  replace Fa12 := Lib.hid (Fa12.out.far hg (by omega))
  replace Ba0 := Lib.hid (Ba0.out.far hg (by omega))
  replace Ba1 := Lib.hid (Ba1.out.far hg (by omega))
  replace Xmr0 := Lib.hid (Xmr0.out.far hg (by omega))
  replace Vmr01 := Lib.hid (Vmr01.out.far hg (by omega))
  replace Vmr02 := Lib.hid (Vmr02.out.far hg (by omega))
  replace Yxa0 := Lib.hid (Yxa0.out.far hg (by omega))
  replace Oxa11 := Lib.hid (Oxa11.out.far hg (by omega))
  replace Oxa12 := Lib.hid (Oxa12.out.far hg (by omega))
  replace Yxa1 := Lib.hid (Yxa1.out.far hg (by omega))
  replace Ogr01 := Lib.hid (Ogr01.out.far hg (by omega))
  replace Ogr02 := Lib.hid (Ogr02.out.far hg (by omega))
  replace Xgr0 := Lib.hid (Xgr0.out.far hg (by omega))
  have z_w14 : w13.heap.size ≤ w14.heap.size := by have hsz := hg.size; first | omega | (simp at hsz; omega)
  replace Oxa01 := Lib.hid (At.mk hm0 (Nat.le_trans Oxa01.out.top hg.size) (Ow.lives _ _ _ _ _ _))
  replace Oxa02 := Lib.hid (At.mk hm1 (Nat.le_trans Oxa02.out.top hg.size) (Ow.lives _ _ _ _ _ _))
  clear c_Yxa0_0 c_Yxa0_1 c_Yxa0_2 c_Yxa1_0 c_Yxa1_1 c_Yxa1_2
  clear hg hm0 hm1
  clear Oxa01 Oxa02 Yxa0
  have c_Yxa1_0 := Yxa1.out.now 0 _ rfl
  have c_Yxa1_1 := Yxa1.out.now 1 _ rfl
  have c_Yxa1_2 := Yxa1.out.now 2 _ rfl
  go_wp2_with fail
  refine (mark_Front ha1k1 ha1k2 Oxa11.out.now Oxa12.out.now Oxa11.out.top hap_xa1_0 (by omega) (by omega)).mono ?_; rintro e w15 ⟨rfl, hm0, hm1, hg⟩
  replace FB := Lib.hid (FB.out.far hg (by omega))
  replace Fa01 := Lib.hid (Fa01.out.far hg (by omega))
  replace Fa02 := Lib.hid (Fa02.out.far hg (by omega))
  replace Fa11 := Lib.hid (Fa11.out.far hg (by omega))
  replace Fa12 := Lib.hid (Fa12.out.far hg (by omega))
  replace Ba0 := Lib.hid (Ba0.out.far hg (by omega))
  replace Ba1 := Lib.hid (Ba1.out.far hg (by omega))
  replace Xmr0 := Lib.hid (Xmr0.out.far hg (by omega))
  replace Vmr01 := Lib.hid (Vmr01.out.far hg (by omega))
  replace Vmr02 := Lib.hid (Vmr02.out.far hg (by omega))
  replace Yxa1 := Lib.hid (Yxa1.out.far hg (by omega))
  replace Ogr01 := Lib.hid (Ogr01.out.far hg (by omega))
  replace Ogr02 := Lib.hid (Ogr02.out.far hg (by omega))
  replace Xgr0 := Lib.hid (Xgr0.out.far hg (by omega))
  have z_w15 : w14.heap.size ≤ w15.heap.size := by have hsz := hg.size; first | omega | (simp at hsz; omega)
  replace Oxa11 := Lib.hid (At.mk hm0 (Nat.le_trans Oxa11.out.top hg.size) (Ow.lives _ _ _ _ _ _))
  replace Oxa12 := Lib.hid (At.mk hm1 (Nat.le_trans Oxa12.out.top hg.size) (Ow.lives _ _ _ _ _ _))
  clear c_Yxa1_0 c_Yxa1_1 c_Yxa1_2
  clear hg hm0 hm1
  clear Oxa11 Oxa12 Yxa1
  have c_Xgr0_0 := Xgr0.out.now 0 _ rfl
  have c_Xgr0_1 := Xgr0.out.now 1 _ rfl
  have c_Xgr0_2 := Xgr0.out.now 2 _ rfl
  have c_Xmr0_0 := Xmr0.out.now 0 _ rfl
  have c_Xmr0_1 := Xmr0.out.now 1 _ rfl
  have c_Xmr0_2 := Xmr0.out.now 2 _ rfl
  go_wp2_with fail
  refine (eq_Front hr0m1 hr0m2 Ogr01.out.orow Ogr02.out.orow Vmr01.out.row Vmr02.out.row).mono ?_; rintro e w16 ⟨rfl, hb⟩
  replace FB := Lib.hid (FB.out.b hb)
  replace Fa01 := Lib.hid (Fa01.out.b hb)
  replace Fa02 := Lib.hid (Fa02.out.b hb)
  replace Fa11 := Lib.hid (Fa11.out.b hb)
  replace Fa12 := Lib.hid (Fa12.out.b hb)
  replace Ba0 := Lib.hid (Ba0.out.b hb)
  replace Ba1 := Lib.hid (Ba1.out.b hb)
  replace Xmr0 := Lib.hid (Xmr0.out.b hb)
  replace Vmr01 := Lib.hid (Vmr01.out.b hb)
  replace Vmr02 := Lib.hid (Vmr02.out.b hb)
  replace Ogr01 := Lib.hid (Ogr01.out.b hb)
  replace Ogr02 := Lib.hid (Ogr02.out.b hb)
  replace Xgr0 := Lib.hid (Xgr0.out.b hb)
  have z_w16 : w15.heap.size ≤ w16.heap.size := by have hsz := hb.size; first | omega | (simp at hsz; omega)
  clear c_Xgr0_0 c_Xgr0_1 c_Xgr0_2 c_Xmr0_0 c_Xmr0_1 c_Xmr0_2
  clear hb
  have c_Xgr0_0 := Xgr0.out.now 0 _ rfl
  have c_Xgr0_1 := Xgr0.out.now 1 _ rfl
  have c_Xgr0_2 := Xgr0.out.now 2 _ rfl
  go_wp2_with fail
  refine (mark_Front hr0m1 hr0m2 Ogr01.out.now Ogr02.out.now Ogr01.out.top hap_g_0 (by omega) (by omega)).mono ?_; rintro e w17 ⟨rfl, hm0, hm1, hg⟩
  replace FB := Lib.hid (FB.out.far hg (by omega))
  replace Fa01 := Lib.hid (Fa01.out.far hg (by omega))
  replace Fa02 := Lib.hid (Fa02.out.far hg (by omega))
  replace Fa11 := Lib.hid (Fa11.out.far hg (by omega))
  replace Fa12 := Lib.hid (Fa12.out.far hg (by omega))
  replace Ba0 := Lib.hid (Ba0.out.far hg (by omega))
  replace Ba1 := Lib.hid (Ba1.out.far hg (by omega))
  replace Xmr0 := Lib.hid (Xmr0.out.far hg (by omega))
  replace Vmr01 := Lib.hid (Vmr01.out.far hg (by omega))
  replace Vmr02 := Lib.hid (Vmr02.out.far hg (by omega))
  replace Xgr0 := Lib.hid (Xgr0.out.far hg (by omega))
  have z_w17 : w16.heap.size ≤ w17.heap.size := by have hsz := hg.size; first | omega | (simp at hsz; omega)
  replace Ogr01 := Lib.hid (At.mk hm0 (Nat.le_trans Ogr01.out.top hg.size) (Ow.lives _ _ _ _ _ _))
  replace Ogr02 := Lib.hid (At.mk hm1 (Nat.le_trans Ogr02.out.top hg.size) (Ow.lives _ _ _ _ _ _))
  clear c_Xgr0_0 c_Xgr0_1 c_Xgr0_2
  clear hg hm0 hm1
  have c_Xgr0_0 := Xgr0.out.now 0 _ rfl
  have c_Xgr0_1 := Xgr0.out.now 1 _ rfl
  have c_Xgr0_2 := Xgr0.out.now 2 _ rfl
  go_wp2_with fail
  refine (held_Front hr0m1 hr0m2 Ogr01.out.orow Ogr02.out.orow (by omega) (by omega)).mono ?_; rintro e w18 ⟨rfl, hb⟩
  replace FB := Lib.hid (FB.out.b hb)
  replace Fa01 := Lib.hid (Fa01.out.b hb)
  replace Fa02 := Lib.hid (Fa02.out.b hb)
  replace Fa11 := Lib.hid (Fa11.out.b hb)
  replace Fa12 := Lib.hid (Fa12.out.b hb)
  replace Ba0 := Lib.hid (Ba0.out.b hb)
  replace Ba1 := Lib.hid (Ba1.out.b hb)
  replace Xmr0 := Lib.hid (Xmr0.out.b hb)
  replace Vmr01 := Lib.hid (Vmr01.out.b hb)
  replace Vmr02 := Lib.hid (Vmr02.out.b hb)
  replace Ogr01 := Lib.hid (Ogr01.out.b hb)
  replace Ogr02 := Lib.hid (Ogr02.out.b hb)
  replace Xgr0 := Lib.hid (Xgr0.out.b hb)
  have z_w18 : w17.heap.size ≤ w18.heap.size := by have hsz := hb.size; first | omega | (simp at hsz; omega)
  clear c_Xgr0_0 c_Xgr0_1 c_Xgr0_2
  clear hb
  have c_Ba0_0 := Ba0.out.now 0 _ rfl
  have c_Ba0_1 := Ba0.out.now 1 _ rfl
  have c_Ba0_2 := Ba0.out.now 2 _ rfl
  have c_Ba1_0 := Ba1.out.now 0 _ rfl
  have c_Ba1_1 := Ba1.out.now 1 _ rfl
  have c_Ba1_2 := Ba1.out.now 2 _ rfl
  go_upto_region 31 with fail
  have hcur : w18.heap.size ≤ w18.heap.size := Nat.le_refl _
  have HK : ∀ w', Below w18.heap.size w18 w' → w'.cell? ⟨w.heap.size, 0, none⟩ = some (.int .i64 a0z0) ∧ w'.cell? ⟨w.heap.size, 1, none⟩ = some (.slice a0A1 a0n1 a0c1) ∧ w'.cell? ⟨w.heap.size, 2, none⟩ = some (.slice a0A2 a0n2 a0c2) ∧ w'.cell? ⟨w.heap.size + 1, 0, none⟩ = some (.int .i64 a1z0) ∧ w'.cell? ⟨w.heap.size + 1, 1, none⟩ = some (.slice a1A1 a1n1 a1c1) ∧ w'.cell? ⟨w.heap.size + 1, 2, none⟩ = some (.slice a1A2 a1n2 a1c2) := fun w' hb => ⟨(Ba0.out.b hb).now 0 _ rfl, (Ba0.out.b hb).now 1 _ rfl, (Ba0.out.b hb).now 2 _ rfl, (Ba1.out.b hb).now 0 _ rfl, (Ba1.out.b hb).now 1 _ rfl, (Ba1.out.b hb).now 2 _ rfl⟩
  go_cut [15, 16] (fun s15 s16 wx => ∃ (bx_h : Nat) (hr0A1 : Option Addr) (hr0c1 : Nat) (hr0A2 : Option Addr) (hr0c2 : Nat), s15 = .pointer (some ⟨bx_h, 0, none⟩) ∧ s16 = .bool r1z0 ∧ w18.heap.size ≤ bx_h ∧ At bx_h (bx_h + 1) (BoxC bx_h [.int .i64 r0z0, .slice hr0A1 r0n1 hr0c1, .slice hr0A2 r0n2 hr0c2]) wx ∧ GRow wx hr0A1 r0n1 (intV r0X1) ∧ GRow wx hr0A2 r0n2 (strV r0X2) ∧ Below w18.heap.size w18 wx)
  case first =>
    go_region_held3 (fun w' => w'.cell? ⟨w.heap.size, 0, none⟩ = some (.int .i64 a0z0) ∧ w'.cell? ⟨w.heap.size, 1, none⟩ = some (.slice a0A1 a0n1 a0c1) ∧ w'.cell? ⟨w.heap.size, 2, none⟩ = some (.slice a0A2 a0n2 a0c2) ∧ w'.cell? ⟨w.heap.size + 1, 0, none⟩ = some (.int .i64 a1z0) ∧ w'.cell? ⟨w.heap.size + 1, 1, none⟩ = some (.slice a1A1 a1n1 a1c1) ∧ w'.cell? ⟨w.heap.size + 1, 2, none⟩ = some (.slice a1A2 a1n2 a1c2))
      (first | (go_keep; done) | exact HK _ (below_setAt (below_setAt (below_setAt (hq3) NB.ge _) NB.ge _) NB.ge _) | exact HK _ (hq3.alloc hq3.size _) | exact HK _ hq3 | exact HK _ (hq2.alloc hq2.size _) | exact HK _ hq2 | exact HK _ (hq1.alloc hq1.size _) | exact HK _ hq1 | exact HK _ ((Below.refl _ _).alloc (Nat.le_refl _) _))
      (first
        | (have hqz := hq2; clear hqz; go_at_call 33; (first | refine (S2.out _ _ _ _ _ _ _ _ _ hG_a01 hG_a02 hG_a11 hG_a12).mono ?_ | refine (S2.out _ _ _ _ _ _ _ _ _ (hG_a01.al _) (hG_a02.al _) (hG_a11.al _) (hG_a12.al _)).mono ?_); rintro e w21 ⟨hr0A1, hr0c1, hr0A2, hr0c2, rfl, hrr01, hrr02, hap_h_0, hb⟩; (first | (have hq3 := hq2.trans (hb.mono hq2.size)) | (have hq3 := hq2.trans ((below_al hb).mono hq2.size))); (first | (replace hrr01 := Ow.over hrr01 NB.lt; replace hrr02 := Ow.over hrr02 NB.lt; replace NB := NB.b hb; have dd0 := NB.cell 0 _ rfl; have ff0 := NB.free 0; have dd1 := NB.cell 1 _ rfl; have ff1 := NB.free 1; have dd2 := NB.cell 2 _ rfl; have ff2 := NB.free 2) | (have NB := NBX.new hq2.size hb; replace hrr01 := Ow.overNew hrr01; replace hrr02 := Ow.overNew hrr02; have dd0 := NB.cell 0 _ rfl; have ff0 := NB.free 0; have dd1 := NB.cell 1 _ rfl; have ff1 := NB.free 1; have dd2 := NB.cell 2 _ rfl; have ff2 := NB.free 2) | skip); clear hb)
        | (have hqz := hq1; clear hqz; go_at_call 22; (first | refine (to_Front ha1k1 ha1k2 (Fa11.out.b hq1).row (Fa12.out.b hq1).row).mono ?_ | refine (to_Front ha1k1 ha1k2 ((Fa11.out.b hq1).row.al _) ((Fa12.out.b hq1).row.al _)).mono ?_); rintro e w20 ⟨tha1A1, tha1c1, tha1A2, tha1c2, rfl, ho_a11, ho_a12, hz_a1_0, hb⟩; (first | (have hq2 := hq1.trans (hb.mono hq1.size)) | (have hq2 := hq1.trans ((below_al hb).mono hq1.size))); (first | (replace NB := NB.b hb) | (have NB := NBX.new hq1.size hb) | skip); (first | (replace hG_a01 := hG_a01.b hb) | (replace hG_a01 := hG_a01.b (below_al hb))); (first | (replace hG_a02 := hG_a02.b hb) | (replace hG_a02 := hG_a02.b (below_al hb))); have hG_a11 := (Ow.rd ho_a11).row (Nat.le_refl _); have hG_a12 := (Ow.rd ho_a12).row (Nat.le_refl _); clear hb ho_a11 ho_a12 hz_a1_0)
        | (go_at_call 22; (first | refine (to_Front ha0k1 ha0k2 Fa01.out.row Fa02.out.row).mono ?_ | refine (to_Front ha0k1 ha0k2 Fa01.out.rowD Fa02.out.rowD).mono ?_ | refine (to_Front ha0k1 ha0k2 (Fa01.out.row.al _) (Fa02.out.row.al _)).mono ?_ | refine (to_Front ha0k1 ha0k2 (Fa01.out.row.alD _) (Fa02.out.row.alD _)).mono ?_); rintro e w19 ⟨tha0A1, tha0c1, tha0A2, tha0c2, rfl, ho_a01, ho_a02, hz_a0_0, hb'⟩; have hb := of_drew hb'; clear hb'; (first | (have hq1 : Below w18.heap.size w18 w19 := hb) | (have hq1 : Below w18.heap.size w18 w19 := below_al hb)); (first | (replace NB := NB.b hb) | (have NB := NBX.new hcur hb) | skip); have hG_a01 := (Ow.rd ho_a01).row (Nat.le_refl _); have hG_a02 := (Ow.rd ho_a02).row (Nat.le_refl _); clear hb ho_a01 ho_a02 hz_a0_0))
    all_goals go_wp2_with fail
    all_goals go_meet
    all_goals first
      | exact ⟨_, _, _, _, _, rfl, rfl, NB.ge, (((NB.set 0 _).set 1 _).set 2 _).box, At.orow (((hrr01.setC (Nat.le_refl _) 0 _).setC (Nat.le_refl _) 1 _).setC (Nat.le_refl _) 2 _), At.orow (((hrr02.setC (Nat.le_refl _) 0 _).setC (Nat.le_refl _) 1 _).setC (Nat.le_refl _) 2 _), (below_setAt (below_setAt (below_setAt hq3 NB.ge _) NB.ge _) NB.ge _)⟩
      | exact ⟨_, _, _, _, _, rfl, rfl, hq3.size, boxed _ _ _, ((Ow.rd hrr01).row (Nat.le_refl _)).al _, ((Ow.rd hrr02).row (Nat.le_refl _)).al _, hq3.alloc hq3.size _⟩
  case rest =>
  obtain ⟨bx_h, hr0A1, hr0c1, hr0A2, hr0c2, rfl, rfl, hge, hbx, hrr01, hrr02, hbl⟩ := hcut
  clear HK hcur
  clear c_Ba0_0 c_Ba0_1 c_Ba0_2 c_Ba1_0 c_Ba1_1 c_Ba1_2
  replace FB := Lib.hid (FB.out.b hbl)
  replace Fa01 := Lib.hid (Fa01.out.b hbl)
  replace Fa02 := Lib.hid (Fa02.out.b hbl)
  replace Fa11 := Lib.hid (Fa11.out.b hbl)
  replace Fa12 := Lib.hid (Fa12.out.b hbl)
  replace Ba0 := Lib.hid (Ba0.out.b hbl)
  replace Ba1 := Lib.hid (Ba1.out.b hbl)
  replace Xmr0 := Lib.hid (Xmr0.out.b hbl)
  replace Vmr01 := Lib.hid (Vmr01.out.b hbl)
  replace Vmr02 := Lib.hid (Vmr02.out.b hbl)
  replace Ogr01 := Lib.hid (Ogr01.out.b hbl)
  replace Ogr02 := Lib.hid (Ogr02.out.b hbl)
  replace Xgr0 := Lib.hid (Xgr0.out.b hbl)
  have z_wc : w18.heap.size ≤ wc.heap.size := hbl.size
  have z_bx_h : w18.heap.size ≤ bx_h := hge
  have zt_bx_h : bx_h + 1 ≤ wc.heap.size := hbx.top
  have Xhr0 := Lib.hid (hbx)
  have Vhr01 := Lib.hid (rd_of_row hrr01)
  have Vhr02 := Lib.hid (rd_of_row hrr02)
  clear hbl hge hbx hrr01 hrr02
  have c_Xhr0_0 := Xhr0.out.now 0 _ rfl
  have c_Xhr0_1 := Xhr0.out.now 1 _ rfl
  have c_Xhr0_2 := Xhr0.out.now 2 _ rfl
  have c_Xmr0_0 := Xmr0.out.now 0 _ rfl
  have c_Xmr0_1 := Xmr0.out.now 1 _ rfl
  have c_Xmr0_2 := Xmr0.out.now 2 _ rfl
  go_wp2_with fail
  refine (eq_Front hr0m1 hr0m2 Vhr01.out.row Vhr02.out.row Vmr01.out.row Vmr02.out.row).mono ?_; rintro e w22 ⟨rfl, hb⟩
  replace FB := Lib.hid (FB.out.b hb)
  replace Fa01 := Lib.hid (Fa01.out.b hb)
  replace Fa02 := Lib.hid (Fa02.out.b hb)
  replace Fa11 := Lib.hid (Fa11.out.b hb)
  replace Fa12 := Lib.hid (Fa12.out.b hb)
  replace Ba0 := Lib.hid (Ba0.out.b hb)
  replace Ba1 := Lib.hid (Ba1.out.b hb)
  replace Xmr0 := Lib.hid (Xmr0.out.b hb)
  replace Vmr01 := Lib.hid (Vmr01.out.b hb)
  replace Vmr02 := Lib.hid (Vmr02.out.b hb)
  replace Ogr01 := Lib.hid (Ogr01.out.b hb)
  replace Ogr02 := Lib.hid (Ogr02.out.b hb)
  replace Xgr0 := Lib.hid (Xgr0.out.b hb)
  replace Xhr0 := Lib.hid (Xhr0.out.b hb)
  replace Vhr01 := Lib.hid (Vhr01.out.b hb)
  replace Vhr02 := Lib.hid (Vhr02.out.b hb)
  have z_w22 : wc.heap.size ≤ w22.heap.size := by have hsz := hb.size; first | omega | (simp at hsz; omega)
  clear c_Xhr0_0 c_Xhr0_1 c_Xhr0_2 c_Xmr0_0 c_Xmr0_1 c_Xmr0_2
  clear hb
  have c_Xgr0_0 := Xgr0.out.now 0 _ rfl
  have c_Xgr0_1 := Xgr0.out.now 1 _ rfl
  have c_Xgr0_2 := Xgr0.out.now 2 _ rfl
  go_wp2_with fail
  refine (held_Front hr0m1 hr0m2 Ogr01.out.orow Ogr02.out.orow (by omega) (by omega)).mono ?_; rintro e w23 ⟨rfl, hb⟩
  replace FB := Lib.hid (FB.out.b hb)
  replace Fa01 := Lib.hid (Fa01.out.b hb)
  replace Fa02 := Lib.hid (Fa02.out.b hb)
  replace Fa11 := Lib.hid (Fa11.out.b hb)
  replace Fa12 := Lib.hid (Fa12.out.b hb)
  replace Ba0 := Lib.hid (Ba0.out.b hb)
  replace Ba1 := Lib.hid (Ba1.out.b hb)
  replace Xmr0 := Lib.hid (Xmr0.out.b hb)
  replace Vmr01 := Lib.hid (Vmr01.out.b hb)
  replace Vmr02 := Lib.hid (Vmr02.out.b hb)
  replace Ogr01 := Lib.hid (Ogr01.out.b hb)
  replace Ogr02 := Lib.hid (Ogr02.out.b hb)
  replace Xgr0 := Lib.hid (Xgr0.out.b hb)
  replace Xhr0 := Lib.hid (Xhr0.out.b hb)
  replace Vhr01 := Lib.hid (Vhr01.out.b hb)
  replace Vhr02 := Lib.hid (Vhr02.out.b hb)
  have z_w23 : w22.heap.size ≤ w23.heap.size := by have hsz := hb.size; first | omega | (simp at hsz; omega)
  clear c_Xgr0_0 c_Xgr0_1 c_Xgr0_2
  clear hb
  go_wp2_with fail
  go_ret
  exact ⟨rfl, FB.out.now⟩
/-! last -/
theorem walk_FnExactMergeFronts (w : World) (z : Int) (_wz : (Lit.int .i64 z).wf = true) (A : Option Addr) (n c : Nat) (K : Nat → Int) (hm : n ≤ maxLen) (hr : IRow w A n K) (B : Option Addr) (m d : Nat) (T : Nat → ByteArray) (hm2 : m ≤ maxLen) (hr2 : SRow w B m T) (y : Int) (_wy : (Lit.int .i64 y).wf = true) (A' : Option Addr) (p c' : Nat) (J : Nat → Int) (hm3 : p ≤ maxLen) (hr3 : IRow w A' p J) (B' : Option Addr) (q d' : Nat) (U : Nat → ByteArray) (hm4 : q ≤ maxLen) (hr4 : SRow w B' q U) :
    Calls Try.prog 9 #[.agg #[.int .i64 z, .slice A n c, .slice B m d], .agg #[.int .i64 y, .slice A' p c', .slice B' q d']] w fun e w' => e = .returned (.bool true) ∧ Below w.heap.size w w' := by
  by_cases h : FrV z n K m T ∧ FrV y p J q U
  · obtain ⟨hVa, hVb⟩ := h
    obtain ⟨b, rfl, hb1, hb16⟩ := hVa.block
    by_cases hK : (mgL n K T p J U).length ≤ 40
    · exact main_FnExactMergeFronts b n K m T y p J q U b (mgL n K T p J U).length (keepI b (rowS (mgL n K T p J U))) (mgL n K T p J U).length (tailF b (rowS (mgL n K T p J U))) true A c B d A' c' B' d' w hm hr hm2 hr2.grow hr2.size hm3 hr3 hm4 hr4.grow hr4.size (by omega) (by omega)
        (fun hn A c B d A' c' B' d' w g1 g2 g3 g4 => (spec_mergeFronts_keys (by omega) (by omega) (by omega) (by omega) (sizeS_all (show m + sizeS T m ≤ 1048576 by omega)) (sizeS_all (show q + sizeS U q ≤ 1048576 by omega)) g1 g2 g3 g4 hVa hVb).mono fun e w' hh => by
          rcases hh with ⟨_, h⟩ | ⟨h, _⟩
          · exact h.ow
          · exact absurd hK h)
        (fun hn A c B d A' c' B' d' w g1 g2 g3 g4 => (impl_mergeFronts_keys (by omega) (by omega) (by omega) (by omega) (sizeS_all (show m + sizeS T m ≤ 1048576 by omega)) (sizeS_all (show q + sizeS U q ≤ 1048576 by omega)) g1 g2 g3 g4 hVa hVb).mono fun e w' hh => by
          rcases hh with ⟨_, h⟩ | ⟨h, _⟩
          · exact h
          · exact absurd hK h)
    · exact main_FnExactMergeFronts b n K m T y p J q U 0 0 (fun _ => 0) 0 (fun _ => ByteArray.empty) false A c B d A' c' B' d' w hm hr hm2 hr2.grow hr2.size hm3 hr3 hm4 hr4.grow hr4.size (by omega) (by omega)
        (fun hn A c B d A' c' B' d' w g1 g2 g3 g4 => (spec_mergeFronts_keys (by omega) (by omega) (by omega) (by omega) (sizeS_all (show m + sizeS T m ≤ 1048576 by omega)) (sizeS_all (show q + sizeS U q ≤ 1048576 by omega)) g1 g2 g3 g4 hVa hVb).mono fun e w' hh => by
          rcases hh with ⟨h, _⟩ | ⟨_, h⟩
          · exact absurd h hK
          · exact h.ow2)
        (fun hn A c B d A' c' B' d' w g1 g2 g3 g4 => (impl_mergeFronts_keys (by omega) (by omega) (by omega) (by omega) (sizeS_all (show m + sizeS T m ≤ 1048576 by omega)) (sizeS_all (show q + sizeS U q ≤ 1048576 by omega)) g1 g2 g3 g4 hVa hVb).mono fun e w' hh => by
          rcases hh with ⟨h, _⟩ | ⟨_, h⟩
          · exact absurd h hK
          · exact h.ow)
  · exact main_FnExactMergeFronts z n K m T y p J q U 0 0 (fun _ => 0) 0 (fun _ => ByteArray.empty) false A c B d A' c' B' d' w hm hr hm2 hr2.grow hr2.size hm3 hr3 hm4 hr4.grow hr4.size (by omega) (by omega)
      (fun hn A c B d A' c' B' d' w g1 g2 g3 g4 => (spec_mergeFronts_bad (by omega) (by omega) (by omega) (by omega) (sizeS_all (show m + sizeS T m ≤ 1048576 by omega)) (sizeS_all (show q + sizeS U q ≤ 1048576 by omega)) g1 g2 g3 g4 h).mono fun e w' hh => hh.ow2)
      (fun hn A c B d A' c' B' d' w g1 g2 g3 g4 => (impl_mergeFronts_bad (by omega) (by omega) (by omega) (by omega) (sizeS_all (show m + sizeS T m ≤ 1048576 by omega)) (sizeS_all (show q + sizeS U q ≤ 1048576 by omega)) g1 g2 g3 g4 h).mono fun e w' hh => hh.ow)
end Go.Proofs.Ythaipemgndahfaa
