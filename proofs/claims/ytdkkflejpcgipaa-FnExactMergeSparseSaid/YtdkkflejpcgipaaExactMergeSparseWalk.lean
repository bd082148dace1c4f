/- The law of MergeSparse, walked: what both sides answer comes in as hypotheses. -/
import Derived.Test.YtdkkflejpcgipaaObjSp
import Derived.Test.YtdkkflejpcgipaaMergeS
import Derived.Deep.RegionHeld3
import Derived.Deep.DeepCutAuto
namespace Go.Proofs.Ytdkkflejpcgipaa
open Go.RowKit

set_option maxRecDepth 100000 in
set_option maxHeartbeats 8000000 in
theorem main_FnExactMergeSparse (a0z0 : Int) (a0z1 : Int) (a0z2 : Int) (a0z3 : Int) (a0n4 : Nat) (a0X4 : Nat → Int) (a0z5 : Int) (a0n6 : Nat) (a0X6 : Nat → Int) (a1z0 : Int) (a1z1 : Int) (a1z2 : Int) (a1z3 : Int) (a1n4 : Nat) (a1X4 : Nat → Int) (a1z5 : Int) (a1n6 : Nat) (a1X6 : Nat → Int) (r0z0 : Int) (r0z1 : Int) (r0z2 : Int) (r0z3 : Int) (r0n4 : Nat) (r0X4 : Nat → Int) (r0z5 : Int) (r0n6 : Nat) (r0X6 : Nat → Int) (r1z0 : Bool) (a0A4 : Option Addr) (a0c4 : Nat) (a0A6 : Option Addr) (a0c6 : Nat) (a1A4 : Option Addr) (a1c4 : Nat) (a1A6 : Option Addr) (a1c6 : Nat) (w : World) (ha0m4 : a0n4 ≤ maxLen) (ha0r4 : GRow w a0A4 a0n4 (intV a0X4)) (ha0m6 : a0n6 ≤ maxLen) (ha0r6 : GRow w a0A6 a0n6 (intV a0X6)) (ha1m4 : a1n4 ≤ maxLen) (ha1r4 : GRow w a1A4 a1n4 (intV a1X4)) (ha1m6 : a1n6 ≤ maxLen) (ha1r6 : GRow w a1A6 a1n6 (intV a1X6)) (hr0m4 : r0n4 ≤ 1048576) (hr0m6 : r0n6 ≤ 1048576)
    (s1 : a0n4 + a0n6 + a1n4 + a1n6 ≤ 1048576 → ∀ (ua0A4 : Option Addr) (ua0c4 : Nat) (ua0A6 : Option Addr) (ua0c6 : Nat) (ua1A4 : Option Addr) (ua1c4 : Nat) (ua1A6 : Option Addr) (ua1c6 : Nat) (w : World), GRow w ua0A4 a0n4 (intV a0X4) → GRow w ua0A6 a0n6 (intV a0X6) → GRow w ua1A4 a1n4 (intV a1X4) → GRow w ua1A6 a1n6 (intV a1X6) → Calls Try.prog 47 #[.agg #[.int .i64 a0z0, .int .i64 a0z1, .int .i64 a0z2, .int .i64 a0z3, .slice ua0A4 a0n4 ua0c4, .int .i64 a0z5, .slice ua0A6 a0n6 ua0c6], .agg #[.int .i64 a1z0, .int .i64 a1z1, .int .i64 a1z2, .int .i64 a1z3, .slice ua1A4 a1n4 ua1c4, .int .i64 a1z5, .slice ua1A6 a1n6 ua1c6]] w fun e w' => ∃ vr0A4 vr0c4 vr0A6 vr0c6, e = .returned (.tuple #[.agg #[.int .i64 r0z0, .int .i64 r0z1, .int .i64 r0z2, .int .i64 r0z3, .slice vr0A4 r0n4 vr0c4, .int .i64 r0z5, .slice vr0A6 r0n6 vr0c6], .bool r1z0]) ∧ Ow w.heap.size w'.heap.size 3 vr0A4 r0n4 (intV r0X4) w' ∧ Ow w.heap.size w'.heap.size 3 vr0A6 r0n6 (intV r0X6) w' ∧ Below w.heap.size w w')
    (s2 : a0n4 + a0n6 + a1n4 + a1n6 ≤ 1048576 → ∀ (ua0A4 : Option Addr) (ua0c4 : Nat) (ua0A6 : Option Addr) (ua0c6 : Nat) (ua1A4 : Option Addr) (ua1c4 : Nat) (ua1A6 : Option Addr) (ua1c6 : Nat) (w : World), GRow w ua0A4 a0n4 (intV a0X4) → GRow w ua0A6 a0n6 (intV a0X6) → GRow w ua1A4 a1n4 (intV a1X4) → GRow w ua1A6 a1n6 (intV a1X6) → Calls Try.prog 48 #[.agg #[.int .i64 a0z0, .int .i64 a0z1, .int .i64 a0z2, .int .i64 a0z3, .slice ua0A4 a0n4 ua0c4, .int .i64 a0z5, .slice ua0A6 a0n6 ua0c6], .agg #[.int .i64 a1z0, .int .i64 a1z1, .int .i64 a1z2, .int .i64 a1z3, .slice ua1A4 a1n4 ua1c4, .int .i64 a1z5, .slice ua1A6 a1n6 ua1c6]] w fun e w' => ∃ vr0A4 vr0c4 vr0A6 vr0c6, e = .returned (.tuple #[.agg #[.int .i64 r0z0, .int .i64 r0z1, .int .i64 r0z2, .int .i64 r0z3, .slice vr0A4 r0n4 vr0c4, .int .i64 r0z5, .slice vr0A6 r0n6 vr0c6], .bool r1z0]) ∧ Ow w.heap.size w'.heap.size 3 vr0A4 r0n4 (intV r0X4) w' ∧ Ow w.heap.size w'.heap.size 3 vr0A6 r0n6 (intV r0X6) w' ∧ Apart r0n4 vr0A4 r0n6 vr0A6 ∧ Below w.heap.size w w') :
    Calls Try.prog 14 #[.agg #[.int .i64 a0z0, .int .i64 a0z1, .int .i64 a0z2, .int .i64 a0z3, .slice a0A4 a0n4 a0c4, .int .i64 a0z5, .slice a0A6 a0n6 a0c6], .agg #[.int .i64 a1z0, .int .i64 a1z1, .int .i64 a1z2, .int .i64 a1z3, .slice a1A4 a1n4 a1c4, .int .i64 a1z5, .slice a1A6 a1n6 a1c6]] w fun e w' => e = .returned (.bool true) ∧ Below w.heap.size w w' := by
  have S1 := Lib.hid s1
  have S2 := Lib.hid s2
  clear s1 s2
  have FB := Lib.hid (((At.start w).alloc (.cells #[.int .i64 a0z0, .int .i64 a0z1, .int .i64 a0z2, .int .i64 a0z3, .slice a0A4 a0n4 a0c4, .int .i64 a0z5, .slice a0A6 a0n6 a0c6] 40)).alloc (.cells #[.int .i64 a1z0, .int .i64 a1z1, .int .i64 a1z2, .int .i64 a1z3, .slice a1A4 a1n4 a1c4, .int .i64 a1z5, .slice a1A6 a1n6 a1c6] 40))
  have Fa04 := Lib.hid (((rd_of_row ha0r4).alloc (.cells #[.int .i64 a0z0, .int .i64 a0z1, .int .i64 a0z2, .int .i64 a0z3, .slice a0A4 a0n4 a0c4, .int .i64 a0z5, .slice a0A6 a0n6 a0c6] 40)).alloc (.cells #[.int .i64 a1z0, .int .i64 a1z1, .int .i64 a1z2, .int .i64 a1z3, .slice a1A4 a1n4 a1c4, .int .i64 a1z5, .slice a1A6 a1n6 a1c6] 40))
  have Fa06 := Lib.hid (((rd_of_row ha0r6).alloc (.cells #[.int .i64 a0z0, .int .i64 a0z1, .int .i64 a0z2, .int .i64 a0z3, .slice a0A4 a0n4 a0c4, .int .i64 a0z5, .slice a0A6 a0n6 a0c6] 40)).alloc (.cells #[.int .i64 a1z0, .int .i64 a1z1, .int .i64 a1z2, .int .i64 a1z3, .slice a1A4 a1n4 a1c4, .int .i64 a1z5, .slice a1A6 a1n6 a1c6] 40))
  have Fa14 := Lib.hid (((rd_of_row ha1r4).alloc (.cells #[.int .i64 a0z0, .int .i64 a0z1, .int .i64 a0z2, .int .i64 a0z3, .slice a0A4 a0n4 a0c4, .int .i64 a0z5, .slice a0A6 a0n6 a0c6] 40)).alloc (.cells #[.int .i64 a1z0, .int .i64 a1z1, .int .i64 a1z2, .int .i64 a1z3, .slice a1A4 a1n4 a1c4, .int .i64 a1z5, .slice a1A6 a1n6 a1c6] 40))
  have Fa16 := Lib.hid (((rd_of_row ha1r6).alloc (.cells #[.int .i64 a0z0, .int .i64 a0z1, .int .i64 a0z2, .int .i64 a0z3, .slice a0A4 a0n4 a0c4, .int .i64 a0z5, .slice a0A6 a0n6 a0c6] 40)).alloc (.cells #[.int .i64 a1z0, .int .i64 a1z1, .int .i64 a1z2, .int .i64 a1z3, .slice a1A4 a1n4 a1c4, .int .i64 a1z5, .slice a1A6 a1n6 a1c6] 40))
  have Ba0 := Lib.hid ((boxed w #[.int .i64 a0z0, .int .i64 a0z1, .int .i64 a0z2, .int .i64 a0z3, .slice a0A4 a0n4 a0c4, .int .i64 a0z5, .slice a0A6 a0n6 a0c6] 40).alloc (.cells #[.int .i64 a1z0, .int .i64 a1z1, .int .i64 a1z2, .int .i64 a1z3, .slice a1A4 a1n4 a1c4, .int .i64 a1z5, .slice a1A6 a1n6 a1c6] 40))
  have Ba1 := Lib.hid (boxed_at (w.alloc (.cells #[.int .i64 a0z0, .int .i64 a0z1, .int .i64 a0z2, .int .i64 a0z3, .slice a0A4 a0n4 a0c4, .int .i64 a0z5, .slice a0A6 a0n6 a0c6] 40)) (w.heap.size + 1) (by simp) #[.int .i64 a1z0, .int .i64 a1z1, .int .i64 a1z2, .int .i64 a1z3, .slice a1A4 a1n4 a1c4, .int .i64 a1z5, .slice a1A6 a1n6 a1c6] 40)
  clear ha0r4 ha0r6 ha1r4 ha1r6
  go_enter Try.func14, Try.ntmps14
  go_wp2_with fail
  refine (sz_Sparse ha0m4 ha0m6 (by omega) (by omega)).mono ?_; rintro e w1 ⟨rfl, hb⟩
  replace FB := Lib.hid (FB.out.b hb)
  replace Fa04 := Lib.hid (Fa04.out.b hb)
  replace Fa06 := Lib.hid (Fa06.out.b hb)
  replace Fa14 := Lib.hid (Fa14.out.b hb)
  replace Fa16 := Lib.hid (Fa16.out.b hb)
  replace Ba0 := Lib.hid (Ba0.out.b hb)
  replace Ba1 := Lib.hid (Ba1.out.b hb)
  have z_w1 : w.heap.size + 2 ≤ w1.heap.size := by have hsz := hb.size; first | omega | (simp at hsz; omega)
  clear hb
  by_cases hZ_a0 : ((a0n4 + a0n6 : Nat) : Int) ≤ (1048576 : Int)
  rotate_left
  · rw [szv_no hZ_a0]
    go_wp2_with fail
    go_ret
    exact ⟨rfl, FB.out.now⟩
  rw [szv_yes hZ_a0]
  have hL_a0 : ¬ (((1048576 : Int) - (((a0n4 : Nat) : Int) + ((a0n6 : Nat) : Int))) < 0) := by omega
  have c_Ba0_0 := Ba0.out.now 0 _ rfl
  have c_Ba0_1 := Ba0.out.now 1 _ rfl
  have c_Ba0_2 := Ba0.out.now 2 _ rfl
  have c_Ba0_3 := Ba0.out.now 3 _ rfl
  have c_Ba0_4 := Ba0.out.now 4 _ rfl
  have c_Ba0_5 := Ba0.out.now 5 _ rfl
  have c_Ba0_6 := Ba0.out.now 6 _ rfl
  have c_Ba1_0 := Ba1.out.now 0 _ rfl
  have c_Ba1_1 := Ba1.out.now 1 _ rfl
  have c_Ba1_2 := Ba1.out.now 2 _ rfl
  have c_Ba1_3 := Ba1.out.now 3 _ rfl
  have c_Ba1_4 := Ba1.out.now 4 _ rfl
  have c_Ba1_5 := Ba1.out.now 5 _ rfl
  have c_Ba1_6 := Ba1.out.now 6 _ rfl
  go_wp2_with fail
  refine (sz_Sparse ha1m4 ha1m6 (by omega) (by omega)).mono ?_; rintro e w2 ⟨rfl, hb⟩
  replace FB := Lib.hid (FB.out.b hb)
  replace Fa04 := Lib.hid (Fa04.out.b hb)
  replace Fa06 := Lib.hid (Fa06.out.b hb)
  replace Fa14 := Lib.hid (Fa14.out.b hb)
  replace Fa16 := Lib.hid (Fa16.out.b hb)
  replace Ba0 := Lib.hid (Ba0.out.b hb)
  replace Ba1 := Lib.hid (Ba1.out.b hb)
  have z_w2 : w1.heap.size ≤ w2.heap.size := by have hsz := hb.size; first | omega | (simp at hsz; omega)
  clear c_Ba0_0 c_Ba0_1 c_Ba0_2 c_Ba0_3 c_Ba0_4 c_Ba0_5 c_Ba0_6 c_Ba1_0 c_Ba1_1 c_Ba1_2 c_Ba1_3 c_Ba1_4 c_Ba1_5 c_Ba1_6
  clear hb
  by_cases hZ_a1 : ((a1n4 + a1n6 : Nat) : Int) ≤ ((1048576 : Int) - (((a0n4 : Nat) : Int) + ((a0n6 : Nat) : Int)))
  rotate_left
  · rw [szv_no hZ_a1]
    go_wp2_with fail
    go_ret
    exact ⟨rfl, FB.out.now⟩
  rw [szv_yes hZ_a1]
  have hL_a1 : ¬ ((((1048576 : Int) - (((a0n4 : Nat) : Int) + ((a0n6 : Nat) : Int))) - (((a1n4 : Nat) : Int) + ((a1n6 : Nat) : Int))) < 0) := by omega
  have c_Ba0_0 := Ba0.out.now 0 _ rfl
  have c_Ba0_1 := Ba0.out.now 1 _ rfl
  have c_Ba0_2 := Ba0.out.now 2 _ rfl
  have c_Ba0_3 := Ba0.out.now 3 _ rfl
  have c_Ba0_4 := Ba0.out.now 4 _ rfl
  have c_Ba0_5 := Ba0.out.now 5 _ rfl
  have c_Ba0_6 := Ba0.out.now 6 _ rfl
  have c_Ba1_0 := Ba1.out.now 0 _ rfl
  have c_Ba1_1 := Ba1.out.now 1 _ rfl
  have c_Ba1_2 := Ba1.out.now 2 _ rfl
  have c_Ba1_3 := Ba1.out.now 3 _ rfl
  have c_Ba1_4 := Ba1.out.now 4 _ rfl
  have c_Ba1_5 := Ba1.out.now 5 _ rfl
  have c_Ba1_6 := Ba1.out.now 6 _ rfl
  replace S1 := Lib.hid (S1.out (by omega))
  replace S2 := Lib.hid (S2.out (by omega))
  have ha0k4 : a0n4 ≤ 1048576 := by omega
  have ha0k6 : a0n6 ≤ 1048576 := by omega
  have ha1k4 : a1n4 ≤ 1048576 := by omega
  have ha1k6 : a1n6 ≤ 1048576 := by omega
  go_upto_region 8 with fail
  have hcur : w2.heap.size ≤ w2.heap.size := Nat.le_refl _
  have HK : ∀ w', Below w2.heap.size w2 w' → w'.cell? ⟨w.heap.size, 0, none⟩ = some (.int .i64 a0z0) ∧ w'.cell? ⟨w.heap.size, 1, none⟩ = some (.int .i64 a0z1) ∧ w'.cell? ⟨w.heap.size, 2, none⟩ = some (.int .i64 a0z2) ∧ w'.cell? ⟨w.heap.size, 3, none⟩ = some (.int .i64 a0z3) ∧ w'.cell? ⟨w.heap.size, 4, none⟩ = some (.slice a0A4 a0n4 a0c4) ∧ w'.cell? ⟨w.heap.size, 5, none⟩ = some (.int .i64 a0z5) ∧ w'.cell? ⟨w.heap.size, 6, none⟩ = some (.slice a0A6 a0n6 a0c6) ∧ w'.cell? ⟨w.heap.size + 1, 0, none⟩ = some (.int .i64 a1z0) ∧ w'.cell? ⟨w.heap.size + 1, 1, none⟩ = some (.int .i64 a1z1) ∧ w'.cell? ⟨w.heap.size + 1, 2, none⟩ = some (.int .i64 a1z2) ∧ w'.cell? ⟨w.heap.size + 1, 3, none⟩ = some (.int .i64 a1z3) ∧ w'.cell? ⟨w.heap.size + 1, 4, none⟩ = some (.slice a1A4 a1n4 a1c4) ∧ w'.cell? ⟨w.heap.size + 1, 5, none⟩ = some (.int .i64 a1z5) ∧ w'.cell? ⟨w.heap.size + 1, 6, none⟩ = some (.slice a1A6 a1n6 a1c6) := fun w' hb => ⟨(Ba0.out.b hb).now 0 _ rfl, (Ba0.out.b hb).now 1 _ rfl, (Ba0.out.b hb).now 2 _ rfl, (Ba0.out.b hb).now 3 _ rfl, (Ba0.out.b hb).now 4 _ rfl, (Ba0.out.b hb).now 5 _ rfl, (Ba0.out.b hb).now 6 _ rfl, (Ba1.out.b hb).now 0 _ rfl, (Ba1.out.b hb).now 1 _ rfl, (Ba1.out.b hb).now 2 _ rfl, (Ba1.out.b hb).now 3 _ rfl, (Ba1.out.b hb).now 4 _ rfl, (Ba1.out.b hb).now 5 _ rfl, (Ba1.out.b hb).now 6 _ rfl⟩
  go_cut [6, 7] (fun s6 s7 wx => ∃ (bx_m : Nat) (mr0A4 : Option Addr) (mr0c4 : Nat) (mr0A6 : Option Addr) (mr0c6 : Nat), s6 = .pointer (some ⟨bx_m, 0, none⟩) ∧ s7 = .bool r1z0 ∧ w2.heap.size ≤ bx_m ∧ At bx_m (bx_m + 1) (BoxC bx_m [.int .i64 r0z0, .int .i64 r0z1, .int .i64 r0z2, .int .i64 r0z3, .slice mr0A4 r0n4 mr0c4, .int .i64 r0z5, .slice mr0A6 r0n6 mr0c6]) wx ∧ GRow wx mr0A4 r0n4 (intV r0X4) ∧ GRow wx mr0A6 r0n6 (intV r0X6) ∧ Below w2.heap.size w2 wx)
  case first =>
    go_region_held3 (fun w' => w'.cell? ⟨w.heap.size, 0, none⟩ = some (.int .i64 a0z0) ∧ w'.cell? ⟨w.heap.size, 1, none⟩ = some (.int .i64 a0z1) ∧ w'.cell? ⟨w.heap.size, 2, none⟩ = some (.int .i64 a0z2) ∧ w'.cell? ⟨w.heap.size, 3, none⟩ = some (.int .i64 a0z3) ∧ w'.cell? ⟨w.heap.size, 4, none⟩ = some (.slice a0A4 a0n4 a0c4) ∧ w'.cell? ⟨w.heap.size, 5, none⟩ = some (.int .i64 a0z5) ∧ w'.cell? ⟨w.heap.size, 6, none⟩ = some (.slice a0A6 a0n6 a0c6) ∧ w'.cell? ⟨w.heap.size + 1, 0, none⟩ = some (.int .i64 a1z0) ∧ w'.cell? ⟨w.heap.size + 1, 1, none⟩ = some (.int .i64 a1z1) ∧ w'.cell? ⟨w.heap.size + 1, 2, none⟩ = some (.int .i64 a1z2) ∧ w'.cell? ⟨w.heap.size + 1, 3, none⟩ = some (.int .i64 a1z3) ∧ w'.cell? ⟨w.heap.size + 1, 4, none⟩ = some (.slice a1A4 a1n4 a1c4) ∧ w'.cell? ⟨w.heap.size + 1, 5, none⟩ = some (.int .i64 a1z5) ∧ w'.cell? ⟨w.heap.size + 1, 6, none⟩ = some (.slice a1A6 a1n6 a1c6))
      (first | (go_keep; done) | exact HK _ (below_setAt (below_setAt (below_setAt (below_setAt (below_setAt (below_setAt (below_setAt (hq3) NB.ge _) NB.ge _) NB.ge _) NB.ge _) NB.ge _) NB.ge _) NB.ge _) | exact HK _ (hq3.alloc hq3.size _) | exact HK _ hq3 | exact HK _ (hq2.alloc hq2.size _) | exact HK _ hq2 | exact HK _ (hq1.alloc hq1.size _) | exact HK _ hq1 | exact HK _ ((Below.refl _ _).alloc (Nat.le_refl _) _))
      (first
        | (have hqz := hq2; clear hqz; go_at_call 47; (first | refine (S1.out _ _ _ _ _ _ _ _ _ hG_a04 hG_a06 hG_a14 hG_a16).mono ?_ | refine (S1.out _ _ _ _ _ _ _ _ _ (hG_a04.al _) (hG_a06.al _) (hG_a14.al _) (hG_a16.al _)).mono ?_); rintro e w5 ⟨mr0A4, mr0c4, mr0A6, mr0c6, rfl, hrr04, hrr06, hb⟩; (first | (have hq3 := hq2.trans (hb.mono hq2.size)) | (have hq3 := hq2.trans ((below_al hb).mono hq2.size))); (first | (replace hrr04 := Ow.over hrr04 NB.lt; replace hrr06 := Ow.over hrr06 NB.lt; replace NB := NB.b hb; have dd0 := NB.cell 0 _ rfl; have ff0 := NB.free 0; have dd1 := NB.cell 1 _ rfl; have ff1 := NB.free 1; have dd2 := NB.cell 2 _ rfl; have ff2 := NB.free 2; have dd3 := NB.cell 3 _ rfl; have ff3 := NB.free 3; have dd4 := NB.cell 4 _ rfl; have ff4 := NB.free 4; have dd5 := NB.cell 5 _ rfl; have ff5 := NB.free 5; have dd6 := NB.cell 6 _ rfl; have ff6 := NB.free 6) | (have NB := NBX.new hq2.size hb; replace hrr04 := Ow.overNew hrr04; replace hrr06 := Ow.overNew hrr06; have dd0 := NB.cell 0 _ rfl; have ff0 := NB.free 0; have dd1 := NB.cell 1 _ rfl; have ff1 := NB.free 1; have dd2 := NB.cell 2 _ rfl; have ff2 := NB.free 2; have dd3 := NB.cell 3 _ rfl; have ff3 := NB.free 3; have dd4 := NB.cell 4 _ rfl; have ff4 := NB.free 4; have dd5 := NB.cell 5 _ rfl; have ff5 := NB.free 5; have dd6 := NB.cell 6 _ rfl; have ff6 := NB.free 6) | skip); clear hb)
        | (have hqz := hq1; clear hqz; go_at_call 28; (first | refine (to_Sparse ha1k4 ha1k6 (Fa14.out.b hq1).row (Fa16.out.b hq1).row).mono ?_ | refine (to_Sparse ha1k4 ha1k6 ((Fa14.out.b hq1).row.al _) ((Fa16.out.b hq1).row.al _)).mono ?_); rintro e w4 ⟨tma1A4, tma1c4, tma1A6, tma1c6, rfl, ho_a14, ho_a16, hz_a1_0, hb⟩; (first | (have hq2 := hq1.trans (hb.mono hq1.size)) | (have hq2 := hq1.trans ((below_al hb).mono hq1.size))); (first | (replace NB := NB.b hb) | (have NB := NBX.new hq1.size hb) | skip); (first | (replace hG_a04 := hG_a04.b hb) | (replace hG_a04 := hG_a04.b (below_al hb))); (first | (replace hG_a06 := hG_a06.b hb) | (replace hG_a06 := hG_a06.b (below_al hb))); have hG_a14 := (Ow.rd ho_a14).row (Nat.le_refl _); have hG_a16 := (Ow.rd ho_a16).row (Nat.le_refl _); clear hb ho_a14 ho_a16 hz_a1_0)
        | (go_at_call 28; (first | refine (to_Sparse ha0k4 ha0k6 Fa04.out.row Fa06.out.row).mono ?_ | refine (to_Sparse ha0k4 ha0k6 Fa04.out.rowD Fa06.out.rowD).mono ?_ | refine (to_Sparse ha0k4 ha0k6 (Fa04.out.row.al _) (Fa06.out.row.al _)).mono ?_ | refine (to_Sparse ha0k4 ha0k6 (Fa04.out.row.alD _) (Fa06.out.row.alD _)).mono ?_); rintro e w3 ⟨tma0A4, tma0c4, tma0A6, tma0c6, rfl, ho_a04, ho_a06, hz_a0_0, hb'⟩; have hb := of_drew hb'; clear hb'; (first | (have hq1 : Below w2.heap.size w2 w3 := hb) | (have hq1 : Below w2.heap.size w2 w3 := below_al hb)); (first | (replace NB := NB.b hb) | (have NB := NBX.new hcur hb) | skip); have hG_a04 := (Ow.rd ho_a04).row (Nat.le_refl _); have hG_a06 := (Ow.rd ho_a06).row (Nat.le_refl _); clear hb ho_a04 ho_a06 hz_a0_0))
    all_goals go_wp2_with fail
    all_goals go_meet
    all_goals first
      | exact ⟨_, _, _, _, _, rfl, rfl, NB.ge, (((((((NB.set 0 _).set 1 _).set 2 _).set 3 _).set 4 _).set 5 _).set 6 _).box, At.orow (((((((hrr04.setC (Nat.le_refl _) 0 _).setC (Nat.le_refl _) 1 _).setC (Nat.le_refl _) 2 _).setC (Nat.le_refl _) 3 _).setC (Nat.le_refl _) 4 _).setC (Nat.le_refl _) 5 _).setC (Nat.le_refl _) 6 _), At.orow (((((((hrr06.setC (Nat.le_refl _) 0 _).setC (Nat.le_refl _) 1 _).setC (Nat.le_refl _) 2 _).setC (Nat.le_refl _) 3 _).setC (Nat.le_refl _) 4 _).setC (Nat.le_refl _) 5 _).setC (Nat.le_refl _) 6 _), (below_setAt (below_setAt (below_setAt (below_setAt (below_setAt (below_setAt (below_setAt hq3 NB.ge _) NB.ge _) NB.ge _) NB.ge _) NB.ge _) NB.ge _) NB.ge _)⟩
      | exact ⟨_, _, _, _, _, rfl, rfl, hq3.size, boxed _ _ _, ((Ow.rd hrr04).row (Nat.le_refl _)).al _, ((Ow.rd hrr06).row (Nat.le_refl _)).al _, hq3.alloc hq3.size _⟩
  case rest =>
  obtain ⟨bx_m, mr0A4, mr0c4, mr0A6, mr0c6, rfl, rfl, hge, hbx, hrr04, hrr06, hbl⟩ := hcut
  clear HK hcur
  clear c_Ba0_0 c_Ba0_1 c_Ba0_2 c_Ba0_3 c_Ba0_4 c_Ba0_5 c_Ba0_6 c_Ba1_0 c_Ba1_1 c_Ba1_2 c_Ba1_3 c_Ba1_4 c_Ba1_5 c_Ba1_6
  replace FB := Lib.hid (FB.out.b hbl)
  replace Fa04 := Lib.hid (Fa04.out.b hbl)
  replace Fa06 := Lib.hid (Fa06.out.b hbl)
  replace Fa14 := Lib.hid (Fa14.out.b hbl)
  replace Fa16 := Lib.hid (Fa16.out.b hbl)
  replace Ba0 := Lib.hid (Ba0.out.b hbl)
  replace Ba1 := Lib.hid (Ba1.out.b hbl)
  have z_wc : w2.heap.size ≤ wc.heap.size := hbl.size
  have z_bx_m : w2.heap.size ≤ bx_m := hge
  have zt_bx_m : bx_m + 1 ≤ wc.heap.size := hbx.top
  have Xmr0 := Lib.hid (hbx)
  have Vmr04 := Lib.hid (rd_of_row hrr04)
  have Vmr06 := Lib.hid (rd_of_row hrr06)
  clear hbl hge hbx hrr04 hrr06
  have c_Ba0_0 := Ba0.out.now 0 _ rfl
  have c_Ba0_1 := Ba0.out.now 1 _ rfl
  have c_Ba0_2 := Ba0.out.now 2 _ rfl
  have c_Ba0_3 := Ba0.out.now 3 _ rfl
  have c_Ba0_4 := Ba0.out.now 4 _ rfl
  have c_Ba0_5 := Ba0.out.now 5 _ rfl
  have c_Ba0_6 := Ba0.out.now 6 _ rfl
  have c_Ba1_0 := Ba1.out.now 0 _ rfl
  have c_Ba1_1 := Ba1.out.now 1 _ rfl
  have c_Ba1_2 := Ba1.out.now 2 _ rfl
  have c_Ba1_3 := Ba1.out.now 3 _ rfl
  have c_Ba1_4 := Ba1.out.now 4 _ rfl
  have c_Ba1_5 := Ba1.out.now 5 _ rfl
  have c_Ba1_6 := Ba1.out.now 6 _ rfl
  go_wp2_with fail
  refine (to_Sparse ha0k4 ha0k6 Fa04.out.row Fa06.out.row).mono ?_; rintro e w6 ⟨xa0A4, xa0c4, xa0A6, xa0c6, rfl, ho4, ho6, hap_xa0_0, hb⟩
  replace FB := Lib.hid (FB.out.b hb)
  replace Fa04 := Lib.hid (Fa04.out.b hb)
  replace Fa06 := Lib.hid (Fa06.out.b hb)
  replace Fa14 := Lib.hid (Fa14.out.b hb)
  replace Fa16 := Lib.hid (Fa16.out.b hb)
  replace Ba0 := Lib.hid (Ba0.out.b hb)
  replace Ba1 := Lib.hid (Ba1.out.b hb)
  replace Xmr0 := Lib.hid (Xmr0.out.b hb)
  replace Vmr04 := Lib.hid (Vmr04.out.b hb)
  replace Vmr06 := Lib.hid (Vmr06.out.b hb)
  have z_w6 : wc.heap.size ≤ w6.heap.size := by have hsz := hb.size; first | omega | (simp at hsz; omega)
  clear c_Ba0_0 c_Ba0_1 c_Ba0_2 c_Ba0_3 c_Ba0_4 c_Ba0_5 c_Ba0_6 c_Ba1_0 c_Ba1_1 c_Ba1_2 c_Ba1_3 c_Ba1_4 c_Ba1_5 c_Ba1_6
  have Oxa04 := Lib.hid (owned (ho4.mono (lo' := wc.heap.size) (Nat.le_refl _) (Nat.le_refl _)))
  have Oxa06 := Lib.hid (owned (ho6.mono (lo' := wc.heap.size) (Nat.le_refl _) (Nat.le_refl _)))
  clear hb ho4 ho6
  replace FB := Lib.hid (FB.out.alloc (.cells #[.int .i64 a0z0, .int .i64 a0z1, .int .i64 a0z2, .int .i64 a0z3, .slice xa0A4 a0n4 xa0c4, .int .i64 a0z5, .slice xa0A6 a0n6 xa0c6] 29))
  replace Fa04 := Lib.hid (Fa04.out.alloc (.cells #[.int .i64 a0z0, .int .i64 a0z1, .int .i64 a0z2, .int .i64 a0z3, .slice xa0A4 a0n4 xa0c4, .int .i64 a0z5, .slice xa0A6 a0n6 xa0c6] 29))
  replace Fa06 := Lib.hid (Fa06.out.alloc (.cells #[.int .i64 a0z0, .int .i64 a0z1, .int .i64 a0z2, .int .i64 a0z3, .slice xa0A4 a0n4 xa0c4, .int .i64 a0z5, .slice xa0A6 a0n6 xa0c6] 29))
  replace Fa14 := Lib.hid (Fa14.out.alloc (.cells #[.int .i64 a0z0, .int .i64 a0z1, .int .i64 a0z2, .int .i64 a0z3, .slice xa0A4 a0n4 xa0c4, .int .i64 a0z5, .slice xa0A6 a0n6 xa0c6] 29))
  replace Fa16 := Lib.hid (Fa16.out.alloc (.cells #[.int .i64 a0z0, .int .i64 a0z1, .int .i64 a0z2, .int .i64 a0z3, .slice xa0A4 a0n4 xa0c4, .int .i64 a0z5, .slice xa0A6 a0n6 xa0c6] 29))
  replace Ba0 := Lib.hid (Ba0.out.alloc (.cells #[.int .i64 a0z0, .int .i64 a0z1, .int .i64 a0z2, .int .i64 a0z3, .slice xa0A4 a0n4 xa0c4, .int .i64 a0z5, .slice xa0A6 a0n6 xa0c6] 29))
  replace Ba1 := Lib.hid (Ba1.out.alloc (.cells #[.int .i64 a0z0, .int .i64 a0z1, .int .i64 a0z2, .int .i64 a0z3, .slice xa0A4 a0n4 xa0c4, .int .i64 a0z5, .slice xa0A6 a0n6 xa0c6] 29))
  replace Xmr0 := Lib.hid (Xmr0.out.alloc (.cells #[.int .i64 a0z0, .int .i64 a0z1, .int .i64 a0z2, .int .i64 a0z3, .slice xa0A4 a0n4 xa0c4, .int .i64 a0z5, .slice xa0A6 a0n6 xa0c6] 29))
  replace Vmr04 := Lib.hid (Vmr04.out.alloc (.cells #[.int .i64 a0z0, .int .i64 a0z1, .int .i64 a0z2, .int .i64 a0z3, .slice xa0A4 a0n4 xa0c4, .int .i64 a0z5, .slice xa0A6 a0n6 xa0c6] 29))
  replace Vmr06 := Lib.hid (Vmr06.out.alloc (.cells #[.int .i64 a0z0, .int .i64 a0z1, .int .i64 a0z2, .int .i64 a0z3, .slice xa0A4 a0n4 xa0c4, .int .i64 a0z5, .slice xa0A6 a0n6 xa0c6] 29))
  replace Oxa04 := Lib.hid (Oxa04.out.alloc (.cells #[.int .i64 a0z0, .int .i64 a0z1, .int .i64 a0z2, .int .i64 a0z3, .slice xa0A4 a0n4 xa0c4, .int .i64 a0z5, .slice xa0A6 a0n6 xa0c6] 29))
  replace Oxa06 := Lib.hid (Oxa06.out.alloc (.cells #[.int .i64 a0z0, .int .i64 a0z1, .int .i64 a0z2, .int .i64 a0z3, .slice xa0A4 a0n4 xa0c4, .int .i64 a0z5, .slice xa0A6 a0n6 xa0c6] 29))
  have Yxa0 := Lib.hid (boxed w6 #[.int .i64 a0z0, .int .i64 a0z1, .int .i64 a0z2, .int .i64 a0z3, .slice xa0A4 a0n4 xa0c4, .int .i64 a0z5, .slice xa0A6 a0n6 xa0c6] 29)
  have c_Ba0_0 := Ba0.out.now 0 _ rfl
  have c_Ba0_1 := Ba0.out.now 1 _ rfl
  have c_Ba0_2 := Ba0.out.now 2 _ rfl
  have c_Ba0_3 := Ba0.out.now 3 _ rfl
  have c_Ba0_4 := Ba0.out.now 4 _ rfl
  have c_Ba0_5 := Ba0.out.now 5 _ rfl
  have c_Ba0_6 := Ba0.out.now 6 _ rfl
  have c_Ba1_0 := Ba1.out.now 0 _ rfl
  have c_Ba1_1 := Ba1.out.now 1 _ rfl
  have c_Ba1_2 := Ba1.out.now 2 _ rfl
  have c_Ba1_3 := Ba1.out.now 3 _ rfl
  have c_Ba1_4 := Ba1.out.now 4 _ rfl
  have c_Ba1_5 := Ba1.out.now 5 _ rfl
  have c_Ba1_6 := Ba1.out.now 6 _ rfl
  go_wp2_with fail
  refine (to_Sparse ha1k4 ha1k6 Fa14.out.row Fa16.out.row).mono ?_; rintro e w7 ⟨xa1A4, xa1c4, xa1A6, xa1c6, rfl, ho4, ho6, hap_xa1_0, hb⟩
  replace FB := Lib.hid (FB.out.b hb)
  replace Fa04 := Lib.hid (Fa04.out.b hb)
  replace Fa06 := Lib.hid (Fa06.out.b hb)
  replace Fa14 := Lib.hid (Fa14.out.b hb)
  replace Fa16 := Lib.hid (Fa16.out.b hb)
  replace Ba0 := Lib.hid (Ba0.out.b hb)
  replace Ba1 := Lib.hid (Ba1.out.b hb)
  replace Xmr0 := Lib.hid (Xmr0.out.b hb)
  replace Vmr04 := Lib.hid (Vmr04.out.b hb)
  replace Vmr06 := Lib.hid (Vmr06.out.b hb)
  replace Oxa04 := Lib.hid (Oxa04.out.b hb)
  replace Oxa06 := Lib.hid (Oxa06.out.b hb)
  replace Yxa0 := Lib.hid (Yxa0.out.b hb)
  have z_w7 : w6.heap.size + 1 ≤ w7.heap.size := by have hsz := hb.size; first | omega | (simp at hsz; omega)
  clear c_Ba0_0 c_Ba0_1 c_Ba0_2 c_Ba0_3 c_Ba0_4 c_Ba0_5 c_Ba0_6 c_Ba1_0 c_Ba1_1 c_Ba1_2 c_Ba1_3 c_Ba1_4 c_Ba1_5 c_Ba1_6
  have Oxa14 := Lib.hid (owned (ho4.mono (lo' := w6.heap.size + 1) (by simp) (Nat.le_refl _)))
  have Oxa16 := Lib.hid (owned (ho6.mono (lo' := w6.heap.size + 1) (by simp) (Nat.le_refl _)))
  clear hb ho4 ho6
  replace FB := Lib.hid (FB.out.alloc (.cells #[.int .i64 a1z0, .int .i64 a1z1, .int .i64 a1z2, .int .i64 a1z3, .slice xa1A4 a1n4 xa1c4, .int .i64 a1z5, .slice xa1A6 a1n6 xa1c6] 29))
  replace Fa04 := Lib.hid (Fa04.out.alloc (.cells #[.int .i64 a1z0, .int .i64 a1z1, .int .i64 a1z2, .int .i64 a1z3, .slice xa1A4 a1n4 xa1c4, .int .i64 a1z5, .slice xa1A6 a1n6 xa1c6] 29))
  replace Fa06 := Lib.hid (Fa06.out.alloc (.cells #[.int .i64 a1z0, .int .i64 a1z1, .int .i64 a1z2, .int .i64 a1z3, .slice xa1A4 a1n4 xa1c4, .int .i64 a1z5, .slice xa1A6 a1n6 xa1c6] 29))
  replace Fa14 := Lib.hid (Fa14.out.alloc (.cells #[.int .i64 a1z0, .int .i64 a1z1, .int .i64 a1z2, .int .i64 a1z3, .slice xa1A4 a1n4 xa1c4, .int .i64 a1z5, .slice xa1A6 a1n6 xa1c6] 29))
  replace Fa16 := Lib.hid (Fa16.out.alloc (.cells #[.int .i64 a1z0, .int .i64 a1z1, .int .i64 a1z2, .int .i64 a1z3, .slice xa1A4 a1n4 xa1c4, .int .i64 a1z5, .slice xa1A6 a1n6 xa1c6] 29))
  replace Ba0 := Lib.hid (Ba0.out.alloc (.cells #[.int .i64 a1z0, .int .i64 a1z1, .int .i64 a1z2, .int .i64 a1z3, .slice xa1A4 a1n4 xa1c4, .int .i64 a1z5, .slice xa1A6 a1n6 xa1c6] 29))
  replace Ba1 := Lib.hid (Ba1.out.alloc (.cells #[.int .i64 a1z0, .int .i64 a1z1, .int .i64 a1z2, .int .i64 a1z3, .slice xa1A4 a1n4 xa1c4, .int .i64 a1z5, .slice xa1A6 a1n6 xa1c6] 29))
  replace Xmr0 := Lib.hid (Xmr0.out.alloc (.cells #[.int .i64 a1z0, .int .i64 a1z1, .int .i64 a1z2, .int .i64 a1z3, .slice xa1A4 a1n4 xa1c4, .int .i64 a1z5, .slice xa1A6 a1n6 xa1c6] 29))
  replace Vmr04 := Lib.hid (Vmr04.out.alloc (.cells #[.int .i64 a1z0, .int .i64 a1z1, .int .i64 a1z2, .int .i64 a1z3, .slice xa1A4 a1n4 xa1c4, .int .i64 a1z5, .slice xa1A6 a1n6 xa1c6] 29))
  replace Vmr06 := Lib.hid (Vmr06.out.alloc (.cells #[.int .i64 a1z0, .int .i64 a1z1, .int .i64 a1z2, .int .i64 a1z3, .slice xa1A4 a1n4 xa1c4, .int .i64 a1z5, .slice xa1A6 a1n6 xa1c6] 29))
  replace Oxa04 := Lib.hid (Oxa04.out.alloc (.cells #[.int .i64 a1z0, .int .i64 a1z1, .int .i64 a1z2, .int .i64 a1z3, .slice xa1A4 a1n4 xa1c4, .int .i64 a1z5, .slice xa1A6 a1n6 xa1c6] 29))
  replace Oxa06 := Lib.hid (Oxa06.out.alloc (.cells #[.int .i64 a1z0, .int .i64 a1z1, .int .i64 a1z2, .int .i64 a1z3, .slice xa1A4 a1n4 xa1c4, .int .i64 a1z5, .slice xa1A6 a1n6 xa1c6] 29))
  replace Yxa0 := Lib.hid (Yxa0.out.alloc (.cells #[.int .i64 a1z0, .int .i64 a1z1, .int .i64 a1z2, .int .i64 a1z3, .slice xa1A4 a1n4 xa1c4, .int .i64 a1z5, .slice xa1A6 a1n6 xa1c6] 29))
  replace Oxa14 := Lib.hid (Oxa14.out.alloc (.cells #[.int .i64 a1z0, .int .i64 a1z1, .int .i64 a1z2, .int .i64 a1z3, .slice xa1A4 a1n4 xa1c4, .int .i64 a1z5, .slice xa1A6 a1n6 xa1c6] 29))
  replace Oxa16 := Lib.hid (Oxa16.out.alloc (.cells #[.int .i64 a1z0, .int .i64 a1z1, .int .i64 a1z2, .int .i64 a1z3, .slice xa1A4 a1n4 xa1c4, .int .i64 a1z5, .slice xa1A6 a1n6 xa1c6] 29))
  have Yxa1 := Lib.hid (boxed w7 #[.int .i64 a1z0, .int .i64 a1z1, .int .i64 a1z2, .int .i64 a1z3, .slice xa1A4 a1n4 xa1c4, .int .i64 a1z5, .slice xa1A6 a1n6 xa1c6] 29)
  have c_Yxa0_0 := Yxa0.out.now 0 _ rfl
  have c_Yxa0_1 := Yxa0.out.now 1 _ rfl
  have c_Yxa0_2 := Yxa0.out.now 2 _ rfl
  have c_Yxa0_3 := Yxa0.out.now 3 _ rfl
  have c_Yxa0_4 := Yxa0.out.now 4 _ rfl
  have c_Yxa0_5 := Yxa0.out.now 5 _ rfl
  have c_Yxa0_6 := Yxa0.out.now 6 _ rfl
  have c_Yxa1_0 := Yxa1.out.now 0 _ rfl
  have c_Yxa1_1 := Yxa1.out.now 1 _ rfl
  have c_Yxa1_2 := Yxa1.out.now 2 _ rfl
  have c_Yxa1_3 := Yxa1.out.now 3 _ rfl
  have c_Yxa1_4 := Yxa1.out.now 4 _ rfl
  have c_Yxa1_5 := Yxa1.out.now 5 _ rfl
  have c_Yxa1_6 := Yxa1.out.now 6 _ rfl
  go_wp2_with fail
  refine (S2.out _ _ _ _ _ _ _ _ _ Oxa04.out.orow Oxa06.out.orow Oxa14.out.orow Oxa16.out.orow).mono ?_; rintro e w8 ⟨gr0A4, gr0c4, gr0A6, gr0c6, rfl, hrr04, hrr06, hap_g_0, hb⟩
  replace FB := Lib.hid (FB.out.b hb)
  replace Fa04 := Lib.hid (Fa04.out.b hb)
  replace Fa06 := Lib.hid (Fa06.out.b hb)
  replace Fa14 := Lib.hid (Fa14.out.b hb)
  replace Fa16 := Lib.hid (Fa16.out.b hb)
  replace Ba0 := Lib.hid (Ba0.out.b hb)
  replace Ba1 := Lib.hid (Ba1.out.b hb)
  replace Xmr0 := Lib.hid (Xmr0.out.b hb)
  replace Vmr04 := Lib.hid (Vmr04.out.b hb)
  replace Vmr06 := Lib.hid (Vmr06.out.b hb)
  replace Oxa04 := Lib.hid (Oxa04.out.b hb)
  replace Oxa06 := Lib.hid (Oxa06.out.b hb)
  replace Yxa0 := Lib.hid (Yxa0.out.b hb)
  replace Oxa14 := Lib.hid (Oxa14.out.b hb)
  replace Oxa16 := Lib.hid (Oxa16.out.b hb)
  replace Yxa1 := Lib.hid (Yxa1.out.b hb)
  have z_w8 : w7.heap.size + 1 ≤ w8.heap.size := by have hsz := hb.size; first | omega | (simp at hsz; omega)
  clear c_Yxa0_0 c_Yxa0_1 c_Yxa0_2 c_Yxa0_3 c_Yxa0_4 c_Yxa0_5 c_Yxa0_6 c_Yxa1_0 c_Yxa1_1 c_Yxa1_2 c_Yxa1_3 c_Yxa1_4 c_Yxa1_5 c_Yxa1_6
  have Ogr04 := Lib.hid (owned (hrr04.mono (lo' := w7.heap.size + 1) (by simp) (Nat.le_refl _)))
  have Ogr06 := Lib.hid (owned (hrr06.mono (lo' := w7.heap.size + 1) (by simp) (Nat.le_refl _)))
  clear hb hrr04 hrr06
  replace FB := Lib.hid (FB.out.alloc (.cells #[.int .i64 r0z0, .int .i64 r0z1, .int .i64 r0z2, .int .i64 r0z3, .slice gr0A4 r0n4 gr0c4, .int .i64 r0z5, .slice gr0A6 r0n6 gr0c6] 29))
  replace Fa04 := Lib.hid (Fa04.out.alloc (.cells #[.int .i64 r0z0, .int .i64 r0z1, .int .i64 r0z2, .int .i64 r0z3, .slice gr0A4 r0n4 gr0c4, .int .i64 r0z5, .slice gr0A6 r0n6 gr0c6] 29))
  replace Fa06 := Lib.hid (Fa06.out.alloc (.cells #[.int .i64 r0z0, .int .i64 r0z1, .int .i64 r0z2, .int .i64 r0z3, .slice gr0A4 r0n4 gr0c4, .int .i64 r0z5, .slice gr0A6 r0n6 gr0c6] 29))
  replace Fa14 := Lib.hid (Fa14.out.alloc (.cells #[.int .i64 r0z0, .int .i64 r0z1, .int .i64 r0z2, .int .i64 r0z3, .slice gr0A4 r0n4 gr0c4, .int .i64 r0z5, .slice gr0A6 r0n6 gr0c6] 29))
  replace Fa16 := Lib.hid (Fa16.out.alloc (.cells #[.int .i64 r0z0, .int .i64 r0z1, .int .i64 r0z2, .int .i64 r0z3, .slice gr0A4 r0n4 gr0c4, .int .i64 r0z5, .slice gr0A6 r0n6 gr0c6] 29))
  replace Ba0 := Lib.hid (Ba0.out.alloc (.cells #[.int .i64 r0z0, .int .i64 r0z1, .int .i64 r0z2, .int .i64 r0z3, .slice gr0A4 r0n4 gr0c4, .int .i64 r0z5, .slice gr0A6 r0n6 gr0c6] 29))
  replace Ba1 := Lib.hid (Ba1.out.alloc (.cells #[.int .i64 r0z0, .int .i64 r0z1, .int .i64 r0z2, .int .i64 r0z3, .slice gr0A4 r0n4 gr0c4, .int .i64 r0z5, .slice gr0A6 r0n6 gr0c6] 29))
  replace Xmr0 := Lib.hid (Xmr0.out.alloc (.cells #[.int .i64 r0z0, .int .i64 r0z1, .int .i64 r0z2, .int .i64 r0z3, .slice gr0A4 r0n4 gr0c4, .int .i64 r0z5, .slice gr0A6 r0n6 gr0c6] 29))
  replace Vmr04 := Lib.hid (Vmr04.out.alloc (.cells #[.int .i64 r0z0, .int .i64 r0z1, .int .i64 r0z2, .int .i64 r0z3, .slice gr0A4 r0n4 gr0c4, .int .i64 r0z5, .slice gr0A6 r0n6 gr0c6] 29))
  replace Vmr06 := Lib.hid (Vmr06.out.alloc (.cells #[.int .i64 r0z0, .int .i64 r0z1, .int .i64 r0z2, .int .i64 r0z3, .slice gr0A4 r0n4 gr0c4, .int .i64 r0z5, .slice gr0A6 r0n6 gr0c6] 29))
  replace Oxa04 := Lib.hid (Oxa04.out.alloc (.cells #[.int .i64 r0z0, .int .i64 r0z1, .int .i64 r0z2, .int .i64 r0z3, .slice gr0A4 r0n4 gr0c4, .int .i64 r0z5, .slice gr0A6 r0n6 gr0c6] 29))
  replace Oxa06 := Lib.hid (Oxa06.out.alloc (.cells #[.int .i64 r0z0, .int .i64 r0z1, .int .i64 r0z2, .int .i64 r0z3, .slice gr0A4 r0n4 gr0c4, .int .i64 r0z5, .slice gr0A6 r0n6 gr0c6] 29))
  replace Yxa0 := Lib.hid (Yxa0.out.alloc (.cells #[.int .i64 r0z0, .int .i64 r0z1, .int .i64 r0z2, .int .i64 r0z3, .slice gr0A4 r0n4 gr0c4, .int .i64 r0z5, .slice gr0A6 r0n6 gr0c6] 29))
  replace Oxa14 := Lib.hid (Oxa14.out.alloc (.cells #[.int .i64 r0z0, .int .i64 r0z1, .int .i64 r0z2, .int .i64 r0z3, .slice gr0A4 r0n4 gr0c4, .int .i64 r0z5, .slice gr0A6 r0n6 gr0c6] 29))
  replace Oxa16 := Lib.hid (Oxa16.out.alloc (.cells #[.int .i64 r0z0, .int .i64 r0z1, .int .i64 r0z2, .int .i64 r0z3, .slice gr0A4 r0n4 gr0c4, .int .i64 r0z5, .slice gr0A6 r0n6 gr0c6] 29))
  replace Yxa1 := Lib.hid (Yxa1.out.alloc (.cells #[.int .i64 r0z0, .int .i64 r0z1, .int .i64 r0z2, .int .i64 r0z3, .slice gr0A4 r0n4 gr0c4, .int .i64 r0z5, .slice gr0A6 r0n6 gr0c6] 29))
  replace Ogr04 := Lib.hid (Ogr04.out.alloc (.cells #[.int .i64 r0z0, .int .i64 r0z1, .int .i64 r0z2, .int .i64 r0z3, .slice gr0A4 r0n4 gr0c4, .int .i64 r0z5, .slice gr0A6 r0n6 gr0c6] 29))
  replace Ogr06 := Lib.hid (Ogr06.out.alloc (.cells #[.int .i64 r0z0, .int .i64 r0z1, .int .i64 r0z2, .int .i64 r0z3, .slice gr0A4 r0n4 gr0c4, .int .i64 r0z5, .slice gr0A6 r0n6 gr0c6] 29))
  have Xgr0 := Lib.hid (boxed w8 #[.int .i64 r0z0, .int .i64 r0z1, .int .i64 r0z2, .int .i64 r0z3, .slice gr0A4 r0n4 gr0c4, .int .i64 r0z5, .slice gr0A6 r0n6 gr0c6] 29)
  have c_Xgr0_0 := Xgr0.out.now 0 _ rfl
  have c_Xgr0_1 := Xgr0.out.now 1 _ rfl
  have c_Xgr0_2 := Xgr0.out.now 2 _ rfl
  have c_Xgr0_3 := Xgr0.out.now 3 _ rfl
  have c_Xgr0_4 := Xgr0.out.now 4 _ rfl
  have c_Xgr0_5 := Xgr0.out.now 5 _ rfl
  have c_Xgr0_6 := Xgr0.out.now 6 _ rfl
  have c_Xmr0_0 := Xmr0.out.now 0 _ rfl
  have c_Xmr0_1 := Xmr0.out.now 1 _ rfl
  have c_Xmr0_2 := Xmr0.out.now 2 _ rfl
  have c_Xmr0_3 := Xmr0.out.now 3 _ rfl
  have c_Xmr0_4 := Xmr0.out.now 4 _ rfl
  have c_Xmr0_5 := Xmr0.out.now 5 _ rfl
  have c_Xmr0_6 := Xmr0.out.now 6 _ rfl
  go_wp2_with fail
  refine (eq_Sparse hr0m4 hr0m6 Ogr04.out.orow Ogr06.out.orow Vmr04.out.row Vmr06.out.row).mono ?_; rintro e w9 ⟨rfl, hb⟩
  replace FB := Lib.hid (FB.out.b hb)
  replace Fa04 := Lib.hid (Fa04.out.b hb)
  replace Fa06 := Lib.hid (Fa06.out.b hb)
  replace Fa14 := Lib.hid (Fa14.out.b hb)
  replace Fa16 := Lib.hid (Fa16.out.b hb)
  replace Ba0 := Lib.hid (Ba0.out.b hb)
  replace Ba1 := Lib.hid (Ba1.out.b hb)
  replace Xmr0 := Lib.hid (Xmr0.out.b hb)
  replace Vmr04 := Lib.hid (Vmr04.out.b hb)
  replace Vmr06 := Lib.hid (Vmr06.out.b hb)
  replace Oxa04 := Lib.hid (Oxa04.out.b hb)
  replace Oxa06 := Lib.hid (Oxa06.out.b hb)
  replace Yxa0 := Lib.hid (Yxa0.out.b hb)
  replace Oxa14 := Lib.hid (Oxa14.out.b hb)
  replace Oxa16 := Lib.hid (Oxa16.out.b hb)
  replace Yxa1 := Lib.hid (Yxa1.out.b hb)
  replace Ogr04 := Lib.hid (Ogr04.out.b hb)
  replace Ogr06 := Lib.hid (Ogr06.out.b hb)
  replace Xgr0 := Lib.hid (Xgr0.out.b hb)
  have z_w9 : w8.heap.size + 1 ≤ w9.heap.size := by have hsz := hb.size; first | omega | (simp at hsz; omega)
  clear c_Xgr0_0 c_Xgr0_1 c_Xgr0_2 c_Xgr0_3 c_Xgr0_4 c_Xgr0_5 c_Xgr0_6 c_Xmr0_0 c_Xmr0_1 c_Xmr0_2 c_Xmr0_3 c_Xmr0_4 c_Xmr0_5 c_Xmr0_6
  clear hb
  have c_Ba0_0 := Ba0.out.now 0 _ rfl
  have c_Ba0_1 := Ba0.out.now 1 _ rfl
  have c_Ba0_2 := Ba0.out.now 2 _ rfl
  have c_Ba0_3 := Ba0.out.now 3 _ rfl
  have c_Ba0_4 := Ba0.out.now 4 _ rfl
  have c_Ba0_5 := Ba0.out.now 5 _ rfl
  have c_Ba0_6 := Ba0.out.now 6 _ rfl
  have c_Yxa0_0 := Yxa0.out.now 0 _ rfl
  have c_Yxa0_1 := Yxa0.out.now 1 _ rfl
  have c_Yxa0_2 := Yxa0.out.now 2 _ rfl
  have c_Yxa0_3 := Yxa0.out.now 3 _ rfl
  have c_Yxa0_4 := Yxa0.out.now 4 _ rfl
  have c_Yxa0_5 := Yxa0.out.now 5 _ rfl
  have c_Yxa0_6 := Yxa0.out.now 6 _ rfl
  go_wp2_with fail
  go_region_held3 (fun w' => w'.cell? ⟨w.heap.size, 0, none⟩ = some (.int .i64 a0z0) ∧ w'.cell? ⟨w.heap.size, 1, none⟩ = some (.int .i64 a0z1) ∧ w'.cell? ⟨w.heap.size, 2, none⟩ = some (.int .i64 a0z2) ∧ w'.cell? ⟨w.heap.size, 3, none⟩ = some (.int .i64 a0z3) ∧ w'.cell? ⟨w.heap.size, 4, none⟩ = some (.slice a0A4 a0n4 a0c4) ∧ w'.cell? ⟨w.heap.size, 5, none⟩ = some (.int .i64 a0z5) ∧ w'.cell? ⟨w.heap.size, 6, none⟩ = some (.slice a0A6 a0n6 a0c6) ∧ w'.cell? ⟨w6.heap.size, 0, none⟩ = some (.int .i64 a0z0) ∧ w'.cell? ⟨w6.heap.size, 1, none⟩ = some (.int .i64 a0z1) ∧ w'.cell? ⟨w6.heap.size, 2, none⟩ = some (.int .i64 a0z2) ∧ w'.cell? ⟨w6.heap.size, 3, none⟩ = some (.int .i64 a0z3) ∧ w'.cell? ⟨w6.heap.size, 4, none⟩ = some (.slice xa0A4 a0n4 xa0c4) ∧ w'.cell? ⟨w6.heap.size, 5, none⟩ = some (.int .i64 a0z5) ∧ w'.cell? ⟨w6.heap.size, 6, none⟩ = some (.slice xa0A6 a0n6 xa0c6))
    (first | (go_keep; done) | exact ⟨(((Ba0.out.b hq1).b hq2)).now 0 _ rfl, (((Ba0.out.b hq1).b hq2)).now 1 _ rfl, (((Ba0.out.b hq1).b hq2)).now 2 _ rfl, (((Ba0.out.b hq1).b hq2)).now 3 _ rfl, (((Ba0.out.b hq1).b hq2)).now 4 _ rfl, (((Ba0.out.b hq1).b hq2)).now 5 _ rfl, (((Ba0.out.b hq1).b hq2)).now 6 _ rfl, (((Yxa0.out.b hq1).b hq2)).now 0 _ rfl, (((Yxa0.out.b hq1).b hq2)).now 1 _ rfl, (((Yxa0.out.b hq1).b hq2)).now 2 _ rfl, (((Yxa0.out.b hq1).b hq2)).now 3 _ rfl, (((Yxa0.out.b hq1).b hq2)).now 4 _ rfl, (((Yxa0.out.b hq1).b hq2)).now 5 _ rfl, (((Yxa0.out.b hq1).b hq2)).now 6 _ rfl⟩ | exact ⟨((Ba0.out.b hq1)).now 0 _ rfl, ((Ba0.out.b hq1)).now 1 _ rfl, ((Ba0.out.b hq1)).now 2 _ rfl, ((Ba0.out.b hq1)).now 3 _ rfl, ((Ba0.out.b hq1)).now 4 _ rfl, ((Ba0.out.b hq1)).now 5 _ rfl, ((Ba0.out.b hq1)).now 6 _ rfl, ((Yxa0.out.b hq1)).now 0 _ rfl, ((Yxa0.out.b hq1)).now 1 _ rfl, ((Yxa0.out.b hq1)).now 2 _ rfl, ((Yxa0.out.b hq1)).now 3 _ rfl, ((Yxa0.out.b hq1)).now 4 _ rfl, ((Yxa0.out.b hq1)).now 5 _ rfl, ((Yxa0.out.b hq1)).now 6 _ rfl⟩)
    (first
      | (have hqz := hq1; clear hqz; go_at_call 21; (first | refine (eq_Sparse ha0k4 ha0k6 ((Oxa04.out.b hq1)).orow ((Oxa06.out.b hq1)).orow (owned ho4).orow (owned ho6).orow).mono ?_); rintro e w11 ⟨rfl, hq2⟩)
      | (go_at_call 28; (first | refine (to_Sparse ha0k4 ha0k6 (Fa04.out).row (Fa06.out).row).mono ?_ | refine (to_Sparse ha0k4 ha0k6 (GRow.drew (Fa04.out).row) (GRow.drew (Fa06.out).row)).mono ?_); rintro e w10 ⟨ya0A4, ya0c4, ya0A6, ya0c6, rfl, ho4, ho6, hz0, hq1'⟩; have hq1 := of_drew hq1'; clear hq1'))
  replace FB := Lib.hid (FB.out.b hq1)
  replace Fa04 := Lib.hid (Fa04.out.b hq1)
  replace Fa06 := Lib.hid (Fa06.out.b hq1)
  replace Fa14 := Lib.hid (Fa14.out.b hq1)
  replace Fa16 := Lib.hid (Fa16.out.b hq1)
  replace Ba0 := Lib.hid (Ba0.out.b hq1)
  replace Ba1 := Lib.hid (Ba1.out.b hq1)
  replace Xmr0 := Lib.hid (Xmr0.out.b hq1)
  replace Vmr04 := Lib.hid (Vmr04.out.b hq1)
  replace Vmr06 := Lib.hid (Vmr06.out.b hq1)
  replace Oxa04 := Lib.hid (Oxa04.out.b hq1)
  replace Oxa06 := Lib.hid (Oxa06.out.b hq1)
  replace Yxa0 := Lib.hid (Yxa0.out.b hq1)
  replace Oxa14 := Lib.hid (Oxa14.out.b hq1)
  replace Oxa16 := Lib.hid (Oxa16.out.b hq1)
  replace Yxa1 := Lib.hid (Yxa1.out.b hq1)
  replace Ogr04 := Lib.hid (Ogr04.out.b hq1)
  replace Ogr06 := Lib.hid (Ogr06.out.b hq1)
  replace Xgr0 := Lib.hid (Xgr0.out.b hq1)
  replace FB := Lib.hid (FB.out.b hq2)
  replace Fa04 := Lib.hid (Fa04.out.b hq2)
  replace Fa06 := Lib.hid (Fa06.out.b hq2)
  replace Fa14 := Lib.hid (Fa14.out.b hq2)
  replace Fa16 := Lib.hid (Fa16.out.b hq2)
  replace Ba0 := Lib.hid (Ba0.out.b hq2)
  replace Ba1 := Lib.hid (Ba1.out.b hq2)
  replace Xmr0 := Lib.hid (Xmr0.out.b hq2)
  replace Vmr04 := Lib.hid (Vmr04.out.b hq2)
  replace Vmr06 := Lib.hid (Vmr06.out.b hq2)
  replace Oxa04 := Lib.hid (Oxa04.out.b hq2)
  replace Oxa06 := Lib.hid (Oxa06.out.b hq2)
  replace Yxa0 := Lib.hid (Yxa0.out.b hq2)
  replace Oxa14 := Lib.hid (Oxa14.out.b hq2)
  replace Oxa16 := Lib.hid (Oxa16.out.b hq2)
  replace Yxa1 := Lib.hid (Yxa1.out.b hq2)
  replace Ogr04 := Lib.hid (Ogr04.out.b hq2)
  replace Ogr06 := Lib.hid (Ogr06.out.b hq2)
  replace Xgr0 := Lib.hid (Xgr0.out.b hq2)
  have z_w10 : w9.heap.size ≤ w10.heap.size := by have hsz := hq1.size; first | omega | (simp at hsz; omega)
  have z_w11 : w10.heap.size ≤ w11.heap.size := hq2.size
  clear c_Ba0_0 c_Ba0_1 c_Ba0_2 c_Ba0_3 c_Ba0_4 c_Ba0_5 c_Ba0_6 c_Yxa0_0 c_Yxa0_1 c_Yxa0_2 c_Yxa0_3 c_Yxa0_4 c_Yxa0_5 c_Yxa0_6
  clear hq1 hq2 ho4 ho6 hz0
  have c_Ba1_0 := Ba1.out.now 0 _ rfl
  have c_Ba1_1 := Ba1.out.now 1 _ rfl
  have c_Ba1_2 := Ba1.out.now 2 _ rfl
  have c_Ba1_3 := Ba1.out.now 3 _ rfl
  have c_Ba1_4 := Ba1.out.now 4 _ rfl
  have c_Ba1_5 := Ba1.out.now 5 _ rfl
  have c_Ba1_6 := Ba1.out.now 6 _ rfl
  have c_Yxa1_0 := Yxa1.out.now 0 _ rfl
  have c_Yxa1_1 := Yxa1.out.now 1 _ rfl
  have c_Yxa1_2 := Yxa1.out.now 2 _ rfl
  have c_Yxa1_3 := Yxa1.out.now 3 _ rfl
  have c_Yxa1_4 := Yxa1.out.now 4 _ rfl
  have c_Yxa1_5 := Yxa1.out.now 5 _ rfl
  have c_Yxa1_6 := Yxa1.out.now 6 _ rfl
  go_wp2_with fail
  go_region_held3 (fun w' => w'.cell? ⟨w.heap.size + 1, 0, none⟩ = some (.int .i64 a1z0) ∧ w'.cell? ⟨w.heap.size + 1, 1, none⟩ = some (.int .i64 a1z1) ∧ w'.cell? ⟨w.heap.size + 1, 2, none⟩ = some (.int .i64 a1z2) ∧ w'.cell? ⟨w.heap.size + 1, 3, none⟩ = some (.int .i64 a1z3) ∧ w'.cell? ⟨w.heap.size + 1, 4, none⟩ = some (.slice a1A4 a1n4 a1c4) ∧ w'.cell? ⟨w.heap.size + 1, 5, none⟩ = some (.int .i64 a1z5) ∧ w'.cell? ⟨w.heap.size + 1, 6, none⟩ = some (.slice a1A6 a1n6 a1c6) ∧ w'.cell? ⟨w7.heap.size, 0, none⟩ = some (.int .i64 a1z0) ∧ w'.cell? ⟨w7.heap.size, 1, none⟩ = some (.int .i64 a1z1) ∧ w'.cell? ⟨w7.heap.size, 2, none⟩ = some (.int .i64 a1z2) ∧ w'.cell? ⟨w7.heap.size, 3, none⟩ = some (.int .i64 a1z3) ∧ w'.cell? ⟨w7.heap.size, 4, none⟩ = some (.slice xa1A4 a1n4 xa1c4) ∧ w'.cell? ⟨w7.heap.size, 5, none⟩ = some (.int .i64 a1z5) ∧ w'.cell? ⟨w7.heap.size, 6, none⟩ = some (.slice xa1A6 a1n6 xa1c6))
    (first | (go_keep; done) | exact ⟨(((Ba1.out.b hq1).b hq2)).now 0 _ rfl, (((Ba1.out.b hq1).b hq2)).now 1 _ rfl, (((Ba1.out.b hq1).b hq2)).now 2 _ rfl, (((Ba1.out.b hq1).b hq2)).now 3 _ rfl, (((Ba1.out.b hq1).b hq2)).now 4 _ rfl, (((Ba1.out.b hq1).b hq2)).now 5 _ rfl, (((Ba1.out.b hq1).b hq2)).now 6 _ rfl, (((Yxa1.out.b hq1).b hq2)).now 0 _ rfl, (((Yxa1.out.b hq1).b hq2)).now 1 _ rfl, (((Yxa1.out.b hq1).b hq2)).now 2 _ rfl, (((Yxa1.out.b hq1).b hq2)).now 3 _ rfl, (((Yxa1.out.b hq1).b hq2)).now 4 _ rfl, (((Yxa1.out.b hq1).b hq2)).now 5 _ rfl, (((Yxa1.out.b hq1).b hq2)).now 6 _ rfl⟩ | exact ⟨((Ba1.out.b hq1)).now 0 _ rfl, ((Ba1.out.b hq1)).now 1 _ rfl, ((Ba1.out.b hq1)).now 2 _ rfl, ((Ba1.out.b hq1)).now 3 _ rfl, ((Ba1.out.b hq1)).now 4 _ rfl, ((Ba1.out.b hq1)).now 5 _ rfl, ((Ba1.out.b hq1)).now 6 _ rfl, ((Yxa1.out.b hq1)).now 0 _ rfl, ((Yxa1.out.b hq1)).now 1 _ rfl, ((Yxa1.out.b hq1)).now 2 _ rfl, ((Yxa1.out.b hq1)).now 3 _ rfl, ((Yxa1.out.b hq1)).now 4 _ rfl, ((Yxa1.out.b hq1)).now 5 _ rfl, ((Yxa1.out.b hq1)).now 6 _ rfl⟩)
    (first
      | (have hqz := hq1; clear hqz; go_at_call 21; (first | refine (eq_Sparse ha1k4 ha1k6 ((Oxa14.out.b hq1)).orow ((Oxa16.out.b hq1)).orow (owned ho4).orow (owned ho6).orow).mono ?_); rintro e w13 ⟨rfl, hq2⟩)
      | (go_at_call 28; (first | refine (to_Sparse ha1k4 ha1k6 (Fa14.out).row (Fa16.out).row).mono ?_ | refine (to_Sparse ha1k4 ha1k6 (GRow.drew (Fa14.out).row) (GRow.drew (Fa16.out).row)).mono ?_); rintro e w12 ⟨ya1A4, ya1c4, ya1A6, ya1c6, rfl, ho4, ho6, hz0, hq1'⟩; have hq1 := of_drew hq1'; clear hq1'))
  replace FB := Lib.hid (FB.out.b hq1)
  replace Fa04 := Lib.hid (Fa04.out.b hq1)
  replace Fa06 := Lib.hid (Fa06.out.b hq1)
  replace Fa14 := Lib.hid (Fa14.out.b hq1)
  replace Fa16 := Lib.hid (Fa16.out.b hq1)
  replace Ba0 := Lib.hid (Ba0.out.b hq1)
  replace Ba1 := Lib.hid (Ba1.out.b hq1)
  replace Xmr0 := Lib.hid (Xmr0.out.b hq1)
  replace Vmr04 := Lib.hid (Vmr04.out.b hq1)
  replace Vmr06 := Lib.hid (Vmr06.out.b hq1)
  replace Oxa04 := Lib.hid (Oxa04.out.b hq1)
  replace Oxa06 := Lib.hid (Oxa06.out.b hq1)
  replace Yxa0 := Lib.hid (Yxa0.out.b hq1)
  replace Oxa14 := Lib.hid (Oxa14.out.b hq1)
  replace Oxa16 := Lib.hid (Oxa16.out.b hq1)
  replace Yxa1 := Lib.hid (Yxa1.out.b hq1)
  replace Ogr04 := Lib.hid (Ogr04.out.b hq1)
  replace Ogr06 := Lib.hid (Ogr06.out.b hq1)
  replace Xgr0 := Lib.hid (Xgr0.out.b hq1)
  replace FB := Lib.hid (FB.out.b hq2)
  replace Fa04 := Lib.hid (Fa04.out.b hq2)
  replace Fa06 := Lib.hid (Fa06.out.b hq2)
  replace Fa14 := Lib.hid (Fa14.out.b hq2)
  replace Fa16 := Lib.hid (Fa16.out.b hq2)
  replace Ba0 := Lib.hid (Ba0.out.b hq2)
  replace Ba1 := Lib.hid (Ba1.out.b hq2)
  replace Xmr0 := Lib.hid (Xmr0.out.b hq2)
  replace Vmr04 := Lib.hid (Vmr04.out.b hq2)
  replace Vmr06 := Lib.hid (Vmr06.out.b hq2)
  replace Oxa04 := Lib.hid (Oxa04.out.b hq2)
  replace Oxa06 := Lib.hid (Oxa06.out.b hq2)
  replace Yxa0 := Lib.hid (Yxa0.out.b hq2)
  replace Oxa14 := Lib.hid (Oxa14.out.b hq2)
  replace Oxa16 := Lib.hid (Oxa16.out.b hq2)
  replace Yxa1 := Lib.hid (Yxa1.out.b hq2)
  replace Ogr04 := Lib.hid (Ogr04.out.b hq2)
  replace Ogr06 := Lib.hid (Ogr06.out.b hq2)
  replace Xgr0 := Lib.hid (Xgr0.out.b hq2)
  have z_w12 : w11.heap.size ≤ w12.heap.size := by have hsz := hq1.size; first | omega | (simp at hsz; omega)
  have z_w13 : w12.heap.size ≤ w13.heap.size := hq2.size
  clear c_Ba1_0 c_Ba1_1 c_Ba1_2 c_Ba1_3 c_Ba1_4 c_Ba1_5 c_Ba1_6 c_Yxa1_0 c_Yxa1_1 c_Yxa1_2 c_Yxa1_3 c_Yxa1_4 c_Yxa1_5 c_Yxa1_6
  clear hq1 hq2 ho4 ho6 hz0
  have c_Yxa0_0 := Yxa0.out.now 0 _ rfl
  have c_Yxa0_1 := Yxa0.out.now 1 _ rfl
  have c_Yxa0_2 := Yxa0.out.now 2 _ rfl
  have c_Yxa0_3 := Yxa0.out.now 3 _ rfl
  have c_Yxa0_4 := Yxa0.out.now 4 _ rfl
  have c_Yxa0_5 := Yxa0.out.now 5 _ rfl
  have c_Yxa0_6 := Yxa0.out.now 6 _ rfl
  have c_Yxa1_0 := Yxa1.out.now 0 _ rfl
  have c_Yxa1_1 := Yxa1.out.now 1 _ rfl
  have c_Yxa1_2 := Yxa1.out.now 2 _ rfl
  have c_Yxa1_3 := Yxa1.out.now 3 _ rfl
  have c_Yxa1_4 := Yxa1.out.now 4 _ rfl
  have c_Yxa1_5 := Yxa1.out.now 5 _ rfl
  have c_Yxa1_6 := Yxa1.out.now 6 _ rfl
  go_wp2_with fail
  refine (mark_Sparse ha0k4 ha0k6 Oxa04.out.now Oxa06.out.now Oxa04.out.top hap_xa0_0 (by omega) (by omega)).mono ?_; rintro e w14 ⟨rfl, hm0, hm1, hg⟩
  replace FB := Lib.hid (FB.out.far hg (by omega))
  replace Fa04 := Lib.hid (Fa04.out.far hg (by omega))
  replace Fa06 := Lib.hid (Fa06.out.far hg (by omega))
  replace Fa14 := Lib.hid (Fa14.out.far hg (by omega))
  replace Fa16 := Lib.hid (Fa16.out.far hg (by omega))
  replace Ba0 := Lib.hid (Ba0.out.far hg (by omega))
  replace Ba1 := Lib.hid (Ba1.out.far hg (by omega))
  replace Xmr0 := Lib.hid (Xmr0.out.far hg (by omega))
  replace Vmr04 := Lib.hid (Vmr04.out.far hg (by omega))
  replace Vmr06 := Lib.hid (Vmr06.out.far hg (by omega))
  replace Yxa0 := Lib.hid (Yxa0.out.far hg (by omega))
  replace Oxa14 := Lib.hid (Oxa14.out.far hg (by omega))
  replace Oxa16 := Lib.hid (Oxa16.out.far hg (by omega))
  replace Yxa1 := Lib.hid (Yxa1.out.far hg (by omega))
  replace Ogr04 := Lib.hid (Ogr04.out.far hg (by omega))
  replace Ogr06 := Lib.hid (Ogr06.out.far hg (by omega))
  replace Xgr0 := Lib.hid (Xgr0.out.far hg (by omega))
  have z_w14 : w13.heap.size ≤ w14.heap.size := by have hsz := hg.size; first | omega | (simp at hsz; omega)
  replace Oxa04 := Lib.hid (At.mk hm0 (Nat.le_trans Oxa04.out.top hg.size) (Ow.lives _ _ _ _ _ _))
  replace Oxa06 := Lib.hid (At.mk hm1 (Nat.le_trans Oxa06.out.top hg.size) (Ow.lives _ _ _ _ _ _))
  clear c_Yxa0_0 c_Yxa0_1 c_Yxa0_2 c_Yxa0_3 c_Yxa0_4 c_Yxa0_5 c_Yxa0_6 c_Yxa1_0 c_Yxa1_1 c_Yxa1_2 c_Yxa1_3 c_Yxa1_4 c_Yxa1_5 c_Yxa1_6
  clear hg hm0 hm1
  clear Oxa04 Oxa06 Yxa0
  have c_Yxa1_0 := Yxa1.out.now 0 _ rfl
  have c_Yxa1_1 := Yxa1.out.now 1 _ rfl
  have c_Yxa1_2 := Yxa1.out.now 2 _ rfl
  have c_Yxa1_3 := Yxa1.out.now 3 _ rfl
  have c_Yxa1_4 := Yxa1.out.now 4 _ rfl
  have c_Yxa1_5 := Yxa1.out.now 5 _ rfl
  have c_Yxa1_6 := Yxa1.out.now 6 _ rfl
  go_wp2_with fail
  refine (mark_Sparse ha1k4 ha1k6 Oxa14.out.now Oxa16.out.now Oxa14.out.top hap_xa1_0 (by omega) (by omega)).mono ?_; rintro e w15 ⟨rfl, hm0, hm1, hg⟩
  replace FB := Lib.hid (FB.out.far hg (by omega))
  replace Fa04 := Lib.hid (Fa04.out.far hg (by omega))
  replace Fa06 := Lib.hid (Fa06.out.far hg (by omega))
  replace Fa14 := Lib.hid (Fa14.out.far hg (by omega))
  replace Fa16 := Lib.hid (Fa16.out.far hg (by omega))
  replace Ba0 := Lib.hid (Ba0.out.far hg (by omega))
  replace Ba1 := Lib.hid (Ba1.out.far hg (by omega))
  replace Xmr0 := Lib.hid (Xmr0.out.far hg (by omega))
  replace Vmr04 := Lib.hid (Vmr04.out.far hg (by omega))
  replace Vmr06 := Lib.hid (Vmr06.out.far hg (by omega))
  replace Yxa1 := Lib.hid (Yxa1.out.far hg (by omega))
  replace Ogr04 := Lib.hid (Ogr04.out.far hg (by omega))
  replace Ogr06 := Lib.hid (Ogr06.out.far hg (by omega))
  replace Xgr0 := Lib.hid (Xgr0.out.far hg (by omega))
  have z_w15 : w14.heap.size ≤ w15.heap.size := by have hsz := hg.size; first | omega | (simp at hsz; omega)
  replace Oxa14 := Lib.hid (At.mk hm0 (Nat.le_trans Oxa14.out.top hg.size) (Ow.lives _ _ _ _ _ _))
  replace Oxa16 := Lib.hid (At.mk hm1 (Nat.le_trans Oxa16.out.top hg.size) (Ow.lives _ _ _ _ _ _))
  clear c_Yxa1_0 c_Yxa1_1 c_Yxa1_2 c_Yxa1_3 c_Yxa1_4 c_Yxa1_5 c_Yxa1_6
  clear hg hm0 hm1
  clear Oxa14 Oxa16 Yxa1
  have c_Xgr0_0 := Xgr0.out.now 0 _ rfl
  have c_Xgr0_1 := Xgr0.out.now 1 _ rfl
  have c_Xgr0_2 := Xgr0.out.now 2 _ rfl
  have c_Xgr0_3 := Xgr0.out.now 3 _ rfl
  have c_Xgr0_4 := Xgr0.out.now 4 _ rfl
  have c_Xgr0_5 := Xgr0.out.now 5 _ rfl
  have c_Xgr0_6 := Xgr0.out.now 6 _ rfl
  have c_Xmr0_0 := Xmr0.out.now 0 _ rfl
  have c_Xmr0_1 := Xmr0.out.now 1 _ rfl
  have c_Xmr0_2 := Xmr0.out.now 2 _ rfl
  have c_Xmr0_3 := Xmr0.out.now 3 _ rfl
  have c_Xmr0_4 := Xmr0.out.now 4 _ rfl
  have c_Xmr0_5 := Xmr0.out.now 5 _ rfl
  have c_Xmr0_6 := Xmr0.out.now 6 _ rfl
  go_wp2_with fail
  refine (eq_Sparse hr0m4 hr0m6 Ogr04.out.orow Ogr06.out.orow Vmr04.out.row Vmr06.out.row).mono ?_; rintro e w16 ⟨rfl, hb⟩
  replace FB := Lib.hid (FB.out.b hb)
  replace Fa04 := Lib.hid (Fa04.out.b hb)
  replace Fa06 := Lib.hid (Fa06.out.b hb)
  replace Fa14 := Lib.hid (Fa14.out.b hb)
  replace Fa16 := Lib.hid (Fa16.out.b hb)
  replace Ba0 := Lib.hid (Ba0.out.b hb)
  replace Ba1 := Lib.hid (Ba1.out.b hb)
  replace Xmr0 := Lib.hid (Xmr0.out.b hb)
  replace Vmr04 := Lib.hid (Vmr04.out.b hb)
  replace Vmr06 := Lib.hid (Vmr06.out.b hb)
  replace Ogr04 := Lib.hid (Ogr04.out.b hb)
  replace Ogr06 := Lib.hid (Ogr06.out.b hb)
  replace Xgr0 := Lib.hid (Xgr0.out.b hb)
  have z_w16 : w15.heap.size ≤ w16.heap.size := by have hsz := hb.size; first | omega | (simp at hsz; omega)
  clear c_Xgr0_0 c_Xgr0_1 c_Xgr0_2 c_Xgr0_3 c_Xgr0_4 c_Xgr0_5 c_Xgr0_6 c_Xmr0_0 c_Xmr0_1 c_Xmr0_2 c_Xmr0_3 c_Xmr0_4 c_Xmr0_5 c_Xmr0_6
  clear hb
  have c_Xgr0_0 := Xgr0.out.now 0 _ rfl
  have c_Xgr0_1 := Xgr0.out.now 1 _ rfl
  have c_Xgr0_2 := Xgr0.out.now 2 _ rfl
  have c_Xgr0_3 := Xgr0.out.now 3 _ rfl
  have c_Xgr0_4 := Xgr0.out.now 4 _ rfl
  have c_Xgr0_5 := Xgr0.out.now 5 _ rfl
  have c_Xgr0_6 := Xgr0.out.now 6 _ rfl
  go_wp2_with fail
  refine (mark_Sparse hr0m4 hr0m6 Ogr04.out.now Ogr06.out.now Ogr04.out.top hap_g_0 (by omega) (by omega)).mono ?_; rintro e w17 ⟨rfl, hm0, hm1, hg⟩
  replace FB := Lib.hid (FB.out.far hg (by omega))
  replace Fa04 := Lib.hid (Fa04.out.far hg (by omega))
  replace Fa06 := Lib.hid (Fa06.out.far hg (by omega))
  replace Fa14 := Lib.hid (Fa14.out.far hg (by omega))
  replace Fa16 := Lib.hid (Fa16.out.far hg (by omega))
  replace Ba0 := Lib.hid (Ba0.out.far hg (by omega))
  replace Ba1 := Lib.hid (Ba1.out.far hg (by omega))
  replace Xmr0 := Lib.hid (Xmr0.out.far hg (by omega))
  replace Vmr04 := Lib.hid (Vmr04.out.far hg (by omega))
  replace Vmr06 := Lib.hid (Vmr06.out.far hg (by omega))
  replace Xgr0 := Lib.hid (Xgr0.out.far hg (by omega))
  have z_w17 : w16.heap.size ≤ w17.heap.size := by have hsz := hg.size; first | omega | (simp at hsz; omega)
  replace Ogr04 := Lib.hid (At.mk hm0 (Nat.le_trans Ogr04.out.top hg.size) (Ow.lives _ _ _ _ _ _))
  replace Ogr06 := Lib.hid (At.mk hm1 (Nat.le_trans Ogr06.out.top hg.size) (Ow.lives _ _ _ _ _ _))
  clear c_Xgr0_0 c_Xgr0_1 c_Xgr0_2 c_Xgr0_3 c_Xgr0_4 c_Xgr0_5 c_Xgr0_6
  clear hg hm0 hm1
  have c_Xgr0_0 := Xgr0.out.now 0 _ rfl
  have c_Xgr0_1 := Xgr0.out.now 1 _ rfl
  have c_Xgr0_2 := Xgr0.out.now 2 _ rfl
  have c_Xgr0_3 := Xgr0.out.now 3 _ rfl
  have c_Xgr0_4 := Xgr0.out.now 4 _ rfl
  have c_Xgr0_5 := Xgr0.out.now 5 _ rfl
  have c_Xgr0_6 := Xgr0.out.now 6 _ rfl
  go_wp2_with fail
  refine (held_Sparse hr0m4 hr0m6 Ogr04.out.orow Ogr06.out.orow (by omega) (by omega)).mono ?_; rintro e w18 ⟨rfl, hb⟩
  replace FB := Lib.hid (FB.out.b hb)
  replace Fa04 := Lib.hid (Fa04.out.b hb)
  replace Fa06 := Lib.hid (Fa06.out.b hb)
  replace Fa14 := Lib.hid (Fa14.out.b hb)
  replace Fa16 := Lib.hid (Fa16.out.b hb)
  replace Ba0 := Lib.hid (Ba0.out.b hb)
  replace Ba1 := Lib.hid (Ba1.out.b hb)
  replace Xmr0 := Lib.hid (Xmr0.out.b hb)
  replace Vmr04 := Lib.hid (Vmr04.out.b hb)
  replace Vmr06 := Lib.hid (Vmr06.out.b hb)
  replace Ogr04 := Lib.hid (Ogr04.out.b hb)
  replace Ogr06 := Lib.hid (Ogr06.out.b hb)
  replace Xgr0 := Lib.hid (Xgr0.out.b hb)
  have z_w18 : w17.heap.size ≤ w18.heap.size := by have hsz := hb.size; first | omega | (simp at hsz; omega)
  clear c_Xgr0_0 c_Xgr0_1 c_Xgr0_2 c_Xgr0_3 c_Xgr0_4 c_Xgr0_5 c_Xgr0_6
  clear hb
  have c_Ba0_0 := Ba0.out.now 0 _ rfl
  have c_Ba0_1 := Ba0.out.now 1 _ rfl
  have c_Ba0_2 := Ba0.out.now 2 _ rfl
  have c_Ba0_3 := Ba0.out.now 3 _ rfl
  have c_Ba0_4 := Ba0.out.now 4 _ rfl
  have c_Ba0_5 := Ba0.out.now 5 _ rfl
  have c_Ba0_6 := Ba0.out.now 6 _ rfl
  have c_Ba1_0 := Ba1.out.now 0 _ rfl
  have c_Ba1_1 := Ba1.out.now 1 _ rfl
  have c_Ba1_2 := Ba1.out.now 2 _ rfl
  have c_Ba1_3 := Ba1.out.now 3 _ rfl
  have c_Ba1_4 := Ba1.out.now 4 _ rfl
  have c_Ba1_5 := Ba1.out.now 5 _ rfl
  have c_Ba1_6 := Ba1.out.now 6 _ rfl
  go_upto_region 31 with fail
  have hcur : w18.heap.size ≤ w18.heap.size := Nat.le_refl _
  have HK : ∀ w', Below w18.heap.size w18 w' → w'.cell? ⟨w.heap.size, 0, none⟩ = some (.int .i64 a0z0) ∧ w'.cell? ⟨w.heap.size, 1, none⟩ = some (.int .i64 a0z1) ∧ w'.cell? ⟨w.heap.size, 2, none⟩ = some (.int .i64 a0z2) ∧ w'.cell? ⟨w.heap.size, 3, none⟩ = some (.int .i64 a0z3) ∧ w'.cell? ⟨w.heap.size, 4, none⟩ = some (.slice a0A4 a0n4 a0c4) ∧ w'.cell? ⟨w.heap.size, 5, none⟩ = some (.int .i64 a0z5) ∧ w'.cell? ⟨w.heap.size, 6, none⟩ = some (.slice a0A6 a0n6 a0c6) ∧ w'.cell? ⟨w.heap.size + 1, 0, none⟩ = some (.int .i64 a1z0) ∧ w'.cell? ⟨w.heap.size + 1, 1, none⟩ = some (.int .i64 a1z1) ∧ w'.cell? ⟨w.heap.size + 1, 2, none⟩ = some (.int .i64 a1z2) ∧ w'.cell? ⟨w.heap.size + 1, 3, none⟩ = some (.int .i64 a1z3) ∧ w'.cell? ⟨w.heap.size + 1, 4, none⟩ = some (.slice a1A4 a1n4 a1c4) ∧ w'.cell? ⟨w.heap.size + 1, 5, none⟩ = some (.int .i64 a1z5) ∧ w'.cell? ⟨w.heap.size + 1, 6, none⟩ = some (.slice a1A6 a1n6 a1c6) := fun w' hb => ⟨(Ba0.out.b hb).now 0 _ rfl, (Ba0.out.b hb).now 1 _ rfl, (Ba0.out.b hb).now 2 _ rfl, (Ba0.out.b hb).now 3 _ rfl, (Ba0.out.b hb).now 4 _ rfl, (Ba0.out.b hb).now 5 _ rfl, (Ba0.out.b hb).now 6 _ rfl, (Ba1.out.b hb).now 0 _ rfl, (Ba1.out.b hb).now 1 _ rfl, (Ba1.out.b hb).now 2 _ rfl, (Ba1.out.b hb).now 3 _ rfl, (Ba1.out.b hb).now 4 _ rfl, (Ba1.out.b hb).now 5 _ rfl, (Ba1.out.b hb).now 6 _ rfl⟩
  go_cut [15, 16] (fun s15 s16 wx => ∃ (bx_h : Nat) (hr0A4 : Option Addr) (hr0c4 : Nat) (hr0A6 : Option Addr) (hr0c6 : Nat), s15 = .pointer (some ⟨bx_h, 0, none⟩) ∧ s16 = .bool r1z0 ∧ w18.heap.size ≤ bx_h ∧ At bx_h (bx_h + 1) (BoxC bx_h [.int .i64 r0z0, .int .i64 r0z1, .int .i64 r0z2, .int .i64 r0z3, .slice hr0A4 r0n4 hr0c4, .int .i64 r0z5, .slice hr0A6 r0n6 hr0c6]) wx ∧ GRow wx hr0A4 r0n4 (intV r0X4) ∧ GRow wx hr0A6 r0n6 (intV r0X6) ∧ Below w18.heap.size w18 wx)
  case first =>
    go_region_held3 (fun w' => w'.cell? ⟨w.heap.size, 0, none⟩ = some (.int .i64 a0z0) ∧ w'.cell? ⟨w.heap.size, 1, none⟩ = some (.int .i64 a0z1) ∧ w'.cell? ⟨w.heap.size, 2, none⟩ = some (.int .i64 a0z2) ∧ w'.cell? ⟨w.heap.size, 3, none⟩ = some (.int .i64 a0z3) ∧ w'.cell? ⟨w.heap.size, 4, none⟩ = some (.slice a0A4 a0n4 a0c4) ∧ w'.cell? ⟨w.heap.size, 5, none⟩ = some (.int .i64 a0z5) ∧ w'.cell? ⟨w.heap.size, 6, none⟩ = some (.slice a0A6 a0n6 a0c6) ∧ w'.cell? ⟨w.heap.size + 1, 0, none⟩ = some (.int .i64 a1z0) ∧ w'.cell? ⟨w.heap.size + 1, 1, none⟩ = some (.int .i64 a1z1) ∧ w'.cell? ⟨w.heap.size + 1, 2, none⟩ = some (.int .i64 a1z2) ∧ w'.cell? ⟨w.heap.size + 1, 3, none⟩ = some (.int .i64 a1z3) ∧ w'.cell? ⟨w.heap.size + 1, 4, none⟩ = some (.slice a1A4 a1n4 a1c4) ∧ w'.cell? ⟨w.heap.size + 1, 5, none⟩ = some (.int .i64 a1z5) ∧ w'.cell? ⟨w.heap.size + 1, 6, none⟩ = some (.slice a1A6 a1n6 a1c6))
      (first | (go_keep; done) | exact HK _ (below_setAt (below_setAt (below_setAt (below_setAt (below_setAt (below_setAt (below_setAt (hq3) NB.ge _) NB.ge _) NB.ge _) NB.ge _) NB.ge _) NB.ge _) NB.ge _) | exact HK _ (hq3.alloc hq3.size _) | exact HK _ hq3 | exact HK _ (hq2.alloc hq2.size _) | exact HK _ hq2 | exact HK _ (hq1.alloc hq1.size _) | exact HK _ hq1 | exact HK _ ((Below.refl _ _).alloc (Nat.le_refl _) _))
      (first
        | (have hqz := hq2; clear hqz; go_at_call 48; (first | refine (S2.out _ _ _ _ _ _ _ _ _ hG_a04 hG_a06 hG_a14 hG_a16).mono ?_ | refine (S2.out _ _ _ _ _ _ _ _ _ (hG_a04.al _) (hG_a06.al _) (hG_a14.al _) (hG_a16.al _)).mono ?_); rintro e w21 ⟨hr0A4, hr0c4, hr0A6, hr0c6, rfl, hrr04, hrr06, hap_h_0, hb⟩; (first | (have hq3 := hq2.trans (hb.mono hq2.size)) | (have hq3 := hq2.trans ((below_al hb).mono hq2.size))); (first | (replace hrr04 := Ow.over hrr04 NB.lt; replace hrr06 := Ow.over hrr06 NB.lt; replace NB := NB.b hb; have dd0 := NB.cell 0 _ rfl; have ff0 := NB.free 0; have dd1 := NB.cell 1 _ rfl; have ff1 := NB.free 1; have dd2 := NB.cell 2 _ rfl; have ff2 := NB.free 2; have dd3 := NB.cell 3 _ rfl; have ff3 := NB.free 3; have dd4 := NB.cell 4 _ rfl; have ff4 := NB.free 4; have dd5 := NB.cell 5 _ rfl; have ff5 := NB.free 5; have dd6 := NB.cell 6 _ rfl; have ff6 := NB.free 6) | (have NB := NBX.new hq2.size hb; replace hrr04 := Ow.overNew hrr04; replace hrr06 := Ow.overNew hrr06; have dd0 := NB.cell 0 _ rfl; have ff0 := NB.free 0; have dd1 := NB.cell 1 _ rfl; have ff1 := NB.free 1; have dd2 := NB.cell 2 _ rfl; have ff2 := NB.free 2; have dd3 := NB.cell 3 _ rfl; have ff3 := NB.free 3; have dd4 := NB.cell 4 _ rfl; have ff4 := NB.free 4; have dd5 := NB.cell 5 _ rfl; have ff5 := NB.free 5; have dd6 := NB.cell 6 _ rfl; have ff6 := NB.free 6) | skip); clear hb)
        | (have hqz := hq1; clear hqz; go_at_call 28; (first | refine (to_Sparse ha1k4 ha1k6 (Fa14.out.b hq1).row (Fa16.out.b hq1).row).mono ?_ | refine (to_Sparse ha1k4 ha1k6 ((Fa14.out.b hq1).row.al _) ((Fa16.out.b hq1).row.al _)).mono ?_); rintro e w20 ⟨tha1A4, tha1c4, tha1A6, tha1c6, rfl, ho_a14, ho_a16, hz_a1_0, hb⟩; (first | (have hq2 := hq1.trans (hb.mono hq1.size)) | (have hq2 := hq1.trans ((below_al hb).mono hq1.size))); (first | (replace NB := NB.b hb) | (have NB := NBX.new hq1.size hb) | skip); (first | (replace hG_a04 := hG_a04.b hb) | (replace hG_a04 := hG_a04.b (below_al hb))); (first | (replace hG_a06 := hG_a06.b hb) | (replace hG_a06 := hG_a06.b (below_al hb))); have hG_a14 := (Ow.rd ho_a14).row (Nat.le_refl _); have hG_a16 := (Ow.rd ho_a16).row (Nat.le_refl _); clear hb ho_a14 ho_a16 hz_a1_0)
        | (go_at_call 28; (first | refine (to_Sparse ha0k4 ha0k6 Fa04.out.row Fa06.out.row).mono ?_ | refine (to_Sparse ha0k4 ha0k6 Fa04.out.rowD Fa06.out.rowD).mono ?_ | refine (to_Sparse ha0k4 ha0k6 (Fa04.out.row.al _) (Fa06.out.row.al _)).mono ?_ | refine (to_Sparse ha0k4 ha0k6 (Fa04.out.row.alD _) (Fa06.out.row.alD _)).mono ?_); rintro e w19 ⟨tha0A4, tha0c4, tha0A6, tha0c6, rfl, ho_a04, ho_a06, hz_a0_0, hb'⟩; have hb := of_drew hb'; clear hb'; (first | (have hq1 : Below w18.heap.size w18 w19 := hb) | (have hq1 : Below w18.heap.size w18 w19 := below_al hb)); (first | (replace NB := NB.b hb) | (have NB := NBX.new hcur hb) | skip); have hG_a04 := (Ow.rd ho_a04).row (Nat.le_refl _); have hG_a06 := (Ow.rd ho_a06).row (Nat.le_refl _); clear hb ho_a04 ho_a06 hz_a0_0))
    all_goals go_wp2_with fail
    all_goals go_meet
    all_goals first
      | exact ⟨_, _, _, _, _, rfl, rfl, NB.ge, (((((((NB.set 0 _).set 1 _).set 2 _).set 3 _).set 4 _).set 5 _).set 6 _).box, At.orow (((((((hrr04.setC (Nat.le_refl _) 0 _).setC (Nat.le_refl _) 1 _).setC (Nat.le_refl _) 2 _).setC (Nat.le_refl _) 3 _).setC (Nat.le_refl _) 4 _).setC (Nat.le_refl _) 5 _).setC (Nat.le_refl _) 6 _), At.orow (((((((hrr06.setC (Nat.le_refl _) 0 _).setC (Nat.le_refl _) 1 _).setC (Nat.le_refl _) 2 _).setC (Nat.le_refl _) 3 _).setC (Nat.le_refl _) 4 _).setC (Nat.le_refl _) 5 _).setC (Nat.le_refl _) 6 _), (below_setAt (below_setAt (below_setAt (below_setAt (below_setAt (below_setAt (below_setAt hq3 NB.ge _) NB.ge _) NB.ge _) NB.ge _) NB.ge _) NB.ge _) NB.ge _)⟩
      | exact ⟨_, _, _, _, _, rfl, rfl, hq3.size, boxed _ _ _, ((Ow.rd hrr04).row (Nat.le_refl _)).al _, ((Ow.rd hrr06).row (Nat.le_refl _)).al _, hq3.alloc hq3.size _⟩
  case rest =>
  obtain ⟨bx_h, hr0A4, hr0c4, hr0A6, hr0c6, rfl, rfl, hge, hbx, hrr04, hrr06, hbl⟩ := hcut
  clear HK hcur
  clear c_Ba0_0 c_Ba0_1 c_Ba0_2 c_Ba0_3 c_Ba0_4 c_Ba0_5 c_Ba0_6 c_Ba1_0 c_Ba1_1 c_Ba1_2 c_Ba1_3 c_Ba1_4 c_Ba1_5 c_Ba1_6
  replace FB := Lib.hid (FB.out.b hbl)
  replace Fa04 := Lib.hid (Fa04.out.b hbl)
  replace Fa06 := Lib.hid (Fa06.out.b hbl)
  replace Fa14 := Lib.hid (Fa14.out.b hbl)
  replace Fa16 := Lib.hid (Fa16.out.b hbl)
  replace Ba0 := Lib.hid (Ba0.out.b hbl)
  replace Ba1 := Lib.hid (Ba1.out.b hbl)
  replace Xmr0 := Lib.hid (Xmr0.out.b hbl)
  replace Vmr04 := Lib.hid (Vmr04.out.b hbl)
  replace Vmr06 := Lib.hid (Vmr06.out.b hbl)
  replace Ogr04 := Lib.hid (Ogr04.out.b hbl)
  replace Ogr06 := Lib.hid (Ogr06.out.b hbl)
  replace Xgr0 := Lib.hid (Xgr0.out.b hbl)
  have z_wc : w18.heap.size ≤ wc.heap.size := hbl.size
  have z_bx_h : w18.heap.size ≤ bx_h := hge
  have zt_bx_h : bx_h + 1 ≤ wc.heap.size := hbx.top
  have Xhr0 := Lib.hid (hbx)
  have Vhr04 := Lib.hid (rd_of_row hrr04)
  have Vhr06 := Lib.hid (rd_of_row hrr06)
  clear hbl hge hbx hrr04 hrr06
  have c_Xhr0_0 := Xhr0.out.now 0 _ rfl
  have c_Xhr0_1 := Xhr0.out.now 1 _ rfl
  have c_Xhr0_2 := Xhr0.out.now 2 _ rfl
  have c_Xhr0_3 := Xhr0.out.now 3 _ rfl
  have c_Xhr0_4 := Xhr0.out.now 4 _ rfl
  have c_Xhr0_5 := Xhr0.out.now 5 _ rfl
  have c_Xhr0_6 := Xhr0.out.now 6 _ rfl
  have c_Xmr0_0 := Xmr0.out.now 0 _ rfl
  have c_Xmr0_1 := Xmr0.out.now 1 _ rfl
  have c_Xmr0_2 := Xmr0.out.now 2 _ rfl
  have c_Xmr0_3 := Xmr0.out.now 3 _ rfl
  have c_Xmr0_4 := Xmr0.out.now 4 _ rfl
  have c_Xmr0_5 := Xmr0.out.now 5 _ rfl
  have c_Xmr0_6 := Xmr0.out.now 6 _ rfl
  go_wp2_with fail
  refine (eq_Sparse hr0m4 hr0m6 Vhr04.out.row Vhr06.out.row Vmr04.out.row Vmr06.out.row).mono ?_; rintro e w22 ⟨rfl, hb⟩
  replace FB := Lib.hid (FB.out.b hb)
  replace Fa04 := Lib.hid (Fa04.out.b hb)
  replace Fa06 := Lib.hid (Fa06.out.b hb)
  replace Fa14 := Lib.hid (Fa14.out.b hb)
  replace Fa16 := Lib.hid (Fa16.out.b hb)
  replace Ba0 := Lib.hid (Ba0.out.b hb)
  replace Ba1 := Lib.hid (Ba1.out.b hb)
  replace Xmr0 := Lib.hid (Xmr0.out.b hb)
  replace Vmr04 := Lib.hid (Vmr04.out.b hb)
  replace Vmr06 := Lib.hid (Vmr06.out.b hb)
  replace Ogr04 := Lib.hid (Ogr04.out.b hb)
  replace Ogr06 := Lib.hid (Ogr06.out.b hb)
  replace Xgr0 := Lib.hid (Xgr0.out.b hb)
  replace Xhr0 := Lib.hid (Xhr0.out.b hb)
  replace Vhr04 := Lib.hid (Vhr04.out.b hb)
  replace Vhr06 := Lib.hid (Vhr06.out.b hb)
  have z_w22 : wc.heap.size ≤ w22.heap.size := by have hsz := hb.size; first | omega | (simp at hsz; omega)
  clear c_Xhr0_0 c_Xhr0_1 c_Xhr0_2 c_Xhr0_3 c_Xhr0_4 c_Xhr0_5 c_Xhr0_6 c_Xmr0_0 c_Xmr0_1 c_Xmr0_2 c_Xmr0_3 c_Xmr0_4 c_Xmr0_5 c_Xmr0_6
  clear hb
  have c_Xgr0_0 := Xgr0.out.now 0 _ rfl
  have c_Xgr0_1 := Xgr0.out.now 1 _ rfl
  have c_Xgr0_2 := Xgr0.out.now 2 _ rfl
  have c_Xgr0_3 := Xgr0.out.now 3 _ rfl
  have c_Xgr0_4 := Xgr0.out.now 4 _ rfl
  have c_Xgr0_5 := Xgr0.out.now 5 _ rfl
  have c_Xgr0_6 := Xgr0.out.now 6 _ rfl
  go_wp2_with fail
  refine (held_Sparse hr0m4 hr0m6 Ogr04.out.orow Ogr06.out.orow (by omega) (by omega)).mono ?_; rintro e w23 ⟨rfl, hb⟩
  replace FB := Lib.hid (FB.out.b hb)
  replace Fa04 := Lib.hid (Fa04.out.b hb)
  replace Fa06 := Lib.hid (Fa06.out.b hb)
  replace Fa14 := Lib.hid (Fa14.out.b hb)
  replace Fa16 := Lib.hid (Fa16.out.b hb)
  replace Ba0 := Lib.hid (Ba0.out.b hb)
  replace Ba1 := Lib.hid (Ba1.out.b hb)
  replace Xmr0 := Lib.hid (Xmr0.out.b hb)
  replace Vmr04 := Lib.hid (Vmr04.out.b hb)
  replace Vmr06 := Lib.hid (Vmr06.out.b hb)
  replace Ogr04 := Lib.hid (Ogr04.out.b hb)
  replace Ogr06 := Lib.hid (Ogr06.out.b hb)
  replace Xgr0 := Lib.hid (Xgr0.out.b hb)
  replace Xhr0 := Lib.hid (Xhr0.out.b hb)
  replace Vhr04 := Lib.hid (Vhr04.out.b hb)
  replace Vhr06 := Lib.hid (Vhr06.out.b hb)
  have z_w23 : w22.heap.size ≤ w23.heap.size := by have hsz := hb.size; first | omega | (simp at hsz; omega)
  clear c_Xgr0_0 c_Xgr0_1 c_Xgr0_2 c_Xgr0_3 c_Xgr0_4 c_Xgr0_5 c_Xgr0_6
  clear hb
  go_wp2_with fail
  go_ret
  exact ⟨rfl, FB.out.now⟩

theorem SpOwn.post2 {z0 z1 z2 z3 z4 : Int} {n1 n2 : Nat} {X1 X2 : Nat → Int} {b : Bool} {w : World} (e : Ending) (w' : World) (h : SpOwn z0 z1 z2 z3 n1 X1 z4 n2 X2 b w e w') :
    ∃ A1 c1 A2 c2, e = .returned (.tuple #[.agg #[.int .i64 z0, .int .i64 z1, .int .i64 z2, .int .i64 z3, .slice A1 n1 c1, .int .i64 z4, .slice A2 n2 c2], .bool b]) ∧ Ow w.heap.size w'.heap.size 3 A1 n1 (intV X1) w' ∧ Ow w.heap.size w'.heap.size 3 A2 n2 (intV X2) w' ∧ Below w.heap.size w w' := by
  obtain ⟨A1, c1, A2, c2, he, h1, h2, _, hb⟩ := h
  exact ⟨A1, c1, A2, c2, he, h1, h2, hb⟩
theorem walk_FnExactMergeSparse (w : World) (z0 : Int) (_w0 : (Lit.int .i64 z0).wf = true) (z1 : Int) (_w1 : (Lit.int .i64 z1).wf = true) (z2 : Int) (_w2 : (Lit.int .i64 z2).wf = true) (z3 : Int) (_w3 : (Lit.int .i64 z3).wf = true) (A1 : Option Addr) (n1 c1 : Nat) (X1 : Nat → Int) (m1 : n1 ≤ maxLen) (r1 : IRow w A1 n1 X1) (z4 : Int) (_w4 : (Lit.int .i64 z4).wf = true) (A2 : Option Addr) (n2 c2 : Nat) (X2 : Nat → Int) (m2 : n2 ≤ maxLen) (r2 : IRow w A2 n2 X2) (y0 : Int) (_v0 : (Lit.int .i64 y0).wf = true) (y1 : Int) (_v1 : (Lit.int .i64 y1).wf = true) (y2 : Int) (_v2 : (Lit.int .i64 y2).wf = true) (y3 : Int) (_v3 : (Lit.int .i64 y3).wf = true) (B1 : Option Addr) (p1 d1 : Nat) (Y1 : Nat → Int) (k1 : p1 ≤ maxLen) (s1 : IRow w B1 p1 Y1) (y4 : Int) (_v4 : (Lit.int .i64 y4).wf = true) (B2 : Option Addr) (p2 d2 : Nat) (Y2 : Nat → Int) (k2 : p2 ≤ maxLen) (s2 : IRow w B2 p2 Y2) :
    Calls Try.prog 14 #[.agg #[.int .i64 z0, .int .i64 z1, .int .i64 z2, .int .i64 z3, .slice A1 n1 c1, .int .i64 z4, .slice A2 n2 c2], .agg #[.int .i64 y0, .int .i64 y1, .int .i64 y2, .int .i64 y3, .slice B1 p1 d1, .int .i64 y4, .slice B2 p2 d2]] w fun e w' => e = .returned (.bool true) ∧ Below w.heap.size w w' := by
  by_cases ha : SpV z0 z1 z2 z3 n1 X1 z4 n2 X2
  rotate_left
  · exact main_FnExactMergeSparse z0 z1 z2 z3 n1 X1 z4 n2 X2 y0 y1 y2 y3 p1 Y1 y4 p2 Y2 0 0 0 0 0 (fun _ => 0) 0 0 (fun _ => 0) false A1 c1 A2 c2 B1 d1 B2 d2 w m1 r1 m2 r2 k1 s1 k2 s2 (by omega) (by omega) (fun hs _ _ _ _ _ _ _ _ _ g1 g2 g3 g4 => (spec_merge_no1 _ n1 _ X1 _ n2 _ X2 _ p1 _ Y1 _ p2 _ Y2 _ (by omega) (by omega) (by omega) (by omega) g1 g2 g3 g4 ha).mono SpOwn.post2) (fun hs _ _ _ _ _ _ _ _ _ g1 g2 g3 g4 => impl_merge_no1 _ n1 _ X1 _ n2 _ X2 _ p1 _ Y1 _ p2 _ Y2 _ (by omega) (by omega) (by omega) (by omega) g1 g2 g3 g4 ha)
  have hva := ha
  obtain ⟨c, L, v, f, ha⟩ := ha
  by_cases hb : SpV y0 y1 y2 y3 p1 Y1 y4 p2 Y2
  rotate_left
  · exact main_FnExactMergeSparse z0 z1 z2 z3 n1 X1 z4 n2 X2 y0 y1 y2 y3 p1 Y1 y4 p2 Y2 0 0 0 0 0 (fun _ => 0) 0 0 (fun _ => 0) false A1 c1 A2 c2 B1 d1 B2 d2 w m1 r1 m2 r2 k1 s1 k2 s2 (by omega) (by omega) (fun hs _ _ _ _ _ _ _ _ _ g1 g2 g3 g4 => (spec_merge_no2 _ n1 _ X1 _ n2 _ X2 _ p1 _ Y1 _ p2 _ Y2 _ (by omega) (by omega) (by omega) (by omega) g1 g2 g3 g4 hva hb).mono SpOwn.post2) (fun hs _ _ _ _ _ _ _ _ _ g1 g2 g3 g4 => impl_merge_no2 _ n1 _ X1 _ n2 _ X2 _ p1 _ Y1 _ p2 _ Y2 _ (by omega) (by omega) (by omega) (by omega) g1 g2 g3 g4 ha hb)
  obtain ⟨c', L', v', f', hb⟩ := hb
  obtain ⟨M, hM⟩ := mrgOf_ex ha.num.srtN hb.num.srtN
  by_cases hx : 60 < c + c'
  · exact main_FnExactMergeSparse z0 z1 z2 z3 n1 X1 z4 n2 X2 y0 y1 y2 y3 p1 Y1 y4 p2 Y2 0 0 0 0 0 (fun _ => 0) 0 0 (fun _ => 0) false A1 c1 A2 c2 B1 d1 B2 d2 w m1 r1 m2 r2 k1 s1 k2 s2 (by omega) (by omega) (fun hs _ _ _ _ _ _ _ _ _ g1 g2 g3 g4 => (spec_merge_no3 _ n1 _ X1 _ n2 _ X2 _ p1 _ Y1 _ p2 _ Y2 _ (by omega) (by omega) (by omega) (by omega) g1 g2 g3 g4 ha hb hx).mono SpOwn.post2) (fun hs _ _ _ _ _ _ _ _ _ g1 g2 g3 g4 => impl_merge_no3 _ n1 _ X1 _ n2 _ X2 _ p1 _ Y1 _ p2 _ Y2 _ M (by omega) (by omega) (by omega) (by omega) g1 g2 g3 g4 ha hb hM hx)
  have hbd := hM.bound (a := 0) (b := ((max L L' : Nat) : Int)) (fun i hi => by have := ha.num.low i hi; unfold numI; omega) (fun i hi => by have := hb.num.low i hi; unfold numI; omega)
  have hg : ∀ i, i < c + c' → M i = numI (fun i => (M i).toNat) i := fun i hi => by show M i = (((M i).toNat : Nat) : Int); have := hbd i hi; omega
  obtain ⟨x, hw⟩ := isW_ex (c + c') (max L L')
  have hS : SpN (c + c') (max L L') x (fun i => (M i).toNat) := ⟨by omega, by have := ha.num.h1; omega, by have := ha.num.hL; have := hb.num.hL; omega, hw, fun i hi => by have := hbd i hi; show (M i).toNat < _; omega, fun i hi => by
    have h1 := hbd i (by omega); have h2 := hbd (i + 1) hi; have h3 := hM.srt i (i + 1) (by omega) hi; show (M i).toNat ≤ (M (i + 1)).toNat; omega⟩
  have b1 := hS.lows
  have b2 := hS.high
  exact main_FnExactMergeSparse z0 z1 z2 z3 n1 X1 z4 n2 X2 y0 y1 y2 y3 p1 Y1 y4 p2 Y2 ((c + c' : Nat) : Int) ((max L L' : Nat) : Int) x (((c + c') * x : Nat) : Int) _ _ ((hzN (c + c') (max L L') x : Nat) : Int) _ _ true A1 c1 A2 c2 B1 d1 B2 d2 w m1 r1 m2 r2 k1 s1 k2 s2 (by omega) (by omega) (fun hs _ _ _ _ _ _ _ _ _ g1 g2 g3 g4 => (spec_merge_yes _ n1 _ X1 _ n2 _ X2 _ p1 _ Y1 _ p2 _ Y2 _ x _ M _ _ (by omega) (by omega) (by omega) (by omega) g1 g2 g3 g4 ha hb hM hg hS rfl rfl).mono SpOwn.post2) (fun hs _ _ _ _ _ _ _ _ _ g1 g2 g3 g4 => impl_merge_yes _ n1 _ X1 _ n2 _ X2 _ p1 _ Y1 _ p2 _ Y2 _ x _ M _ _ (by omega) (by omega) (by omega) (by omega) g1 g2 g3 g4 ha hb hM hg hS rfl rfl)
end Go.Proofs.Ytdkkflejpcgipaa
