/- The law of BuildSparse, walked: what both sides answer comes in as hypotheses. -/
import Derived.Test.YtdkkflejpcgipaaObjSp
import Derived.Test.YtdkkflejpcgipaaBuildV
import Derived.Deep.RegionHeld3
namespace Go.Proofs.Ytdkkflejpcgipaa
open Go.RowKit

set_option maxRecDepth 100000 in
set_option maxHeartbeats 8000000 in
theorem main_FnExactBuildSparse (a0n0 : Nat) (a0X0 : Nat → Int) (a1z0 : Int) (r0z0 : Int) (r0z1 : Int) (r0z2 : Int) (r0z3 : Int) (r0n4 : Nat) (r0X4 : Nat → Int) (r0z5 : Int) (r0n6 : Nat) (r0X6 : Nat → Int) (r1z0 : Bool) (a0A0 : Option Addr) (a0c0 : Nat) (w : World) (_ha0m0 : a0n0 ≤ maxLen) (ha0r0 : GRow w a0A0 a0n0 (intV a0X0)) (hr0m4 : r0n4 ≤ 1048576) (hr0m6 : r0n6 ≤ 1048576)
    (s1 : a0n0 ≤ 1048576 → ∀ (ua0A0 : Option Addr) (ua0c0 : Nat) (w : World), GRow w ua0A0 a0n0 (intV a0X0) → Calls Try.prog 18 #[.slice ua0A0 a0n0 ua0c0, .int .i64 a1z0] w fun e w' => ∃ vr0A4 vr0c4 vr0A6 vr0c6, e = .returned (.tuple #[.agg #[.int .i64 r0z0, .int .i64 r0z1, .int .i64 r0z2, .int .i64 r0z3, .slice vr0A4 r0n4 vr0c4, .int .i64 r0z5, .slice vr0A6 r0n6 vr0c6], .bool r1z0]) ∧ GRow w' vr0A4 r0n4 (intV r0X4) ∧ GRow w' vr0A6 r0n6 (intV r0X6) ∧ Below w.heap.size w w')
    (s2 : a0n0 ≤ 1048576 → ∀ (ua0A0 : Option Addr) (ua0c0 : Nat) (w : World), GRow w ua0A0 a0n0 (intV a0X0) → Calls Try.prog 20 #[.slice ua0A0 a0n0 ua0c0, .int .i64 a1z0] w fun e w' => ∃ vr0A4 vr0c4 vr0A6 vr0c6, e = .returned (.tuple #[.agg #[.int .i64 r0z0, .int .i64 r0z1, .int .i64 r0z2, .int .i64 r0z3, .slice vr0A4 r0n4 vr0c4, .int .i64 r0z5, .slice vr0A6 r0n6 vr0c6], .bool r1z0]) ∧ Ow w.heap.size w'.heap.size 3 vr0A4 r0n4 (intV r0X4) w' ∧ Ow w.heap.size w'.heap.size 3 vr0A6 r0n6 (intV r0X6) w' ∧ Apart r0n4 vr0A4 r0n6 vr0A6 ∧ Below w.heap.size w w') :
    Calls Try.prog 4 #[.slice a0A0 a0n0 a0c0, .int .i64 a1z0] w fun e w' => e = .returned (.bool true) ∧ Below w.heap.size w w' := by
  have S1 := Lib.hid s1
  have S2 := Lib.hid s2
  clear s1 s2
  have FB := Lib.hid (At.start w)
  have Fa00 := Lib.hid (rd_of_row ha0r0)
  clear ha0r0
  by_cases hlong_a0 : (1048576 : Int) < (a0n0 : Int)
  · go_enter Try.func4, Try.ntmps4
    go_wp2_with fail
    go_ret
    exact ⟨rfl, FB.out.now⟩
  go_enter Try.func4, Try.ntmps4
  replace S1 := Lib.hid (S1.out (by omega))
  replace S2 := Lib.hid (S2.out (by omega))
  have ha0k0 : a0n0 ≤ 1048576 := by omega
  go_wp2_with fail
  refine (to_IntS ha0k0 Fa00.out.row).mono ?_; rintro e w1 ⟨tma0A0, tma0c0, rfl, ho0, hb⟩
  replace FB := Lib.hid (FB.out.b hb)
  replace Fa00 := Lib.hid (Fa00.out.b hb)
  have z_w1 : w.heap.size ≤ w1.heap.size := by have hsz := hb.size; first | omega | (simp at hsz; omega)
  have Otma00 := Lib.hid (owned (ho0.mono (lo' := w.heap.size) (Nat.le_refl _) (Nat.le_refl _)))
  clear hb ho0
  go_wp2_with fail
  refine (S1.out _ _ _ Otma00.out.orow).mono ?_; rintro e w2 ⟨mr0A4, mr0c4, mr0A6, mr0c6, rfl, hrr04, hrr06, hb⟩
  replace FB := Lib.hid (FB.out.b hb)
  replace Fa00 := Lib.hid (Fa00.out.b hb)
  replace Otma00 := Lib.hid (Otma00.out.b hb)
  have z_w2 : w1.heap.size ≤ w2.heap.size := by have hsz := hb.size; first | omega | (simp at hsz; omega)
  have Vmr04 := Lib.hid (rd_of_row hrr04)
  have Vmr06 := Lib.hid (rd_of_row hrr06)
  clear hb hrr04 hrr06
  clear Otma00
  replace FB := Lib.hid (FB.out.alloc (.cells #[.int .i64 r0z0, .int .i64 r0z1, .int .i64 r0z2, .int .i64 r0z3, .slice mr0A4 r0n4 mr0c4, .int .i64 r0z5, .slice mr0A6 r0n6 mr0c6] 29))
  replace Fa00 := Lib.hid (Fa00.out.alloc (.cells #[.int .i64 r0z0, .int .i64 r0z1, .int .i64 r0z2, .int .i64 r0z3, .slice mr0A4 r0n4 mr0c4, .int .i64 r0z5, .slice mr0A6 r0n6 mr0c6] 29))
  replace Vmr04 := Lib.hid (Vmr04.out.alloc (.cells #[.int .i64 r0z0, .int .i64 r0z1, .int .i64 r0z2, .int .i64 r0z3, .slice mr0A4 r0n4 mr0c4, .int .i64 r0z5, .slice mr0A6 r0n6 mr0c6] 29))
  replace Vmr06 := Lib.hid (Vmr06.out.alloc (.cells #[.int .i64 r0z0, .int .i64 r0z1, .int .i64 r0z2, .int .i64 r0z3, .slice mr0A4 r0n4 mr0c4, .int .i64 r0z5, .slice mr0A6 r0n6 mr0c6] 29))
  have Xmr0 := Lib.hid (boxed w2 #[.int .i64 r0z0, .int .i64 r0z1, .int .i64 r0z2, .int .i64 r0z3, .slice mr0A4 r0n4 mr0c4, .int .i64 r0z5, .slice mr0A6 r0n6 mr0c6] 29)
  go_wp2_with fail
  refine (to_IntS ha0k0 Fa00.out.row).mono ?_; rintro e w3 ⟨xa0A0, xa0c0, rfl, ho0, hb⟩
  replace FB := Lib.hid (FB.out.b hb)
  replace Fa00 := Lib.hid (Fa00.out.b hb)
  replace Vmr04 := Lib.hid (Vmr04.out.b hb)
  replace Vmr06 := Lib.hid (Vmr06.out.b hb)
  replace Xmr0 := Lib.hid (Xmr0.out.b hb)
  have z_w3 : w2.heap.size + 1 ≤ w3.heap.size := by have hsz := hb.size; first | omega | (simp at hsz; omega)
  have Oxa00 := Lib.hid (owned (ho0.mono (lo' := w2.heap.size + 1) (by simp) (Nat.le_refl _)))
  clear hb ho0
  go_wp2_with fail
  refine (S2.out _ _ _ Oxa00.out.orow).mono ?_; rintro e w4 ⟨gr0A4, gr0c4, gr0A6, gr0c6, rfl, hrr04, hrr06, hap_g_0, hb⟩
  replace FB := Lib.hid (FB.out.b hb)
  replace Fa00 := Lib.hid (Fa00.out.b hb)
  replace Vmr04 := Lib.hid (Vmr04.out.b hb)
  replace Vmr06 := Lib.hid (Vmr06.out.b hb)
  replace Xmr0 := Lib.hid (Xmr0.out.b hb)
  replace Oxa00 := Lib.hid (Oxa00.out.b hb)
  have z_w4 : w3.heap.size ≤ w4.heap.size := by have hsz := hb.size; first | omega | (simp at hsz; omega)
  have Ogr04 := Lib.hid (owned (hrr04.mono (lo' := w3.heap.size) (Nat.le_refl _) (Nat.le_refl _)))
  have Ogr06 := Lib.hid (owned (hrr06.mono (lo' := w3.heap.size) (Nat.le_refl _) (Nat.le_refl _)))
  clear hb hrr04 hrr06
  replace FB := Lib.hid (FB.out.alloc (.cells #[.int .i64 r0z0, .int .i64 r0z1, .int .i64 r0z2, .int .i64 r0z3, .slice gr0A4 r0n4 gr0c4, .int .i64 r0z5, .slice gr0A6 r0n6 gr0c6] 29))
  replace Fa00 := Lib.hid (Fa00.out.alloc (.cells #[.int .i64 r0z0, .int .i64 r0z1, .int .i64 r0z2, .int .i64 r0z3, .slice gr0A4 r0n4 gr0c4, .int .i64 r0z5, .slice gr0A6 r0n6 gr0c6] 29))
  replace Vmr04 := Lib.hid (Vmr04.out.alloc (.cells #[.int .i64 r0z0, .int .i64 r0z1, .int .i64 r0z2, .int .i64 r0z3, .slice gr0A4 r0n4 gr0c4, .int .i64 r0z5, .slice gr0A6 r0n6 gr0c6] 29))
  replace Vmr06 := Lib.hid (Vmr06.out.alloc (.cells #[.int .i64 r0z0, .int .i64 r0z1, .int .i64 r0z2, .int .i64 r0z3, .slice gr0A4 r0n4 gr0c4, .int .i64 r0z5, .slice gr0A6 r0n6 gr0c6] 29))
  replace Xmr0 := Lib.hid (Xmr0.out.alloc (.cells #[.int .i64 r0z0, .int .i64 r0z1, .int .i64 r0z2, .int .i64 r0z3, .slice gr0A4 r0n4 gr0c4, .int .i64 r0z5, .slice gr0A6 r0n6 gr0c6] 29))
  replace Oxa00 := Lib.hid (Oxa00.out.alloc (.cells #[.int .i64 r0z0, .int .i64 r0z1, .int .i64 r0z2, .int .i64 r0z3, .slice gr0A4 r0n4 gr0c4, .int .i64 r0z5, .slice gr0A6 r0n6 gr0c6] 29))
  replace Ogr04 := Lib.hid (Ogr04.out.alloc (.cells #[.int .i64 r0z0, .int .i64 r0z1, .int .i64 r0z2, .int .i64 r0z3, .slice gr0A4 r0n4 gr0c4, .int .i64 r0z5, .slice gr0A6 r0n6 gr0c6] 29))
  replace Ogr06 := Lib.hid (Ogr06.out.alloc (.cells #[.int .i64 r0z0, .int .i64 r0z1, .int .i64 r0z2, .int .i64 r0z3, .slice gr0A4 r0n4 gr0c4, .int .i64 r0z5, .slice gr0A6 r0n6 gr0c6] 29))
  have Xgr0 := Lib.hid (boxed w4 #[.int .i64 r0z0, .int .i64 r0z1, .int .i64 r0z2, .int .i64 r0z3, .slice gr0A4 r0n4 gr0c4, .int .i64 r0z5, .slice gr0A6 r0n6 gr0c6] 29)
  have c_Xgr0_0 := Xgr0.out.now 0 _ rfl
  have c_Xgr0_1 := Xgr0.out.now 1 _ rfl
  have c_Xgr0_2 := Xgr0.out.now 2 _ rfl
  have c_Xgr0_3 := Xgr0.out.now 3 _ rfl
  have c_Xgr0_4 := Xgr0.out.now 4 _ rfl
  have c_Xgr0_5 := Xgr0.out.now 5 _ rfl
  have c_Xgr0_6 := Xgr0.out.now 6 _ rfl
  have c_Xmr0_0 := Xmr0.out.now 0 _ rfl
  have c_Xmr0_1 := Xmr0.out.now 1 _ rfl
  have c_Xmr0_2 := Xmr0.out.now 2 _ rfl
  have c_Xmr0_3 := Xmr0.out.now 3 _ rfl
  have c_Xmr0_4 := Xmr0.out.now 4 _ rfl
  have c_Xmr0_5 := Xmr0.out.now 5 _ rfl
  have c_Xmr0_6 := Xmr0.out.now 6 _ rfl
  go_wp2_with fail
  refine (eq_Sparse hr0m4 hr0m6 Ogr04.out.orow Ogr06.out.orow Vmr04.out.row Vmr06.out.row).mono ?_; rintro e w5 ⟨rfl, hb⟩
  replace FB := Lib.hid (FB.out.b hb)
  replace Fa00 := Lib.hid (Fa00.out.b hb)
  replace Vmr04 := Lib.hid (Vmr04.out.b hb)
  replace Vmr06 := Lib.hid (Vmr06.out.b hb)
  replace Xmr0 := Lib.hid (Xmr0.out.b hb)
  replace Oxa00 := Lib.hid (Oxa00.out.b hb)
  replace Ogr04 := Lib.hid (Ogr04.out.b hb)
  replace Ogr06 := Lib.hid (Ogr06.out.b hb)
  replace Xgr0 := Lib.hid (Xgr0.out.b hb)
  have z_w5 : w4.heap.size + 1 ≤ w5.heap.size := by have hsz := hb.size; first | omega | (simp at hsz; omega)
  clear c_Xgr0_0 c_Xgr0_1 c_Xgr0_2 c_Xgr0_3 c_Xgr0_4 c_Xgr0_5 c_Xgr0_6 c_Xmr0_0 c_Xmr0_1 c_Xmr0_2 c_Xmr0_3 c_Xmr0_4 c_Xmr0_5 c_Xmr0_6
  clear hb
  go_wp2_with fail
  refine (to_IntS ha0k0 Fa00.out.row).mono ?_; rintro e w6 ⟨ya0A0, ya0c0, rfl, ho0, hb⟩
  replace FB := Lib.hid (FB.out.b hb)
  replace Fa00 := Lib.hid (Fa00.out.b hb)
  replace Vmr04 := Lib.hid (Vmr04.out.b hb)
  replace Vmr06 := Lib.hid (Vmr06.out.b hb)
  replace Xmr0 := Lib.hid (Xmr0.out.b hb)
  replace Oxa00 := Lib.hid (Oxa00.out.b hb)
  replace Ogr04 := Lib.hid (Ogr04.out.b hb)
  replace Ogr06 := Lib.hid (Ogr06.out.b hb)
  replace Xgr0 := Lib.hid (Xgr0.out.b hb)
  have z_w6 : w5.heap.size ≤ w6.heap.size := by have hsz := hb.size; first | omega | (simp at hsz; omega)
  have Oya00 := Lib.hid (owned (ho0.mono (lo' := w5.heap.size) (Nat.le_refl _) (Nat.le_refl _)))
  clear hb ho0
  go_wp2_with fail
  refine (eq_IntS ha0k0 Oxa00.out.orow Oya00.out.orow).mono ?_; rintro e w7 ⟨rfl, hb⟩
  replace FB := Lib.hid (FB.out.b hb)
  replace Fa00 := Lib.hid (Fa00.out.b hb)
  replace Vmr04 := Lib.hid (Vmr04.out.b hb)
  replace Vmr06 := Lib.hid (Vmr06.out.b hb)
  replace Xmr0 := Lib.hid (Xmr0.out.b hb)
  replace Oxa00 := Lib.hid (Oxa00.out.b hb)
  replace Ogr04 := Lib.hid (Ogr04.out.b hb)
  replace Ogr06 := Lib.hid (Ogr06.out.b hb)
  replace Xgr0 := Lib.hid (Xgr0.out.b hb)
  replace Oya00 := Lib.hid (Oya00.out.b hb)
  have z_w7 : w6.heap.size ≤ w7.heap.size := by have hsz := hb.size; first | omega | (simp at hsz; omega)
  clear hb
  clear Oya00
  go_wp2_with fail
  refine (mark_IntS ha0k0 Oxa00.out.now Oxa00.out.top (by omega) (by omega)).mono ?_; rintro e w8 ⟨rfl, hm0, hg⟩
  replace FB := Lib.hid (FB.out.far hg (by omega))
  replace Fa00 := Lib.hid (Fa00.out.far hg (by omega))
  replace Vmr04 := Lib.hid (Vmr04.out.far hg (by omega))
  replace Vmr06 := Lib.hid (Vmr06.out.far hg (by omega))
  replace Xmr0 := Lib.hid (Xmr0.out.far hg (by omega))
  replace Ogr04 := Lib.hid (Ogr04.out.far hg (by omega))
  replace Ogr06 := Lib.hid (Ogr06.out.far hg (by omega))
  replace Xgr0 := Lib.hid (Xgr0.out.far hg (by omega))
  have z_w8 : w7.heap.size ≤ w8.heap.size := by have hsz := hg.size; first | omega | (simp at hsz; omega)
  replace Oxa00 := Lib.hid (At.mk hm0 (Nat.le_trans Oxa00.out.top hg.size) (Ow.lives _ _ _ _ _ _))
  clear hg hm0
  clear Oxa00
  have c_Xgr0_0 := Xgr0.out.now 0 _ rfl
  have c_Xgr0_1 := Xgr0.out.now 1 _ rfl
  have c_Xgr0_2 := Xgr0.out.now 2 _ rfl
  have c_Xgr0_3 := Xgr0.out.now 3 _ rfl
  have c_Xgr0_4 := Xgr0.out.now 4 _ rfl
  have c_Xgr0_5 := Xgr0.out.now 5 _ rfl
  have c_Xgr0_6 := Xgr0.out.now 6 _ rfl
  have c_Xmr0_0 := Xmr0.out.now 0 _ rfl
  have c_Xmr0_1 := Xmr0.out.now 1 _ rfl
  have c_Xmr0_2 := Xmr0.out.now 2 _ rfl
  have c_Xmr0_3 := Xmr0.out.now 3 _ rfl
  have c_Xmr0_4 := Xmr0.out.now 4 _ rfl
  have c_Xmr0_5 := Xmr0.out.now 5 _ rfl
  have c_Xmr0_6 := Xmr0.out.now 6 _ rfl
  go_wp2_with fail
  refine (eq_Sparse hr0m4 hr0m6 Ogr04.out.orow Ogr06.out.orow Vmr04.out.row Vmr06.out.row).mono ?_; rintro e w9 ⟨rfl, hb⟩
  replace FB := Lib.hid (FB.out.b hb)
  replace Fa00 := Lib.hid (Fa00.out.b hb)
  replace Vmr04 := Lib.hid (Vmr04.out.b hb)
  replace Vmr06 := Lib.hid (Vmr06.out.b hb)
  replace Xmr0 := Lib.hid (Xmr0.out.b hb)
  replace Ogr04 := Lib.hid (Ogr04.out.b hb)
  replace Ogr06 := Lib.hid (Ogr06.out.b hb)
  replace Xgr0 := Lib.hid (Xgr0.out.b hb)
  have z_w9 : w8.heap.size ≤ w9.heap.size := by have hsz := hb.size; first | omega | (simp at hsz; omega)
  clear c_Xgr0_0 c_Xgr0_1 c_Xgr0_2 c_Xgr0_3 c_Xgr0_4 c_Xgr0_5 c_Xgr0_6 c_Xmr0_0 c_Xmr0_1 c_Xmr0_2 c_Xmr0_3 c_Xmr0_4 c_Xmr0_5 c_Xmr0_6
  clear hb
  have c_Xgr0_0 := Xgr0.out.now 0 _ rfl
  have c_Xgr0_1 := Xgr0.out.now 1 _ rfl
  have c_Xgr0_2 := Xgr0.out.now 2 _ rfl
  have c_Xgr0_3 := Xgr0.out.now 3 _ rfl
  have c_Xgr0_4 := Xgr0.out.now 4 _ rfl
  have c_Xgr0_5 := Xgr0.out.now 5 _ rfl
  have c_Xgr0_6 := Xgr0.out.now 6 _ rfl
  go_wp2_with fail
  refine (mark_Sparse hr0m4 hr0m6 Ogr04.out.now Ogr06.out.now Ogr04.out.top hap_g_0 (by omega) (by omega)).mono ?_; rintro e w10 ⟨rfl, hm0, hm1, hg⟩
  replace FB := Lib.hid (FB.out.far hg (by omega))
  replace Fa00 := Lib.hid (Fa00.out.far hg (by omega))
  replace Vmr04 := Lib.hid (Vmr04.out.far hg (by omega))
  replace Vmr06 := Lib.hid (Vmr06.out.far hg (by omega))
  replace Xmr0 := Lib.hid (Xmr0.out.far hg (by omega))
  replace Xgr0 := Lib.hid (Xgr0.out.far hg (by omega))
  have z_w10 : w9.heap.size ≤ w10.heap.size := by have hsz := hg.size; first | omega | (simp at hsz; omega)
  replace Ogr04 := Lib.hid (At.mk hm0 (Nat.le_trans Ogr04.out.top hg.size) (Ow.lives _ _ _ _ _ _))
  replace Ogr06 := Lib.hid (At.mk hm1 (Nat.le_trans Ogr06.out.top hg.size) (Ow.lives _ _ _ _ _ _))
  clear c_Xgr0_0 c_Xgr0_1 c_Xgr0_2 c_Xgr0_3 c_Xgr0_4 c_Xgr0_5 c_Xgr0_6
  clear hg hm0 hm1
  have c_Xgr0_0 := Xgr0.out.now 0 _ rfl
  have c_Xgr0_1 := Xgr0.out.now 1 _ rfl
  have c_Xgr0_2 := Xgr0.out.now 2 _ rfl
  have c_Xgr0_3 := Xgr0.out.now 3 _ rfl
  have c_Xgr0_4 := Xgr0.out.now 4 _ rfl
  have c_Xgr0_5 := Xgr0.out.now 5 _ rfl
  have c_Xgr0_6 := Xgr0.out.now 6 _ rfl
  go_wp2_with fail
  refine (held_Sparse hr0m4 hr0m6 Ogr04.out.orow Ogr06.out.orow (by omega) (by omega)).mono ?_; rintro e w11 ⟨rfl, hb⟩
  replace FB := Lib.hid (FB.out.b hb)
  replace Fa00 := Lib.hid (Fa00.out.b hb)
  replace Vmr04 := Lib.hid (Vmr04.out.b hb)
  replace Vmr06 := Lib.hid (Vmr06.out.b hb)
  replace Xmr0 := Lib.hid (Xmr0.out.b hb)
  replace Ogr04 := Lib.hid (Ogr04.out.b hb)
  replace Ogr06 := Lib.hid (Ogr06.out.b hb)
  replace Xgr0 := Lib.hid (Xgr0.out.b hb)
  have z_w11 : w10.heap.size ≤ w11.heap.size := by have hsz := hb.size; first | omega | (simp at hsz; omega)
  clear c_Xgr0_0 c_Xgr0_1 c_Xgr0_2 c_Xgr0_3 c_Xgr0_4 c_Xgr0_5 c_Xgr0_6
  clear hb
  go_wp2_with fail
  refine (to_IntS ha0k0 Fa00.out.row).mono ?_; rintro e w12 ⟨tha0A0, tha0c0, rfl, ho0, hb⟩
  replace FB := Lib.hid (FB.out.b hb)
  replace Fa00 := Lib.hid (Fa00.out.b hb)
  replace Vmr04 := Lib.hid (Vmr04.out.b hb)
  replace Vmr06 := Lib.hid (Vmr06.out.b hb)
  replace Xmr0 := Lib.hid (Xmr0.out.b hb)
  replace Ogr04 := Lib.hid (Ogr04.out.b hb)
  replace Ogr06 := Lib.hid (Ogr06.out.b hb)
  replace Xgr0 := Lib.hid (Xgr0.out.b hb)
  have z_w12 : w11.heap.size ≤ w12.heap.size := by have hsz := hb.size; first | omega | (simp at hsz; omega)
  have Otha00 := Lib.hid (owned (ho0.mono (lo' := w11.heap.size) (Nat.le_refl _) (Nat.le_refl _)))
  clear hb ho0
  go_wp2_with fail
  refine (S2.out _ _ _ Otha00.out.orow).mono ?_; rintro e w13 ⟨hr0A4, hr0c4, hr0A6, hr0c6, rfl, hrr04, hrr06, hap_h_0, hb⟩
  replace FB := Lib.hid (FB.out.b hb)
  replace Fa00 := Lib.hid (Fa00.out.b hb)
  replace Vmr04 := Lib.hid (Vmr04.out.b hb)
  replace Vmr06 := Lib.hid (Vmr06.out.b hb)
  replace Xmr0 := Lib.hid (Xmr0.out.b hb)
  replace Ogr04 := Lib.hid (Ogr04.out.b hb)
  replace Ogr06 := Lib.hid (Ogr06.out.b hb)
  replace Xgr0 := Lib.hid (Xgr0.out.b hb)
  replace Otha00 := Lib.hid (Otha00.out.b hb)
  have z_w13 : w12.heap.size ≤ w13.heap.size := by have hsz := hb.size; first | omega | (simp at hsz; omega)
  have Ohr04 := Lib.hid (owned (hrr04.mono (lo' := w12.heap.size) (Nat.le_refl _) (Nat.le_refl _)))
  have Ohr06 := Lib.hid (owned (hrr06.mono (lo' := w12.heap.size) (Nat.le_refl _) (Nat.le_refl _)))
  clear hb hrr04 hrr06
  clear Otha00
  replace FB := Lib.hid (FB.out.alloc (.cells #[.int .i64 r0z0, .int .i64 r0z1, .int .i64 r0z2, .int .i64 r0z3, .slice hr0A4 r0n4 hr0c4, .int .i64 r0z5, .slice hr0A6 r0n6 hr0c6] 29))
  replace Fa00 := Lib.hid (Fa00.out.alloc (.cells #[.int .i64 r0z0, .int .i64 r0z1, .int .i64 r0z2, .int .i64 r0z3, .slice hr0A4 r0n4 hr0c4, .int .i64 r0z5, .slice hr0A6 r0n6 hr0c6] 29))
  replace Vmr04 := Lib.hid (Vmr04.out.alloc (.cells #[.int .i64 r0z0, .int .i64 r0z1, .int .i64 r0z2, .int .i64 r0z3, .slice hr0A4 r0n4 hr0c4, .int .i64 r0z5, .slice hr0A6 r0n6 hr0c6] 29))
  replace Vmr06 := Lib.hid (Vmr06.out.alloc (.cells #[.int .i64 r0z0, .int .i64 r0z1, .int .i64 r0z2, .int .i64 r0z3, .slice hr0A4 r0n4 hr0c4, .int .i64 r0z5, .slice hr0A6 r0n6 hr0c6] 29))
  replace Xmr0 := Lib.hid (Xmr0.out.alloc (.cells #[.int .i64 r0z0, .int .i64 r0z1, .int .i64 r0z2, .int .i64 r0z3, .slice hr0A4 r0n4 hr0c4, .int .i64 r0z5, .slice hr0A6 r0n6 hr0c6] 29))
  replace Ogr04 := Lib.hid (Ogr04.out.alloc (.cells #[.int .i64 r0z0, .int .i64 r0z1, .int .i64 r0z2, .int .i64 r0z3, .slice hr0A4 r0n4 hr0c4, .int .i64 r0z5, .slice hr0A6 r0n6 hr0c6] 29))
  replace Ogr06 := Lib.hid (Ogr06.out.alloc (.cells #[.int .i64 r0z0, .int .i64 r0z1, .int .i64 r0z2, .int .i64 r0z3, .slice hr0A4 r0n4 hr0c4, .int .i64 r0z5, .slice hr0A6 r0n6 hr0c6] 29))
  replace Xgr0 := Lib.hid (Xgr0.out.alloc (.cells #[.int .i64 r0z0, .int .i64 r0z1, .int .i64 r0z2, .int .i64 r0z3, .slice hr0A4 r0n4 hr0c4, .int .i64 r0z5, .slice hr0A6 r0n6 hr0c6] 29))
  replace Ohr04 := Lib.hid (Ohr04.out.alloc (.cells #[.int .i64 r0z0, .int .i64 r0z1, .int .i64 r0z2, .int .i64 r0z3, .slice hr0A4 r0n4 hr0c4, .int .i64 r0z5, .slice hr0A6 r0n6 hr0c6] 29))
  replace Ohr06 := Lib.hid (Ohr06.out.alloc (.cells #[.int .i64 r0z0, .int .i64 r0z1, .int .i64 r0z2, .int .i64 r0z3, .slice hr0A4 r0n4 hr0c4, .int .i64 r0z5, .slice hr0A6 r0n6 hr0c6] 29))
  have Xhr0 := Lib.hid (boxed w13 #[.int .i64 r0z0, .int .i64 r0z1, .int .i64 r0z2, .int .i64 r0z3, .slice hr0A4 r0n4 hr0c4, .int .i64 r0z5, .slice hr0A6 r0n6 hr0c6] 29)
  have c_Xhr0_0 := Xhr0.out.now 0 _ rfl
  have c_Xhr0_1 := Xhr0.out.now 1 _ rfl
  have c_Xhr0_2 := Xhr0.out.now 2 _ rfl
  have c_Xhr0_3 := Xhr0.out.now 3 _ rfl
  have c_Xhr0_4 := Xhr0.out.now 4 _ rfl
  have c_Xhr0_5 := Xhr0.out.now 5 _ rfl
  have c_Xhr0_6 := Xhr0.out.now 6 _ rfl
  have c_Xmr0_0 := Xmr0.out.now 0 _ rfl
  have c_Xmr0_1 := Xmr0.out.now 1 _ rfl
  have c_Xmr0_2 := Xmr0.out.now 2 _ rfl
  have c_Xmr0_3 := Xmr0.out.now 3 _ rfl
  have c_Xmr0_4 := Xmr0.out.now 4 _ rfl
  have c_Xmr0_5 := Xmr0.out.now 5 _ rfl
  have c_Xmr0_6 := Xmr0.out.now 6 _ rfl
  go_wp2_with fail
  refine (eq_Sparse hr0m4 hr0m6 Ohr04.out.orow Ohr06.out.orow Vmr04.out.row Vmr06.out.row).mono ?_; rintro e w14 ⟨rfl, hb⟩
  replace FB := Lib.hid (FB.out.b hb)
  replace Fa00 := Lib.hid (Fa00.out.b hb)
  replace Vmr04 := Lib.hid (Vmr04.out.b hb)
  replace Vmr06 := Lib.hid (Vmr06.out.b hb)
  replace Xmr0 := Lib.hid (Xmr0.out.b hb)
  replace Ogr04 := Lib.hid (Ogr04.out.b hb)
  replace Ogr06 := Lib.hid (Ogr06.out.b hb)
  replace Xgr0 := Lib.hid (Xgr0.out.b hb)
  replace Ohr04 := Lib.hid (Ohr04.out.b hb)
  replace Ohr06 := Lib.hid (Ohr06.out.b hb)
  replace Xhr0 := Lib.hid (Xhr0.out.b hb)
  have z_w14 : w13.heap.size + 1 ≤ w14.heap.size := by have hsz := hb.size; first | omega | (simp at hsz; omega)
  clear c_Xhr0_0 c_Xhr0_1 c_Xhr0_2 c_Xhr0_3 c_Xhr0_4 c_Xhr0_5 c_Xhr0_6 c_Xmr0_0 c_Xmr0_1 c_Xmr0_2 c_Xmr0_3 c_Xmr0_4 c_Xmr0_5 c_Xmr0_6
  clear hb
  have c_Xgr0_0 := Xgr0.out.now 0 _ rfl
  have c_Xgr0_1 := Xgr0.out.now 1 _ rfl
  have c_Xgr0_2 := Xgr0.out.now 2 _ rfl
  have c_Xgr0_3 := Xgr0.out.now 3 _ rfl
  have c_Xgr0_4 := Xgr0.out.now 4 _ rfl
  have c_Xgr0_5 := Xgr0.out.now 5 _ rfl
  have c_Xgr0_6 := Xgr0.out.now 6 _ rfl
  go_wp2_with fail
  refine (held_Sparse hr0m4 hr0m6 Ogr04.out.orow Ogr06.out.orow (by omega) (by omega)).mono ?_; rintro e w15 ⟨rfl, hb⟩
  replace FB := Lib.hid (FB.out.b hb)
  replace Fa00 := Lib.hid (Fa00.out.b hb)
  replace Vmr04 := Lib.hid (Vmr04.out.b hb)
  replace Vmr06 := Lib.hid (Vmr06.out.b hb)
  replace Xmr0 := Lib.hid (Xmr0.out.b hb)
  replace Ogr04 := Lib.hid (Ogr04.out.b hb)
  replace Ogr06 := Lib.hid (Ogr06.out.b hb)
  replace Xgr0 := Lib.hid (Xgr0.out.b hb)
  replace Ohr04 := Lib.hid (Ohr04.out.b hb)
  replace Ohr06 := Lib.hid (Ohr06.out.b hb)
  replace Xhr0 := Lib.hid (Xhr0.out.b hb)
  have z_w15 : w14.heap.size ≤ w15.heap.size := by have hsz := hb.size; first | omega | (simp at hsz; omega)
  clear c_Xgr0_0 c_Xgr0_1 c_Xgr0_2 c_Xgr0_3 c_Xgr0_4 c_Xgr0_5 c_Xgr0_6
  clear hb
  go_wp2_with fail
  go_ret
  exact ⟨rfl, FB.out.now⟩

theorem walk_FnExactBuildSparse (w : World) (A : Option Addr) (n c : Nat) (X : Nat → Int) (hm : n ≤ maxLen) (hr : IRow w A n X) (L : Int) (_wz : (Lit.int .i64 L).wf = true) :
    Calls Try.prog 4 #[.slice A n c, .int .i64 L] w fun e w' => e = .returned (.bool true) ∧ Below w.heap.size w w' := by
  by_cases hg : SpOk n X L
  · obtain ⟨l, v, rfl, hX, hS⟩ := spOk_num hg
    have h1 := hS.lows
    have h2 := hS.high
    exact main_FnExactBuildSparse n X l n l v (n * v : Nat) _ _ (hzN n l v : Nat) _ _ true A c w hm hr (by omega) (by omega)
      (fun _ A c w h => (spec_build_yes A n c l v _ w hS (irow_congr h hX) _ _ rfl rfl).mono SpOwn.post)
      (fun _ A c w h => impl_build_yes A n c l v _ w hS (irow_congr h hX) _ _ rfl rfl)
  · exact main_FnExactBuildSparse n X L 0 0 0 0 0 (fun _ => 0) 0 0 (fun _ => 0) false A c w hm hr (by omega) (by omega)
      (fun hn A c w h => (spec_build_no A n c X L w hn h hg).mono SpOwn.post) (fun hn A c w h => impl_build_no A n c X L w hn h hg)
end Go.Proofs.Ytdkkflejpcgipaa
