/- The law of SliceSparse, walked: what both sides answer comes in as hypotheses. -/
import Derived.Test.YtdkkflejpcgipaaObjSp
import Derived.Test.YtdkkflejpcgipaaSliceS
import Derived.Deep.RegionHeld3
namespace Go.Proofs.Ytdkkflejpcgipaa
open Go.RowKit

set_option maxRecDepth 100000 in
set_option maxHeartbeats 8000000 in
theorem main_FnExactSliceSparse (a0z0 : Int) (a0z1 : Int) (a0z2 : Int) (a0z3 : Int) (a0n4 : Nat) (a0X4 : Nat → Int) (a0z5 : Int) (a0n6 : Nat) (a0X6 : Nat → Int) (a1z0 : Int) (a2z0 : Int) (r0z0 : Int) (r0z1 : Int) (r0z2 : Int) (r0z3 : Int) (r0n4 : Nat) (r0X4 : Nat → Int) (r0z5 : Int) (r0n6 : Nat) (r0X6 : Nat → Int) (r1z0 : Bool) (a0A4 : Option Addr) (a0c4 : Nat) (a0A6 : Option Addr) (a0c6 : Nat) (w : World) (ha0m4 : a0n4 ≤ maxLen) (ha0r4 : GRow w a0A4 a0n4 (intV a0X4)) (ha0m6 : a0n6 ≤ maxLen) (ha0r6 : GRow w a0A6 a0n6 (intV a0X6)) (hr0m4 : r0n4 ≤ 1048576) (hr0m6 : r0n6 ≤ 1048576)
    (s1 : a0n4 + a0n6 ≤ 1048576 → ∀ (ua0A4 : Option Addr) (ua0c4 : Nat) (ua0A6 : Option Addr) (ua0c6 : Nat) (w : World), GRow w ua0A4 a0n4 (intV a0X4) → GRow w ua0A6 a0n6 (intV a0X6) → Calls Try.prog 45 #[.agg #[.int .i64 a0z0, .int .i64 a0z1, .int .i64 a0z2, .int .i64 a0z3, .slice ua0A4 a0n4 ua0c4, .int .i64 a0z5, .slice ua0A6 a0n6 ua0c6], .int .i64 a1z0, .int .i64 a2z0] w fun e w' => ∃ vr0A4 vr0c4 vr0A6 vr0c6, e = .returned (.tuple #[.agg #[.int .i64 r0z0, .int .i64 r0z1, .int .i64 r0z2, .int .i64 r0z3, .slice vr0A4 r0n4 vr0c4, .int .i64 r0z5, .slice vr0A6 r0n6 vr0c6], .bool r1z0]) ∧ GRow w' vr0A4 r0n4 (intV r0X4) ∧ GRow w' vr0A6 r0n6 (intV r0X6) ∧ Below w.heap.size w w')
    (s2 : a0n4 + a0n6 ≤ 1048576 → ∀ (ua0A4 : Option Addr) (ua0c4 : Nat) (ua0A6 : Option Addr) (ua0c6 : Nat) (w : World), GRow w ua0A4 a0n4 (intV a0X4) → GRow w ua0A6 a0n6 (intV a0X6) → Calls Try.prog 46 #[.agg #[.int .i64 a0z0, .int .i64 a0z1, .int .i64 a0z2, .int .i64 a0z3, .slice ua0A4 a0n4 ua0c4, .int .i64 a0z5, .slice ua0A6 a0n6 ua0c6], .int .i64 a1z0, .int .i64 a2z0] w fun e w' => ∃ vr0A4 vr0c4 vr0A6 vr0c6, e = .returned (.tuple #[.agg #[.int .i64 r0z0, .int .i64 r0z1, .int .i64 r0z2, .int .i64 r0z3, .slice vr0A4 r0n4 vr0c4, .int .i64 r0z5, .slice vr0A6 r0n6 vr0c6], .bool r1z0]) ∧ Ow w.heap.size w'.heap.size 3 vr0A4 r0n4 (intV r0X4) w' ∧ Ow w.heap.size w'.heap.size 3 vr0A6 r0n6 (intV r0X6) w' ∧ Apart r0n4 vr0A4 r0n6 vr0A6 ∧ Below w.heap.size w w') :
    Calls Try.prog 13 #[.agg #[.int .i64 a0z0, .int .i64 a0z1, .int .i64 a0z2, .int .i64 a0z3, .slice a0A4 a0n4 a0c4, .int .i64 a0z5, .slice a0A6 a0n6 a0c6], .int .i64 a1z0, .int .i64 a2z0] w fun e w' => e = .returned (.bool true) ∧ Below w.heap.size w w' := by
  have S1 := Lib.hid s1
  have S2 := Lib.hid s2
  clear s1 s2
  have FB := Lib.hid ((At.start w).alloc (.cells #[.int .i64 a0z0, .int .i64 a0z1, .int .i64 a0z2, .int .i64 a0z3, .slice a0A4 a0n4 a0c4, .int .i64 a0z5, .slice a0A6 a0n6 a0c6] 40))
  have Fa04 := Lib.hid ((rd_of_row ha0r4).alloc (.cells #[.int .i64 a0z0, .int .i64 a0z1, .int .i64 a0z2, .int .i64 a0z3, .slice a0A4 a0n4 a0c4, .int .i64 a0z5, .slice a0A6 a0n6 a0c6] 40))
  have Fa06 := Lib.hid ((rd_of_row ha0r6).alloc (.cells #[.int .i64 a0z0, .int .i64 a0z1, .int .i64 a0z2, .int .i64 a0z3, .slice a0A4 a0n4 a0c4, .int .i64 a0z5, .slice a0A6 a0n6 a0c6] 40))
  have Ba0 := Lib.hid (boxed w #[.int .i64 a0z0, .int .i64 a0z1, .int .i64 a0z2, .int .i64 a0z3, .slice a0A4 a0n4 a0c4, .int .i64 a0z5, .slice a0A6 a0n6 a0c6] 40)
  clear ha0r4 ha0r6
  go_enter Try.func13, Try.ntmps13
  go_wp2_with fail
  refine (sz_Sparse ha0m4 ha0m6 (by omega) (by omega)).mono ?_; rintro e w1 ⟨rfl, hb⟩
  replace FB := Lib.hid (FB.out.b hb)
  replace Fa04 := Lib.hid (Fa04.out.b hb)
  replace Fa06 := Lib.hid (Fa06.out.b hb)
  replace Ba0 := Lib.hid (Ba0.out.b hb)
  have z_w1 : w.heap.size + 1 ≤ w1.heap.size := by have hsz := hb.size; first | omega | (simp at hsz; omega)
  clear hb
  by_cases hZ_a0 : ((a0n4 + a0n6 : Nat) : Int) ≤ (1048576 : Int)
  rotate_left
  · rw [szv_no hZ_a0]
    go_wp2_with fail
    go_ret
    exact ⟨rfl, FB.out.now⟩
  rw [szv_yes hZ_a0]
  have hL_a0 : ¬ (((1048576 : Int) - (((a0n4 : Nat) : Int) + ((a0n6 : Nat) : Int))) < 0) := by omega
  have c_Ba0_0 := Ba0.out.now 0 _ rfl
  have c_Ba0_1 := Ba0.out.now 1 _ rfl
  have c_Ba0_2 := Ba0.out.now 2 _ rfl
  have c_Ba0_3 := Ba0.out.now 3 _ rfl
  have c_Ba0_4 := Ba0.out.now 4 _ rfl
  have c_Ba0_5 := Ba0.out.now 5 _ rfl
  have c_Ba0_6 := Ba0.out.now 6 _ rfl
  replace S1 := Lib.hid (S1.out (by omega))
  replace S2 := Lib.hid (S2.out (by omega))
  have ha0k4 : a0n4 ≤ 1048576 := by omega
  have ha0k6 : a0n6 ≤ 1048576 := by omega
  go_wp2_with fail
  refine (to_Sparse ha0k4 ha0k6 Fa04.out.row Fa06.out.row).mono ?_; rintro e w2 ⟨tma0A4, tma0c4, tma0A6, tma0c6, rfl, ho4, ho6, hap_tma0_0, hb⟩
  replace FB := Lib.hid (FB.out.b hb)
  replace Fa04 := Lib.hid (Fa04.out.b hb)
  replace Fa06 := Lib.hid (Fa06.out.b hb)
  replace Ba0 := Lib.hid (Ba0.out.b hb)
  have z_w2 : w1.heap.size ≤ w2.heap.size := by have hsz := hb.size; first | omega | (simp at hsz; omega)
  clear c_Ba0_0 c_Ba0_1 c_Ba0_2 c_Ba0_3 c_Ba0_4 c_Ba0_5 c_Ba0_6
  have Otma04 := Lib.hid (owned (ho4.mono (lo' := w1.heap.size) (Nat.le_refl _) (Nat.le_refl _)))
  have Otma06 := Lib.hid (owned (ho6.mono (lo' := w1.heap.size) (Nat.le_refl _) (Nat.le_refl _)))
  clear hb ho4 ho6
  clear hap_tma0_0
  go_wp2_with fail
  refine (S1.out _ _ _ _ _ Otma04.out.orow Otma06.out.orow).mono ?_; rintro e w3 ⟨mr0A4, mr0c4, mr0A6, mr0c6, rfl, hrr04, hrr06, hb⟩
  replace FB := Lib.hid (FB.out.b hb)
  replace Fa04 := Lib.hid (Fa04.out.b hb)
  replace Fa06 := Lib.hid (Fa06.out.b hb)
  replace Ba0 := Lib.hid (Ba0.out.b hb)
  replace Otma04 := Lib.hid (Otma04.out.b hb)
  replace Otma06 := Lib.hid (Otma06.out.b hb)
  have z_w3 : w2.heap.size ≤ w3.heap.size := by have hsz := hb.size; first | omega | (simp at hsz; omega)
  have Vmr04 := Lib.hid (rd_of_row hrr04)
  have Vmr06 := Lib.hid (rd_of_row hrr06)
  clear hb hrr04 hrr06
  clear Otma04 Otma06
  replace FB := Lib.hid (FB.out.alloc (.cells #[.int .i64 r0z0, .int .i64 r0z1, .int .i64 r0z2, .int .i64 r0z3, .slice mr0A4 r0n4 mr0c4, .int .i64 r0z5, .slice mr0A6 r0n6 mr0c6] 29))
  replace Fa04 := Lib.hid (Fa04.out.alloc (.cells #[.int .i64 r0z0, .int .i64 r0z1, .int .i64 r0z2, .int .i64 r0z3, .slice mr0A4 r0n4 mr0c4, .int .i64 r0z5, .slice mr0A6 r0n6 mr0c6] 29))
  replace Fa06 := Lib.hid (Fa06.out.alloc (.cells #[.int .i64 r0z0, .int .i64 r0z1, .int .i64 r0z2, .int .i64 r0z3, .slice mr0A4 r0n4 mr0c4, .int .i64 r0z5, .slice mr0A6 r0n6 mr0c6] 29))
  replace Ba0 := Lib.hid (Ba0.out.alloc (.cells #[.int .i64 r0z0, .int .i64 r0z1, .int .i64 r0z2, .int .i64 r0z3, .slice mr0A4 r0n4 mr0c4, .int .i64 r0z5, .slice mr0A6 r0n6 mr0c6] 29))
  replace Vmr04 := Lib.hid (Vmr04.out.alloc (.cells #[.int .i64 r0z0, .int .i64 r0z1, .int .i64 r0z2, .int .i64 r0z3, .slice mr0A4 r0n4 mr0c4, .int .i64 r0z5, .slice mr0A6 r0n6 mr0c6] 29))
  replace Vmr06 := Lib.hid (Vmr06.out.alloc (.cells #[.int .i64 r0z0, .int .i64 r0z1, .int .i64 r0z2, .int .i64 r0z3, .slice mr0A4 r0n4 mr0c4, .int .i64 r0z5, .slice mr0A6 r0n6 mr0c6] 29))
  have Xmr0 := Lib.hid (boxed w3 #[.int .i64 r0z0, .int .i64 r0z1, .int .i64 r0z2, .int .i64 r0z3, .slice mr0A4 r0n4 mr0c4, .int .i64 r0z5, .slice mr0A6 r0n6 mr0c6] 29)
  have c_Ba0_0 := Ba0.out.now 0 _ rfl
  have c_Ba0_1 := Ba0.out.now 1 _ rfl
  have c_Ba0_2 := Ba0.out.now 2 _ rfl
  have c_Ba0_3 := Ba0.out.now 3 _ rfl
  have c_Ba0_4 := Ba0.out.now 4 _ rfl
  have c_Ba0_5 := Ba0.out.now 5 _ rfl
  have c_Ba0_6 := Ba0.out.now 6 _ rfl
  go_wp2_with fail
  refine (to_Sparse ha0k4 ha0k6 Fa04.out.row Fa06.out.row).mono ?_; rintro e w4 ⟨xa0A4, xa0c4, xa0A6, xa0c6, rfl, ho4, ho6, hap_xa0_0, hb⟩
  replace FB := Lib.hid (FB.out.b hb)
  replace Fa04 := Lib.hid (Fa04.out.b hb)
  replace Fa06 := Lib.hid (Fa06.out.b hb)
  replace Ba0 := Lib.hid (Ba0.out.b hb)
  replace Vmr04 := Lib.hid (Vmr04.out.b hb)
  replace Vmr06 := Lib.hid (Vmr06.out.b hb)
  replace Xmr0 := Lib.hid (Xmr0.out.b hb)
  have z_w4 : w3.heap.size + 1 ≤ w4.heap.size := by have hsz := hb.size; first | omega | (simp at hsz; omega)
  clear c_Ba0_0 c_Ba0_1 c_Ba0_2 c_Ba0_3 c_Ba0_4 c_Ba0_5 c_Ba0_6
  have Oxa04 := Lib.hid (owned (ho4.mono (lo' := w3.heap.size + 1) (by simp) (Nat.le_refl _)))
  have Oxa06 := Lib.hid (owned (ho6.mono (lo' := w3.heap.size + 1) (by simp) (Nat.le_refl _)))
  clear hb ho4 ho6
  replace FB := Lib.hid (FB.out.alloc (.cells #[.int .i64 a0z0, .int .i64 a0z1, .int .i64 a0z2, .int .i64 a0z3, .slice xa0A4 a0n4 xa0c4, .int .i64 a0z5, .slice xa0A6 a0n6 xa0c6] 29))
  replace Fa04 := Lib.hid (Fa04.out.alloc (.cells #[.int .i64 a0z0, .int .i64 a0z1, .int .i64 a0z2, .int .i64 a0z3, .slice xa0A4 a0n4 xa0c4, .int .i64 a0z5, .slice xa0A6 a0n6 xa0c6] 29))
  replace Fa06 := Lib.hid (Fa06.out.alloc (.cells #[.int .i64 a0z0, .int .i64 a0z1, .int .i64 a0z2, .int .i64 a0z3, .slice xa0A4 a0n4 xa0c4, .int .i64 a0z5, .slice xa0A6 a0n6 xa0c6] 29))
  replace Ba0 := Lib.hid (Ba0.out.alloc (.cells #[.int .i64 a0z0, .int .i64 a0z1, .int .i64 a0z2, .int .i64 a0z3, .slice xa0A4 a0n4 xa0c4, .int .i64 a0z5, .slice xa0A6 a0n6 xa0c6] 29))
  replace Vmr04 := Lib.hid (Vmr04.out.alloc (.cells #[.int .i64 a0z0, .int .i64 a0z1, .int .i64 a0z2, .int .i64 a0z3, .slice xa0A4 a0n4 xa0c4, .int .i64 a0z5, .slice xa0A6 a0n6 xa0c6] 29))
  replace Vmr06 := Lib.hid (Vmr06.out.alloc (.cells #[.int .i64 a0z0, .int .i64 a0z1, .int .i64 a0z2, .int .i64 a0z3, .slice xa0A4 a0n4 xa0c4, .int .i64 a0z5, .slice xa0A6 a0n6 xa0c6] 29))
  replace Xmr0 := Lib.hid (Xmr0.out.alloc (.cells #[.int .i64 a0z0, .int .i64 a0z1, .int .i64 a0z2, .int .i64 a0z3, .slice xa0A4 a0n4 xa0c4, .int .i64 a0z5, .slice xa0A6 a0n6 xa0c6] 29))
  replace Oxa04 := Lib.hid (Oxa04.out.alloc (.cells #[.int .i64 a0z0, .int .i64 a0z1, .int .i64 a0z2, .int .i64 a0z3, .slice xa0A4 a0n4 xa0c4, .int .i64 a0z5, .slice xa0A6 a0n6 xa0c6] 29))
  replace Oxa06 := Lib.hid (Oxa06.out.alloc (.cells #[.int .i64 a0z0, .int .i64 a0z1, .int .i64 a0z2, .int .i64 a0z3, .slice xa0A4 a0n4 xa0c4, .int .i64 a0z5, .slice xa0A6 a0n6 xa0c6] 29))
  have Yxa0 := Lib.hid (boxed w4 #[.int .i64 a0z0, .int .i64 a0z1, .int .i64 a0z2, .int .i64 a0z3, .slice xa0A4 a0n4 xa0c4, .int .i64 a0z5, .slice xa0A6 a0n6 xa0c6] 29)
  have c_Yxa0_0 := Yxa0.out.now 0 _ rfl
  have c_Yxa0_1 := Yxa0.out.now 1 _ rfl
  have c_Yxa0_2 := Yxa0.out.now 2 _ rfl
  have c_Yxa0_3 := Yxa0.out.now 3 _ rfl
  have c_Yxa0_4 := Yxa0.out.now 4 _ rfl
  have c_Yxa0_5 := Yxa0.out.now 5 _ rfl
  have c_Yxa0_6 := Yxa0.out.now 6 _ rfl
  go_wp2_with fail
  refine (S2.out _ _ _ _ _ Oxa04.out.orow Oxa06.out.orow).mono ?_; rintro e w5 ⟨gr0A4, gr0c4, gr0A6, gr0c6, rfl, hrr04, hrr06, hap_g_0, hb⟩
  replace FB := Lib.hid (FB.out.b hb)
  replace Fa04 := Lib.hid (Fa04.out.b hb)
  replace Fa06 := Lib.hid (Fa06.out.b hb)
  replace Ba0 := Lib.hid (Ba0.out.b hb)
  replace Vmr04 := Lib.hid (Vmr04.out.b hb)
  replace Vmr06 := Lib.hid (Vmr06.out.b hb)
  replace Xmr0 := Lib.hid (Xmr0.out.b hb)
  replace Oxa04 := Lib.hid (Oxa04.out.b hb)
  replace Oxa06 := Lib.hid (Oxa06.out.b hb)
  replace Yxa0 := Lib.hid (Yxa0.out.b hb)
  have z_w5 : w4.heap.size + 1 ≤ w5.heap.size := by have hsz := hb.size; first | omega | (simp at hsz; omega)
  clear c_Yxa0_0 c_Yxa0_1 c_Yxa0_2 c_Yxa0_3 c_Yxa0_4 c_Yxa0_5 c_Yxa0_6
  have Ogr04 := Lib.hid (owned (hrr04.mono (lo' := w4.heap.size + 1) (by simp) (Nat.le_refl _)))
  have Ogr06 := Lib.hid (owned (hrr06.mono (lo' := w4.heap.size + 1) (by simp) (Nat.le_refl _)))
  clear hb hrr04 hrr06
  replace FB := Lib.hid (FB.out.alloc (.cells #[.int .i64 r0z0, .int .i64 r0z1, .int .i64 r0z2, .int .i64 r0z3, .slice gr0A4 r0n4 gr0c4, .int .i64 r0z5, .slice gr0A6 r0n6 gr0c6] 29))
  replace Fa04 := Lib.hid (Fa04.out.alloc (.cells #[.int .i64 r0z0, .int .i64 r0z1, .int .i64 r0z2, .int .i64 r0z3, .slice gr0A4 r0n4 gr0c4, .int .i64 r0z5, .slice gr0A6 r0n6 gr0c6] 29))
  replace Fa06 := Lib.hid (Fa06.out.alloc (.cells #[.int .i64 r0z0, .int .i64 r0z1, .int .i64 r0z2, .int .i64 r0z3, .slice gr0A4 r0n4 gr0c4, .int .i64 r0z5, .slice gr0A6 r0n6 gr0c6] 29))
  replace Ba0 := Lib.hid (Ba0.out.alloc (.cells #[.int .i64 r0z0, .int .i64 r0z1, .int .i64 r0z2, .int .i64 r0z3, .slice gr0A4 r0n4 gr0c4, .int .i64 r0z5, .slice gr0A6 r0n6 gr0c6] 29))
  replace Vmr04 := Lib.hid (Vmr04.out.alloc (.cells #[.int .i64 r0z0, .int .i64 r0z1, .int .i64 r0z2, .int .i64 r0z3, .slice gr0A4 r0n4 gr0c4, .int .i64 r0z5, .slice gr0A6 r0n6 gr0c6] 29))
  replace Vmr06 := Lib.hid (Vmr06.out.alloc (.cells #[.int .i64 r0z0, .int .i64 r0z1, .int .i64 r0z2, .int .i64 r0z3, .slice gr0A4 r0n4 gr0c4, .int .i64 r0z5, .slice gr0A6 r0n6 gr0c6] 29))
  replace Xmr0 := Lib.hid (Xmr0.out.alloc (.cells #[.int .i64 r0z0, .int .i64 r0z1, .int .i64 r0z2, .int .i64 r0z3, .slice gr0A4 r0n4 gr0c4, .int .i64 r0z5, .slice gr0A6 r0n6 gr0c6] 29))
  replace Oxa04 := Lib.hid (Oxa04.out.alloc (.cells #[.int .i64 r0z0, .int .i64 r0z1, .int .i64 r0z2, .int .i64 r0z3, .slice gr0A4 r0n4 gr0c4, .int .i64 r0z5, .slice gr0A6 r0n6 gr0c6] 29))
  replace Oxa06 := Lib.hid (Oxa06.out.alloc (.cells #[.int .i64 r0z0, .int .i64 r0z1, .int .i64 r0z2, .int .i64 r0z3, .slice gr0A4 r0n4 gr0c4, .int .i64 r0z5, .slice gr0A6 r0n6 gr0c6] 29))
  replace Yxa0 := Lib.hid (Yxa0.out.alloc (.cells #[.int .i64 r0z0, .int .i64 r0z1, .int .i64 r0z2, .int .i64 r0z3, .slice gr0A4 r0n4 gr0c4, .int .i64 r0z5, .slice gr0A6 r0n6 gr0c6] 29))
  replace Ogr04 := Lib.hid (Ogr04.out.alloc (.cells #[.int .i64 r0z0, .int .i64 r0z1, .int .i64 r0z2, .int .i64 r0z3, .slice gr0A4 r0n4 gr0c4, .int .i64 r0z5, .slice gr0A6 r0n6 gr0c6] 29))
  replace Ogr06 := Lib.hid (Ogr06.out.alloc (.cells #[.int .i64 r0z0, .int .i64 r0z1, .int .i64 r0z2, .int .i64 r0z3, .slice gr0A4 r0n4 gr0c4, .int .i64 r0z5, .slice gr0A6 r0n6 gr0c6] 29))
  have Xgr0 := Lib.hid (boxed w5 #[.int .i64 r0z0, .int .i64 r0z1, .int .i64 r0z2, .int .i64 r0z3, .slice gr0A4 r0n4 gr0c4, .int .i64 r0z5, .slice gr0A6 r0n6 gr0c6] 29)
  have c_Xgr0_0 := Xgr0.out.now 0 _ rfl
  have c_Xgr0_1 := Xgr0.out.now 1 _ rfl
  have c_Xgr0_2 := Xgr0.out.now 2 _ rfl
  have c_Xgr0_3 := Xgr0.out.now 3 _ rfl
  have c_Xgr0_4 := Xgr0.out.now 4 _ rfl
  have c_Xgr0_5 := Xgr0.out.now 5 _ rfl
  have c_Xgr0_6 := Xgr0.out.now 6 _ rfl
  have c_Xmr0_0 := Xmr0.out.now 0 _ rfl
  have c_Xmr0_1 := Xmr0.out.now 1 _ rfl
  have c_Xmr0_2 := Xmr0.out.now 2 _ rfl
  have c_Xmr0_3 := Xmr0.out.now 3 _ rfl
  have c_Xmr0_4 := Xmr0.out.now 4 _ rfl
  have c_Xmr0_5 := Xmr0.out.now 5 _ rfl
  have c_Xmr0_6 := Xmr0.out.now 6 _ rfl
  go_wp2_with fail
  refine (eq_Sparse hr0m4 hr0m6 Ogr04.out.orow Ogr06.out.orow Vmr04.out.row Vmr06.out.row).mono ?_; rintro e w6 ⟨rfl, hb⟩
  replace FB := Lib.hid (FB.out.b hb)
  replace Fa04 := Lib.hid (Fa04.out.b hb)
  replace Fa06 := Lib.hid (Fa06.out.b hb)
  replace Ba0 := Lib.hid (Ba0.out.b hb)
  replace Vmr04 := Lib.hid (Vmr04.out.b hb)
  replace Vmr06 := Lib.hid (Vmr06.out.b hb)
  replace Xmr0 := Lib.hid (Xmr0.out.b hb)
  replace Oxa04 := Lib.hid (Oxa04.out.b hb)
  replace Oxa06 := Lib.hid (Oxa06.out.b hb)
  replace Yxa0 := Lib.hid (Yxa0.out.b hb)
  replace Ogr04 := Lib.hid (Ogr04.out.b hb)
  replace Ogr06 := Lib.hid (Ogr06.out.b hb)
  replace Xgr0 := Lib.hid (Xgr0.out.b hb)
  have z_w6 : w5.heap.size + 1 ≤ w6.heap.size := by have hsz := hb.size; first | omega | (simp at hsz; omega)
  clear c_Xgr0_0 c_Xgr0_1 c_Xgr0_2 c_Xgr0_3 c_Xgr0_4 c_Xgr0_5 c_Xgr0_6 c_Xmr0_0 c_Xmr0_1 c_Xmr0_2 c_Xmr0_3 c_Xmr0_4 c_Xmr0_5 c_Xmr0_6
  clear hb
  have c_Ba0_0 := Ba0.out.now 0 _ rfl
  have c_Ba0_1 := Ba0.out.now 1 _ rfl
  have c_Ba0_2 := Ba0.out.now 2 _ rfl
  have c_Ba0_3 := Ba0.out.now 3 _ rfl
  have c_Ba0_4 := Ba0.out.now 4 _ rfl
  have c_Ba0_5 := Ba0.out.now 5 _ rfl
  have c_Ba0_6 := Ba0.out.now 6 _ rfl
  have c_Yxa0_0 := Yxa0.out.now 0 _ rfl
  have c_Yxa0_1 := Yxa0.out.now 1 _ rfl
  have c_Yxa0_2 := Yxa0.out.now 2 _ rfl
  have c_Yxa0_3 := Yxa0.out.now 3 _ rfl
  have c_Yxa0_4 := Yxa0.out.now 4 _ rfl
  have c_Yxa0_5 := Yxa0.out.now 5 _ rfl
  have c_Yxa0_6 := Yxa0.out.now 6 _ rfl
  go_wp2_with fail
  go_region_held3 (fun w' => w'.cell? ⟨w.heap.size, 0, none⟩ = some (.int .i64 a0z0) ∧ w'.cell? ⟨w.heap.size, 1, none⟩ = some (.int .i64 a0z1) ∧ w'.cell? ⟨w.heap.size, 2, none⟩ = some (.int .i64 a0z2) ∧ w'.cell? ⟨w.heap.size, 3, none⟩ = some (.int .i64 a0z3) ∧ w'.cell? ⟨w.heap.size, 4, none⟩ = some (.slice a0A4 a0n4 a0c4) ∧ w'.cell? ⟨w.heap.size, 5, none⟩ = some (.int .i64 a0z5) ∧ w'.cell? ⟨w.heap.size, 6, none⟩ = some (.slice a0A6 a0n6 a0c6) ∧ w'.cell? ⟨w4.heap.size, 0, none⟩ = some (.int .i64 a0z0) ∧ w'.cell? ⟨w4.heap.size, 1, none⟩ = some (.int .i64 a0z1) ∧ w'.cell? ⟨w4.heap.size, 2, none⟩ = some (.int .i64 a0z2) ∧ w'.cell? ⟨w4.heap.size, 3, none⟩ = some (.int .i64 a0z3) ∧ w'.cell? ⟨w4.heap.size, 4, none⟩ = some (.slice xa0A4 a0n4 xa0c4) ∧ w'.cell? ⟨w4.heap.size, 5, none⟩ = some (.int .i64 a0z5) ∧ w'.cell? ⟨w4.heap.size, 6, none⟩ = some (.slice xa0A6 a0n6 xa0c6))
    (first | (go_keep; done) | exact ⟨(((Ba0.out.b hq1).b hq2)).now 0 _ rfl, (((Ba0.out.b hq1).b hq2)).now 1 _ rfl, (((Ba0.out.b hq1).b hq2)).now 2 _ rfl, (((Ba0.out.b hq1).b hq2)).now 3 _ rfl, (((Ba0.out.b hq1).b hq2)).now 4 _ rfl, (((Ba0.out.b hq1).b hq2)).now 5 _ rfl, (((Ba0.out.b hq1).b hq2)).now 6 _ rfl, (((Yxa0.out.b hq1).b hq2)).now 0 _ rfl, (((Yxa0.out.b hq1).b hq2)).now 1 _ rfl, (((Yxa0.out.b hq1).b hq2)).now 2 _ rfl, (((Yxa0.out.b hq1).b hq2)).now 3 _ rfl, (((Yxa0.out.b hq1).b hq2)).now 4 _ rfl, (((Yxa0.out.b hq1).b hq2)).now 5 _ rfl, (((Yxa0.out.b hq1).b hq2)).now 6 _ rfl⟩ | exact ⟨((Ba0.out.b hq1)).now 0 _ rfl, ((Ba0.out.b hq1)).now 1 _ rfl, ((Ba0.out.b hq1)).now 2 _ rfl, ((Ba0.out.b hq1)).now 3 _ rfl, ((Ba0.out.b hq1)).now 4 _ rfl, ((Ba0.out.b hq1)).now 5 _ rfl, ((Ba0.out.b hq1)).now 6 _ rfl, ((Yxa0.out.b hq1)).now 0 _ rfl, ((Yxa0.out.b hq1)).now 1 _ rfl, ((Yxa0.out.b hq1)).now 2 _ rfl, ((Yxa0.out.b hq1)).now 3 _ rfl, ((Yxa0.out.b hq1)).now 4 _ rfl, ((Yxa0.out.b hq1)).now 5 _ rfl, ((Yxa0.out.b hq1)).now 6 _ rfl⟩)
    (first
      | (have hqz := hq1; clear hqz; go_at_call 21; (first | refine (eq_Sparse ha0k4 ha0k6 ((Oxa04.out.b hq1)).orow ((Oxa06.out.b hq1)).orow (owned ho4).orow (owned ho6).orow).mono ?_); rintro e w8 ⟨rfl, hq2⟩)
      | (go_at_call 28; (first | refine (to_Sparse ha0k4 ha0k6 (Fa04.out).row (Fa06.out).row).mono ?_ | refine (to_Sparse ha0k4 ha0k6 (GRow.drew (Fa04.out).row) (GRow.drew (Fa06.out).row)).mono ?_); rintro e w7 ⟨ya0A4, ya0c4, ya0A6, ya0c6, rfl, ho4, ho6, hz0, hq1'⟩; have hq1 := of_drew hq1'; clear hq1'))
  replace FB := Lib.hid (FB.out.b hq1)
  replace Fa04 := Lib.hid (Fa04.out.b hq1)
  replace Fa06 := Lib.hid (Fa06.out.b hq1)
  replace Ba0 := Lib.hid (Ba0.out.b hq1)
  replace Vmr04 := Lib.hid (Vmr04.out.b hq1)
  replace Vmr06 := Lib.hid (Vmr06.out.b hq1)
  replace Xmr0 := Lib.hid (Xmr0.out.b hq1)
  replace Oxa04 := Lib.hid (Oxa04.out.b hq1)
  replace Oxa06 := Lib.hid (Oxa06.out.b hq1)
  replace Yxa0 := Lib.hid (Yxa0.out.b hq1)
  replace Ogr04 := Lib.hid (Ogr04.out.b hq1)
  replace Ogr06 := Lib.hid (Ogr06.out.b hq1)
  replace Xgr0 := Lib.hid (Xgr0.out.b hq1)
  replace FB := Lib.hid (FB.out.b hq2)
  replace Fa04 := Lib.hid (Fa04.out.b hq2)
  replace Fa06 := Lib.hid (Fa06.out.b hq2)
  replace Ba0 := Lib.hid (Ba0.out.b hq2)
  replace Vmr04 := Lib.hid (Vmr04.out.b hq2)
  replace Vmr06 := Lib.hid (Vmr06.out.b hq2)
  replace Xmr0 := Lib.hid (Xmr0.out.b hq2)
  replace Oxa04 := Lib.hid (Oxa04.out.b hq2)
  replace Oxa06 := Lib.hid (Oxa06.out.b hq2)
  replace Yxa0 := Lib.hid (Yxa0.out.b hq2)
  replace Ogr04 := Lib.hid (Ogr04.out.b hq2)
  replace Ogr06 := Lib.hid (Ogr06.out.b hq2)
  replace Xgr0 := Lib.hid (Xgr0.out.b hq2)
  have z_w7 : w6.heap.size ≤ w7.heap.size := by have hsz := hq1.size; first | omega | (simp at hsz; omega)
  have z_w8 : w7.heap.size ≤ w8.heap.size := hq2.size
  clear c_Ba0_0 c_Ba0_1 c_Ba0_2 c_Ba0_3 c_Ba0_4 c_Ba0_5 c_Ba0_6 c_Yxa0_0 c_Yxa0_1 c_Yxa0_2 c_Yxa0_3 c_Yxa0_4 c_Yxa0_5 c_Yxa0_6
  clear hq1 hq2 ho4 ho6 hz0
  have c_Yxa0_0 := Yxa0.out.now 0 _ rfl
  have c_Yxa0_1 := Yxa0.out.now 1 _ rfl
  have c_Yxa0_2 := Yxa0.out.now 2 _ rfl
  have c_Yxa0_3 := Yxa0.out.now 3 _ rfl
  have c_Yxa0_4 := Yxa0.out.now 4 _ rfl
  have c_Yxa0_5 := Yxa0.out.now 5 _ rfl
  have c_Yxa0_6 := Yxa0.out.now 6 _ rfl
  go_wp2_with fail
  refine (mark_Sparse ha0k4 ha0k6 Oxa04.out.now Oxa06.out.now Oxa04.out.top hap_xa0_0 (by omega) (by omega)).mono ?_; rintro e w9 ⟨rfl, hm0, hm1, hg⟩
  replace FB := Lib.hid (FB.out.far hg (by omega))
  replace Fa04 := Lib.hid (Fa04.out.far hg (by omega))
  replace Fa06 := Lib.hid (Fa06.out.far hg (by omega))
  replace Ba0 := Lib.hid (Ba0.out.far hg (by omega))
  replace Vmr04 := Lib.hid (Vmr04.out.far hg (by omega))
  replace Vmr06 := Lib.hid (Vmr06.out.far hg (by omega))
  replace Xmr0 := Lib.hid (Xmr0.out.far hg (by omega))
  replace Yxa0 := Lib.hid (Yxa0.out.far hg (by omega))
  replace Ogr04 := Lib.hid (Ogr04.out.far hg (by omega))
  replace Ogr06 := Lib.hid (Ogr06.out.far hg (by omega))
  replace Xgr0 := Lib.hid (Xgr0.out.far hg (by omega))
  have z_w9 : w8.heap.size ≤ w9.heap.size := by have hsz := hg.size; first | omega | (simp at hsz; omega)
  replace Oxa04 := Lib.hid (At.mk hm0 (Nat.le_trans Oxa04.out.top hg.size) (Ow.lives _ _ _ _ _ _))
  replace Oxa06 := Lib.hid (At.mk hm1 (Nat.le_trans Oxa06.out.top hg.size) (Ow.lives _ _ _ _ _ _))
  clear c_Yxa0_0 c_Yxa0_1 c_Yxa0_2 c_Yxa0_3 c_Yxa0_4 c_Yxa0_5 c_Yxa0_6
  clear hg hm0 hm1
  clear Oxa04 Oxa06 Yxa0
  have c_Xgr0_0 := Xgr0.out.now 0 _ rfl
  have c_Xgr0_1 := Xgr0.out.now 1 _ rfl
  have c_Xgr0_2 := Xgr0.out.now 2 _ rfl
  have c_Xgr0_3 := Xgr0.out.now 3 _ rfl
  have c_Xgr0_4 := Xgr0.out.now 4 _ rfl
  have c_Xgr0_5 := Xgr0.out.now 5 _ rfl
  have c_Xgr0_6 := Xgr0.out.now 6 _ rfl
  have c_Xmr0_0 := Xmr0.out.now 0 _ rfl
  have c_Xmr0_1 := Xmr0.out.now 1 _ rfl
  have c_Xmr0_2 := Xmr0.out.now 2 _ rfl
  have c_Xmr0_3 := Xmr0.out.now 3 _ rfl
  have c_Xmr0_4 := Xmr0.out.now 4 _ rfl
  have c_Xmr0_5 := Xmr0.out.now 5 _ rfl
  have c_Xmr0_6 := Xmr0.out.now 6 _ rfl
  go_wp2_with fail
  refine (eq_Sparse hr0m4 hr0m6 Ogr04.out.orow Ogr06.out.orow Vmr04.out.row Vmr06.out.row).mono ?_; rintro e w10 ⟨rfl, hb⟩
  replace FB := Lib.hid (FB.out.b hb)
  replace Fa04 := Lib.hid (Fa04.out.b hb)
  replace Fa06 := Lib.hid (Fa06.out.b hb)
  replace Ba0 := Lib.hid (Ba0.out.b hb)
  replace Vmr04 := Lib.hid (Vmr04.out.b hb)
  replace Vmr06 := Lib.hid (Vmr06.out.b hb)
  replace Xmr0 := Lib.hid (Xmr0.out.b hb)
  replace Ogr04 := Lib.hid (Ogr04.out.b hb)
  replace Ogr06 := Lib.hid (Ogr06.out.b hb)
  replace Xgr0 := Lib.hid (Xgr0.out.b hb)
  have z_w10 : w9.heap.size ≤ w10.heap.size := by have hsz := hb.size; first | omega | (simp at hsz; omega)
  clear c_Xgr0_0 c_Xgr0_1 c_Xgr0_2 c_Xgr0_3 c_Xgr0_4 c_Xgr0_5 c_Xgr0_6 c_Xmr0_0 c_Xmr0_1 c_Xmr0_2 c_Xmr0_3 c_Xmr0_4 c_Xmr0_5 c_Xmr0_6
  clear hb
  have c_Xgr0_0 := Xgr0.out.now 0 _ rfl
  have c_Xgr0_1 := Xgr0.out.now 1 _ rfl
  have c_Xgr0_2 := Xgr0.out.now 2 _ rfl
  have c_Xgr0_3 := Xgr0.out.now 3 _ rfl
  have c_Xgr0_4 := Xgr0.out.now 4 _ rfl
  have c_Xgr0_5 := Xgr0.out.now 5 _ rfl
  have c_Xgr0_6 := Xgr0.out.now 6 _ rfl
  go_wp2_with fail
  refine (mark_Sparse hr0m4 hr0m6 Ogr04.out.now Ogr06.out.now Ogr04.out.top hap_g_0 (by omega) (by omega)).mono ?_; rintro e w11 ⟨rfl, hm0, hm1, hg⟩
  replace FB := Lib.hid (FB.out.far hg (by omega))
  replace Fa04 := Lib.hid (Fa04.out.far hg (by omega))
  replace Fa06 := Lib.hid (Fa06.out.far hg (by omega))
  replace Ba0 := Lib.hid (Ba0.out.far hg (by omega))
  replace Vmr04 := Lib.hid (Vmr04.out.far hg (by omega))
  replace Vmr06 := Lib.hid (Vmr06.out.far hg (by omega))
  replace Xmr0 := Lib.hid (Xmr0.out.far hg (by omega))
  replace Xgr0 := Lib.hid (Xgr0.out.far hg (by omega))
  have z_w11 : w10.heap.size ≤ w11.heap.size := by have hsz := hg.size; first | omega | (simp at hsz; omega)
  replace Ogr04 := Lib.hid (At.mk hm0 (Nat.le_trans Ogr04.out.top hg.size) (Ow.lives _ _ _ _ _ _))
  replace Ogr06 := Lib.hid (At.mk hm1 (Nat.le_trans Ogr06.out.top hg.size) (Ow.lives _ _ _ _ _ _))
  clear c_Xgr0_0 c_Xgr0_1 c_Xgr0_2 c_Xgr0_3 c_Xgr0_4 c_Xgr0_5 c_Xgr0_6
  clear hg hm0 hm1
  have c_Xgr0_0 := Xgr0.out.now 0 _ rfl
  have c_Xgr0_1 := Xgr0.out.now 1 _ rfl
  have c_Xgr0_2 := Xgr0.out.now 2 _ rfl
  have c_Xgr0_3 := Xgr0.out.now 3 _ rfl
  have c_Xgr0_4 := Xgr0.out.now 4 _ rfl
  have c_Xgr0_5 := Xgr0.out.now 5 _ rfl
  have c_Xgr0_6 := Xgr0.out.now 6 _ rfl
  go_wp2_with fail
  refine (held_Sparse hr0m4 hr0m6 Ogr04.out.orow Ogr06.out.orow (by omega) (by omega)).mono ?_; rintro e w12 ⟨rfl, hb⟩
  replace FB := Lib.hid (FB.out.b hb)
  replace Fa04 := Lib.hid (Fa04.out.b hb)
  replace Fa06 := Lib.hid (Fa06.out.b hb)
  replace Ba0 := Lib.hid (Ba0.out.b hb)
  replace Vmr04 := Lib.hid (Vmr04.out.b hb)
  replace Vmr06 := Lib.hid (Vmr06.out.b hb)
  replace Xmr0 := Lib.hid (Xmr0.out.b hb)
  replace Ogr04 := Lib.hid (Ogr04.out.b hb)
  replace Ogr06 := Lib.hid (Ogr06.out.b hb)
  replace Xgr0 := Lib.hid (Xgr0.out.b hb)
  have z_w12 : w11.heap.size ≤ w12.heap.size := by have hsz := hb.size; first | omega | (simp at hsz; omega)
  clear c_Xgr0_0 c_Xgr0_1 c_Xgr0_2 c_Xgr0_3 c_Xgr0_4 c_Xgr0_5 c_Xgr0_6
  clear hb
  have c_Ba0_0 := Ba0.out.now 0 _ rfl
  have c_Ba0_1 := Ba0.out.now 1 _ rfl
  have c_Ba0_2 := Ba0.out.now 2 _ rfl
  have c_Ba0_3 := Ba0.out.now 3 _ rfl
  have c_Ba0_4 := Ba0.out.now 4 _ rfl
  have c_Ba0_5 := Ba0.out.now 5 _ rfl
  have c_Ba0_6 := Ba0.out.now 6 _ rfl
  go_wp2_with fail
  refine (to_Sparse ha0k4 ha0k6 Fa04.out.row Fa06.out.row).mono ?_; rintro e w13 ⟨tha0A4, tha0c4, tha0A6, tha0c6, rfl, ho4, ho6, hap_tha0_0, hb⟩
  replace FB := Lib.hid (FB.out.b hb)
  replace Fa04 := Lib.hid (Fa04.out.b hb)
  replace Fa06 := Lib.hid (Fa06.out.b hb)
  replace Ba0 := Lib.hid (Ba0.out.b hb)
  replace Vmr04 := Lib.hid (Vmr04.out.b hb)
  replace Vmr06 := Lib.hid (Vmr06.out.b hb)
  replace Xmr0 := Lib.hid (Xmr0.out.b hb)
  replace Ogr04 := Lib.hid (Ogr04.out.b hb)
  replace Ogr06 := Lib.hid (Ogr06.out.b hb)
  replace Xgr0 := Lib.hid (Xgr0.out.b hb)
  have z_w13 : w12.heap.size ≤ w13.heap.size := by have hsz := hb.size; first | omega | (simp at hsz; omega)
  clear c_Ba0_0 c_Ba0_1 c_Ba0_2 c_Ba0_3 c_Ba0_4 c_Ba0_5 c_Ba0_6
  have Otha04 := Lib.hid (owned (ho4.mono (lo' := w12.heap.size) (Nat.le_refl _) (Nat.le_refl _)))
  have Otha06 := Lib.hid (owned (ho6.mono (lo' := w12.heap.size) (Nat.le_refl _) (Nat.le_refl _)))
  clear hb ho4 ho6
  clear hap_tha0_0
  go_wp2_with fail
  refine (S2.out _ _ _ _ _ Otha04.out.orow Otha06.out.orow).mono ?_; rintro e w14 ⟨hr0A4, hr0c4, hr0A6, hr0c6, rfl, hrr04, hrr06, hap_h_0, hb⟩
  replace FB := Lib.hid (FB.out.b hb)
  replace Fa04 := Lib.hid (Fa04.out.b hb)
  replace Fa06 := Lib.hid (Fa06.out.b hb)
  replace Ba0 := Lib.hid (Ba0.out.b hb)
  replace Vmr04 := Lib.hid (Vmr04.out.b hb)
  replace Vmr06 := Lib.hid (Vmr06.out.b hb)
  replace Xmr0 := Lib.hid (Xmr0.out.b hb)
  replace Ogr04 := Lib.hid (Ogr04.out.b hb)
  replace Ogr06 := Lib.hid (Ogr06.out.b hb)
  replace Xgr0 := Lib.hid (Xgr0.out.b hb)
  replace Otha04 := Lib.hid (Otha04.out.b hb)
  replace Otha06 := Lib.hid (Otha06.out.b hb)
  have z_w14 : w13.heap.size ≤ w14.heap.size := by have hsz := hb.size; first | omega | (simp at hsz; omega)
  have Ohr04 := Lib.hid (owned (hrr04.mono (lo' := w13.heap.size) (Nat.le_refl _) (Nat.le_refl _)))
  have Ohr06 := Lib.hid (owned (hrr06.mono (lo' := w13.heap.size) (Nat.le_refl _) (Nat.le_refl _)))
  clear hb hrr04 hrr06
  clear Otha04 Otha06
  replace FB := Lib.hid (FB.out.alloc (.cells #[.int .i64 r0z0, .int .i64 r0z1, .int .i64 r0z2, .int .i64 r0z3, .slice hr0A4 r0n4 hr0c4, .int .i64 r0z5, .slice hr0A6 r0n6 hr0c6] 29))
  replace Fa04 := Lib.hid (Fa04.out.alloc (.cells #[.int .i64 r0z0, .int .i64 r0z1, .int .i64 r0z2, .int .i64 r0z3, .slice hr0A4 r0n4 hr0c4, .int .i64 r0z5, .slice hr0A6 r0n6 hr0c6] 29))
  replace Fa06 := Lib.hid (Fa06.out.alloc (.cells #[.int .i64 r0z0, .int .i64 r0z1, .int .i64 r0z2, .int .i64 r0z3, .slice hr0A4 r0n4 hr0c4, .int .i64 r0z5, .slice hr0A6 r0n6 hr0c6] 29))
  replace Ba0 := Lib.hid (Ba0.out.alloc (.cells #[.int .i64 r0z0, .int .i64 r0z1, .int .i64 r0z2, .int .i64 r0z3, .slice hr0A4 r0n4 hr0c4, .int .i64 r0z5, .slice hr0A6 r0n6 hr0c6] 29))
  replace Vmr04 := Lib.hid (Vmr04.out.alloc (.cells #[.int .i64 r0z0, .int .i64 r0z1, .int .i64 r0z2, .int .i64 r0z3, .slice hr0A4 r0n4 hr0c4, .int .i64 r0z5, .slice hr0A6 r0n6 hr0c6] 29))
  replace Vmr06 := Lib.hid (Vmr06.out.alloc (.cells #[.int .i64 r0z0, .int .i64 r0z1, .int .i64 r0z2, .int .i64 r0z3, .slice hr0A4 r0n4 hr0c4, .int .i64 r0z5, .slice hr0A6 r0n6 hr0c6] 29))
  replace Xmr0 := Lib.hid (Xmr0.out.alloc (.cells #[.int .i64 r0z0, .int .i64 r0z1, .int .i64 r0z2, .int .i64 r0z3, .slice hr0A4 r0n4 hr0c4, .int .i64 r0z5, .slice hr0A6 r0n6 hr0c6] 29))
  replace Ogr04 := Lib.hid (Ogr04.out.alloc (.cells #[.int .i64 r0z0, .int .i64 r0z1, .int .i64 r0z2, .int .i64 r0z3, .slice hr0A4 r0n4 hr0c4, .int .i64 r0z5, .slice hr0A6 r0n6 hr0c6] 29))
  replace Ogr06 := Lib.hid (Ogr06.out.alloc (.cells #[.int .i64 r0z0, .int .i64 r0z1, .int .i64 r0z2, .int .i64 r0z3, .slice hr0A4 r0n4 hr0c4, .int .i64 r0z5, .slice hr0A6 r0n6 hr0c6] 29))
  replace Xgr0 := Lib.hid (Xgr0.out.alloc (.cells #[.int .i64 r0z0, .int .i64 r0z1, .int .i64 r0z2, .int .i64 r0z3, .slice hr0A4 r0n4 hr0c4, .int .i64 r0z5, .slice hr0A6 r0n6 hr0c6] 29))
  replace Ohr04 := Lib.hid (Ohr04.out.alloc (.cells #[.int .i64 r0z0, .int .i64 r0z1, .int .i64 r0z2, .int .i64 r0z3, .slice hr0A4 r0n4 hr0c4, .int .i64 r0z5, .slice hr0A6 r0n6 hr0c6] 29))
  replace Ohr06 := Lib.hid (Ohr06.out.alloc (.cells #[.int .i64 r0z0, .int .i64 r0z1, .int .i64 r0z2, .int .i64 r0z3, .slice hr0A4 r0n4 hr0c4, .int .i64 r0z5, .slice hr0A6 r0n6 hr0c6] 29))
  have Xhr0 := Lib.hid (boxed w14 #[.int .i64 r0z0, .int .i64 r0z1, .int .i64 r0z2, .int .i64 r0z3, .slice hr0A4 r0n4 hr0c4, .int .i64 r0z5, .slice hr0A6 r0n6 hr0c6] 29)
  have c_Xhr0_0 := Xhr0.out.now 0 _ rfl
  have c_Xhr0_1 := Xhr0.out.now 1 _ rfl
  have c_Xhr0_2 := Xhr0.out.now 2 _ rfl
  have c_Xhr0_3 := Xhr0.out.now 3 _ rfl
  have c_Xhr0_4 := Xhr0.out.now 4 _ rfl
  have c_Xhr0_5 := Xhr0.out.now 5 _ rfl
  have c_Xhr0_6 := Xhr0.out.now 6 _ rfl
  have c_Xmr0_0 := Xmr0.out.now 0 _ rfl
  have c_Xmr0_1 := Xmr0.out.now 1 _ rfl
  have c_Xmr0_2 := Xmr0.out.now 2 _ rfl
  have c_Xmr0_3 := Xmr0.out.now 3 _ rfl
  have c_Xmr0_4 := Xmr0.out.now 4 _ rfl
  have c_Xmr0_5 := Xmr0.out.now 5 _ rfl
  have c_Xmr0_6 := Xmr0.out.now 6 _ rfl
  go_wp2_with fail
  refine (eq_Sparse hr0m4 hr0m6 Ohr04.out.orow Ohr06.out.orow Vmr04.out.row Vmr06.out.row).mono ?_; rintro e w15 ⟨rfl, hb⟩
  replace FB := Lib.hid (FB.out.b hb)
  replace Fa04 := Lib.hid (Fa04.out.b hb)
  replace Fa06 := Lib.hid (Fa06.out.b hb)
  replace Ba0 := Lib.hid (Ba0.out.b hb)
  replace Vmr04 := Lib.hid (Vmr04.out.b hb)
  replace Vmr06 := Lib.hid (Vmr06.out.b hb)
  replace Xmr0 := Lib.hid (Xmr0.out.b hb)
  replace Ogr04 := Lib.hid (Ogr04.out.b hb)
  replace Ogr06 := Lib.hid (Ogr06.out.b hb)
  replace Xgr0 := Lib.hid (Xgr0.out.b hb)
  replace Ohr04 := Lib.hid (Ohr04.out.b hb)
  replace Ohr06 := Lib.hid (Ohr06.out.b hb)
  replace Xhr0 := Lib.hid (Xhr0.out.b hb)
  have z_w15 : w14.heap.size + 1 ≤ w15.heap.size := by have hsz := hb.size; first | omega | (simp at hsz; omega)
  clear c_Xhr0_0 c_Xhr0_1 c_Xhr0_2 c_Xhr0_3 c_Xhr0_4 c_Xhr0_5 c_Xhr0_6 c_Xmr0_0 c_Xmr0_1 c_Xmr0_2 c_Xmr0_3 c_Xmr0_4 c_Xmr0_5 c_Xmr0_6
  clear hb
  have c_Xgr0_0 := Xgr0.out.now 0 _ rfl
  have c_Xgr0_1 := Xgr0.out.now 1 _ rfl
  have c_Xgr0_2 := Xgr0.out.now 2 _ rfl
  have c_Xgr0_3 := Xgr0.out.now 3 _ rfl
  have c_Xgr0_4 := Xgr0.out.now 4 _ rfl
  have c_Xgr0_5 := Xgr0.out.now 5 _ rfl
  have c_Xgr0_6 := Xgr0.out.now 6 _ rfl
  go_wp2_with fail
  refine (held_Sparse hr0m4 hr0m6 Ogr04.out.orow Ogr06.out.orow (by omega) (by omega)).mono ?_; rintro e w16 ⟨rfl, hb⟩
  replace FB := Lib.hid (FB.out.b hb)
  replace Fa04 := Lib.hid (Fa04.out.b hb)
  replace Fa06 := Lib.hid (Fa06.out.b hb)
  replace Ba0 := Lib.hid (Ba0.out.b hb)
  replace Vmr04 := Lib.hid (Vmr04.out.b hb)
  replace Vmr06 := Lib.hid (Vmr06.out.b hb)
  replace Xmr0 := Lib.hid (Xmr0.out.b hb)
  replace Ogr04 := Lib.hid (Ogr04.out.b hb)
  replace Ogr06 := Lib.hid (Ogr06.out.b hb)
  replace Xgr0 := Lib.hid (Xgr0.out.b hb)
  replace Ohr04 := Lib.hid (Ohr04.out.b hb)
  replace Ohr06 := Lib.hid (Ohr06.out.b hb)
  replace Xhr0 := Lib.hid (Xhr0.out.b hb)
  have z_w16 : w15.heap.size ≤ w16.heap.size := by have hsz := hb.size; first | omega | (simp at hsz; omega)
  clear c_Xgr0_0 c_Xgr0_1 c_Xgr0_2 c_Xgr0_3 c_Xgr0_4 c_Xgr0_5 c_Xgr0_6
  clear hb
  go_wp2_with fail
  go_ret
  exact ⟨rfl, FB.out.now⟩

theorem walk_FnExactSliceSparse (w : World) (z0 : Int) (_w0 : (Lit.int .i64 z0).wf = true) (z1 : Int) (_w1 : (Lit.int .i64 z1).wf = true) (z2 : Int) (_w2 : (Lit.int .i64 z2).wf = true) (z3 : Int) (_w3 : (Lit.int .i64 z3).wf = true) (A1 : Option Addr) (n1 c1 : Nat) (X1 : Nat → Int) (m1 : n1 ≤ maxLen) (r1 : IRow w A1 n1 X1) (z4 : Int) (_w4 : (Lit.int .i64 z4).wf = true) (A2 : Option Addr) (n2 c2 : Nat) (X2 : Nat → Int) (m2 : n2 ≤ maxLen) (r2 : IRow w A2 n2 X2) (a : Int) (_wa : (Lit.int .i64 a).wf = true) (u : Int) (_wu : (Lit.int .i64 u).wf = true) :
    Calls Try.prog 13 #[.agg #[.int .i64 z0, .int .i64 z1, .int .i64 z2, .int .i64 z3, .slice A1 n1 c1, .int .i64 z4, .slice A2 n2 c2], .int .i64 a, .int .i64 u] w fun e w' => e = .returned (.bool true) ∧ Below w.heap.size w w' := by
  by_cases hv : SpV z0 z1 z2 z3 n1 X1 z4 n2 X2
  rotate_left
  · exact main_FnExactSliceSparse z0 z1 z2 z3 n1 X1 z4 n2 X2 a u 0 0 0 0 0 (fun _ => 0) 0 0 (fun _ => 0) false A1 c1 A2 c2 w m1 r1 m2 r2 (by omega) (by omega) (fun hs _ _ _ _ _ g1 g2 => (spec_slice_inv _ n1 _ X1 _ n2 _ X2 _ a u (by omega) (by omega) g1 g2 hv).mono SpOwn.post) (fun hs _ _ _ _ _ g1 g2 => impl_slice_inv _ n1 _ X1 _ n2 _ X2 _ a u (by omega) (by omega) g1 g2 hv)
  obtain ⟨c, L, v, f, h⟩ := hv
  by_cases a0 : 0 ≤ a
  rotate_left
  · have hn : ¬ (0 ≤ a ∧ a ≤ u) := fun e => a0 e.1
    have ha : a < 0 := by omega
    exact main_FnExactSliceSparse z0 z1 z2 z3 n1 X1 z4 n2 X2 a u 0 0 0 0 0 (fun _ => 0) 0 0 (fun _ => 0) false A1 c1 A2 c2 w m1 r1 m2 r2 (by omega) (by omega) (fun hs _ _ _ _ _ g1 g2 => (spec_slice_out1 _ n1 _ X1 _ n2 _ X2 _ a u (by omega) (by omega) g1 g2 h hn).mono SpOwn.post) (fun hs _ _ _ _ _ g1 g2 => impl_slice_out0 _ n1 _ X1 _ n2 _ X2 _ a u (by omega) (by omega) g1 g2 h ha)
  by_cases a1 : a ≤ u
  rotate_left
  · have hn : ¬ (0 ≤ a ∧ a ≤ u) := fun e => a1 e.2
    have ha : u < a := by omega
    exact main_FnExactSliceSparse z0 z1 z2 z3 n1 X1 z4 n2 X2 a u 0 0 0 0 0 (fun _ => 0) 0 0 (fun _ => 0) false A1 c1 A2 c2 w m1 r1 m2 r2 (by omega) (by omega) (fun hs _ _ _ _ _ g1 g2 => (spec_slice_out1 _ n1 _ X1 _ n2 _ X2 _ a u (by omega) (by omega) g1 g2 h hn).mono SpOwn.post) (fun hs _ _ _ _ _ g1 g2 => impl_slice_out1 _ n1 _ X1 _ n2 _ X2 _ a u (by omega) (by omega) g1 g2 h a0 ha)
  by_cases hx : (c : Int) < u
  · exact main_FnExactSliceSparse z0 z1 z2 z3 n1 X1 z4 n2 X2 a u 0 0 0 0 0 (fun _ => 0) 0 0 (fun _ => 0) false A1 c1 A2 c2 w m1 r1 m2 r2 (by omega) (by omega) (fun hs _ _ _ _ _ g1 g2 => (spec_slice_out2 _ n1 _ X1 _ n2 _ X2 _ a u (by omega) (by omega) g1 g2 h a0 a1 hx).mono SpOwn.post) (fun hs _ _ _ _ _ g1 g2 => impl_slice_out2 _ n1 _ X1 _ n2 _ X2 _ a u (by omega) (by omega) g1 g2 h a0 a1 hx)
  obtain ⟨a, rfl⟩ := Int.eq_ofNat_of_zero_le a0
  obtain ⟨u, rfl⟩ := Int.eq_ofNat_of_zero_le (show 0 ≤ u by omega)
  obtain ⟨x, hS⟩ := h.num.sub (a := a) (u := u) (by omega) (by omega)
  have b1 := hS.lows
  have b2 := hS.high
  exact main_FnExactSliceSparse z0 z1 z2 z3 n1 X1 z4 n2 X2 a u ((u - a : Nat) : Int) L x (((u - a) * x : Nat) : Int) _ _ ((hzN (u - a) L x : Nat) : Int) _ _ true A1 c1 A2 c2 w m1 r1 m2 r2 (by omega) (by omega) (fun hs _ _ _ _ _ g1 g2 => (spec_slice_yes _ n1 _ X1 _ n2 _ X2 _ a u (u - a) x _ _ _ (by omega) (by omega) g1 g2 h (by omega) (by omega) rfl rfl hS rfl rfl).mono SpOwn.post) (fun hs _ _ _ _ _ g1 g2 => impl_slice_yes _ n1 _ X1 _ n2 _ X2 _ a u (u - a) x _ _ _ (by omega) (by omega) g1 g2 h (by omega) (by omega) rfl rfl hS rfl rfl)
end Go.Proofs.Ytdkkflejpcgipaa
