/- The law of PackDirectory, walked: what both sides answer comes in as hypotheses. -/
import Derived.Test.YtmampgkhobbdcaaObjRank
import Derived.Test.YtmampgkhobbdcaaPackC
import Derived.Deep.RegionHeld3
namespace Go.Proofs.Ytmampgkhobbdcaa
open Go.RowKit

set_option maxRecDepth 100000 in
set_option maxHeartbeats 8000000 in
theorem main_FnExactPackDirectory (a0z0 : Int) (a0n1 : Nat) (a0X1 : Nat → Int) (a0n2 : Nat) (a0X2 : Nat → Int) (a0n3 : Nat) (a0X3 : Nat → Int) (r0z0 : Int) (r0n1 : Nat) (r0X1 : Nat → Int) (r1z0 : Bool) (a0A1 : Option Addr) (a0c1 : Nat) (a0A2 : Option Addr) (a0c2 : Nat) (a0A3 : Option Addr) (a0c3 : Nat) (w : World) (ha0m1 : a0n1 ≤ maxLen) (ha0r1 : GRow w a0A1 a0n1 (intV a0X1)) (ha0m2 : a0n2 ≤ maxLen) (ha0r2 : GRow w a0A2 a0n2 (intV a0X2)) (ha0m3 : a0n3 ≤ maxLen) (ha0r3 : GRow w a0A3 a0n3 (intV a0X3)) (hr0m1 : r0n1 ≤ 1048576)
    (s1 : a0n1 + a0n2 + a0n3 ≤ 1048576 → ∀ (ua0A1 : Option Addr) (ua0c1 : Nat) (ua0A2 : Option Addr) (ua0c2 : Nat) (ua0A3 : Option Addr) (ua0c3 : Nat) (w : World), GRow w ua0A1 a0n1 (intV a0X1) → GRow w ua0A2 a0n2 (intV a0X2) → GRow w ua0A3 a0n3 (intV a0X3) → Calls Try.prog 47 #[.agg #[.int .i64 a0z0, .slice ua0A1 a0n1 ua0c1, .slice ua0A2 a0n2 ua0c2, .slice ua0A3 a0n3 ua0c3]] w fun e w' => ∃ vr0A1 vr0c1, e = .returned (.tuple #[.agg #[.int .i64 r0z0, .slice vr0A1 r0n1 vr0c1], .bool r1z0]) ∧ GRow w' vr0A1 r0n1 (intV r0X1) ∧ Below w.heap.size w w')
    (s2 : a0n1 + a0n2 + a0n3 ≤ 1048576 → ∀ (ua0A1 : Option Addr) (ua0c1 : Nat) (ua0A2 : Option Addr) (ua0c2 : Nat) (ua0A3 : Option Addr) (ua0c3 : Nat) (w : World), GRow w ua0A1 a0n1 (intV a0X1) → GRow w ua0A2 a0n2 (intV a0X2) → GRow w ua0A3 a0n3 (intV a0X3) → Calls Try.prog 48 #[.agg #[.int .i64 a0z0, .slice ua0A1 a0n1 ua0c1, .slice ua0A2 a0n2 ua0c2, .slice ua0A3 a0n3 ua0c3]] w fun e w' => ∃ vr0A1 vr0c1, e = .returned (.tuple #[.agg #[.int .i64 r0z0, .slice vr0A1 r0n1 vr0c1], .bool r1z0]) ∧ Ow w.heap.size w'.heap.size 3 vr0A1 r0n1 (intV r0X1) w' ∧ Below w.heap.size w w') :
    Calls Try.prog 14 #[.agg #[.int .i64 a0z0, .slice a0A1 a0n1 a0c1, .slice a0A2 a0n2 a0c2, .slice a0A3 a0n3 a0c3]] w fun e w' => e = .returned (.bool true) ∧ Below w.heap.size w w' := by
  have S1 := Lib.hid s1
  have S2 := Lib.hid s2
  clear s1 s2
  have FB := Lib.hid ((At.start w).alloc (.cells #[.int .i64 a0z0, .slice a0A1 a0n1 a0c1, .slice a0A2 a0n2 a0c2, .slice a0A3 a0n3 a0c3] 38))
  have Fa01 := Lib.hid ((rd_of_row ha0r1).alloc (.cells #[.int .i64 a0z0, .slice a0A1 a0n1 a0c1, .slice a0A2 a0n2 a0c2, .slice a0A3 a0n3 a0c3] 38))
  have Fa02 := Lib.hid ((rd_of_row ha0r2).alloc (.cells #[.int .i64 a0z0, .slice a0A1 a0n1 a0c1, .slice a0A2 a0n2 a0c2, .slice a0A3 a0n3 a0c3] 38))
  have Fa03 := Lib.hid ((rd_of_row ha0r3).alloc (.cells #[.int .i64 a0z0, .slice a0A1 a0n1 a0c1, .slice a0A2 a0n2 a0c2, .slice a0A3 a0n3 a0c3] 38))
  have Ba0 := Lib.hid (boxed w #[.int .i64 a0z0, .slice a0A1 a0n1 a0c1, .slice a0A2 a0n2 a0c2, .slice a0A3 a0n3 a0c3] 38)
  clear ha0r1 ha0r2 ha0r3
  go_enter Try.func14, Try.ntmps14
  go_wp2_with fail
  refine (sz_Ranked ha0m1 ha0m2 ha0m3 (by omega) (by omega)).mono ?_; rintro e w1 ⟨rfl, hb⟩
  replace FB := Lib.hid (FB.out.b hb)
  replace Fa01 := Lib.hid (Fa01.out.b hb)
  replace Fa02 := Lib.hid (Fa02.out.b hb)
  replace Fa03 := Lib.hid (Fa03.out.b hb)
  replace Ba0 := Lib.hid (Ba0.out.b hb)
  have z_w1 : w.heap.size + 1 ≤ w1.heap.size := by have hsz := hb.size; first | omega | (simp at hsz; omega)
  clear hb
  by_cases hZ_a0 : ((a0n1 + a0n2 + a0n3 : Nat) : Int) ≤ (1048576 : Int)
  rotate_left
  · rw [szv_no hZ_a0]
    go_wp2_with fail
    go_ret
    exact ⟨rfl, FB.out.now⟩
  rw [szv_yes hZ_a0]
  have hL_a0 : ¬ (((1048576 : Int) - ((a0n1 + a0n2 + a0n3 : Nat) : Int)) < 0) := by omega
  have c_Ba0_0 := Ba0.out.now 0 _ rfl
  have c_Ba0_1 := Ba0.out.now 1 _ rfl
  have c_Ba0_2 := Ba0.out.now 2 _ rfl
  have c_Ba0_3 := Ba0.out.now 3 _ rfl
  replace S1 := Lib.hid (S1.out (by omega))
  replace S2 := Lib.hid (S2.out (by omega))
  have ha0k1 : a0n1 ≤ 1048576 := by omega
  have ha0k2 : a0n2 ≤ 1048576 := by omega
  have ha0k3 : a0n3 ≤ 1048576 := by omega
  go_wp2_with fail
  refine (to_Ranked ha0k1 ha0k2 ha0k3 Fa01.out.row Fa02.out.row Fa03.out.row).mono ?_; rintro e w2 ⟨tma0A1, tma0c1, tma0A2, tma0c2, tma0A3, tma0c3, rfl, ho1, ho2, ho3, hap_tma0_0, hap_tma0_1, hap_tma0_2, hb⟩
  replace FB := Lib.hid (FB.out.b hb)
  replace Fa01 := Lib.hid (Fa01.out.b hb)
  replace Fa02 := Lib.hid (Fa02.out.b hb)
  replace Fa03 := Lib.hid (Fa03.out.b hb)
  replace Ba0 := Lib.hid (Ba0.out.b hb)
  have z_w2 : w1.heap.size ≤ w2.heap.size := by have hsz := hb.size; first | omega | (simp at hsz; omega)
  clear c_Ba0_0 c_Ba0_1 c_Ba0_2 c_Ba0_3
  have Otma01 := Lib.hid (owned (ho1.mono (lo' := w1.heap.size) (Nat.le_refl _) (Nat.le_refl _)))
  have Otma02 := Lib.hid (owned (ho2.mono (lo' := w1.heap.size) (Nat.le_refl _) (Nat.le_refl _)))
  have Otma03 := Lib.hid (owned (ho3.mono (lo' := w1.heap.size) (Nat.le_refl _) (Nat.le_refl _)))
  clear hb ho1 ho2 ho3
  clear hap_tma0_0 hap_tma0_1 hap_tma0_2
  go_wp2_with fail
  refine (S1.out _ _ _ _ _ _ _ Otma01.out.orow Otma02.out.orow Otma03.out.orow).mono ?_; rintro e w3 ⟨mr0A1, mr0c1, rfl, hrr01, hb⟩
  replace FB := Lib.hid (FB.out.b hb)
  replace Fa01 := Lib.hid (Fa01.out.b hb)
  replace Fa02 := Lib.hid (Fa02.out.b hb)
  replace Fa03 := Lib.hid (Fa03.out.b hb)
  replace Ba0 := Lib.hid (Ba0.out.b hb)
  replace Otma01 := Lib.hid (Otma01.out.b hb)
  replace Otma02 := Lib.hid (Otma02.out.b hb)
  replace Otma03 := Lib.hid (Otma03.out.b hb)
  have z_w3 : w2.heap.size ≤ w3.heap.size := by have hsz := hb.size; first | omega | (simp at hsz; omega)
  have Vmr01 := Lib.hid (rd_of_row hrr01)
  clear hb hrr01
  clear Otma01 Otma02 Otma03
  replace FB := Lib.hid (FB.out.alloc (.cells #[.int .i64 r0z0, .slice mr0A1 r0n1 mr0c1] 26))
  replace Fa01 := Lib.hid (Fa01.out.alloc (.cells #[.int .i64 r0z0, .slice mr0A1 r0n1 mr0c1] 26))
  replace Fa02 := Lib.hid (Fa02.out.alloc (.cells #[.int .i64 r0z0, .slice mr0A1 r0n1 mr0c1] 26))
  replace Fa03 := Lib.hid (Fa03.out.alloc (.cells #[.int .i64 r0z0, .slice mr0A1 r0n1 mr0c1] 26))
  replace Ba0 := Lib.hid (Ba0.out.alloc (.cells #[.int .i64 r0z0, .slice mr0A1 r0n1 mr0c1] 26))
  replace Vmr01 := Lib.hid (Vmr01.out.alloc (.cells #[.int .i64 r0z0, .slice mr0A1 r0n1 mr0c1] 26))
  have Xmr0 := Lib.hid (boxed w3 #[.int .i64 r0z0, .slice mr0A1 r0n1 mr0c1] 26)
  have c_Ba0_0 := Ba0.out.now 0 _ rfl
  have c_Ba0_1 := Ba0.out.now 1 _ rfl
  have c_Ba0_2 := Ba0.out.now 2 _ rfl
  have c_Ba0_3 := Ba0.out.now 3 _ rfl
  go_wp2_with fail
  refine (to_Ranked ha0k1 ha0k2 ha0k3 Fa01.out.row Fa02.out.row Fa03.out.row).mono ?_; rintro e w4 ⟨xa0A1, xa0c1, xa0A2, xa0c2, xa0A3, xa0c3, rfl, ho1, ho2, ho3, hap_xa0_0, hap_xa0_1, hap_xa0_2, hb⟩
  replace FB := Lib.hid (FB.out.b hb)
  replace Fa01 := Lib.hid (Fa01.out.b hb)
  replace Fa02 := Lib.hid (Fa02.out.b hb)
  replace Fa03 := Lib.hid (Fa03.out.b hb)
  replace Ba0 := Lib.hid (Ba0.out.b hb)
  replace Vmr01 := Lib.hid (Vmr01.out.b hb)
  replace Xmr0 := Lib.hid (Xmr0.out.b hb)
  have z_w4 : w3.heap.size + 1 ≤ w4.heap.size := by have hsz := hb.size; first | omega | (simp at hsz; omega)
  clear c_Ba0_0 c_Ba0_1 c_Ba0_2 c_Ba0_3
  have Oxa01 := Lib.hid (owned (ho1.mono (lo' := w3.heap.size + 1) (by simp) (Nat.le_refl _)))
  have Oxa02 := Lib.hid (owned (ho2.mono (lo' := w3.heap.size + 1) (by simp) (Nat.le_refl _)))
  have Oxa03 := Lib.hid (owned (ho3.mono (lo' := w3.heap.size + 1) (by simp) (Nat.le_refl _)))
  clear hb ho1 ho2 ho3
  replace FB := Lib.hid (FB.out.alloc (.cells #[.int .i64 a0z0, .slice xa0A1 a0n1 xa0c1, .slice xa0A2 a0n2 xa0c2, .slice xa0A3 a0n3 xa0c3] 28))
  replace Fa01 := Lib.hid (Fa01.out.alloc (.cells #[.int .i64 a0z0, .slice xa0A1 a0n1 xa0c1, .slice xa0A2 a0n2 xa0c2, .slice xa0A3 a0n3 xa0c3] 28))
  replace Fa02 := Lib.hid (Fa02.out.alloc (.cells #[.int .i64 a0z0, .slice xa0A1 a0n1 xa0c1, .slice xa0A2 a0n2 xa0c2, .slice xa0A3 a0n3 xa0c3] 28))
  replace Fa03 := Lib.hid (Fa03.out.alloc (.cells #[.int .i64 a0z0, .slice xa0A1 a0n1 xa0c1, .slice xa0A2 a0n2 xa0c2, .slice xa0A3 a0n3 xa0c3] 28))
  replace Ba0 := Lib.hid (Ba0.out.alloc (.cells #[.int .i64 a0z0, .slice xa0A1 a0n1 xa0c1, .slice xa0A2 a0n2 xa0c2, .slice xa0A3 a0n3 xa0c3] 28))
  replace Vmr01 := Lib.hid (Vmr01.out.alloc (.cells #[.int .i64 a0z0, .slice xa0A1 a0n1 xa0c1, .slice xa0A2 a0n2 xa0c2, .slice xa0A3 a0n3 xa0c3] 28))
  replace Xmr0 := Lib.hid (Xmr0.out.alloc (.cells #[.int .i64 a0z0, .slice xa0A1 a0n1 xa0c1, .slice xa0A2 a0n2 xa0c2, .slice xa0A3 a0n3 xa0c3] 28))
  replace Oxa01 := Lib.hid (Oxa01.out.alloc (.cells #[.int .i64 a0z0, .slice xa0A1 a0n1 xa0c1, .slice xa0A2 a0n2 xa0c2, .slice xa0A3 a0n3 xa0c3] 28))
  replace Oxa02 := Lib.hid (Oxa02.out.alloc (.cells #[.int .i64 a0z0, .slice xa0A1 a0n1 xa0c1, .slice xa0A2 a0n2 xa0c2, .slice xa0A3 a0n3 xa0c3] 28))
  replace Oxa03 := Lib.hid (Oxa03.out.alloc (.cells #[.int .i64 a0z0, .slice xa0A1 a0n1 xa0c1, .slice xa0A2 a0n2 xa0c2, .slice xa0A3 a0n3 xa0c3] 28))
  have Yxa0 := Lib.hid (boxed w4 #[.int .i64 a0z0, .slice xa0A1 a0n1 xa0c1, .slice xa0A2 a0n2 xa0c2, .slice xa0A3 a0n3 xa0c3] 28)
  have c_Yxa0_0 := Yxa0.out.now 0 _ rfl
  have c_Yxa0_1 := Yxa0.out.now 1 _ rfl
  have c_Yxa0_2 := Yxa0.out.now 2 _ rfl
  have c_Yxa0_3 := Yxa0.out.now 3 _ rfl
  go_wp2_with fail
  refine (S2.out _ _ _ _ _ _ _ Oxa01.out.orow Oxa02.out.orow Oxa03.out.orow).mono ?_; rintro e w5 ⟨gr0A1, gr0c1, rfl, hrr01, hb⟩
  replace FB := Lib.hid (FB.out.b hb)
  replace Fa01 := Lib.hid (Fa01.out.b hb)
  replace Fa02 := Lib.hid (Fa02.out.b hb)
  replace Fa03 := Lib.hid (Fa03.out.b hb)
  replace Ba0 := Lib.hid (Ba0.out.b hb)
  replace Vmr01 := Lib.hid (Vmr01.out.b hb)
  replace Xmr0 := Lib.hid (Xmr0.out.b hb)
  replace Oxa01 := Lib.hid (Oxa01.out.b hb)
  replace Oxa02 := Lib.hid (Oxa02.out.b hb)
  replace Oxa03 := Lib.hid (Oxa03.out.b hb)
  replace Yxa0 := Lib.hid (Yxa0.out.b hb)
  have z_w5 : w4.heap.size + 1 ≤ w5.heap.size := by have hsz := hb.size; first | omega | (simp at hsz; omega)
  clear c_Yxa0_0 c_Yxa0_1 c_Yxa0_2 c_Yxa0_3
  have Ogr01 := Lib.hid (owned (hrr01.mono (lo' := w4.heap.size + 1) (by simp) (Nat.le_refl _)))
  clear hb hrr01
  replace FB := Lib.hid (FB.out.alloc (.cells #[.int .i64 r0z0, .slice gr0A1 r0n1 gr0c1] 26))
  replace Fa01 := Lib.hid (Fa01.out.alloc (.cells #[.int .i64 r0z0, .slice gr0A1 r0n1 gr0c1] 26))
  replace Fa02 := Lib.hid (Fa02.out.alloc (.cells #[.int .i64 r0z0, .slice gr0A1 r0n1 gr0c1] 26))
  replace Fa03 := Lib.hid (Fa03.out.alloc (.cells #[.int .i64 r0z0, .slice gr0A1 r0n1 gr0c1] 26))
  replace Ba0 := Lib.hid (Ba0.out.alloc (.cells #[.int .i64 r0z0, .slice gr0A1 r0n1 gr0c1] 26))
  replace Vmr01 := Lib.hid (Vmr01.out.alloc (.cells #[.int .i64 r0z0, .slice gr0A1 r0n1 gr0c1] 26))
  replace Xmr0 := Lib.hid (Xmr0.out.alloc (.cells #[.int .i64 r0z0, .slice gr0A1 r0n1 gr0c1] 26))
  replace Oxa01 := Lib.hid (Oxa01.out.alloc (.cells #[.int .i64 r0z0, .slice gr0A1 r0n1 gr0c1] 26))
  replace Oxa02 := Lib.hid (Oxa02.out.alloc (.cells #[.int .i64 r0z0, .slice gr0A1 r0n1 gr0c1] 26))
  replace Oxa03 := Lib.hid (Oxa03.out.alloc (.cells #[.int .i64 r0z0, .slice gr0A1 r0n1 gr0c1] 26))
  replace Yxa0 := Lib.hid (Yxa0.out.alloc (.cells #[.int .i64 r0z0, .slice gr0A1 r0n1 gr0c1] 26))
  replace Ogr01 := Lib.hid (Ogr01.out.alloc (.cells #[.int .i64 r0z0, .slice gr0A1 r0n1 gr0c1] 26))
  have Xgr0 := Lib.hid (boxed w5 #[.int .i64 r0z0, .slice gr0A1 r0n1 gr0c1] 26)
  have c_Xgr0_0 := Xgr0.out.now 0 _ rfl
  have c_Xgr0_1 := Xgr0.out.now 1 _ rfl
  have c_Xmr0_0 := Xmr0.out.now 0 _ rfl
  have c_Xmr0_1 := Xmr0.out.now 1 _ rfl
  go_wp2_with fail
  refine (eq_Bits hr0m1 Ogr01.out.orow Vmr01.out.row).mono ?_; rintro e w6 ⟨rfl, hb⟩
  replace FB := Lib.hid (FB.out.b hb)
  replace Fa01 := Lib.hid (Fa01.out.b hb)
  replace Fa02 := Lib.hid (Fa02.out.b hb)
  replace Fa03 := Lib.hid (Fa03.out.b hb)
  replace Ba0 := Lib.hid (Ba0.out.b hb)
  replace Vmr01 := Lib.hid (Vmr01.out.b hb)
  replace Xmr0 := Lib.hid (Xmr0.out.b hb)
  replace Oxa01 := Lib.hid (Oxa01.out.b hb)
  replace Oxa02 := Lib.hid (Oxa02.out.b hb)
  replace Oxa03 := Lib.hid (Oxa03.out.b hb)
  replace Yxa0 := Lib.hid (Yxa0.out.b hb)
  replace Ogr01 := Lib.hid (Ogr01.out.b hb)
  replace Xgr0 := Lib.hid (Xgr0.out.b hb)
  have z_w6 : w5.heap.size + 1 ≤ w6.heap.size := by have hsz := hb.size; first | omega | (simp at hsz; omega)
  clear c_Xgr0_0 c_Xgr0_1 c_Xmr0_0 c_Xmr0_1
  clear hb
  have c_Ba0_0 := Ba0.out.now 0 _ rfl
  have c_Ba0_1 := Ba0.out.now 1 _ rfl
  have c_Ba0_2 := Ba0.out.now 2 _ rfl
  have c_Ba0_3 := Ba0.out.now 3 _ rfl
  have c_Yxa0_0 := Yxa0.out.now 0 _ rfl
  have c_Yxa0_1 := Yxa0.out.now 1 _ rfl
  have c_Yxa0_2 := Yxa0.out.now 2 _ rfl
  have c_Yxa0_3 := Yxa0.out.now 3 _ rfl
  go_wp2_with fail
  go_region_held3 (fun w' => w'.cell? ⟨w.heap.size, 0, none⟩ = some (.int .i64 a0z0) ∧ w'.cell? ⟨w.heap.size, 1, none⟩ = some (.slice a0A1 a0n1 a0c1) ∧ w'.cell? ⟨w.heap.size, 2, none⟩ = some (.slice a0A2 a0n2 a0c2) ∧ w'.cell? ⟨w.heap.size, 3, none⟩ = some (.slice a0A3 a0n3 a0c3) ∧ w'.cell? ⟨w4.heap.size, 0, none⟩ = some (.int .i64 a0z0) ∧ w'.cell? ⟨w4.heap.size, 1, none⟩ = some (.slice xa0A1 a0n1 xa0c1) ∧ w'.cell? ⟨w4.heap.size, 2, none⟩ = some (.slice xa0A2 a0n2 xa0c2) ∧ w'.cell? ⟨w4.heap.size, 3, none⟩ = some (.slice xa0A3 a0n3 xa0c3))
    (first | (go_keep; done) | exact ⟨(((Ba0.out.b hq1).b hq2)).now 0 _ rfl, (((Ba0.out.b hq1).b hq2)).now 1 _ rfl, (((Ba0.out.b hq1).b hq2)).now 2 _ rfl, (((Ba0.out.b hq1).b hq2)).now 3 _ rfl, (((Yxa0.out.b hq1).b hq2)).now 0 _ rfl, (((Yxa0.out.b hq1).b hq2)).now 1 _ rfl, (((Yxa0.out.b hq1).b hq2)).now 2 _ rfl, (((Yxa0.out.b hq1).b hq2)).now 3 _ rfl⟩ | exact ⟨((Ba0.out.b hq1)).now 0 _ rfl, ((Ba0.out.b hq1)).now 1 _ rfl, ((Ba0.out.b hq1)).now 2 _ rfl, ((Ba0.out.b hq1)).now 3 _ rfl, ((Yxa0.out.b hq1)).now 0 _ rfl, ((Yxa0.out.b hq1)).now 1 _ rfl, ((Yxa0.out.b hq1)).now 2 _ rfl, ((Yxa0.out.b hq1)).now 3 _ rfl⟩)
    (first
      | (have hqz := hq1; clear hqz; go_at_call 20; (first | refine (eq_Ranked ha0k1 ha0k2 ha0k3 ((Oxa01.out.b hq1)).orow ((Oxa02.out.b hq1)).orow ((Oxa03.out.b hq1)).orow (owned ho1).orow (owned ho2).orow (owned ho3).orow).mono ?_); rintro e w8 ⟨rfl, hq2⟩)
      | (go_at_call 27; (first | refine (to_Ranked ha0k1 ha0k2 ha0k3 (Fa01.out).row (Fa02.out).row (Fa03.out).row).mono ?_ | refine (to_Ranked ha0k1 ha0k2 ha0k3 (GRow.drew (Fa01.out).row) (GRow.drew (Fa02.out).row) (GRow.drew (Fa03.out).row)).mono ?_); rintro e w7 ⟨ya0A1, ya0c1, ya0A2, ya0c2, ya0A3, ya0c3, rfl, ho1, ho2, ho3, hz0, hz1, hz2, hq1'⟩; have hq1 := of_drew hq1'; clear hq1'))
  replace FB := Lib.hid (FB.out.b hq1)
  replace Fa01 := Lib.hid (Fa01.out.b hq1)
  replace Fa02 := Lib.hid (Fa02.out.b hq1)
  replace Fa03 := Lib.hid (Fa03.out.b hq1)
  replace Ba0 := Lib.hid (Ba0.out.b hq1)
  replace Vmr01 := Lib.hid (Vmr01.out.b hq1)
  replace Xmr0 := Lib.hid (Xmr0.out.b hq1)
  replace Oxa01 := Lib.hid (Oxa01.out.b hq1)
  replace Oxa02 := Lib.hid (Oxa02.out.b hq1)
  replace Oxa03 := Lib.hid (Oxa03.out.b hq1)
  replace Yxa0 := Lib.hid (Yxa0.out.b hq1)
  replace Ogr01 := Lib.hid (Ogr01.out.b hq1)
  replace Xgr0 := Lib.hid (Xgr0.out.b hq1)
  replace FB := Lib.hid (FB.out.b hq2)
  replace Fa01 := Lib.hid (Fa01.out.b hq2)
  replace Fa02 := Lib.hid (Fa02.out.b hq2)
  replace Fa03 := Lib.hid (Fa03.out.b hq2)
  replace Ba0 := Lib.hid (Ba0.out.b hq2)
  replace Vmr01 := Lib.hid (Vmr01.out.b hq2)
  replace Xmr0 := Lib.hid (Xmr0.out.b hq2)
  replace Oxa01 := Lib.hid (Oxa01.out.b hq2)
  replace Oxa02 := Lib.hid (Oxa02.out.b hq2)
  replace Oxa03 := Lib.hid (Oxa03.out.b hq2)
  replace Yxa0 := Lib.hid (Yxa0.out.b hq2)
  replace Ogr01 := Lib.hid (Ogr01.out.b hq2)
  replace Xgr0 := Lib.hid (Xgr0.out.b hq2)
  have z_w7 : w6.heap.size ≤ w7.heap.size := by have hsz := hq1.size; first | omega | (simp at hsz; omega)
  have z_w8 : w7.heap.size ≤ w8.heap.size := hq2.size
  clear c_Ba0_0 c_Ba0_1 c_Ba0_2 c_Ba0_3 c_Yxa0_0 c_Yxa0_1 c_Yxa0_2 c_Yxa0_3
  clear hq1 hq2 ho1 ho2 ho3 hz0 hz1 hz2
  have c_Yxa0_0 := Yxa0.out.now 0 _ rfl
  have c_Yxa0_1 := Yxa0.out.now 1 _ rfl
  have c_Yxa0_2 := Yxa0.out.now 2 _ rfl
  have c_Yxa0_3 := Yxa0.out.now 3 _ rfl
  go_wp2_with fail
  refine (mark_Ranked ha0k1 ha0k2 ha0k3 Oxa01.out.now Oxa02.out.now Oxa03.out.now Oxa01.out.top hap_xa0_0 hap_xa0_1 hap_xa0_2 (by omega) (by omega)).mono ?_; rintro e w9 ⟨rfl, hm0, hm1, hm2, hg⟩
  replace FB := Lib.hid (FB.out.far hg (by omega))
  replace Fa01 := Lib.hid (Fa01.out.far hg (by omega))
  replace Fa02 := Lib.hid (Fa02.out.far hg (by omega))
  replace Fa03 := Lib.hid (Fa03.out.far hg (by omega))
  replace Ba0 := Lib.hid (Ba0.out.far hg (by omega))
  replace Vmr01 := Lib.hid (Vmr01.out.far hg (by omega))
  replace Xmr0 := Lib.hid (Xmr0.out.far hg (by omega))
  replace Yxa0 := Lib.hid (Yxa0.out.far hg (by omega))
  replace Ogr01 := Lib.hid (Ogr01.out.far hg (by omega))
  replace Xgr0 := Lib.hid (Xgr0.out.far hg (by omega))
  have z_w9 : w8.heap.size ≤ w9.heap.size := by have hsz := hg.size; first | omega | (simp at hsz; omega)
  replace Oxa01 := Lib.hid (At.mk hm0 (Nat.le_trans Oxa01.out.top hg.size) (Ow.lives _ _ _ _ _ _))
  replace Oxa02 := Lib.hid (At.mk hm1 (Nat.le_trans Oxa02.out.top hg.size) (Ow.lives _ _ _ _ _ _))
  replace Oxa03 := Lib.hid (At.mk hm2 (Nat.le_trans Oxa03.out.top hg.size) (Ow.lives _ _ _ _ _ _))
  clear c_Yxa0_0 c_Yxa0_1 c_Yxa0_2 c_Yxa0_3
  clear hg hm0 hm1 hm2
  clear Oxa01 Oxa02 Oxa03 Yxa0
  have c_Xgr0_0 := Xgr0.out.now 0 _ rfl
  have c_Xgr0_1 := Xgr0.out.now 1 _ rfl
  have c_Xmr0_0 := Xmr0.out.now 0 _ rfl
  have c_Xmr0_1 := Xmr0.out.now 1 _ rfl
  go_wp2_with fail
  refine (eq_Bits hr0m1 Ogr01.out.orow Vmr01.out.row).mono ?_; rintro e w10 ⟨rfl, hb⟩
  replace FB := Lib.hid (FB.out.b hb)
  replace Fa01 := Lib.hid (Fa01.out.b hb)
  replace Fa02 := Lib.hid (Fa02.out.b hb)
  replace Fa03 := Lib.hid (Fa03.out.b hb)
  replace Ba0 := Lib.hid (Ba0.out.b hb)
  replace Vmr01 := Lib.hid (Vmr01.out.b hb)
  replace Xmr0 := Lib.hid (Xmr0.out.b hb)
  replace Ogr01 := Lib.hid (Ogr01.out.b hb)
  replace Xgr0 := Lib.hid (Xgr0.out.b hb)
  have z_w10 : w9.heap.size ≤ w10.heap.size := by have hsz := hb.size; first | omega | (simp at hsz; omega)
  clear c_Xgr0_0 c_Xgr0_1 c_Xmr0_0 c_Xmr0_1
  clear hb
  have c_Xgr0_0 := Xgr0.out.now 0 _ rfl
  have c_Xgr0_1 := Xgr0.out.now 1 _ rfl
  go_wp2_with fail
  refine (mark_Bits hr0m1 Ogr01.out.now Ogr01.out.top (by omega) (by omega)).mono ?_; rintro e w11 ⟨rfl, hm0, hg⟩
  replace FB := Lib.hid (FB.out.far hg (by omega))
  replace Fa01 := Lib.hid (Fa01.out.far hg (by omega))
  replace Fa02 := Lib.hid (Fa02.out.far hg (by omega))
  replace Fa03 := Lib.hid (Fa03.out.far hg (by omega))
  replace Ba0 := Lib.hid (Ba0.out.far hg (by omega))
  replace Vmr01 := Lib.hid (Vmr01.out.far hg (by omega))
  replace Xmr0 := Lib.hid (Xmr0.out.far hg (by omega))
  replace Xgr0 := Lib.hid (Xgr0.out.far hg (by omega))
  have z_w11 : w10.heap.size ≤ w11.heap.size := by have hsz := hg.size; first | omega | (simp at hsz; omega)
  replace Ogr01 := Lib.hid (At.mk hm0 (Nat.le_trans Ogr01.out.top hg.size) (Ow.lives _ _ _ _ _ _))
  clear c_Xgr0_0 c_Xgr0_1
  clear hg hm0
  have c_Xgr0_0 := Xgr0.out.now 0 _ rfl
  have c_Xgr0_1 := Xgr0.out.now 1 _ rfl
  go_wp2_with fail
  refine (held_Bits hr0m1 Ogr01.out.orow (by omega) (by omega)).mono ?_; rintro e w12 ⟨rfl, hb⟩
  replace FB := Lib.hid (FB.out.b hb)
  replace Fa01 := Lib.hid (Fa01.out.b hb)
  replace Fa02 := Lib.hid (Fa02.out.b hb)
  replace Fa03 := Lib.hid (Fa03.out.b hb)
  replace Ba0 := Lib.hid (Ba0.out.b hb)
  replace Vmr01 := Lib.hid (Vmr01.out.b hb)
  replace Xmr0 := Lib.hid (Xmr0.out.b hb)
  replace Ogr01 := Lib.hid (Ogr01.out.b hb)
  replace Xgr0 := Lib.hid (Xgr0.out.b hb)
  have z_w12 : w11.heap.size ≤ w12.heap.size := by have hsz := hb.size; first | omega | (simp at hsz; omega)
  clear c_Xgr0_0 c_Xgr0_1
  clear hb
  have c_Ba0_0 := Ba0.out.now 0 _ rfl
  have c_Ba0_1 := Ba0.out.now 1 _ rfl
  have c_Ba0_2 := Ba0.out.now 2 _ rfl
  have c_Ba0_3 := Ba0.out.now 3 _ rfl
  go_wp2_with fail
  refine (to_Ranked ha0k1 ha0k2 ha0k3 Fa01.out.row Fa02.out.row Fa03.out.row).mono ?_; rintro e w13 ⟨tha0A1, tha0c1, tha0A2, tha0c2, tha0A3, tha0c3, rfl, ho1, ho2, ho3, hap_tha0_0, hap_tha0_1, hap_tha0_2, hb⟩
  replace FB := Lib.hid (FB.out.b hb)
  replace Fa01 := Lib.hid (Fa01.out.b hb)
  replace Fa02 := Lib.hid (Fa02.out.b hb)
  replace Fa03 := Lib.hid (Fa03.out.b hb)
  replace Ba0 := Lib.hid (Ba0.out.b hb)
  replace Vmr01 := Lib.hid (Vmr01.out.b hb)
  replace Xmr0 := Lib.hid (Xmr0.out.b hb)
  replace Ogr01 := Lib.hid (Ogr01.out.b hb)
  replace Xgr0 := Lib.hid (Xgr0.out.b hb)
  have z_w13 : w12.heap.size ≤ w13.heap.size := by have hsz := hb.size; first | omega | (simp at hsz; omega)
  clear c_Ba0_0 c_Ba0_1 c_Ba0_2 c_Ba0_3
  have Otha01 := Lib.hid (owned (ho1.mono (lo' := w12.heap.size) (Nat.le_refl _) (Nat.le_refl _)))
  have Otha02 := Lib.hid (owned (ho2.mono (lo' := w12.heap.size) (Nat.le_refl _) (Nat.le_refl _)))
  have Otha03 := Lib.hid (owned (ho3.mono (lo' := w12.heap.size) (Nat.le_refl _) (Nat.le_refl _)))
  clear hb ho1 ho2 ho3
  clear hap_tha0_0 hap_tha0_1 hap_tha0_2
  go_wp2_with fail
  refine (S2.out _ _ _ _ _ _ _ Otha01.out.orow Otha02.out.orow Otha03.out.orow).mono ?_; rintro e w14 ⟨hr0A1, hr0c1, rfl, hrr01, hb⟩
  replace FB := Lib.hid (FB.out.b hb)
  replace Fa01 := Lib.hid (Fa01.out.b hb)
  replace Fa02 := Lib.hid (Fa02.out.b hb)
  replace Fa03 := Lib.hid (Fa03.out.b hb)
  replace Ba0 := Lib.hid (Ba0.out.b hb)
  replace Vmr01 := Lib.hid (Vmr01.out.b hb)
  replace Xmr0 := Lib.hid (Xmr0.out.b hb)
  replace Ogr01 := Lib.hid (Ogr01.out.b hb)
  replace Xgr0 := Lib.hid (Xgr0.out.b hb)
  replace Otha01 := Lib.hid (Otha01.out.b hb)
  replace Otha02 := Lib.hid (Otha02.out.b hb)
  replace Otha03 := Lib.hid (Otha03.out.b hb)
  have z_w14 : w13.heap.size ≤ w14.heap.size := by have hsz := hb.size; first | omega | (simp at hsz; omega)
  have Ohr01 := Lib.hid (owned (hrr01.mono (lo' := w13.heap.size) (Nat.le_refl _) (Nat.le_refl _)))
  clear hb hrr01
  clear Otha01 Otha02 Otha03
  replace FB := Lib.hid (FB.out.alloc (.cells #[.int .i64 r0z0, .slice hr0A1 r0n1 hr0c1] 26))
  replace Fa01 := Lib.hid (Fa01.out.alloc (.cells #[.int .i64 r0z0, .slice hr0A1 r0n1 hr0c1] 26))
  replace Fa02 := Lib.hid (Fa02.out.alloc (.cells #[.int .i64 r0z0, .slice hr0A1 r0n1 hr0c1] 26))
  replace Fa03 := Lib.hid (Fa03.out.alloc (.cells #[.int .i64 r0z0, .slice hr0A1 r0n1 hr0c1] 26))
  replace Ba0 := Lib.hid (Ba0.out.alloc (.cells #[.int .i64 r0z0, .slice hr0A1 r0n1 hr0c1] 26))
  replace Vmr01 := Lib.hid (Vmr01.out.alloc (.cells #[.int .i64 r0z0, .slice hr0A1 r0n1 hr0c1] 26))
  replace Xmr0 := Lib.hid (Xmr0.out.alloc (.cells #[.int .i64 r0z0, .slice hr0A1 r0n1 hr0c1] 26))
  replace Ogr01 := Lib.hid (Ogr01.out.alloc (.cells #[.int .i64 r0z0, .slice hr0A1 r0n1 hr0c1] 26))
  replace Xgr0 := Lib.hid (Xgr0.out.alloc (.cells #[.int .i64 r0z0, .slice hr0A1 r0n1 hr0c1] 26))
  replace Ohr01 := Lib.hid (Ohr01.out.alloc (.cells #[.int .i64 r0z0, .slice hr0A1 r0n1 hr0c1] 26))
  have Xhr0 := Lib.hid (boxed w14 #[.int .i64 r0z0, .slice hr0A1 r0n1 hr0c1] 26)
  have c_Xhr0_0 := Xhr0.out.now 0 _ rfl
  have c_Xhr0_1 := Xhr0.out.now 1 _ rfl
  have c_Xmr0_0 := Xmr0.out.now 0 _ rfl
  have c_Xmr0_1 := Xmr0.out.now 1 _ rfl
  go_wp2_with fail
  refine (eq_Bits hr0m1 Ohr01.out.orow Vmr01.out.row).mono ?_; rintro e w15 ⟨rfl, hb⟩
  replace FB := Lib.hid (FB.out.b hb)
  replace Fa01 := Lib.hid (Fa01.out.b hb)
  replace Fa02 := Lib.hid (Fa02.out.b hb)
  replace Fa03 := Lib.hid (Fa03.out.b hb)
  replace Ba0 := Lib.hid (Ba0.out.b hb)
  replace Vmr01 := Lib.hid (Vmr01.out.b hb)
  replace Xmr0 := Lib.hid (Xmr0.out.b hb)
  replace Ogr01 := Lib.hid (Ogr01.out.b hb)
  replace Xgr0 := Lib.hid (Xgr0.out.b hb)
  replace Ohr01 := Lib.hid (Ohr01.out.b hb)
  replace Xhr0 := Lib.hid (Xhr0.out.b hb)
  have z_w15 : w14.heap.size + 1 ≤ w15.heap.size := by have hsz := hb.size; first | omega | (simp at hsz; omega)
  clear c_Xhr0_0 c_Xhr0_1 c_Xmr0_0 c_Xmr0_1
  clear hb
  have c_Xgr0_0 := Xgr0.out.now 0 _ rfl
  have c_Xgr0_1 := Xgr0.out.now 1 _ rfl
  go_wp2_with fail
  refine (held_Bits hr0m1 Ogr01.out.orow (by omega) (by omega)).mono ?_; rintro e w16 ⟨rfl, hb⟩
  replace FB := Lib.hid (FB.out.b hb)
  replace Fa01 := Lib.hid (Fa01.out.b hb)
  replace Fa02 := Lib.hid (Fa02.out.b hb)
  replace Fa03 := Lib.hid (Fa03.out.b hb)
  replace Ba0 := Lib.hid (Ba0.out.b hb)
  replace Vmr01 := Lib.hid (Vmr01.out.b hb)
  replace Xmr0 := Lib.hid (Xmr0.out.b hb)
  replace Ogr01 := Lib.hid (Ogr01.out.b hb)
  replace Xgr0 := Lib.hid (Xgr0.out.b hb)
  replace Ohr01 := Lib.hid (Ohr01.out.b hb)
  replace Xhr0 := Lib.hid (Xhr0.out.b hb)
  have z_w16 : w15.heap.size ≤ w16.heap.size := by have hsz := hb.size; first | omega | (simp at hsz; omega)
  clear c_Xgr0_0 c_Xgr0_1
  clear hb
  go_wp2_with fail
  go_ret
  exact ⟨rfl, FB.out.now⟩

theorem OwnIs.row {z : Int} {m : Nat} {Y : Nat → Int} {b : Bool} {w : World} (e : Ending) (w' : World) (h : OwnIs z m Y b w e w') :
    ∃ A c, e = .returned (.tuple #[.agg #[.int .i64 z, .slice A m c], .bool b]) ∧ GRow w' A m (intV Y) ∧ Below w.heap.size w w' := by
  obtain ⟨A, c, he, hv, hb⟩ := h
  exact ⟨A, c, he, grow_of hv.row, hb⟩
theorem walk_FnExactPackDirectory (w : World) (z : Int) (_wz : (Lit.int .i64 z).wf = true) (A1 : Option Addr) (n c1 : Nat) (X : Nat → Int) (m1 : n ≤ maxLen) (y1 : IRow w A1 n X) (A2 : Option Addr) (s c2 : Nat) (Y : Nat → Int) (m2 : s ≤ maxLen) (y2 : IRow w A2 s Y) (A3 : Option Addr) (m c3 : Nat) (Z : Nat → Int) (m3 : m ≤ maxLen) (y3 : IRow w A3 m Z) :
    Calls Try.prog 14 #[.agg #[.int .i64 z, .slice A1 n c1, .slice A2 s c2, .slice A3 m c3]] w fun e w' => e = .returned (.bool true) ∧ Below w.heap.size w w' := by
  by_cases hk : RankOk z n X s Y m Z
  · obtain ⟨z, rfl, hz1, hnz, hsz, hmn⟩ := hk.size
    exact main_FnExactPackDirectory z n X s Y m Z (13 * s + 6 * m : Nat) ((13 * s + 6 * m + 15) / 16) (packX (wdR X) s m) true A1 c1 A2 c2 A3 c3 w m1 y1 m2 y2 m3 y3 (by omega)
      (fun hs _ _ _ _ _ _ _ g1 g2 g3 => (spec_pack_yes _ n _ X _ s _ Y _ m _ Z _ z _ _ (rkr_of hs g1 g2 g3) hk rfl rfl).mono OwnIs.row)
      (fun hs _ _ _ _ _ _ _ g1 g2 g3 => (impl_pack_yes z _ _ _ n _ X _ s _ Y _ m _ Z _ (rkr_of hs g1 g2 g3) hk rfl rfl).mono OwnIs.post)
  · exact main_FnExactPackDirectory z n X s Y m Z 0 0 (fun _ => 0) false A1 c1 A2 c2 A3 c3 w m1 y1 m2 y2 m3 y3 (by omega)
      (fun hs _ _ _ _ _ _ _ g1 g2 g3 => (spec_pack_no z _ n _ X _ s _ Y _ m _ Z _ (rkr_of hs g1 g2 g3) hk).mono OwnIs.row)
      (fun hs _ _ _ _ _ _ _ g1 g2 g3 => (impl_pack_no z _ n _ X _ s _ Y _ m _ Z _ (rkr_of hs g1 g2 g3) hk).mono OwnIs.post)
end Go.Proofs.Ytmampgkhobbdcaa
