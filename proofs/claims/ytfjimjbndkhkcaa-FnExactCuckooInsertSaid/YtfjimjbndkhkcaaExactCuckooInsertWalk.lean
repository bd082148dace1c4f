/- The law of CuckooInsert, walked: what both sides answer comes in as hypotheses. -/
import Derived.Test.YtfjimjbndkhkcaaObjCu
import Derived.Test.YtfjimjbndkhkcaaCuXi
import Derived.Deep.RegionHeld3
namespace Go.Proofs.Ytfjimjbndkhkcaa
open Go.RowKit

set_option maxRecDepth 100000 in
set_option maxHeartbeats 8000000 in
theorem main_FnExactCuckooInsert (a0z0 : Int) (a0n1 : Nat) (a0X1 : Nat → ByteArray) (a0n2 : Nat) (a0X2 : Nat → ByteArray) (a1z0 : ByteArray) (a2z0 : Int) (r0z0 : Int) (r0n1 : Nat) (r0X1 : Nat → ByteArray) (r0n2 : Nat) (r0X2 : Nat → ByteArray) (r1z0 : Int) (r2z0 : Bool) (a0A1 : Option Addr) (a0c1 : Nat) (a0A2 : Option Addr) (a0c2 : Nat) (w : World) (ha0m1 : a0n1 ≤ maxLen) (ha0r1 : GRow w a0A1 a0n1 (strV a0X1)) (ha0s1 : ∀ i, i < a0n1 → (a0X1 i).size ≤ maxLen) (ha0m2 : a0n2 ≤ maxLen) (ha0r2 : GRow w a0A2 a0n2 (strV a0X2)) (ha0s2 : ∀ i, i < a0n2 → (a0X2 i).size ≤ maxLen) (_ha1s0 : a1z0.size ≤ maxLen) (hr0m1 : r0n1 ≤ 1048576) (hr0m2 : r0n2 ≤ 1048576)
    (s1 : a0n1 + a0n2 + (sizeS a0X1 a0n1) + (sizeS a0X2 a0n2) ≤ 1048576 → a1z0.size ≤ 1048576 → ∀ (ua0A1 : Option Addr) (ua0c1 : Nat) (ua0A2 : Option Addr) (ua0c2 : Nat) (w : World), GRow w ua0A1 a0n1 (strV a0X1) → GRow w ua0A2 a0n2 (strV a0X2) → Calls Try.prog 45 #[.agg #[.int .i64 a0z0, .slice ua0A1 a0n1 ua0c1, .slice ua0A2 a0n2 ua0c2], .string a1z0, .int .i64 a2z0] w fun e w' => ∃ vr0A1 vr0c1 vr0A2 vr0c2, e = .returned (.tuple #[.agg #[.int .i64 r0z0, .slice vr0A1 r0n1 vr0c1, .slice vr0A2 r0n2 vr0c2], .int .i64 r1z0, .bool r2z0]) ∧ GRow w' vr0A1 r0n1 (strV r0X1) ∧ GRow w' vr0A2 r0n2 (strV r0X2) ∧ Below w.heap.size w w')
    (s2 : a0n1 + a0n2 + (sizeS a0X1 a0n1) + (sizeS a0X2 a0n2) ≤ 1048576 → a1z0.size ≤ 1048576 → ∀ (ua0A1 : Option Addr) (ua0c1 : Nat) (ua0A2 : Option Addr) (ua0c2 : Nat) (w : World), GRow w ua0A1 a0n1 (strV a0X1) → GRow w ua0A2 a0n2 (strV a0X2) → Calls Try.prog 46 #[.agg #[.int .i64 a0z0, .slice ua0A1 a0n1 ua0c1, .slice ua0A2 a0n2 ua0c2], .string a1z0, .int .i64 a2z0] w fun e w' => ∃ vr0A1 vr0c1 vr0A2 vr0c2, e = .returned (.tuple #[.agg #[.int .i64 r0z0, .slice vr0A1 r0n1 vr0c1, .slice vr0A2 r0n2 vr0c2], .int .i64 r1z0, .bool r2z0]) ∧ Ow w.heap.size w'.heap.size 9 vr0A1 r0n1 (strV r0X1) w' ∧ Ow w.heap.size w'.heap.size 9 vr0A2 r0n2 (strV r0X2) w' ∧ Apart r0n1 vr0A1 r0n2 vr0A2 ∧ Below w.heap.size w w') :
    Calls Try.prog 12 #[.agg #[.int .i64 a0z0, .slice a0A1 a0n1 a0c1, .slice a0A2 a0n2 a0c2], .string a1z0, .int .i64 a2z0] w fun e w' => e = .returned (.bool true) ∧ Below w.heap.size w w' := by
  have S1 := Lib.hid s1
  have S2 := Lib.hid s2
  clear s1 s2
  have FB := Lib.hid ((At.start w).alloc (.cells #[.int .i64 a0z0, .slice a0A1 a0n1 a0c1, .slice a0A2 a0n2 a0c2] 42))
  have Fa01 := Lib.hid ((rd_of_row ha0r1).alloc (.cells #[.int .i64 a0z0, .slice a0A1 a0n1 a0c1, .slice a0A2 a0n2 a0c2] 42))
  have Fa02 := Lib.hid ((rd_of_row ha0r2).alloc (.cells #[.int .i64 a0z0, .slice a0A1 a0n1 a0c1, .slice a0A2 a0n2 a0c2] 42))
  have Ba0 := Lib.hid (boxed w #[.int .i64 a0z0, .slice a0A1 a0n1 a0c1, .slice a0A2 a0n2 a0c2] 42)
  clear ha0r1 ha0r2
  by_cases hlong_a1 : (1048576 : Int) < (a1z0.size : Int)
  · go_enter Try.func12, Try.ntmps12
    go_wp2_with fail
    go_ret
    exact ⟨rfl, FB.out.now⟩
  go_enter Try.func12, Try.ntmps12
  go_wp2_with fail
  refine (sz_Cuckoo ha0m1 ha0m2 ha0s1 Fa01.out.row ha0s2 Fa02.out.row (by omega) (by omega)).mono ?_; rintro e w1 ⟨rfl, hb⟩
  replace FB := Lib.hid (FB.out.b hb)
  replace Fa01 := Lib.hid (Fa01.out.b hb)
  replace Fa02 := Lib.hid (Fa02.out.b hb)
  replace Ba0 := Lib.hid (Ba0.out.b hb)
  have z_w1 : w.heap.size + 1 ≤ w1.heap.size := by have hsz := hb.size; first | omega | (simp at hsz; omega)
  clear hb
  by_cases hZ_a0 : ((a0n1 + a0n2 + (sizeS a0X1 a0n1) + (sizeS a0X2 a0n2) : Nat) : Int) ≤ (1048576 : Int)
  rotate_left
  · rw [szv_no hZ_a0]
    go_wp2_with fail
    go_ret
    exact ⟨rfl, FB.out.now⟩
  rw [szv_yes hZ_a0]
  have hL_a0 : ¬ (((1048576 : Int) - (((a0n1 : Nat) : Int) + ((a0n2 : Nat) : Int) + (((sizeS a0X1 a0n1) : Nat) : Int) + (((sizeS a0X2 a0n2) : Nat) : Int))) < 0) := by omega
  have c_Ba0_0 := Ba0.out.now 0 _ rfl
  have c_Ba0_1 := Ba0.out.now 1 _ rfl
  have c_Ba0_2 := Ba0.out.now 2 _ rfl
  replace S1 := Lib.hid (S1.out (by omega) (by omega))
  replace S2 := Lib.hid (S2.out (by omega) (by omega))
  have ha0k1 : a0n1 ≤ 1048576 := by omega
  have ha0k2 : a0n2 ≤ 1048576 := by omega
  go_wp2_with fail
  refine (to_Cuckoo ha0k1 ha0k2 Fa01.out.row Fa02.out.row).mono ?_; rintro e w2 ⟨tma0A1, tma0c1, tma0A2, tma0c2, rfl, ho1, ho2, hap_tma0_0, hb⟩
  replace FB := Lib.hid (FB.out.b hb)
  replace Fa01 := Lib.hid (Fa01.out.b hb)
  replace Fa02 := Lib.hid (Fa02.out.b hb)
  replace Ba0 := Lib.hid (Ba0.out.b hb)
  have z_w2 : w1.heap.size ≤ w2.heap.size := by have hsz := hb.size; first | omega | (simp at hsz; omega)
  clear c_Ba0_0 c_Ba0_1 c_Ba0_2
  have Otma01 := Lib.hid (owned (ho1.mono (lo' := w1.heap.size) (Nat.le_refl _) (Nat.le_refl _)))
  have Otma02 := Lib.hid (owned (ho2.mono (lo' := w1.heap.size) (Nat.le_refl _) (Nat.le_refl _)))
  clear hb ho1 ho2
  clear hap_tma0_0
  go_wp2_with fail
  refine (S1.out _ _ _ _ _ Otma01.out.orow Otma02.out.orow).mono ?_; rintro e w3 ⟨mr0A1, mr0c1, mr0A2, mr0c2, rfl, hrr01, hrr02, hb⟩
  replace FB := Lib.hid (FB.out.b hb)
  replace Fa01 := Lib.hid (Fa01.out.b hb)
  replace Fa02 := Lib.hid (Fa02.out.b hb)
  replace Ba0 := Lib.hid (Ba0.out.b hb)
  replace Otma01 := Lib.hid (Otma01.out.b hb)
  replace Otma02 := Lib.hid (Otma02.out.b hb)
  have z_w3 : w2.heap.size ≤ w3.heap.size := by have hsz := hb.size; first | omega | (simp at hsz; omega)
  have Vmr01 := Lib.hid (rd_of_row hrr01)
  have Vmr02 := Lib.hid (rd_of_row hrr02)
  clear hb hrr01 hrr02
  clear Otma01 Otma02
  replace FB := Lib.hid (FB.out.alloc (.cells #[.int .i64 r0z0, .slice mr0A1 r0n1 mr0c1, .slice mr0A2 r0n2 mr0c2] 36))
  replace Fa01 := Lib.hid (Fa01.out.alloc (.cells #[.int .i64 r0z0, .slice mr0A1 r0n1 mr0c1, .slice mr0A2 r0n2 mr0c2] 36))
  replace Fa02 := Lib.hid (Fa02.out.alloc (.cells #[.int .i64 r0z0, .slice mr0A1 r0n1 mr0c1, .slice mr0A2 r0n2 mr0c2] 36))
  replace Ba0 := Lib.hid (Ba0.out.alloc (.cells #[.int .i64 r0z0, .slice mr0A1 r0n1 mr0c1, .slice mr0A2 r0n2 mr0c2] 36))
  replace Vmr01 := Lib.hid (Vmr01.out.alloc (.cells #[.int .i64 r0z0, .slice mr0A1 r0n1 mr0c1, .slice mr0A2 r0n2 mr0c2] 36))
  replace Vmr02 := Lib.hid (Vmr02.out.alloc (.cells #[.int .i64 r0z0, .slice mr0A1 r0n1 mr0c1, .slice mr0A2 r0n2 mr0c2] 36))
  have Xmr0 := Lib.hid (boxed w3 #[.int .i64 r0z0, .slice mr0A1 r0n1 mr0c1, .slice mr0A2 r0n2 mr0c2] 36)
  have c_Ba0_0 := Ba0.out.now 0 _ rfl
  have c_Ba0_1 := Ba0.out.now 1 _ rfl
  have c_Ba0_2 := Ba0.out.now 2 _ rfl
  go_wp2_with fail
  refine (to_Cuckoo ha0k1 ha0k2 Fa01.out.row Fa02.out.row).mono ?_; rintro e w4 ⟨xa0A1, xa0c1, xa0A2, xa0c2, rfl, ho1, ho2, hap_xa0_0, hb⟩
  replace FB := Lib.hid (FB.out.b hb)
  replace Fa01 := Lib.hid (Fa01.out.b hb)
  replace Fa02 := Lib.hid (Fa02.out.b hb)
  replace Ba0 := Lib.hid (Ba0.out.b hb)
  replace Vmr01 := Lib.hid (Vmr01.out.b hb)
  replace Vmr02 := Lib.hid (Vmr02.out.b hb)
  replace Xmr0 := Lib.hid (Xmr0.out.b hb)
  have z_w4 : w3.heap.size + 1 ≤ w4.heap.size := by have hsz := hb.size; first | omega | (simp at hsz; omega)
  clear c_Ba0_0 c_Ba0_1 c_Ba0_2
  have Oxa01 := Lib.hid (owned (ho1.mono (lo' := w3.heap.size + 1) (by simp) (Nat.le_refl _)))
  have Oxa02 := Lib.hid (owned (ho2.mono (lo' := w3.heap.size + 1) (by simp) (Nat.le_refl _)))
  clear hb ho1 ho2
  replace FB := Lib.hid (FB.out.alloc (.cells #[.int .i64 a0z0, .slice xa0A1 a0n1 xa0c1, .slice xa0A2 a0n2 xa0c2] 36))
  replace Fa01 := Lib.hid (Fa01.out.alloc (.cells #[.int .i64 a0z0, .slice xa0A1 a0n1 xa0c1, .slice xa0A2 a0n2 xa0c2] 36))
  replace Fa02 := Lib.hid (Fa02.out.alloc (.cells #[.int .i64 a0z0, .slice xa0A1 a0n1 xa0c1, .slice xa0A2 a0n2 xa0c2] 36))
  replace Ba0 := Lib.hid (Ba0.out.alloc (.cells #[.int .i64 a0z0, .slice xa0A1 a0n1 xa0c1, .slice xa0A2 a0n2 xa0c2] 36))
  replace Vmr01 := Lib.hid (Vmr01.out.alloc (.cells #[.int .i64 a0z0, .slice xa0A1 a0n1 xa0c1, .slice xa0A2 a0n2 xa0c2] 36))
  replace Vmr02 := Lib.hid (Vmr02.out.alloc (.cells #[.int .i64 a0z0, .slice xa0A1 a0n1 xa0c1, .slice xa0A2 a0n2 xa0c2] 36))
  replace Xmr0 := Lib.hid (Xmr0.out.alloc (.cells #[.int .i64 a0z0, .slice xa0A1 a0n1 xa0c1, .slice xa0A2 a0n2 xa0c2] 36))
  replace Oxa01 := Lib.hid (Oxa01.out.alloc (.cells #[.int .i64 a0z0, .slice xa0A1 a0n1 xa0c1, .slice xa0A2 a0n2 xa0c2] 36))
  replace Oxa02 := Lib.hid (Oxa02.out.alloc (.cells #[.int .i64 a0z0, .slice xa0A1 a0n1 xa0c1, .slice xa0A2 a0n2 xa0c2] 36))
  have Yxa0 := Lib.hid (boxed w4 #[.int .i64 a0z0, .slice xa0A1 a0n1 xa0c1, .slice xa0A2 a0n2 xa0c2] 36)
  have c_Yxa0_0 := Yxa0.out.now 0 _ rfl
  have c_Yxa0_1 := Yxa0.out.now 1 _ rfl
  have c_Yxa0_2 := Yxa0.out.now 2 _ rfl
  go_wp2_with fail
  refine (S2.out _ _ _ _ _ Oxa01.out.orow Oxa02.out.orow).mono ?_; rintro e w5 ⟨gr0A1, gr0c1, gr0A2, gr0c2, rfl, hrr01, hrr02, hap_g_0, hb⟩
  replace FB := Lib.hid (FB.out.b hb)
  replace Fa01 := Lib.hid (Fa01.out.b hb)
  replace Fa02 := Lib.hid (Fa02.out.b hb)
  replace Ba0 := Lib.hid (Ba0.out.b hb)
  replace Vmr01 := Lib.hid (Vmr01.out.b hb)
  replace Vmr02 := Lib.hid (Vmr02.out.b hb)
  replace Xmr0 := Lib.hid (Xmr0.out.b hb)
  replace Oxa01 := Lib.hid (Oxa01.out.b hb)
  replace Oxa02 := Lib.hid (Oxa02.out.b hb)
  replace Yxa0 := Lib.hid (Yxa0.out.b hb)
  have z_w5 : w4.heap.size + 1 ≤ w5.heap.size := by have hsz := hb.size; first | omega | (simp at hsz; omega)
  clear c_Yxa0_0 c_Yxa0_1 c_Yxa0_2
  have Ogr01 := Lib.hid (owned (hrr01.mono (lo' := w4.heap.size + 1) (by simp) (Nat.le_refl _)))
  have Ogr02 := Lib.hid (owned (hrr02.mono (lo' := w4.heap.size + 1) (by simp) (Nat.le_refl _)))
  clear hb hrr01 hrr02
  replace FB := Lib.hid (FB.out.alloc (.cells #[.int .i64 r0z0, .slice gr0A1 r0n1 gr0c1, .slice gr0A2 r0n2 gr0c2] 36))
  replace Fa01 := Lib.hid (Fa01.out.alloc (.cells #[.int .i64 r0z0, .slice gr0A1 r0n1 gr0c1, .slice gr0A2 r0n2 gr0c2] 36))
  replace Fa02 := Lib.hid (Fa02.out.alloc (.cells #[.int .i64 r0z0, .slice gr0A1 r0n1 gr0c1, .slice gr0A2 r0n2 gr0c2] 36))
  replace Ba0 := Lib.hid (Ba0.out.alloc (.cells #[.int .i64 r0z0, .slice gr0A1 r0n1 gr0c1, .slice gr0A2 r0n2 gr0c2] 36))
  replace Vmr01 := Lib.hid (Vmr01.out.alloc (.cells #[.int .i64 r0z0, .slice gr0A1 r0n1 gr0c1, .slice gr0A2 r0n2 gr0c2] 36))
  replace Vmr02 := Lib.hid (Vmr02.out.alloc (.cells #[.int .i64 r0z0, .slice gr0A1 r0n1 gr0c1, .slice gr0A2 r0n2 gr0c2] 36))
  replace Xmr0 := Lib.hid (Xmr0.out.alloc (.cells #[.int .i64 r0z0, .slice gr0A1 r0n1 gr0c1, .slice gr0A2 r0n2 gr0c2] 36))
  replace Oxa01 := Lib.hid (Oxa01.out.alloc (.cells #[.int .i64 r0z0, .slice gr0A1 r0n1 gr0c1, .slice gr0A2 r0n2 gr0c2] 36))
  replace Oxa02 := Lib.hid (Oxa02.out.alloc (.cells #[.int .i64 r0z0, .slice gr0A1 r0n1 gr0c1, .slice gr0A2 r0n2 gr0c2] 36))
  replace Yxa0 := Lib.hid (Yxa0.out.alloc (.cells #[.int .i64 r0z0, .slice gr0A1 r0n1 gr0c1, .slice gr0A2 r0n2 gr0c2] 36))
  replace Ogr01 := Lib.hid (Ogr01.out.alloc (.cells #[.int .i64 r0z0, .slice gr0A1 r0n1 gr0c1, .slice gr0A2 r0n2 gr0c2] 36))
  replace Ogr02 := Lib.hid (Ogr02.out.alloc (.cells #[.int .i64 r0z0, .slice gr0A1 r0n1 gr0c1, .slice gr0A2 r0n2 gr0c2] 36))
  have Xgr0 := Lib.hid (boxed w5 #[.int .i64 r0z0, .slice gr0A1 r0n1 gr0c1, .slice gr0A2 r0n2 gr0c2] 36)
  have c_Xgr0_0 := Xgr0.out.now 0 _ rfl
  have c_Xgr0_1 := Xgr0.out.now 1 _ rfl
  have c_Xgr0_2 := Xgr0.out.now 2 _ rfl
  have c_Xmr0_0 := Xmr0.out.now 0 _ rfl
  have c_Xmr0_1 := Xmr0.out.now 1 _ rfl
  have c_Xmr0_2 := Xmr0.out.now 2 _ rfl
  go_wp2_with fail
  refine (eq_Cuckoo hr0m1 hr0m2 Ogr01.out.orow Ogr02.out.orow Vmr01.out.row Vmr02.out.row).mono ?_; rintro e w6 ⟨rfl, hb⟩
  replace FB := Lib.hid (FB.out.b hb)
  replace Fa01 := Lib.hid (Fa01.out.b hb)
  replace Fa02 := Lib.hid (Fa02.out.b hb)
  replace Ba0 := Lib.hid (Ba0.out.b hb)
  replace Vmr01 := Lib.hid (Vmr01.out.b hb)
  replace Vmr02 := Lib.hid (Vmr02.out.b hb)
  replace Xmr0 := Lib.hid (Xmr0.out.b hb)
  replace Oxa01 := Lib.hid (Oxa01.out.b hb)
  replace Oxa02 := Lib.hid (Oxa02.out.b hb)
  replace Yxa0 := Lib.hid (Yxa0.out.b hb)
  replace Ogr01 := Lib.hid (Ogr01.out.b hb)
  replace Ogr02 := Lib.hid (Ogr02.out.b hb)
  replace Xgr0 := Lib.hid (Xgr0.out.b hb)
  have z_w6 : w5.heap.size + 1 ≤ w6.heap.size := by have hsz := hb.size; first | omega | (simp at hsz; omega)
  clear c_Xgr0_0 c_Xgr0_1 c_Xgr0_2 c_Xmr0_0 c_Xmr0_1 c_Xmr0_2
  clear hb
  have c_Ba0_0 := Ba0.out.now 0 _ rfl
  have c_Ba0_1 := Ba0.out.now 1 _ rfl
  have c_Ba0_2 := Ba0.out.now 2 _ rfl
  have c_Yxa0_0 := Yxa0.out.now 0 _ rfl
  have c_Yxa0_1 := Yxa0.out.now 1 _ rfl
  have c_Yxa0_2 := Yxa0.out.now 2 _ rfl
  go_wp2_with fail
  go_region_held3 (fun w' => w'.cell? ⟨w.heap.size, 0, none⟩ = some (.int .i64 a0z0) ∧ w'.cell? ⟨w.heap.size, 1, none⟩ = some (.slice a0A1 a0n1 a0c1) ∧ w'.cell? ⟨w.heap.size, 2, none⟩ = some (.slice a0A2 a0n2 a0c2) ∧ w'.cell? ⟨w4.heap.size, 0, none⟩ = some (.int .i64 a0z0) ∧ w'.cell? ⟨w4.heap.size, 1, none⟩ = some (.slice xa0A1 a0n1 xa0c1) ∧ w'.cell? ⟨w4.heap.size, 2, none⟩ = some (.slice xa0A2 a0n2 xa0c2))
    (first | (go_keep; done) | exact ⟨(((Ba0.out.b hq1).b hq2)).now 0 _ rfl, (((Ba0.out.b hq1).b hq2)).now 1 _ rfl, (((Ba0.out.b hq1).b hq2)).now 2 _ rfl, (((Yxa0.out.b hq1).b hq2)).now 0 _ rfl, (((Yxa0.out.b hq1).b hq2)).now 1 _ rfl, (((Yxa0.out.b hq1).b hq2)).now 2 _ rfl⟩ | exact ⟨((Ba0.out.b hq1)).now 0 _ rfl, ((Ba0.out.b hq1)).now 1 _ rfl, ((Ba0.out.b hq1)).now 2 _ rfl, ((Yxa0.out.b hq1)).now 0 _ rfl, ((Yxa0.out.b hq1)).now 1 _ rfl, ((Yxa0.out.b hq1)).now 2 _ rfl⟩)
    (first
      | (have hqz := hq1; clear hqz; go_at_call 28; (first | refine (eq_Cuckoo ha0k1 ha0k2 ((Oxa01.out.b hq1)).orow ((Oxa02.out.b hq1)).orow (owned ho1).orow (owned ho2).orow).mono ?_); rintro e w8 ⟨rfl, hq2⟩)
      | (go_at_call 33; (first | refine (to_Cuckoo ha0k1 ha0k2 (Fa01.out).row (Fa02.out).row).mono ?_ | refine (to_Cuckoo ha0k1 ha0k2 (GRow.drew (Fa01.out).row) (GRow.drew (Fa02.out).row)).mono ?_); rintro e w7 ⟨ya0A1, ya0c1, ya0A2, ya0c2, rfl, ho1, ho2, hz0, hq1'⟩; have hq1 := of_drew hq1'; clear hq1'))
  replace FB := Lib.hid (FB.out.b hq1)
  replace Fa01 := Lib.hid (Fa01.out.b hq1)
  replace Fa02 := Lib.hid (Fa02.out.b hq1)
  replace Ba0 := Lib.hid (Ba0.out.b hq1)
  replace Vmr01 := Lib.hid (Vmr01.out.b hq1)
  replace Vmr02 := Lib.hid (Vmr02.out.b hq1)
  replace Xmr0 := Lib.hid (Xmr0.out.b hq1)
  replace Oxa01 := Lib.hid (Oxa01.out.b hq1)
  replace Oxa02 := Lib.hid (Oxa02.out.b hq1)
  replace Yxa0 := Lib.hid (Yxa0.out.b hq1)
  replace Ogr01 := Lib.hid (Ogr01.out.b hq1)
  replace Ogr02 := Lib.hid (Ogr02.out.b hq1)
  replace Xgr0 := Lib.hid (Xgr0.out.b hq1)
  replace FB := Lib.hid (FB.out.b hq2)
  replace Fa01 := Lib.hid (Fa01.out.b hq2)
  replace Fa02 := Lib.hid (Fa02.out.b hq2)
  replace Ba0 := Lib.hid (Ba0.out.b hq2)
  replace Vmr01 := Lib.hid (Vmr01.out.b hq2)
  replace Vmr02 := Lib.hid (Vmr02.out.b hq2)
  replace Xmr0 := Lib.hid (Xmr0.out.b hq2)
  replace Oxa01 := Lib.hid (Oxa01.out.b hq2)
  replace Oxa02 := Lib.hid (Oxa02.out.b hq2)
  replace Yxa0 := Lib.hid (Yxa0.out.b hq2)
  replace Ogr01 := Lib.hid (Ogr01.out.b hq2)
  replace Ogr02 := Lib.hid (Ogr02.out.b hq2)
  replace Xgr0 := Lib.hid (Xgr0.out.b hq2)
  have z_w7 : w6.heap.size ≤ w7.heap.size := by have hsz := hq1.size; first | omega | (simp at hsz; omega)
  have z_w8 : w7.heap.size ≤ w8.heap.size := hq2.size
  clear c_Ba0_0 c_Ba0_1 c_Ba0_2 c_Yxa0_0 c_Yxa0_1 c_Yxa0_2
  clear hq1 hq2 ho1 ho2 hz0
  have c_Yxa0_0 := Yxa0.out.now 0 _ rfl
  have c_Yxa0_1 := Yxa0.out.now 1 _ rfl
  have c_Yxa0_2 := Yxa0.out.now 2 _ rfl
  go_wp2_with fail
  refine (mark_Cuckoo ha0k1 ha0k2 Oxa01.out.now Oxa02.out.now Oxa01.out.top hap_xa0_0 (by omega) (by omega)).mono ?_; rintro e w9 ⟨rfl, hm0, hm1, hg⟩
  replace FB := Lib.hid (FB.out.far hg (by omega))
  replace Fa01 := Lib.hid (Fa01.out.far hg (by omega))
  replace Fa02 := Lib.hid (Fa02.out.far hg (by omega))
  replace Ba0 := Lib.hid (Ba0.out.far hg (by omega))
  replace Vmr01 := Lib.hid (Vmr01.out.far hg (by omega))
  replace Vmr02 := Lib.hid (Vmr02.out.far hg (by omega))
  replace Xmr0 := Lib.hid (Xmr0.out.far hg (by omega))
  replace Yxa0 := Lib.hid (Yxa0.out.far hg (by omega))
  replace Ogr01 := Lib.hid (Ogr01.out.far hg (by omega))
  replace Ogr02 := Lib.hid (Ogr02.out.far hg (by omega))
  replace Xgr0 := Lib.hid (Xgr0.out.far hg (by omega))
  have z_w9 : w8.heap.size ≤ w9.heap.size := by have hsz := hg.size; first | omega | (simp at hsz; omega)
  replace Oxa01 := Lib.hid (At.mk hm0 (Nat.le_trans Oxa01.out.top hg.size) (Ow.lives _ _ _ _ _ _))
  replace Oxa02 := Lib.hid (At.mk hm1 (Nat.le_trans Oxa02.out.top hg.size) (Ow.lives _ _ _ _ _ _))
  clear c_Yxa0_0 c_Yxa0_1 c_Yxa0_2
  clear hg hm0 hm1
  clear Oxa01 Oxa02 Yxa0
  have c_Xgr0_0 := Xgr0.out.now 0 _ rfl
  have c_Xgr0_1 := Xgr0.out.now 1 _ rfl
  have c_Xgr0_2 := Xgr0.out.now 2 _ rfl
  have c_Xmr0_0 := Xmr0.out.now 0 _ rfl
  have c_Xmr0_1 := Xmr0.out.now 1 _ rfl
  have c_Xmr0_2 := Xmr0.out.now 2 _ rfl
  go_wp2_with fail
  refine (eq_Cuckoo hr0m1 hr0m2 Ogr01.out.orow Ogr02.out.orow Vmr01.out.row Vmr02.out.row).mono ?_; rintro e w10 ⟨rfl, hb⟩
  replace FB := Lib.hid (FB.out.b hb)
  replace Fa01 := Lib.hid (Fa01.out.b hb)
  replace Fa02 := Lib.hid (Fa02.out.b hb)
  replace Ba0 := Lib.hid (Ba0.out.b hb)
  replace Vmr01 := Lib.hid (Vmr01.out.b hb)
  replace Vmr02 := Lib.hid (Vmr02.out.b hb)
  replace Xmr0 := Lib.hid (Xmr0.out.b hb)
  replace Ogr01 := Lib.hid (Ogr01.out.b hb)
  replace Ogr02 := Lib.hid (Ogr02.out.b hb)
  replace Xgr0 := Lib.hid (Xgr0.out.b hb)
  have z_w10 : w9.heap.size ≤ w10.heap.size := by have hsz := hb.size; first | omega | (simp at hsz; omega)
  clear c_Xgr0_0 c_Xgr0_1 c_Xgr0_2 c_Xmr0_0 c_Xmr0_1 c_Xmr0_2
  clear hb
  have c_Xgr0_0 := Xgr0.out.now 0 _ rfl
  have c_Xgr0_1 := Xgr0.out.now 1 _ rfl
  have c_Xgr0_2 := Xgr0.out.now 2 _ rfl
  go_wp2_with fail
  refine (mark_Cuckoo hr0m1 hr0m2 Ogr01.out.now Ogr02.out.now Ogr01.out.top hap_g_0 (by omega) (by omega)).mono ?_; rintro e w11 ⟨rfl, hm0, hm1, hg⟩
  replace FB := Lib.hid (FB.out.far hg (by omega))
  replace Fa01 := Lib.hid (Fa01.out.far hg (by omega))
  replace Fa02 := Lib.hid (Fa02.out.far hg (by omega))
  replace Ba0 := Lib.hid (Ba0.out.far hg (by omega))
  replace Vmr01 := Lib.hid (Vmr01.out.far hg (by omega))
  replace Vmr02 := Lib.hid (Vmr02.out.far hg (by omega))
  replace Xmr0 := Lib.hid (Xmr0.out.far hg (by omega))
  replace Xgr0 := Lib.hid (Xgr0.out.far hg (by omega))
  have z_w11 : w10.heap.size ≤ w11.heap.size := by have hsz := hg.size; first | omega | (simp at hsz; omega)
  replace Ogr01 := Lib.hid (At.mk hm0 (Nat.le_trans Ogr01.out.top hg.size) (Ow.lives _ _ _ _ _ _))
  replace Ogr02 := Lib.hid (At.mk hm1 (Nat.le_trans Ogr02.out.top hg.size) (Ow.lives _ _ _ _ _ _))
  clear c_Xgr0_0 c_Xgr0_1 c_Xgr0_2
  clear hg hm0 hm1
  have c_Xgr0_0 := Xgr0.out.now 0 _ rfl
  have c_Xgr0_1 := Xgr0.out.now 1 _ rfl
  have c_Xgr0_2 := Xgr0.out.now 2 _ rfl
  go_wp2_with fail
  refine (held_Cuckoo hr0m1 hr0m2 Ogr01.out.orow Ogr02.out.orow (by omega) (by omega)).mono ?_; rintro e w12 ⟨rfl, hb⟩
  replace FB := Lib.hid (FB.out.b hb)
  replace Fa01 := Lib.hid (Fa01.out.b hb)
  replace Fa02 := Lib.hid (Fa02.out.b hb)
  replace Ba0 := Lib.hid (Ba0.out.b hb)
  replace Vmr01 := Lib.hid (Vmr01.out.b hb)
  replace Vmr02 := Lib.hid (Vmr02.out.b hb)
  replace Xmr0 := Lib.hid (Xmr0.out.b hb)
  replace Ogr01 := Lib.hid (Ogr01.out.b hb)
  replace Ogr02 := Lib.hid (Ogr02.out.b hb)
  replace Xgr0 := Lib.hid (Xgr0.out.b hb)
  have z_w12 : w11.heap.size ≤ w12.heap.size := by have hsz := hb.size; first | omega | (simp at hsz; omega)
  clear c_Xgr0_0 c_Xgr0_1 c_Xgr0_2
  clear hb
  have c_Ba0_0 := Ba0.out.now 0 _ rfl
  have c_Ba0_1 := Ba0.out.now 1 _ rfl
  have c_Ba0_2 := Ba0.out.now 2 _ rfl
  go_wp2_with fail
  refine (to_Cuckoo ha0k1 ha0k2 Fa01.out.row Fa02.out.row).mono ?_; rintro e w13 ⟨tha0A1, tha0c1, tha0A2, tha0c2, rfl, ho1, ho2, hap_tha0_0, hb⟩
  replace FB := Lib.hid (FB.out.b hb)
  replace Fa01 := Lib.hid (Fa01.out.b hb)
  replace Fa02 := Lib.hid (Fa02.out.b hb)
  replace Ba0 := Lib.hid (Ba0.out.b hb)
  replace Vmr01 := Lib.hid (Vmr01.out.b hb)
  replace Vmr02 := Lib.hid (Vmr02.out.b hb)
  replace Xmr0 := Lib.hid (Xmr0.out.b hb)
  replace Ogr01 := Lib.hid (Ogr01.out.b hb)
  replace Ogr02 := Lib.hid (Ogr02.out.b hb)
  replace Xgr0 := Lib.hid (Xgr0.out.b hb)
  have z_w13 : w12.heap.size ≤ w13.heap.size := by have hsz := hb.size; first | omega | (simp at hsz; omega)
  clear c_Ba0_0 c_Ba0_1 c_Ba0_2
  have Otha01 := Lib.hid (owned (ho1.mono (lo' := w12.heap.size) (Nat.le_refl _) (Nat.le_refl _)))
  have Otha02 := Lib.hid (owned (ho2.mono (lo' := w12.heap.size) (Nat.le_refl _) (Nat.le_refl _)))
  clear hb ho1 ho2
  clear hap_tha0_0
  go_wp2_with fail
  refine (S2.out _ _ _ _ _ Otha01.out.orow Otha02.out.orow).mono ?_; rintro e w14 ⟨hr0A1, hr0c1, hr0A2, hr0c2, rfl, hrr01, hrr02, hap_h_0, hb⟩
  replace FB := Lib.hid (FB.out.b hb)
  replace Fa01 := Lib.hid (Fa01.out.b hb)
  replace Fa02 := Lib.hid (Fa02.out.b hb)
  replace Ba0 := Lib.hid (Ba0.out.b hb)
  replace Vmr01 := Lib.hid (Vmr01.out.b hb)
  replace Vmr02 := Lib.hid (Vmr02.out.b hb)
  replace Xmr0 := Lib.hid (Xmr0.out.b hb)
  replace Ogr01 := Lib.hid (Ogr01.out.b hb)
  replace Ogr02 := Lib.hid (Ogr02.out.b hb)
  replace Xgr0 := Lib.hid (Xgr0.out.b hb)
  replace Otha01 := Lib.hid (Otha01.out.b hb)
  replace Otha02 := Lib.hid (Otha02.out.b hb)
  have z_w14 : w13.heap.size ≤ w14.heap.size := by have hsz := hb.size; first | omega | (simp at hsz; omega)
  have Ohr01 := Lib.hid (owned (hrr01.mono (lo' := w13.heap.size) (Nat.le_refl _) (Nat.le_refl _)))
  have Ohr02 := Lib.hid (owned (hrr02.mono (lo' := w13.heap.size) (Nat.le_refl _) (Nat.le_refl _)))
  clear hb hrr01 hrr02
  clear Otha01 Otha02
  replace FB := Lib.hid (FB.out.alloc (.cells #[.int .i64 r0z0, .slice hr0A1 r0n1 hr0c1, .slice hr0A2 r0n2 hr0c2] 36))
  replace Fa01 := Lib.hid (Fa01.out.alloc (.cells #[.int .i64 r0z0, .slice hr0A1 r0n1 hr0c1, .slice hr0A2 r0n2 hr0c2] 36))
  replace Fa02 := Lib.hid (Fa02.out.alloc (.cells #[.int .i64 r0z0, .slice hr0A1 r0n1 hr0c1, .slice hr0A2 r0n2 hr0c2] 36))
  replace Ba0 := Lib.hid (Ba0.out.alloc (.cells #[.int .i64 r0z0, .slice hr0A1 r0n1 hr0c1, .slice hr0A2 r0n2 hr0c2] 36))
  replace Vmr01 := Lib.hid (Vmr01.out.alloc (.cells #[.int .i64 r0z0, .slice hr0A1 r0n1 hr0c1, .slice hr0A2 r0n2 hr0c2] 36))
  replace Vmr02 := Lib.hid (Vmr02.out.alloc (.cells #[.int .i64 r0z0, .slice hr0A1 r0n1 hr0c1, .slice hr0A2 r0n2 hr0c2] 36))
  replace Xmr0 := Lib.hid (Xmr0.out.alloc (.cells #[.int .i64 r0z0, .slice hr0A1 r0n1 hr0c1, .slice hr0A2 r0n2 hr0c2] 36))
  replace Ogr01 := Lib.hid (Ogr01.out.alloc (.cells #[.int .i64 r0z0, .slice hr0A1 r0n1 hr0c1, .slice hr0A2 r0n2 hr0c2] 36))
  replace Ogr02 := Lib.hid (Ogr02.out.alloc (.cells #[.int .i64 r0z0, .slice hr0A1 r0n1 hr0c1, .slice hr0A2 r0n2 hr0c2] 36))
  replace Xgr0 := Lib.hid (Xgr0.out.alloc (.cells #[.int .i64 r0z0, .slice hr0A1 r0n1 hr0c1, .slice hr0A2 r0n2 hr0c2] 36))
  replace Ohr01 := Lib.hid (Ohr01.out.alloc (.cells #[.int .i64 r0z0, .slice hr0A1 r0n1 hr0c1, .slice hr0A2 r0n2 hr0c2] 36))
  replace Ohr02 := Lib.hid (Ohr02.out.alloc (.cells #[.int .i64 r0z0, .slice hr0A1 r0n1 hr0c1, .slice hr0A2 r0n2 hr0c2] 36))
  have Xhr0 := Lib.hid (boxed w14 #[.int .i64 r0z0, .slice hr0A1 r0n1 hr0c1, .slice hr0A2 r0n2 hr0c2] 36)
  have c_Xhr0_0 := Xhr0.out.now 0 _ rfl
  have c_Xhr0_1 := Xhr0.out.now 1 _ rfl
  have c_Xhr0_2 := Xhr0.out.now 2 _ rfl
  have c_Xmr0_0 := Xmr0.out.now 0 _ rfl
  have c_Xmr0_1 := Xmr0.out.now 1 _ rfl
  have c_Xmr0_2 := Xmr0.out.now 2 _ rfl
  go_wp2_with fail
  refine (eq_Cuckoo hr0m1 hr0m2 Ohr01.out.orow Ohr02.out.orow Vmr01.out.row Vmr02.out.row).mono ?_; rintro e w15 ⟨rfl, hb⟩
  replace FB := Lib.hid (FB.out.b hb)
  replace Fa01 := Lib.hid (Fa01.out.b hb)
  replace Fa02 := Lib.hid (Fa02.out.b hb)
  replace Ba0 := Lib.hid (Ba0.out.b hb)
  replace Vmr01 := Lib.hid (Vmr01.out.b hb)
  replace Vmr02 := Lib.hid (Vmr02.out.b hb)
  replace Xmr0 := Lib.hid (Xmr0.out.b hb)
  replace Ogr01 := Lib.hid (Ogr01.out.b hb)
  replace Ogr02 := Lib.hid (Ogr02.out.b hb)
  replace Xgr0 := Lib.hid (Xgr0.out.b hb)
  replace Ohr01 := Lib.hid (Ohr01.out.b hb)
  replace Ohr02 := Lib.hid (Ohr02.out.b hb)
  replace Xhr0 := Lib.hid (Xhr0.out.b hb)
  have z_w15 : w14.heap.size + 1 ≤ w15.heap.size := by have hsz := hb.size; first | omega | (simp at hsz; omega)
  clear c_Xhr0_0 c_Xhr0_1 c_Xhr0_2 c_Xmr0_0 c_Xmr0_1 c_Xmr0_2
  clear hb
  have c_Xgr0_0 := Xgr0.out.now 0 _ rfl
  have c_Xgr0_1 := Xgr0.out.now 1 _ rfl
  have c_Xgr0_2 := Xgr0.out.now 2 _ rfl
  go_wp2_with fail
  refine (held_Cuckoo hr0m1 hr0m2 Ogr01.out.orow Ogr02.out.orow (by omega) (by omega)).mono ?_; rintro e w16 ⟨rfl, hb⟩
  replace FB := Lib.hid (FB.out.b hb)
  replace Fa01 := Lib.hid (Fa01.out.b hb)
  replace Fa02 := Lib.hid (Fa02.out.b hb)
  replace Ba0 := Lib.hid (Ba0.out.b hb)
  replace Vmr01 := Lib.hid (Vmr01.out.b hb)
  replace Vmr02 := Lib.hid (Vmr02.out.b hb)
  replace Xmr0 := Lib.hid (Xmr0.out.b hb)
  replace Ogr01 := Lib.hid (Ogr01.out.b hb)
  replace Ogr02 := Lib.hid (Ogr02.out.b hb)
  replace Xgr0 := Lib.hid (Xgr0.out.b hb)
  replace Ohr01 := Lib.hid (Ohr01.out.b hb)
  replace Ohr02 := Lib.hid (Ohr02.out.b hb)
  replace Xhr0 := Lib.hid (Xhr0.out.b hb)
  have z_w16 : w15.heap.size ≤ w16.heap.size := by have hsz := hb.size; first | omega | (simp at hsz; omega)
  clear c_Xgr0_0 c_Xgr0_1 c_Xgr0_2
  clear hb
  go_wp2_with fail
  go_ret
  exact ⟨rfl, FB.out.now⟩
theorem walk_FnExactCuckooInsert (w : World) (z : Int) (_wz : (Lit.int .i64 z).wf = true) (A : Option Addr) (n c : Nat) (S : Nat → ByteArray) (hm : n ≤ maxLen) (hr : SRow w A n S) (B : Option Addr) (m d : Nat) (H : Nat → ByteArray) (hm2 : m ≤ maxLen) (hr2 : SRow w B m H) (x : ByteArray) (hx : x.size ≤ maxLen) (mv : Int) (_wm : (Lit.int .i64 mv).wf = true) :
    Calls Try.prog 12 #[.agg #[.int .i64 z, .slice A n c, .slice B m d], .string x, .int .i64 mv] w fun e w' => e = .returned (.bool true) ∧ Below w.heap.size w w' := by
  by_cases h : InsOk z S n H m x mv
  · have hmv := h.2.2.1
    obtain ⟨k, rfl⟩ : ∃ k : Nat, mv = k := ⟨mv.toNat, by omega⟩
    have hz := sizeB_out h.1.size
    have h4 := h.1.few
    obtain ⟨o, ho⟩ := insR_ex z n S m H x k
    cases o with
    | none =>
      refine main_FnExactCuckooInsert z n S m H x k 0 0 (fun _ => ⟨#[]⟩) 0 (fun _ => ⟨#[]⟩) 0 false A c B d w hm hr.grow hr.size hm2 hr2.grow hr2.size hx (by omega) (by omega)
        (fun hn hq A c B d w g1 g2 => (spec_insert z A n c S B m d H x k w (by omega) (by omega) hr.size hr2.size hx g1 g2).mono ?_)
        (fun hn hq A c B d w g1 g2 => (impl_insert z A n c S B m d H x k w (by omega) (by omega) hr.size hr2.size hx g1 g2).mono ?_)
      · rintro e w' (⟨k', hk', _, o', ho', ha⟩ | ⟨hno, _⟩)
        · obtain rfl : k = k' := by omega
          obtain rfl := insR_det ho ho'
          rcases ha with ⟨_, _, _, he, _⟩ | ⟨_, he, hb⟩
          · cases he
          · exact ⟨none, 0, none, 0, he, GRow.zero, GRow.zero, hb⟩
        · exact absurd h hno
      · rintro e w' (⟨k', hk', _, o', ho', ha⟩ | ⟨hno, _⟩)
        · obtain rfl : k = k' := by omega
          obtain rfl := insR_det ho ho'
          rcases ha with ⟨_, _, _, he, _⟩ | ⟨_, he, hb⟩
          · cases he
          · exact ⟨none, 0, none, 0, he, ow_zero _ _ _ _ _ _, ow_zero _ _ _ _ _ _, fun h => absurd h (by omega), hb⟩
        · exact absurd h hno
    | some p =>
      obtain ⟨S', L, T⟩ := p
      obtain ⟨hl, hT⟩ := insR_len ho
      refine main_FnExactCuckooInsert z n S m H x k z n S' L.length (rowS L) (T : Nat) true A c B d w hm hr.grow hr.size hm2 hr2.grow hr2.size hx (by omega) (by omega)
        (fun hn hq A c B d w g1 g2 => (spec_insert z A n c S B m d H x k w (by omega) (by omega) hr.size hr2.size hx g1 g2).mono ?_)
        (fun hn hq A c B d w g1 g2 => (impl_insert z A n c S B m d H x k w (by omega) (by omega) hr.size hr2.size hx g1 g2).mono ?_)
      · rintro e w' (⟨k', hk', _, o', ho', ha⟩ | ⟨hno, _⟩)
        · obtain rfl : k = k' := by omega
          obtain rfl := insR_det ho ho'
          rcases ha with ⟨_, _, _, he, ha⟩ | ⟨he, _⟩
          · cases he; exact ha
          · cases he
        · exact absurd h hno
      · rintro e w' (⟨k', hk', _, o', ho', ha⟩ | ⟨hno, _⟩)
        · obtain rfl : k = k' := by omega
          obtain rfl := insR_det ho ho'
          rcases ha with ⟨_, _, _, he, ha⟩ | ⟨he, _⟩
          · cases he; exact ha
          · cases he
        · exact absurd h hno
  · refine main_FnExactCuckooInsert z n S m H x mv 0 0 (fun _ => ⟨#[]⟩) 0 (fun _ => ⟨#[]⟩) 0 false A c B d w hm hr.grow hr.size hm2 hr2.grow hr2.size hx (by omega) (by omega)
      (fun hn hq A c B d w g1 g2 => (spec_insert z A n c S B m d H x mv w (by omega) (by omega) hr.size hr2.size hx g1 g2).mono ?_)
      (fun hn hq A c B d w g1 g2 => (impl_insert z A n c S B m d H x mv w (by omega) (by omega) hr.size hr2.size hx g1 g2).mono ?_)
    · rintro e w' (⟨_, _, hy, _⟩ | ⟨_, he, hb⟩)
      · exact absurd hy h
      · exact ⟨none, 0, none, 0, he, GRow.zero, GRow.zero, hb⟩
    · rintro e w' (⟨_, _, hy, _⟩ | ⟨_, he, hb⟩)
      · exact absurd hy h
      · exact ⟨none, 0, none, 0, he, ow_zero _ _ _ _ _ _, ow_zero _ _ _ _ _ _, fun h => absurd h (by omega), hb⟩
end Go.Proofs.Ytfjimjbndkhkcaa
