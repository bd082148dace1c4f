/- The law of FrontBytes, walked: what both sides answer comes in as hypotheses. -/
import Derived.Test.YthaipemgndahfaaObjFr
import Derived.Test.YthaipemgndahfaaFrI
import Derived.Deep.RegionHeld3
namespace Go.Proofs.Ythaipemgndahfaa
open Go.RowKit

set_option maxRecDepth 100000 in
set_option maxHeartbeats 8000000 in
theorem main_FnExactFrontBytes (a0z0 : Int) (a0n1 : Nat) (a0X1 : Nat → Int) (a0n2 : Nat) (a0X2 : Nat → ByteArray) (r0z0 : Int) (r1z0 : Bool) (a0A1 : Option Addr) (a0c1 : Nat) (a0A2 : Option Addr) (a0c2 : Nat) (w : World) (ha0m1 : a0n1 ≤ maxLen) (ha0r1 : GRow w a0A1 a0n1 (intV a0X1)) (ha0m2 : a0n2 ≤ maxLen) (ha0r2 : GRow w a0A2 a0n2 (strV a0X2)) (ha0s2 : ∀ i, i < a0n2 → (a0X2 i).size ≤ maxLen)
    (s1 : a0n1 + a0n2 + (sizeS a0X2 a0n2) ≤ 1048576 → ∀ (ua0A1 : Option Addr) (ua0c1 : Nat) (ua0A2 : Option Addr) (ua0c2 : Nat) (w : World), GRow w ua0A1 a0n1 (intV a0X1) → GRow w ua0A2 a0n2 (strV a0X2) → Calls Try.prog 30 #[.agg #[.int .i64 a0z0, .slice ua0A1 a0n1 ua0c1, .slice ua0A2 a0n2 ua0c2]] w fun e w' => e = .returned (.tuple #[.int .i64 r0z0, .bool r1z0]) ∧ Below w.heap.size w w')
    (s2 : a0n1 + a0n2 + (sizeS a0X2 a0n2) ≤ 1048576 → ∀ (ua0A1 : Option Addr) (ua0c1 : Nat) (ua0A2 : Option Addr) (ua0c2 : Nat) (w : World), GRow w ua0A1 a0n1 (intV a0X1) → GRow w ua0A2 a0n2 (strV a0X2) → Calls Try.prog 31 #[.agg #[.int .i64 a0z0, .slice ua0A1 a0n1 ua0c1, .slice ua0A2 a0n2 ua0c2]] w fun e w' => e = .returned (.tuple #[.int .i64 r0z0, .bool r1z0]) ∧ Below w.heap.size w w') :
    Calls Try.prog 8 #[.agg #[.int .i64 a0z0, .slice a0A1 a0n1 a0c1, .slice a0A2 a0n2 a0c2]] w fun e w' => e = .returned (.bool true) ∧ Below w.heap.size w w' := by
  have S1 := Lib.hid s1
  have S2 := Lib.hid s2
  clear s1 s2
  have FB := Lib.hid ((At.start w).alloc (.cells #[.int .i64 a0z0, .slice a0A1 a0n1 a0c1, .slice a0A2 a0n2 a0c2] 34))
  have Fa01 := Lib.hid ((rd_of_row ha0r1).alloc (.cells #[.int .i64 a0z0, .slice a0A1 a0n1 a0c1, .slice a0A2 a0n2 a0c2] 34))
  have Fa02 := Lib.hid ((rd_of_row ha0r2).alloc (.cells #[.int .i64 a0z0, .slice a0A1 a0n1 a0c1, .slice a0A2 a0n2 a0c2] 34))
  have Ba0 := Lib.hid (boxed w #[.int .i64 a0z0, .slice a0A1 a0n1 a0c1, .slice a0A2 a0n2 a0c2] 34)
  clear ha0r1 ha0r2
  go_enter Try.func8, Try.ntmps8
  go_wp2_with fail
  refine (sz_Front ha0m1 ha0m2 ha0s2 Fa02.out.row (by omega) (by omega)).mono ?_; rintro e w1 ⟨rfl, hb⟩
  replace FB := Lib.hid (FB.out.b hb)
  replace Fa01 := Lib.hid (Fa01.out.b hb)
  replace Fa02 := Lib.hid (Fa02.out.b hb)
  replace Ba0 := Lib.hid (Ba0.out.b hb)
  have z_w1 : w.heap.size + 1 ≤ w1.heap.size := by have hsz := hb.size; first | omega | (simp at hsz; omega)
  clear hb
  by_cases hZ_a0 : ((a0n1 + a0n2 + (sizeS a0X2 a0n2) : Nat) : Int) ≤ (1048576 : Int)
  rotate_left
  · rw [szv_no hZ_a0]
    go_wp2_with fail
    go_ret
    exact ⟨rfl, FB.out.now⟩
  rw [szv_yes hZ_a0]
  have hL_a0 : ¬ (((1048576 : Int) - (((a0n1 : Nat) : Int) + ((a0n2 : Nat) : Int) + (((sizeS a0X2 a0n2) : Nat) : Int))) < 0) := by omega
  have c_Ba0_0 := Ba0.out.now 0 _ rfl
  have c_Ba0_1 := Ba0.out.now 1 _ rfl
  have c_Ba0_2 := Ba0.out.now 2 _ rfl
  replace S1 := Lib.hid (S1.out (by omega))
  replace S2 := Lib.hid (S2.out (by omega))
  have ha0k1 : a0n1 ≤ 1048576 := by omega
  have ha0k2 : a0n2 ≤ 1048576 := by omega
  go_wp2_with fail
  refine (to_Front ha0k1 ha0k2 Fa01.out.row Fa02.out.row).mono ?_; rintro e w2 ⟨tma0A1, tma0c1, tma0A2, tma0c2, rfl, ho1, ho2, hap_tma0_0, hb⟩
  replace FB := Lib.hid (FB.out.b hb)
  replace Fa01 := Lib.hid (Fa01.out.b hb)
  replace Fa02 := Lib.hid (Fa02.out.b hb)
  replace Ba0 := Lib.hid (Ba0.out.b hb)
  have z_w2 : w1.heap.size ≤ w2.heap.size := by have hsz := hb.size; first | omega | (simp at hsz; omega)
  clear c_Ba0_0 c_Ba0_1 c_Ba0_2
  have Otma01 := Lib.hid (owned (ho1.mono (lo' := w1.heap.size) (Nat.le_refl _) (Nat.le_refl _)))
  have Otma02 := Lib.hid (owned (ho2.mono (lo' := w1.heap.size) (Nat.le_refl _) (Nat.le_refl _)))
  clear hb ho1 ho2
  clear hap_tma0_0
  go_wp2_with fail
  refine (S1.out _ _ _ _ _ Otma01.out.orow Otma02.out.orow).mono ?_; rintro e w3 ⟨rfl, hb⟩
  replace FB := Lib.hid (FB.out.b hb)
  replace Fa01 := Lib.hid (Fa01.out.b hb)
  replace Fa02 := Lib.hid (Fa02.out.b hb)
  replace Ba0 := Lib.hid (Ba0.out.b hb)
  replace Otma01 := Lib.hid (Otma01.out.b hb)
  replace Otma02 := Lib.hid (Otma02.out.b hb)
  have z_w3 : w2.heap.size ≤ w3.heap.size := by have hsz := hb.size; first | omega | (simp at hsz; omega)
  clear hb 
  clear Otma01 Otma02
  have c_Ba0_0 := Ba0.out.now 0 _ rfl
  have c_Ba0_1 := Ba0.out.now 1 _ rfl
  have c_Ba0_2 := Ba0.out.now 2 _ rfl
  go_wp2_with fail
  refine (to_Front ha0k1 ha0k2 Fa01.out.row Fa02.out.row).mono ?_; rintro e w4 ⟨xa0A1, xa0c1, xa0A2, xa0c2, rfl, ho1, ho2, hap_xa0_0, hb⟩
  replace FB := Lib.hid (FB.out.b hb)
  replace Fa01 := Lib.hid (Fa01.out.b hb)
  replace Fa02 := Lib.hid (Fa02.out.b hb)
  replace Ba0 := Lib.hid (Ba0.out.b hb)
  have z_w4 : w3.heap.size ≤ w4.heap.size := by have hsz := hb.size; first | omega | (simp at hsz; omega)
  clear c_Ba0_0 c_Ba0_1 c_Ba0_2
  have Oxa01 := Lib.hid (owned (ho1.mono (lo' := w3.heap.size) (Nat.le_refl _) (Nat.le_refl _)))
  have Oxa02 := Lib.hid (owned (ho2.mono (lo' := w3.heap.size) (Nat.le_refl _) (Nat.le_refl _)))
  clear hb ho1 ho2
  replace FB := Lib.hid (FB.out.alloc (.cells #[.int .i64 a0z0, .slice xa0A1 a0n1 xa0c1, .slice xa0A2 a0n2 xa0c2] 26))
  replace Fa01 := Lib.hid (Fa01.out.alloc (.cells #[.int .i64 a0z0, .slice xa0A1 a0n1 xa0c1, .slice xa0A2 a0n2 xa0c2] 26))
  replace Fa02 := Lib.hid (Fa02.out.alloc (.cells #[.int .i64 a0z0, .slice xa0A1 a0n1 xa0c1, .slice xa0A2 a0n2 xa0c2] 26))
  replace Ba0 := Lib.hid (Ba0.out.alloc (.cells #[.int .i64 a0z0, .slice xa0A1 a0n1 xa0c1, .slice xa0A2 a0n2 xa0c2] 26))
  replace Oxa01 := Lib.hid (Oxa01.out.alloc (.cells #[.int .i64 a0z0, .slice xa0A1 a0n1 xa0c1, .slice xa0A2 a0n2 xa0c2] 26))
  replace Oxa02 := Lib.hid (Oxa02.out.alloc (.cells #[.int .i64 a0z0, .slice xa0A1 a0n1 xa0c1, .slice xa0A2 a0n2 xa0c2] 26))
  have Yxa0 := Lib.hid (boxed w4 #[.int .i64 a0z0, .slice xa0A1 a0n1 xa0c1, .slice xa0A2 a0n2 xa0c2] 26)
  have c_Yxa0_0 := Yxa0.out.now 0 _ rfl
  have c_Yxa0_1 := Yxa0.out.now 1 _ rfl
  have c_Yxa0_2 := Yxa0.out.now 2 _ rfl
  go_wp2_with fail
  refine (S2.out _ _ _ _ _ Oxa01.out.orow Oxa02.out.orow).mono ?_; rintro e w5 ⟨rfl, hb⟩
  replace FB := Lib.hid (FB.out.b hb)
  replace Fa01 := Lib.hid (Fa01.out.b hb)
  replace Fa02 := Lib.hid (Fa02.out.b hb)
  replace Ba0 := Lib.hid (Ba0.out.b hb)
  replace Oxa01 := Lib.hid (Oxa01.out.b hb)
  replace Oxa02 := Lib.hid (Oxa02.out.b hb)
  replace Yxa0 := Lib.hid (Yxa0.out.b hb)
  have z_w5 : w4.heap.size + 1 ≤ w5.heap.size := by have hsz := hb.size; first | omega | (simp at hsz; omega)
  clear c_Yxa0_0 c_Yxa0_1 c_Yxa0_2
  clear hb 
  have c_Ba0_0 := Ba0.out.now 0 _ rfl
  have c_Ba0_1 := Ba0.out.now 1 _ rfl
  have c_Ba0_2 := Ba0.out.now 2 _ rfl
  have c_Yxa0_0 := Yxa0.out.now 0 _ rfl
  have c_Yxa0_1 := Yxa0.out.now 1 _ rfl
  have c_Yxa0_2 := Yxa0.out.now 2 _ rfl
  go_wp2_with fail
  go_region_held3 (fun w' => w'.cell? ⟨w.heap.size, 0, none⟩ = some (.int .i64 a0z0) ∧ w'.cell? ⟨w.heap.size, 1, none⟩ = some (.slice a0A1 a0n1 a0c1) ∧ w'.cell? ⟨w.heap.size, 2, none⟩ = some (.slice a0A2 a0n2 a0c2) ∧ w'.cell? ⟨w4.heap.size, 0, none⟩ = some (.int .i64 a0z0) ∧ w'.cell? ⟨w4.heap.size, 1, none⟩ = some (.slice xa0A1 a0n1 xa0c1) ∧ w'.cell? ⟨w4.heap.size, 2, none⟩ = some (.slice xa0A2 a0n2 xa0c2))
    (first | (go_keep; done) | exact ⟨(((Ba0.out.b hq1).b hq2)).now 0 _ rfl, (((Ba0.out.b hq1).b hq2)).now 1 _ rfl, (((Ba0.out.b hq1).b hq2)).now 2 _ rfl, (((Yxa0.out.b hq1).b hq2)).now 0 _ rfl, (((Yxa0.out.b hq1).b hq2)).now 1 _ rfl, (((Yxa0.out.b hq1).b hq2)).now 2 _ rfl⟩ | exact ⟨((Ba0.out.b hq1)).now 0 _ rfl, ((Ba0.out.b hq1)).now 1 _ rfl, ((Ba0.out.b hq1)).now 2 _ rfl, ((Yxa0.out.b hq1)).now 0 _ rfl, ((Yxa0.out.b hq1)).now 1 _ rfl, ((Yxa0.out.b hq1)).now 2 _ rfl⟩)
    (first
      | (have hqz := hq1; clear hqz; go_at_call 15; (first | refine (eq_Front ha0k1 ha0k2 ((Oxa01.out.b hq1)).orow ((Oxa02.out.b hq1)).orow (owned ho1).orow (owned ho2).orow).mono ?_); rintro e w7 ⟨rfl, hq2⟩)
      | (go_at_call 22; (first | refine (to_Front ha0k1 ha0k2 (Fa01.out).row (Fa02.out).row).mono ?_ | refine (to_Front ha0k1 ha0k2 (GRow.drew (Fa01.out).row) (GRow.drew (Fa02.out).row)).mono ?_); rintro e w6 ⟨ya0A1, ya0c1, ya0A2, ya0c2, rfl, ho1, ho2, hz0, hq1'⟩; have hq1 := of_drew hq1'; clear hq1'))
  replace FB := Lib.hid (FB.out.b hq1)
  replace Fa01 := Lib.hid (Fa01.out.b hq1)
  replace Fa02 := Lib.hid (Fa02.out.b hq1)
  replace Ba0 := Lib.hid (Ba0.out.b hq1)
  replace Oxa01 := Lib.hid (Oxa01.out.b hq1)
  replace Oxa02 := Lib.hid (Oxa02.out.b hq1)
  replace Yxa0 := Lib.hid (Yxa0.out.b hq1)
  replace FB := Lib.hid (FB.out.b hq2)
  replace Fa01 := Lib.hid (Fa01.out.b hq2)
  replace Fa02 := Lib.hid (Fa02.out.b hq2)
  replace Ba0 := Lib.hid (Ba0.out.b hq2)
  replace Oxa01 := Lib.hid (Oxa01.out.b hq2)
  replace Oxa02 := Lib.hid (Oxa02.out.b hq2)
  replace Yxa0 := Lib.hid (Yxa0.out.b hq2)
  have z_w6 : w5.heap.size ≤ w6.heap.size := by have hsz := hq1.size; first | omega | (simp at hsz; omega)
  have z_w7 : w6.heap.size ≤ w7.heap.size := hq2.size
  clear c_Ba0_0 c_Ba0_1 c_Ba0_2 c_Yxa0_0 c_Yxa0_1 c_Yxa0_2
  clear hq1 hq2 ho1 ho2 hz0
  go_wp2_with fail
  go_ret
  exact ⟨rfl, FB.out.now⟩
/-! last -/
theorem walk_FnExactFrontBytes (w : World) (z : Int) (_wz : (Lit.int .i64 z).wf = true) (A : Option Addr) (n c : Nat) (K : Nat → Int) (hm : n ≤ maxLen) (hr : IRow w A n K) (B : Option Addr) (m d : Nat) (T : Nat → ByteArray) (hm2 : m ≤ maxLen) (hr2 : SRow w B m T) :
    Calls Try.prog 8 #[.agg #[.int .i64 z, .slice A n c, .slice B m d]] w fun e w' => e = .returned (.bool true) ∧ Below w.heap.size w w' := by
  by_cases h : FrV z n K m T
  · exact main_FnExactFrontBytes z n K m T  ((n + sumS T m : Nat) : Int) true A c B d w hm hr hm2 hr2.grow hr2.size
      (fun hn A c B d w g1 g2 => spec_frontBytes  (by omega) (by omega) (sizeS_all (show m + sizeS T m ≤ 1048576 by omega)) g1 g2 h) (fun hn A c B d w g1 g2 => impl_frontBytes  (by omega) (by omega) (sizeS_all (show m + sizeS T m ≤ 1048576 by omega)) g1 g2 h)
  · exact main_FnExactFrontBytes z n K m T  0 false A c B d w hm hr hm2 hr2.grow hr2.size
      (fun hn A c B d w g1 g2 => spec_frontBytes_no  (by omega) (by omega) (sizeS_all (show m + sizeS T m ≤ 1048576 by omega)) g1 g2 h) (fun hn A c B d w g1 g2 => impl_frontBytes_no  (by omega) (by omega) (sizeS_all (show m + sizeS T m ≤ 1048576 by omega)) g1 g2 h)
end Go.Proofs.Ythaipemgndahfaa
