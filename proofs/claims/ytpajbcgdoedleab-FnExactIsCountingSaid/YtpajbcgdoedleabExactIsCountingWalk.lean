/- The law of IsCounting, walked: what both sides answer comes in as hypotheses. -/
import Derived.Test.YtpajbcgdoedleabObjCo
import Derived.Test.YtpajbcgdoedleabCoG
import Derived.Deep.RegionHeld3
namespace Go.Proofs.Ytpajbcgdoedleab
open Go.RowKit

set_option maxRecDepth 100000 in
set_option maxHeartbeats 8000000 in
theorem main_FnExactIsCounting (a0z0 : Int) (a0z1 : Int) (a0n2 : Nat) (a0X2 : Nat → Int) (r0z0 : Bool) (a0A2 : Option Addr) (a0c2 : Nat) (w : World) (ha0m2 : a0n2 ≤ maxLen) (ha0r2 : GRow w a0A2 a0n2 (intV a0X2))
    (s1 : a0n2 ≤ 1048576 → ∀ (ua0A2 : Option Addr) (ua0c2 : Nat) (w : World), GRow w ua0A2 a0n2 (intV a0X2) → Calls Try.prog 13 #[.agg #[.int .i64 a0z0, .int .i64 a0z1, .slice ua0A2 a0n2 ua0c2]] w fun e w' => e = .returned (.bool r0z0) ∧ Below w.heap.size w w')
    (s2 : a0n2 ≤ 1048576 → ∀ (ua0A2 : Option Addr) (ua0c2 : Nat) (w : World), GRow w ua0A2 a0n2 (intV a0X2) → Calls Try.prog 15 #[.agg #[.int .i64 a0z0, .int .i64 a0z1, .slice ua0A2 a0n2 ua0c2]] w fun e w' => e = .returned (.bool r0z0) ∧ Below w.heap.size w w') :
    Calls Try.prog 3 #[.agg #[.int .i64 a0z0, .int .i64 a0z1, .slice a0A2 a0n2 a0c2]] w fun e w' => e = .returned (.bool true) ∧ Below w.heap.size w w' := by
  have S1 := Lib.hid s1
  have S2 := Lib.hid s2
  clear s1 s2
  have FB := Lib.hid ((At.start w).alloc (.cells #[.int .i64 a0z0, .int .i64 a0z1, .slice a0A2 a0n2 a0c2] 24))
  have Fa02 := Lib.hid ((rd_of_row ha0r2).alloc (.cells #[.int .i64 a0z0, .int .i64 a0z1, .slice a0A2 a0n2 a0c2] 24))
  have Ba0 := Lib.hid (boxed w #[.int .i64 a0z0, .int .i64 a0z1, .slice a0A2 a0n2 a0c2] 24)
  clear ha0r2
  go_enter Try.func3, Try.ntmps3
  go_wp2_with fail
  refine (sz_Counting ha0m2 (by omega) (by omega)).mono ?_; rintro e w1 ⟨rfl, hb⟩
  replace FB := Lib.hid (FB.out.b hb)
  replace Fa02 := Lib.hid (Fa02.out.b hb)
  replace Ba0 := Lib.hid (Ba0.out.b hb)
  have z_w1 : w.heap.size + 1 ≤ w1.heap.size := by have hsz := hb.size; first | omega | (simp at hsz; omega)
  clear hb
  by_cases hZ_a0 : ((a0n2 : Nat) : Int) ≤ (1048576 : Int)
  rotate_left
  · rw [szv_no hZ_a0]
    go_wp2_with fail
    go_ret
    exact ⟨rfl, FB.out.now⟩
  rw [szv_yes hZ_a0]
  have hL_a0 : ¬ (((1048576 : Int) - (((a0n2 : Nat) : Int))) < 0) := by omega
  have c_Ba0_0 := Ba0.out.now 0 _ rfl
  have c_Ba0_1 := Ba0.out.now 1 _ rfl
  have c_Ba0_2 := Ba0.out.now 2 _ rfl
  replace S1 := Lib.hid (S1.out (by omega))
  replace S2 := Lib.hid (S2.out (by omega))
  have ha0k2 : a0n2 ≤ 1048576 := by omega
  go_wp2_with fail
  refine (to_Counting ha0k2 Fa02.out.row).mono ?_; rintro e w2 ⟨tma0A2, tma0c2, rfl, ho2, hb⟩
  replace FB := Lib.hid (FB.out.b hb)
  replace Fa02 := Lib.hid (Fa02.out.b hb)
  replace Ba0 := Lib.hid (Ba0.out.b hb)
  have z_w2 : w1.heap.size ≤ w2.heap.size := by have hsz := hb.size; first | omega | (simp at hsz; omega)
  clear c_Ba0_0 c_Ba0_1 c_Ba0_2
  have Otma02 := Lib.hid (owned (ho2.mono (lo' := w1.heap.size) (Nat.le_refl _) (Nat.le_refl _)))
  clear hb ho2
  go_wp2_with fail
  refine (S1.out _ _ _ Otma02.out.orow).mono ?_; rintro e w3 ⟨rfl, hb⟩
  replace FB := Lib.hid (FB.out.b hb)
  replace Fa02 := Lib.hid (Fa02.out.b hb)
  replace Ba0 := Lib.hid (Ba0.out.b hb)
  replace Otma02 := Lib.hid (Otma02.out.b hb)
  have z_w3 : w2.heap.size ≤ w3.heap.size := by have hsz := hb.size; first | omega | (simp at hsz; omega)
  clear hb 
  clear Otma02
  have c_Ba0_0 := Ba0.out.now 0 _ rfl
  have c_Ba0_1 := Ba0.out.now 1 _ rfl
  have c_Ba0_2 := Ba0.out.now 2 _ rfl
  go_wp2_with fail
  refine (to_Counting ha0k2 Fa02.out.row).mono ?_; rintro e w4 ⟨xa0A2, xa0c2, rfl, ho2, hb⟩
  replace FB := Lib.hid (FB.out.b hb)
  replace Fa02 := Lib.hid (Fa02.out.b hb)
  replace Ba0 := Lib.hid (Ba0.out.b hb)
  have z_w4 : w3.heap.size ≤ w4.heap.size := by have hsz := hb.size; first | omega | (simp at hsz; omega)
  clear c_Ba0_0 c_Ba0_1 c_Ba0_2
  have Oxa02 := Lib.hid (owned (ho2.mono (lo' := w3.heap.size) (Nat.le_refl _) (Nat.le_refl _)))
  clear hb ho2
  replace FB := Lib.hid (FB.out.alloc (.cells #[.int .i64 a0z0, .int .i64 a0z1, .slice xa0A2 a0n2 xa0c2] 27))
  replace Fa02 := Lib.hid (Fa02.out.alloc (.cells #[.int .i64 a0z0, .int .i64 a0z1, .slice xa0A2 a0n2 xa0c2] 27))
  replace Ba0 := Lib.hid (Ba0.out.alloc (.cells #[.int .i64 a0z0, .int .i64 a0z1, .slice xa0A2 a0n2 xa0c2] 27))
  replace Oxa02 := Lib.hid (Oxa02.out.alloc (.cells #[.int .i64 a0z0, .int .i64 a0z1, .slice xa0A2 a0n2 xa0c2] 27))
  have Yxa0 := Lib.hid (boxed w4 #[.int .i64 a0z0, .int .i64 a0z1, .slice xa0A2 a0n2 xa0c2] 27)
  have c_Yxa0_0 := Yxa0.out.now 0 _ rfl
  have c_Yxa0_1 := Yxa0.out.now 1 _ rfl
  have c_Yxa0_2 := Yxa0.out.now 2 _ rfl
  go_wp2_with fail
  refine (S2.out _ _ _ Oxa02.out.orow).mono ?_; rintro e w5 ⟨rfl, hb⟩
  replace FB := Lib.hid (FB.out.b hb)
  replace Fa02 := Lib.hid (Fa02.out.b hb)
  replace Ba0 := Lib.hid (Ba0.out.b hb)
  replace Oxa02 := Lib.hid (Oxa02.out.b hb)
  replace Yxa0 := Lib.hid (Yxa0.out.b hb)
  have z_w5 : w4.heap.size + 1 ≤ w5.heap.size := by have hsz := hb.size; first | omega | (simp at hsz; omega)
  clear c_Yxa0_0 c_Yxa0_1 c_Yxa0_2
  clear hb 
  have c_Ba0_0 := Ba0.out.now 0 _ rfl
  have c_Ba0_1 := Ba0.out.now 1 _ rfl
  have c_Ba0_2 := Ba0.out.now 2 _ rfl
  have c_Yxa0_0 := Yxa0.out.now 0 _ rfl
  have c_Yxa0_1 := Yxa0.out.now 1 _ rfl
  have c_Yxa0_2 := Yxa0.out.now 2 _ rfl
  go_wp2_with fail
  go_region_held3 (fun w' => w'.cell? ⟨w.heap.size, 0, none⟩ = some (.int .i64 a0z0) ∧ w'.cell? ⟨w.heap.size, 1, none⟩ = some (.int .i64 a0z1) ∧ w'.cell? ⟨w.heap.size, 2, none⟩ = some (.slice a0A2 a0n2 a0c2) ∧ w'.cell? ⟨w4.heap.size, 0, none⟩ = some (.int .i64 a0z0) ∧ w'.cell? ⟨w4.heap.size, 1, none⟩ = some (.int .i64 a0z1) ∧ w'.cell? ⟨w4.heap.size, 2, none⟩ = some (.slice xa0A2 a0n2 xa0c2))
    (first | (go_keep; done) | exact ⟨(((Ba0.out.b hq1).b hq2)).now 0 _ rfl, (((Ba0.out.b hq1).b hq2)).now 1 _ rfl, (((Ba0.out.b hq1).b hq2)).now 2 _ rfl, (((Yxa0.out.b hq1).b hq2)).now 0 _ rfl, (((Yxa0.out.b hq1).b hq2)).now 1 _ rfl, (((Yxa0.out.b hq1).b hq2)).now 2 _ rfl⟩ | exact ⟨((Ba0.out.b hq1)).now 0 _ rfl, ((Ba0.out.b hq1)).now 1 _ rfl, ((Ba0.out.b hq1)).now 2 _ rfl, ((Yxa0.out.b hq1)).now 0 _ rfl, ((Yxa0.out.b hq1)).now 1 _ rfl, ((Yxa0.out.b hq1)).now 2 _ rfl⟩)
    (first
      | (have hqz := hq1; clear hqz; go_at_call 16; (first | refine (eq_Counting ha0k2 ((Oxa02.out.b hq1)).orow (owned ho2).orow).mono ?_); rintro e w7 ⟨rfl, hq2⟩)
      | (go_at_call 14; (first | refine (to_Counting ha0k2 (Fa02.out).row).mono ?_ | refine (to_Counting ha0k2 (GRow.drew (Fa02.out).row)).mono ?_); rintro e w6 ⟨ya0A2, ya0c2, rfl, ho2, hq1'⟩; have hq1 := of_drew hq1'; clear hq1'))
  replace FB := Lib.hid (FB.out.b hq1)
  replace Fa02 := Lib.hid (Fa02.out.b hq1)
  replace Ba0 := Lib.hid (Ba0.out.b hq1)
  replace Oxa02 := Lib.hid (Oxa02.out.b hq1)
  replace Yxa0 := Lib.hid (Yxa0.out.b hq1)
  replace FB := Lib.hid (FB.out.b hq2)
  replace Fa02 := Lib.hid (Fa02.out.b hq2)
  replace Ba0 := Lib.hid (Ba0.out.b hq2)
  replace Oxa02 := Lib.hid (Oxa02.out.b hq2)
  replace Yxa0 := Lib.hid (Yxa0.out.b hq2)
  have z_w6 : w5.heap.size ≤ w6.heap.size := by have hsz := hq1.size; first | omega | (simp at hsz; omega)
  have z_w7 : w6.heap.size ≤ w7.heap.size := hq2.size
  clear c_Ba0_0 c_Ba0_1 c_Ba0_2 c_Yxa0_0 c_Yxa0_1 c_Yxa0_2
  clear hq1 hq2 ho2
  go_wp2_with fail
  go_ret
  exact ⟨rfl, FB.out.now⟩
/-! last -/
theorem walk_FnExactIsCounting (w : World) (z0 : Int) (_w0 : (Lit.int .i64 z0).wf = true) (z1 : Int) (_w1 : (Lit.int .i64 z1).wf = true) (A : Option Addr) (n c : Nat) (X : Nat → Int) (hm : n ≤ maxLen) (hr : IRow w A n X) :
    Calls Try.prog 3 #[.agg #[.int .i64 z0, .int .i64 z1, .slice A n c]] w fun e w' => e = .returned (.bool true) ∧ Below w.heap.size w w' := by
  obtain ⟨b, hb⟩ := bool_of (CoV z0 z1 n X)
  exact main_FnExactIsCounting z0 z1 n X b A c w hm hr
    (fun _ A c w g => spec_isCounting hb (by omega) g) (fun _ A c w g => impl_counting hb (by omega) g)
end Go.Proofs.Ytpajbcgdoedleab
