/- The law of PrintHas, walked: what both sides answer comes in as hypotheses. -/
import Derived.Test.YtpajbcgdoedleabObjTa
import Derived.Test.YtpajbcgdoedleabPrT
import Derived.Deep.RegionHeld3
namespace Go.Proofs.Ytpajbcgdoedleab
open Go.RowKit

set_option maxRecDepth 100000 in
set_option maxHeartbeats 8000000 in
theorem main_FnExactPrintHas (a0z0 : Int) (a0z1 : Int) (a0z2 : Int) (a0n3 : Nat) (a0X3 : Nat → Int) (a1z0 : ByteArray) (r0z0 : Bool) (r1z0 : Bool) (a0A3 : Option Addr) (a0c3 : Nat) (w : World) (ha0m3 : a0n3 ≤ maxLen) (ha0r3 : GRow w a0A3 a0n3 (intV a0X3)) (_ha1s0 : a1z0.size ≤ maxLen)
    (s1 : a0n3 ≤ 1048576 → a1z0.size ≤ 1048576 → ∀ (ua0A3 : Option Addr) (ua0c3 : Nat) (w : World), GRow w ua0A3 a0n3 (intV a0X3) → Calls Try.prog 37 #[.agg #[.int .i64 a0z0, .int .i64 a0z1, .int .i64 a0z2, .slice ua0A3 a0n3 ua0c3], .string a1z0] w fun e w' => e = .returned (.tuple #[.bool r0z0, .bool r1z0]) ∧ Below w.heap.size w w')
    (s2 : a0n3 ≤ 1048576 → a1z0.size ≤ 1048576 → ∀ (ua0A3 : Option Addr) (ua0c3 : Nat) (w : World), GRow w ua0A3 a0n3 (intV a0X3) → Calls Try.prog 39 #[.agg #[.int .i64 a0z0, .int .i64 a0z1, .int .i64 a0z2, .slice ua0A3 a0n3 ua0c3], .string a1z0] w fun e w' => e = .returned (.tuple #[.bool r0z0, .bool r1z0]) ∧ Below w.heap.size w w') :
    Calls Try.prog 9 #[.agg #[.int .i64 a0z0, .int .i64 a0z1, .int .i64 a0z2, .slice a0A3 a0n3 a0c3], .string a1z0] w fun e w' => e = .returned (.bool true) ∧ Below w.heap.size w w' := by
  have S1 := Lib.hid s1
  have S2 := Lib.hid s2
  clear s1 s2
  have FB := Lib.hid ((At.start w).alloc (.cells #[.int .i64 a0z0, .int .i64 a0z1, .int .i64 a0z2, .slice a0A3 a0n3 a0c3] 53))
  have Fa03 := Lib.hid ((rd_of_row ha0r3).alloc (.cells #[.int .i64 a0z0, .int .i64 a0z1, .int .i64 a0z2, .slice a0A3 a0n3 a0c3] 53))
  have Ba0 := Lib.hid (boxed w #[.int .i64 a0z0, .int .i64 a0z1, .int .i64 a0z2, .slice a0A3 a0n3 a0c3] 53)
  clear ha0r3
  by_cases hlong_a1 : (1048576 : Int) < (a1z0.size : Int)
  · go_enter Try.func9, Try.ntmps9
    go_wp2_with fail
    go_ret
    exact ⟨rfl, FB.out.now⟩
  go_enter Try.func9, Try.ntmps9
  go_wp2_with fail
  refine (sz_Table ha0m3 (by omega) (by omega)).mono ?_; rintro e w1 ⟨rfl, hb⟩
  replace FB := Lib.hid (FB.out.b hb)
  replace Fa03 := Lib.hid (Fa03.out.b hb)
  replace Ba0 := Lib.hid (Ba0.out.b hb)
  have z_w1 : w.heap.size + 1 ≤ w1.heap.size := by have hsz := hb.size; first | omega | (simp at hsz; omega)
  clear hb
  by_cases hZ_a0 : ((a0n3 : Nat) : Int) ≤ (1048576 : Int)
  rotate_left
  · rw [szv_no hZ_a0]
    go_wp2_with fail
    go_ret
    exact ⟨rfl, FB.out.now⟩
  rw [szv_yes hZ_a0]
  have hL_a0 : ¬ (((1048576 : Int) - (((a0n3 : Nat) : Int))) < 0) := by omega
  have c_Ba0_0 := Ba0.out.now 0 _ rfl
  have c_Ba0_1 := Ba0.out.now 1 _ rfl
  have c_Ba0_2 := Ba0.out.now 2 _ rfl
  have c_Ba0_3 := Ba0.out.now 3 _ rfl
  replace S1 := Lib.hid (S1.out (by omega) (by omega))
  replace S2 := Lib.hid (S2.out (by omega) (by omega))
  have ha0k3 : a0n3 ≤ 1048576 := by omega
  go_wp2_with fail
  refine (to_Table ha0k3 Fa03.out.row).mono ?_; rintro e w2 ⟨tma0A3, tma0c3, rfl, ho3, hb⟩
  replace FB := Lib.hid (FB.out.b hb)
  replace Fa03 := Lib.hid (Fa03.out.b hb)
  replace Ba0 := Lib.hid (Ba0.out.b hb)
  have z_w2 : w1.heap.size ≤ w2.heap.size := by have hsz := hb.size; first | omega | (simp at hsz; omega)
  clear c_Ba0_0 c_Ba0_1 c_Ba0_2 c_Ba0_3
  have Otma03 := Lib.hid (owned (ho3.mono (lo' := w1.heap.size) (Nat.le_refl _) (Nat.le_refl _)))
  clear hb ho3
  go_wp2_with fail
  refine (S1.out _ _ _ Otma03.out.orow).mono ?_; rintro e w3 ⟨rfl, hb⟩
  replace FB := Lib.hid (FB.out.b hb)
  replace Fa03 := Lib.hid (Fa03.out.b hb)
  replace Ba0 := Lib.hid (Ba0.out.b hb)
  replace Otma03 := Lib.hid (Otma03.out.b hb)
  have z_w3 : w2.heap.size ≤ w3.heap.size := by have hsz := hb.size; first | omega | (simp at hsz; omega)
  clear hb 
  clear Otma03
  have c_Ba0_0 := Ba0.out.now 0 _ rfl
  have c_Ba0_1 := Ba0.out.now 1 _ rfl
  have c_Ba0_2 := Ba0.out.now 2 _ rfl
  have c_Ba0_3 := Ba0.out.now 3 _ rfl
  go_wp2_with fail
  refine (to_Table ha0k3 Fa03.out.row).mono ?_; rintro e w4 ⟨xa0A3, xa0c3, rfl, ho3, hb⟩
  replace FB := Lib.hid (FB.out.b hb)
  replace Fa03 := Lib.hid (Fa03.out.b hb)
  replace Ba0 := Lib.hid (Ba0.out.b hb)
  have z_w4 : w3.heap.size ≤ w4.heap.size := by have hsz := hb.size; first | omega | (simp at hsz; omega)
  clear c_Ba0_0 c_Ba0_1 c_Ba0_2 c_Ba0_3
  have Oxa03 := Lib.hid (owned (ho3.mono (lo' := w3.heap.size) (Nat.le_refl _) (Nat.le_refl _)))
  clear hb ho3
  replace FB := Lib.hid (FB.out.alloc (.cells #[.int .i64 a0z0, .int .i64 a0z1, .int .i64 a0z2, .slice xa0A3 a0n3 xa0c3] 57))
  replace Fa03 := Lib.hid (Fa03.out.alloc (.cells #[.int .i64 a0z0, .int .i64 a0z1, .int .i64 a0z2, .slice xa0A3 a0n3 xa0c3] 57))
  replace Ba0 := Lib.hid (Ba0.out.alloc (.cells #[.int .i64 a0z0, .int .i64 a0z1, .int .i64 a0z2, .slice xa0A3 a0n3 xa0c3] 57))
  replace Oxa03 := Lib.hid (Oxa03.out.alloc (.cells #[.int .i64 a0z0, .int .i64 a0z1, .int .i64 a0z2, .slice xa0A3 a0n3 xa0c3] 57))
  have Yxa0 := Lib.hid (boxed w4 #[.int .i64 a0z0, .int .i64 a0z1, .int .i64 a0z2, .slice xa0A3 a0n3 xa0c3] 57)
  have c_Yxa0_0 := Yxa0.out.now 0 _ rfl
  have c_Yxa0_1 := Yxa0.out.now 1 _ rfl
  have c_Yxa0_2 := Yxa0.out.now 2 _ rfl
  have c_Yxa0_3 := Yxa0.out.now 3 _ rfl
  go_wp2_with fail
  refine (S2.out _ _ _ Oxa03.out.orow).mono ?_; rintro e w5 ⟨rfl, hb⟩
  replace FB := Lib.hid (FB.out.b hb)
  replace Fa03 := Lib.hid (Fa03.out.b hb)
  replace Ba0 := Lib.hid (Ba0.out.b hb)
  replace Oxa03 := Lib.hid (Oxa03.out.b hb)
  replace Yxa0 := Lib.hid (Yxa0.out.b hb)
  have z_w5 : w4.heap.size + 1 ≤ w5.heap.size := by have hsz := hb.size; first | omega | (simp at hsz; omega)
  clear c_Yxa0_0 c_Yxa0_1 c_Yxa0_2 c_Yxa0_3
  clear hb 
  have c_Ba0_0 := Ba0.out.now 0 _ rfl
  have c_Ba0_1 := Ba0.out.now 1 _ rfl
  have c_Ba0_2 := Ba0.out.now 2 _ rfl
  have c_Ba0_3 := Ba0.out.now 3 _ rfl
  have c_Yxa0_0 := Yxa0.out.now 0 _ rfl
  have c_Yxa0_1 := Yxa0.out.now 1 _ rfl
  have c_Yxa0_2 := Yxa0.out.now 2 _ rfl
  have c_Yxa0_3 := Yxa0.out.now 3 _ rfl
  go_wp2_with fail
  go_region_held3 (fun w' => w'.cell? ⟨w.heap.size, 0, none⟩ = some (.int .i64 a0z0) ∧ w'.cell? ⟨w.heap.size, 1, none⟩ = some (.int .i64 a0z1) ∧ w'.cell? ⟨w.heap.size, 2, none⟩ = some (.int .i64 a0z2) ∧ w'.cell? ⟨w.heap.size, 3, none⟩ = some (.slice a0A3 a0n3 a0c3) ∧ w'.cell? ⟨w4.heap.size, 0, none⟩ = some (.int .i64 a0z0) ∧ w'.cell? ⟨w4.heap.size, 1, none⟩ = some (.int .i64 a0z1) ∧ w'.cell? ⟨w4.heap.size, 2, none⟩ = some (.int .i64 a0z2) ∧ w'.cell? ⟨w4.heap.size, 3, none⟩ = some (.slice xa0A3 a0n3 xa0c3))
    (first | (go_keep; done) | exact ⟨(((Ba0.out.b hq1).b hq2)).now 0 _ rfl, (((Ba0.out.b hq1).b hq2)).now 1 _ rfl, (((Ba0.out.b hq1).b hq2)).now 2 _ rfl, (((Ba0.out.b hq1).b hq2)).now 3 _ rfl, (((Yxa0.out.b hq1).b hq2)).now 0 _ rfl, (((Yxa0.out.b hq1).b hq2)).now 1 _ rfl, (((Yxa0.out.b hq1).b hq2)).now 2 _ rfl, (((Yxa0.out.b hq1).b hq2)).now 3 _ rfl⟩ | exact ⟨((Ba0.out.b hq1)).now 0 _ rfl, ((Ba0.out.b hq1)).now 1 _ rfl, ((Ba0.out.b hq1)).now 2 _ rfl, ((Ba0.out.b hq1)).now 3 _ rfl, ((Yxa0.out.b hq1)).now 0 _ rfl, ((Yxa0.out.b hq1)).now 1 _ rfl, ((Yxa0.out.b hq1)).now 2 _ rfl, ((Yxa0.out.b hq1)).now 3 _ rfl⟩)
    (first
      | (have hqz := hq1; clear hqz; go_at_call 40; (first | refine (eq_Table ha0k3 ((Oxa03.out.b hq1)).orow (owned ho3).orow).mono ?_); rintro e w7 ⟨rfl, hq2⟩)
      | (go_at_call 38; (first | refine (to_Table ha0k3 (Fa03.out).row).mono ?_ | refine (to_Table ha0k3 (GRow.drew (Fa03.out).row)).mono ?_); rintro e w6 ⟨ya0A3, ya0c3, rfl, ho3, hq1'⟩; have hq1 := of_drew hq1'; clear hq1'))
  replace FB := Lib.hid (FB.out.b hq1)
  replace Fa03 := Lib.hid (Fa03.out.b hq1)
  replace Ba0 := Lib.hid (Ba0.out.b hq1)
  replace Oxa03 := Lib.hid (Oxa03.out.b hq1)
  replace Yxa0 := Lib.hid (Yxa0.out.b hq1)
  replace FB := Lib.hid (FB.out.b hq2)
  replace Fa03 := Lib.hid (Fa03.out.b hq2)
  replace Ba0 := Lib.hid (Ba0.out.b hq2)
  replace Oxa03 := Lib.hid (Oxa03.out.b hq2)
  replace Yxa0 := Lib.hid (Yxa0.out.b hq2)
  have z_w6 : w5.heap.size ≤ w6.heap.size := by have hsz := hq1.size; first | omega | (simp at hsz; omega)
  have z_w7 : w6.heap.size ≤ w7.heap.size := hq2.size
  clear c_Ba0_0 c_Ba0_1 c_Ba0_2 c_Ba0_3 c_Yxa0_0 c_Yxa0_1 c_Yxa0_2 c_Yxa0_3
  clear hq1 hq2 ho3
  go_wp2_with fail
  go_ret
  exact ⟨rfl, FB.out.now⟩
/-! last -/
theorem walk_FnExactPrintHas (w : World) (z0 : Int) (_w0 : (Lit.int .i64 z0).wf = true) (z1 : Int) (_w1 : (Lit.int .i64 z1).wf = true) (z2 : Int) (_w2 : (Lit.int .i64 z2).wf = true) (A : Option Addr) (n c : Nat) (X : Nat → Int) (hm : n ≤ maxLen) (hr : IRow w A n X) (s : ByteArray) (hs : s.size ≤ maxLen) :
    Calls Try.prog 9 #[.agg #[.int .i64 z0, .int .i64 z1, .int .i64 z2, .slice A n c], .string s] w fun e w' => e = .returned (.bool true) ∧ Below w.heap.size w w' := by
  by_cases h : TaV z0 z1 z2 n X ∧ isKeyB s.data.toList = true
  · obtain ⟨hv, hk⟩ := h
    obtain ⟨g, rfl⟩ : ∃ q : Nat, z1 = q := ⟨z1.toNat, by have := hv.2.1; omega⟩
    obtain ⟨v, rfl⟩ : ∃ q : Nat, z2 = q := ⟨z2.toNat, by have := hv.2.2.1; omega⟩
    exact main_FnExactPrintHas z0 g v n X s (psB z0 g v X s) true A c w hm hr hs
      (fun hn _ A c w g1 => spec_printHas (by omega) hv hk hs g1) (fun hn _ A c w g1 => impl_printHas (by omega) hv hk hs g1)
  · exact main_FnExactPrintHas z0 z1 z2 n X s false false A c w hm hr hs
      (fun hn _ A c w g1 => spec_printHas_no (by omega) h hs g1) (fun hn _ A c w g1 => impl_printHas_no (by omega) h hs g1)
end Go.Proofs.Ytpajbcgdoedleab
