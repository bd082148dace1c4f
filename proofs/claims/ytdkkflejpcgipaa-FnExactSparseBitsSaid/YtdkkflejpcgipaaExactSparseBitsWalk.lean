/- The law of SparseBits, walked: what both sides answer comes in as hypotheses. -/
import Derived.Test.YtdkkflejpcgipaaObjSp
import Derived.Test.YtdkkflejpcgipaaAskU
import Derived.Deep.RegionHeld3
namespace Go.Proofs.Ytdkkflejpcgipaa
open Go.RowKit

set_option maxRecDepth 100000 in
set_option maxHeartbeats 8000000 in
theorem main_FnExactSparseBits (a0z0 : Int) (a0z1 : Int) (a0z2 : Int) (a0z3 : Int) (a0n4 : Nat) (a0X4 : Nat → Int) (a0z5 : Int) (a0n6 : Nat) (a0X6 : Nat → Int) (r0z0 : Int) (r1z0 : Bool) (a0A4 : Option Addr) (a0c4 : Nat) (a0A6 : Option Addr) (a0c6 : Nat) (w : World) (ha0m4 : a0n4 ≤ maxLen) (ha0r4 : GRow w a0A4 a0n4 (intV a0X4)) (ha0m6 : a0n6 ≤ maxLen) (ha0r6 : GRow w a0A6 a0n6 (intV a0X6))
    (s1 : a0n4 + a0n6 ≤ 1048576 → ∀ (ua0A4 : Option Addr) (ua0c4 : Nat) (ua0A6 : Option Addr) (ua0c6 : Nat) (w : World), GRow w ua0A4 a0n4 (intV a0X4) → GRow w ua0A6 a0n6 (intV a0X6) → Calls Try.prog 43 #[.agg #[.int .i64 a0z0, .int .i64 a0z1, .int .i64 a0z2, .int .i64 a0z3, .slice ua0A4 a0n4 ua0c4, .int .i64 a0z5, .slice ua0A6 a0n6 ua0c6]] w fun e w' => e = .returned (.tuple #[.int .i64 r0z0, .bool r1z0]) ∧ Below w.heap.size w w')
    (s2 : a0n4 + a0n6 ≤ 1048576 → ∀ (ua0A4 : Option Addr) (ua0c4 : Nat) (ua0A6 : Option Addr) (ua0c6 : Nat) (w : World), GRow w ua0A4 a0n4 (intV a0X4) → GRow w ua0A6 a0n6 (intV a0X6) → Calls Try.prog 44 #[.agg #[.int .i64 a0z0, .int .i64 a0z1, .int .i64 a0z2, .int .i64 a0z3, .slice ua0A4 a0n4 ua0c4, .int .i64 a0z5, .slice ua0A6 a0n6 ua0c6]] w fun e w' => e = .returned (.tuple #[.int .i64 r0z0, .bool r1z0]) ∧ Below w.heap.size w w') :
    Calls Try.prog 12 #[.agg #[.int .i64 a0z0, .int .i64 a0z1, .int .i64 a0z2, .int .i64 a0z3, .slice a0A4 a0n4 a0c4, .int .i64 a0z5, .slice a0A6 a0n6 a0c6]] w fun e w' => e = .returned (.bool true) ∧ Below w.heap.size w w' := by
  have S1 := Lib.hid s1
  have S2 := Lib.hid s2
  clear s1 s2
  have FB := Lib.hid ((At.start w).alloc (.cells #[.int .i64 a0z0, .int .i64 a0z1, .int .i64 a0z2, .int .i64 a0z3, .slice a0A4 a0n4 a0c4, .int .i64 a0z5, .slice a0A6 a0n6 a0c6] 40))
  have Fa04 := Lib.hid ((rd_of_row ha0r4).alloc (.cells #[.int .i64 a0z0, .int .i64 a0z1, .int .i64 a0z2, .int .i64 a0z3, .slice a0A4 a0n4 a0c4, .int .i64 a0z5, .slice a0A6 a0n6 a0c6] 40))
  have Fa06 := Lib.hid ((rd_of_row ha0r6).alloc (.cells #[.int .i64 a0z0, .int .i64 a0z1, .int .i64 a0z2, .int .i64 a0z3, .slice a0A4 a0n4 a0c4, .int .i64 a0z5, .slice a0A6 a0n6 a0c6] 40))
  have Ba0 := Lib.hid (boxed w #[.int .i64 a0z0, .int .i64 a0z1, .int .i64 a0z2, .int .i64 a0z3, .slice a0A4 a0n4 a0c4, .int .i64 a0z5, .slice a0A6 a0n6 a0c6] 40)
  clear ha0r4 ha0r6
  go_enter Try.func12, Try.ntmps12
  go_wp2_with fail
  refine (sz_Sparse ha0m4 ha0m6 (by omega) (by omega)).mono ?_; rintro e w1 ⟨rfl, hb⟩
  replace FB := Lib.hid (FB.out.b hb)
  replace Fa04 := Lib.hid (Fa04.out.b hb)
  replace Fa06 := Lib.hid (Fa06.out.b hb)
  replace Ba0 := Lib.hid (Ba0.out.b hb)
  have z_w1 : w.heap.size + 1 ≤ w1.heap.size := by have hsz := hb.size; first | omega | (simp at hsz; omega)
  clear hb
  by_cases hZ_a0 : ((a0n4 + a0n6 : Nat) : Int) ≤ (1048576 : Int)
  rotate_left
  · rw [szv_no hZ_a0]
    go_wp2_with fail
    go_ret
    exact ⟨rfl, FB.out.now⟩
  rw [szv_yes hZ_a0]
  have hL_a0 : ¬ (((1048576 : Int) - (((a0n4 : Nat) : Int) + ((a0n6 : Nat) : Int))) < 0) := by omega
  have c_Ba0_0 := Ba0.out.now 0 _ rfl
  have c_Ba0_1 := Ba0.out.now 1 _ rfl
  have c_Ba0_2 := Ba0.out.now 2 _ rfl
  have c_Ba0_3 := Ba0.out.now 3 _ rfl
  have c_Ba0_4 := Ba0.out.now 4 _ rfl
  have c_Ba0_5 := Ba0.out.now 5 _ rfl
  have c_Ba0_6 := Ba0.out.now 6 _ rfl
  replace S1 := Lib.hid (S1.out (by omega))
  replace S2 := Lib.hid (S2.out (by omega))
  have ha0k4 : a0n4 ≤ 1048576 := by omega
  have ha0k6 : a0n6 ≤ 1048576 := by omega
  go_wp2_with fail
  refine (to_Sparse ha0k4 ha0k6 Fa04.out.row Fa06.out.row).mono ?_; rintro e w2 ⟨tma0A4, tma0c4, tma0A6, tma0c6, rfl, ho4, ho6, hap_tma0_0, hb⟩
  replace FB := Lib.hid (FB.out.b hb)
  replace Fa04 := Lib.hid (Fa04.out.b hb)
  replace Fa06 := Lib.hid (Fa06.out.b hb)
  replace Ba0 := Lib.hid (Ba0.out.b hb)
  have z_w2 : w1.heap.size ≤ w2.heap.size := by have hsz := hb.size; first | omega | (simp at hsz; omega)
  clear c_Ba0_0 c_Ba0_1 c_Ba0_2 c_Ba0_3 c_Ba0_4 c_Ba0_5 c_Ba0_6
  have Otma04 := Lib.hid (owned (ho4.mono (lo' := w1.heap.size) (Nat.le_refl _) (Nat.le_refl _)))
  have Otma06 := Lib.hid (owned (ho6.mono (lo' := w1.heap.size) (Nat.le_refl _) (Nat.le_refl _)))
  clear hb ho4 ho6
  clear hap_tma0_0
  go_wp2_with fail
  refine (S1.out _ _ _ _ _ Otma04.out.orow Otma06.out.orow).mono ?_; rintro e w3 ⟨rfl, hb⟩
  replace FB := Lib.hid (FB.out.b hb)
  replace Fa04 := Lib.hid (Fa04.out.b hb)
  replace Fa06 := Lib.hid (Fa06.out.b hb)
  replace Ba0 := Lib.hid (Ba0.out.b hb)
  replace Otma04 := Lib.hid (Otma04.out.b hb)
  replace Otma06 := Lib.hid (Otma06.out.b hb)
  have z_w3 : w2.heap.size ≤ w3.heap.size := by have hsz := hb.size; first | omega | (simp at hsz; omega)
  clear hb 
  clear Otma04 Otma06
  have c_Ba0_0 := Ba0.out.now 0 _ rfl
  have c_Ba0_1 := Ba0.out.now 1 _ rfl
  have c_Ba0_2 := Ba0.out.now 2 _ rfl
  have c_Ba0_3 := Ba0.out.now 3 _ rfl
  have c_Ba0_4 := Ba0.out.now 4 _ rfl
  have c_Ba0_5 := Ba0.out.now 5 _ rfl
  have c_Ba0_6 := Ba0.out.now 6 _ rfl
  go_wp2_with fail
  refine (to_Sparse ha0k4 ha0k6 Fa04.out.row Fa06.out.row).mono ?_; rintro e w4 ⟨xa0A4, xa0c4, xa0A6, xa0c6, rfl, ho4, ho6, hap_xa0_0, hb⟩
  replace FB := Lib.hid (FB.out.b hb)
  replace Fa04 := Lib.hid (Fa04.out.b hb)
  replace Fa06 := Lib.hid (Fa06.out.b hb)
  replace Ba0 := Lib.hid (Ba0.out.b hb)
  have z_w4 : w3.heap.size ≤ w4.heap.size := by have hsz := hb.size; first | omega | (simp at hsz; omega)
  clear c_Ba0_0 c_Ba0_1 c_Ba0_2 c_Ba0_3 c_Ba0_4 c_Ba0_5 c_Ba0_6
  have Oxa04 := Lib.hid (owned (ho4.mono (lo' := w3.heap.size) (Nat.le_refl _) (Nat.le_refl _)))
  have Oxa06 := Lib.hid (owned (ho6.mono (lo' := w3.heap.size) (Nat.le_refl _) (Nat.le_refl _)))
  clear hb ho4 ho6
  replace FB := Lib.hid (FB.out.alloc (.cells #[.int .i64 a0z0, .int .i64 a0z1, .int .i64 a0z2, .int .i64 a0z3, .slice xa0A4 a0n4 xa0c4, .int .i64 a0z5, .slice xa0A6 a0n6 xa0c6] 29))
  replace Fa04 := Lib.hid (Fa04.out.alloc (.cells #[.int .i64 a0z0, .int .i64 a0z1, .int .i64 a0z2, .int .i64 a0z3, .slice xa0A4 a0n4 xa0c4, .int .i64 a0z5, .slice xa0A6 a0n6 xa0c6] 29))
  replace Fa06 := Lib.hid (Fa06.out.alloc (.cells #[.int .i64 a0z0, .int .i64 a0z1, .int .i64 a0z2, .int .i64 a0z3, .slice xa0A4 a0n4 xa0c4, .int .i64 a0z5, .slice xa0A6 a0n6 xa0c6] 29))
  replace Ba0 := Lib.hid (Ba0.out.alloc (.cells #[.int .i64 a0z0, .int .i64 a0z1, .int .i64 a0z2, .int .i64 a0z3, .slice xa0A4 a0n4 xa0c4, .int .i64 a0z5, .slice xa0A6 a0n6 xa0c6] 29))
  replace Oxa04 := Lib.hid (Oxa04.out.alloc (.cells #[.int .i64 a0z0, .int .i64 a0z1, .int .i64 a0z2, .int .i64 a0z3, .slice xa0A4 a0n4 xa0c4, .int .i64 a0z5, .slice xa0A6 a0n6 xa0c6] 29))
  replace Oxa06 := Lib.hid (Oxa06.out.alloc (.cells #[.int .i64 a0z0, .int .i64 a0z1, .int .i64 a0z2, .int .i64 a0z3, .slice xa0A4 a0n4 xa0c4, .int .i64 a0z5, .slice xa0A6 a0n6 xa0c6] 29))
  have Yxa0 := Lib.hid (boxed w4 #[.int .i64 a0z0, .int .i64 a0z1, .int .i64 a0z2, .int .i64 a0z3, .slice xa0A4 a0n4 xa0c4, .int .i64 a0z5, .slice xa0A6 a0n6 xa0c6] 29)
  have c_Yxa0_0 := Yxa0.out.now 0 _ rfl
  have c_Yxa0_1 := Yxa0.out.now 1 _ rfl
  have c_Yxa0_2 := Yxa0.out.now 2 _ rfl
  have c_Yxa0_3 := Yxa0.out.now 3 _ rfl
  have c_Yxa0_4 := Yxa0.out.now 4 _ rfl
  have c_Yxa0_5 := Yxa0.out.now 5 _ rfl
  have c_Yxa0_6 := Yxa0.out.now 6 _ rfl
  go_wp2_with fail
  refine (S2.out _ _ _ _ _ Oxa04.out.orow Oxa06.out.orow).mono ?_; rintro e w5 ⟨rfl, hb⟩
  replace FB := Lib.hid (FB.out.b hb)
  replace Fa04 := Lib.hid (Fa04.out.b hb)
  replace Fa06 := Lib.hid (Fa06.out.b hb)
  replace Ba0 := Lib.hid (Ba0.out.b hb)
  replace Oxa04 := Lib.hid (Oxa04.out.b hb)
  replace Oxa06 := Lib.hid (Oxa06.out.b hb)
  replace Yxa0 := Lib.hid (Yxa0.out.b hb)
  have z_w5 : w4.heap.size + 1 ≤ w5.heap.size := by have hsz := hb.size; first | omega | (simp at hsz; omega)
  clear c_Yxa0_0 c_Yxa0_1 c_Yxa0_2 c_Yxa0_3 c_Yxa0_4 c_Yxa0_5 c_Yxa0_6
  clear hb 
  have c_Ba0_0 := Ba0.out.now 0 _ rfl
  have c_Ba0_1 := Ba0.out.now 1 _ rfl
  have c_Ba0_2 := Ba0.out.now 2 _ rfl
  have c_Ba0_3 := Ba0.out.now 3 _ rfl
  have c_Ba0_4 := Ba0.out.now 4 _ rfl
  have c_Ba0_5 := Ba0.out.now 5 _ rfl
  have c_Ba0_6 := Ba0.out.now 6 _ rfl
  have c_Yxa0_0 := Yxa0.out.now 0 _ rfl
  have c_Yxa0_1 := Yxa0.out.now 1 _ rfl
  have c_Yxa0_2 := Yxa0.out.now 2 _ rfl
  have c_Yxa0_3 := Yxa0.out.now 3 _ rfl
  have c_Yxa0_4 := Yxa0.out.now 4 _ rfl
  have c_Yxa0_5 := Yxa0.out.now 5 _ rfl
  have c_Yxa0_6 := Yxa0.out.now 6 _ rfl
  go_wp2_with fail
  go_region_held3 (fun w' => w'.cell? ⟨w.heap.size, 0, none⟩ = some (.int .i64 a0z0) ∧ w'.cell? ⟨w.heap.size, 1, none⟩ = some (.int .i64 a0z1) ∧ w'.cell? ⟨w.heap.size, 2, none⟩ = some (.int .i64 a0z2) ∧ w'.cell? ⟨w.heap.size, 3, none⟩ = some (.int .i64 a0z3) ∧ w'.cell? ⟨w.heap.size, 4, none⟩ = some (.slice a0A4 a0n4 a0c4) ∧ w'.cell? ⟨w.heap.size, 5, none⟩ = some (.int .i64 a0z5) ∧ w'.cell? ⟨w.heap.size, 6, none⟩ = some (.slice a0A6 a0n6 a0c6) ∧ w'.cell? ⟨w4.heap.size, 0, none⟩ = some (.int .i64 a0z0) ∧ w'.cell? ⟨w4.heap.size, 1, none⟩ = some (.int .i64 a0z1) ∧ w'.cell? ⟨w4.heap.size, 2, none⟩ = some (.int .i64 a0z2) ∧ w'.cell? ⟨w4.heap.size, 3, none⟩ = some (.int .i64 a0z3) ∧ w'.cell? ⟨w4.heap.size, 4, none⟩ = some (.slice xa0A4 a0n4 xa0c4) ∧ w'.cell? ⟨w4.heap.size, 5, none⟩ = some (.int .i64 a0z5) ∧ w'.cell? ⟨w4.heap.size, 6, none⟩ = some (.slice xa0A6 a0n6 xa0c6))
    (first | (go_keep; done) | exact ⟨(((Ba0.out.b hq1).b hq2)).now 0 _ rfl, (((Ba0.out.b hq1).b hq2)).now 1 _ rfl, (((Ba0.out.b hq1).b hq2)).now 2 _ rfl, (((Ba0.out.b hq1).b hq2)).now 3 _ rfl, (((Ba0.out.b hq1).b hq2)).now 4 _ rfl, (((Ba0.out.b hq1).b hq2)).now 5 _ rfl, (((Ba0.out.b hq1).b hq2)).now 6 _ rfl, (((Yxa0.out.b hq1).b hq2)).now 0 _ rfl, (((Yxa0.out.b hq1).b hq2)).now 1 _ rfl, (((Yxa0.out.b hq1).b hq2)).now 2 _ rfl, (((Yxa0.out.b hq1).b hq2)).now 3 _ rfl, (((Yxa0.out.b hq1).b hq2)).now 4 _ rfl, (((Yxa0.out.b hq1).b hq2)).now 5 _ rfl, (((Yxa0.out.b hq1).b hq2)).now 6 _ rfl⟩ | exact ⟨((Ba0.out.b hq1)).now 0 _ rfl, ((Ba0.out.b hq1)).now 1 _ rfl, ((Ba0.out.b hq1)).now 2 _ rfl, ((Ba0.out.b hq1)).now 3 _ rfl, ((Ba0.out.b hq1)).now 4 _ rfl, ((Ba0.out.b hq1)).now 5 _ rfl, ((Ba0.out.b hq1)).now 6 _ rfl, ((Yxa0.out.b hq1)).now 0 _ rfl, ((Yxa0.out.b hq1)).now 1 _ rfl, ((Yxa0.out.b hq1)).now 2 _ rfl, ((Yxa0.out.b hq1)).now 3 _ rfl, ((Yxa0.out.b hq1)).now 4 _ rfl, ((Yxa0.out.b hq1)).now 5 _ rfl, ((Yxa0.out.b hq1)).now 6 _ rfl⟩)
    (first
      | (have hqz := hq1; clear hqz; go_at_call 21; (first | refine (eq_Sparse ha0k4 ha0k6 ((Oxa04.out.b hq1)).orow ((Oxa06.out.b hq1)).orow (owned ho4).orow (owned ho6).orow).mono ?_); rintro e w7 ⟨rfl, hq2⟩)
      | (go_at_call 28; (first | refine (to_Sparse ha0k4 ha0k6 (Fa04.out).row (Fa06.out).row).mono ?_ | refine (to_Sparse ha0k4 ha0k6 (GRow.drew (Fa04.out).row) (GRow.drew (Fa06.out).row)).mono ?_); rintro e w6 ⟨ya0A4, ya0c4, ya0A6, ya0c6, rfl, ho4, ho6, hz0, hq1'⟩; have hq1 := of_drew hq1'; clear hq1'))
  replace FB := Lib.hid (FB.out.b hq1)
  replace Fa04 := Lib.hid (Fa04.out.b hq1)
  replace Fa06 := Lib.hid (Fa06.out.b hq1)
  replace Ba0 := Lib.hid (Ba0.out.b hq1)
  replace Oxa04 := Lib.hid (Oxa04.out.b hq1)
  replace Oxa06 := Lib.hid (Oxa06.out.b hq1)
  replace Yxa0 := Lib.hid (Yxa0.out.b hq1)
  replace FB := Lib.hid (FB.out.b hq2)
  replace Fa04 := Lib.hid (Fa04.out.b hq2)
  replace Fa06 := Lib.hid (Fa06.out.b hq2)
  replace Ba0 := Lib.hid (Ba0.out.b hq2)
  replace Oxa04 := Lib.hid (Oxa04.out.b hq2)
  replace Oxa06 := Lib.hid (Oxa06.out.b hq2)
  replace Yxa0 := Lib.hid (Yxa0.out.b hq2)
  have z_w6 : w5.heap.size ≤ w6.heap.size := by have hsz := hq1.size; first | omega | (simp at hsz; omega)
  have z_w7 : w6.heap.size ≤ w7.heap.size := hq2.size
  clear c_Ba0_0 c_Ba0_1 c_Ba0_2 c_Ba0_3 c_Ba0_4 c_Ba0_5 c_Ba0_6 c_Yxa0_0 c_Yxa0_1 c_Yxa0_2 c_Yxa0_3 c_Yxa0_4 c_Yxa0_5 c_Yxa0_6
  clear hq1 hq2 ho4 ho6 hz0
  go_wp2_with fail
  go_ret
  exact ⟨rfl, FB.out.now⟩

theorem walk_FnExactSparseBits (w : World) (z0 : Int) (_w0 : (Lit.int .i64 z0).wf = true) (z1 : Int) (_w1 : (Lit.int .i64 z1).wf = true) (z2 : Int) (_w2 : (Lit.int .i64 z2).wf = true) (z3 : Int) (_w3 : (Lit.int .i64 z3).wf = true) (A1 : Option Addr) (n1 c1 : Nat) (X1 : Nat → Int) (m1 : n1 ≤ maxLen) (r1 : IRow w A1 n1 X1) (z4 : Int) (_w4 : (Lit.int .i64 z4).wf = true) (A2 : Option Addr) (n2 c2 : Nat) (X2 : Nat → Int) (m2 : n2 ≤ maxLen) (r2 : IRow w A2 n2 X2) :
    Calls Try.prog 12 #[.agg #[.int .i64 z0, .int .i64 z1, .int .i64 z2, .int .i64 z3, .slice A1 n1 c1, .int .i64 z4, .slice A2 n2 c2]] w fun e w' => e = .returned (.bool true) ∧ Below w.heap.size w w' := by
  by_cases hv : SpV z0 z1 z2 z3 n1 X1 z4 n2 X2
  · have hv' := hv
    obtain ⟨c, L, v, f, h⟩ := hv
    have b1 := h.num.lows
    have b2 := h.num.high
    exact main_FnExactSparseBits z0 z1 z2 z3 n1 X1 z4 n2 X2 (((c * v : Nat) : Int) + ((hzN c L v : Nat) : Int)) true A1 c1 A2 c2 w m1 r1 m2 r2
      (fun hs _ _ _ _ _ g1 g2 => spec_SparseBits_yes _ n1 _ X1 _ n2 _ X2 _ (c * v) (hzN c L v) (by omega) (by omega) g1 g2 hv' h.el h.eh b1 b2)
      (fun hs _ _ _ _ _ g1 g2 => impl_SparseBits_yes _ n1 _ X1 _ n2 _ X2 _ (c * v) (hzN c L v) (by omega) (by omega) g1 g2 hv' h.el h.eh b1 b2)
  · exact main_FnExactSparseBits z0 z1 z2 z3 n1 X1 z4 n2 X2 0 false A1 c1 A2 c2 w m1 r1 m2 r2
      (fun hs _ _ _ _ _ g1 g2 => spec_SparseBits_no _ n1 _ X1 _ n2 _ X2 _ (by omega) (by omega) g1 g2 hv)
      (fun hs _ _ _ _ _ g1 g2 => impl_SparseBits_no _ n1 _ X1 _ n2 _ X2 _ (by omega) (by omega) g1 g2 hv)
end Go.Proofs.Ytdkkflejpcgipaa
