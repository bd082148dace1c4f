/- The law of IsPeelOrder, walked: what both sides answer comes in as hypotheses. -/
import Derived.Test.YtfhanighnckbhaaPeelJ
import Derived.Deep.RegionHeld3
namespace Go.Proofs.Ytfhanighnckbhaa
open Go.RowKit

set_option maxRecDepth 100000 in
set_option maxHeartbeats 8000000 in
theorem main_FnExactIsPeelOrder (a0z0 : Int) (a0n1 : Nat) (a0L1 : Nat → Nat) (a0X1 : Nat → Nat → Int) (a1n0 : Nat) (a1X0 : Nat → Int) (r0z0 : Bool) (r1z0 : Bool) (a0A1 : Option Addr) (a0c1 : Nat) (a1A0 : Option Addr) (a1c0 : Nat) (w : World) (ha0m1 : a0n1 ≤ maxLen) (ha0r1 : HRow w a0A1 a0n1 a0L1 a0X1) (ha0s1 : ∀ i, i < a0n1 → a0L1 i ≤ maxLen) (ha1m0 : a1n0 ≤ maxLen) (ha1r0 : GRow w a1A0 (2 * a1n0) (intV a1X0))
    (s1 : a0n1 + (sumL a0L1 a0n1) + a1n0 ≤ 1048576 → ∀ (ua0A1 : Option Addr) (ua0c1 : Nat) (ua1A0 : Option Addr) (ua1c0 : Nat) (w : World), HRow w ua0A1 a0n1 a0L1 a0X1 → GRow w ua1A0 (2 * a1n0) (intV a1X0) → Calls Try.prog 41 #[.agg #[.int .i64 a0z0, .slice ua0A1 a0n1 ua0c1], .slice ua1A0 a1n0 ua1c0] w fun e w' => e = .returned (.tuple #[.bool r0z0, .bool r1z0]) ∧ Below w.heap.size w w')
    (s2 : a0n1 + (sumL a0L1 a0n1) + a1n0 ≤ 1048576 → ∀ (ua0A1 : Option Addr) (ua0c1 : Nat) (ua1A0 : Option Addr) (ua1c0 : Nat) (w : World), HRow w ua0A1 a0n1 a0L1 a0X1 → GRow w ua1A0 (2 * a1n0) (intV a1X0) → Calls Try.prog 43 #[.agg #[.int .i64 a0z0, .slice ua0A1 a0n1 ua0c1], .slice ua1A0 a1n0 ua1c0] w fun e w' => e = .returned (.tuple #[.bool r0z0, .bool r1z0]) ∧ Below w.heap.size w w') :
    Calls Try.prog 7 #[.agg #[.int .i64 a0z0, .slice a0A1 a0n1 a0c1], .slice a1A0 a1n0 a1c0] w fun e w' => e = .returned (.bool true) ∧ Below w.heap.size w w' := by
  have S1 := Lib.hid s1
  have S2 := Lib.hid s2
  clear s1 s2
  have FB := Lib.hid ((At.start w).alloc (.cells #[.int .i64 a0z0, .slice a0A1 a0n1 a0c1] 34))
  have Fa01 := Lib.hid ((rd2_of_row ha0r1).alloc (.cells #[.int .i64 a0z0, .slice a0A1 a0n1 a0c1] 34))
  have Fa10 := Lib.hid ((rd_of_row ha1r0).alloc (.cells #[.int .i64 a0z0, .slice a0A1 a0n1 a0c1] 34))
  have Ba0 := Lib.hid (boxed w #[.int .i64 a0z0, .slice a0A1 a0n1 a0c1] 34)
  clear ha0r1 ha1r0
  go_enter Try.func7, Try.ntmps7
  go_wp2_with fail
  refine (sz_Hyper ha0m1 ha0s1 Fa01.out.row2 (by omega) (by omega)).mono ?_; rintro e w1 ⟨rfl, hb⟩
  replace FB := Lib.hid (FB.out.b hb)
  replace Fa01 := Lib.hid (Fa01.out.b hb)
  replace Fa10 := Lib.hid (Fa10.out.b hb)
  replace Ba0 := Lib.hid (Ba0.out.b hb)
  have z_w1 : w.heap.size + 1 ≤ w1.heap.size := by have hsz := hb.size; first | omega | (simp at hsz; omega)
  clear hb
  by_cases hZ_a0 : ((a0n1 + (sumL a0L1 a0n1) : Nat) : Int) ≤ (1048576 : Int)
  rotate_left
  · rw [szv_no hZ_a0]
    go_wp2_with fail
    go_ret
    exact ⟨rfl, FB.out.now⟩
  rw [szv_yes hZ_a0]
  have hL_a0 : ¬ (((1048576 : Int) - (((a0n1 : Nat) : Int) + (((sumL a0L1 a0n1) : Nat) : Int))) < 0) := by omega
  have c_Ba0_0 := Ba0.out.now 0 _ rfl
  have c_Ba0_1 := Ba0.out.now 1 _ rfl
  go_wp2_with fail
  refine (sz_PeelStepS ha1m0 (by omega) (by omega)).mono ?_; rintro e w2 ⟨rfl, hb⟩
  replace FB := Lib.hid (FB.out.b hb)
  replace Fa01 := Lib.hid (Fa01.out.b hb)
  replace Fa10 := Lib.hid (Fa10.out.b hb)
  replace Ba0 := Lib.hid (Ba0.out.b hb)
  have z_w2 : w1.heap.size ≤ w2.heap.size := by have hsz := hb.size; first | omega | (simp at hsz; omega)
  clear c_Ba0_0 c_Ba0_1
  clear hb
  by_cases hZ_a1 : ((a1n0 : Nat) : Int) ≤ ((1048576 : Int) - (((a0n1 : Nat) : Int) + (((sumL a0L1 a0n1) : Nat) : Int)))
  rotate_left
  · rw [szv_no hZ_a1]
    go_wp2_with fail
    go_ret
    exact ⟨rfl, FB.out.now⟩
  rw [szv_yes hZ_a1]
  have hL_a1 : ¬ ((((1048576 : Int) - (((a0n1 : Nat) : Int) + (((sumL a0L1 a0n1) : Nat) : Int))) - (((a1n0 : Nat) : Int))) < 0) := by omega
  have c_Ba0_0 := Ba0.out.now 0 _ rfl
  have c_Ba0_1 := Ba0.out.now 1 _ rfl
  replace S1 := Lib.hid (S1.out (by omega))
  replace S2 := Lib.hid (S2.out (by omega))
  have ha0k1 : a0n1 + sumL a0L1 a0n1 ≤ 1048576 := by omega
  have ha1k0 : a1n0 ≤ 1048576 := by omega
  go_wp2_with fail
  refine (to_Hyper ha0k1 Fa01.out.row2).mono ?_; rintro e w3 ⟨tma0A1, tma0c1, rfl, ho1, hb⟩
  replace FB := Lib.hid (FB.out.b hb)
  replace Fa01 := Lib.hid (Fa01.out.b hb)
  replace Fa10 := Lib.hid (Fa10.out.b hb)
  replace Ba0 := Lib.hid (Ba0.out.b hb)
  have z_w3 : w2.heap.size ≤ w3.heap.size := by have hsz := hb.size; first | omega | (simp at hsz; omega)
  clear c_Ba0_0 c_Ba0_1
  have Otma01 := Lib.hid (owned2 (ho1.mono (lo' := w2.heap.size) (Nat.le_refl _) (Nat.le_refl _)))
  clear hb ho1
  go_wp2_with fail
  refine (to_PeelStepS ha1k0 Fa10.out.row).mono ?_; rintro e w4 ⟨tma1A0, tma1c0, rfl, ho0, hb⟩
  replace FB := Lib.hid (FB.out.b hb)
  replace Fa01 := Lib.hid (Fa01.out.b hb)
  replace Fa10 := Lib.hid (Fa10.out.b hb)
  replace Ba0 := Lib.hid (Ba0.out.b hb)
  replace Otma01 := Lib.hid (Otma01.out.b hb)
  have z_w4 : w3.heap.size ≤ w4.heap.size := by have hsz := hb.size; first | omega | (simp at hsz; omega)
  have Otma10 := Lib.hid (owned (ho0.mono (lo' := w3.heap.size) (Nat.le_refl _) (Nat.le_refl _)))
  clear hb ho0
  go_wp2_with fail
  refine (S1.out _ _ _ _ _ Otma01.out.orow2 Otma10.out.orow).mono ?_; rintro e w5 ⟨rfl, hb⟩
  replace FB := Lib.hid (FB.out.b hb)
  replace Fa01 := Lib.hid (Fa01.out.b hb)
  replace Fa10 := Lib.hid (Fa10.out.b hb)
  replace Ba0 := Lib.hid (Ba0.out.b hb)
  replace Otma01 := Lib.hid (Otma01.out.b hb)
  replace Otma10 := Lib.hid (Otma10.out.b hb)
  have z_w5 : w4.heap.size ≤ w5.heap.size := by have hsz := hb.size; first | omega | (simp at hsz; omega)
  clear hb 
  clear Otma01 Otma10
  have c_Ba0_0 := Ba0.out.now 0 _ rfl
  have c_Ba0_1 := Ba0.out.now 1 _ rfl
  go_wp2_with fail
  refine (to_Hyper ha0k1 Fa01.out.row2).mono ?_; rintro e w6 ⟨xa0A1, xa0c1, rfl, ho1, hb⟩
  replace FB := Lib.hid (FB.out.b hb)
  replace Fa01 := Lib.hid (Fa01.out.b hb)
  replace Fa10 := Lib.hid (Fa10.out.b hb)
  replace Ba0 := Lib.hid (Ba0.out.b hb)
  have z_w6 : w5.heap.size ≤ w6.heap.size := by have hsz := hb.size; first | omega | (simp at hsz; omega)
  clear c_Ba0_0 c_Ba0_1
  have Oxa01 := Lib.hid (owned2 (ho1.mono (lo' := w5.heap.size) (Nat.le_refl _) (Nat.le_refl _)))
  clear hb ho1
  replace FB := Lib.hid (FB.out.alloc (.cells #[.int .i64 a0z0, .slice xa0A1 a0n1 xa0c1] 26))
  replace Fa01 := Lib.hid (Fa01.out.alloc (.cells #[.int .i64 a0z0, .slice xa0A1 a0n1 xa0c1] 26))
  replace Fa10 := Lib.hid (Fa10.out.alloc (.cells #[.int .i64 a0z0, .slice xa0A1 a0n1 xa0c1] 26))
  replace Ba0 := Lib.hid (Ba0.out.alloc (.cells #[.int .i64 a0z0, .slice xa0A1 a0n1 xa0c1] 26))
  replace Oxa01 := Lib.hid (Oxa01.out.alloc (.cells #[.int .i64 a0z0, .slice xa0A1 a0n1 xa0c1] 26))
  have Yxa0 := Lib.hid (boxed w6 #[.int .i64 a0z0, .slice xa0A1 a0n1 xa0c1] 26)
  have c_Ba0_0 := Ba0.out.now 0 _ rfl
  have c_Ba0_1 := Ba0.out.now 1 _ rfl
  go_wp2_with fail
  refine (to_PeelStepS ha1k0 Fa10.out.row).mono ?_; rintro e w7 ⟨xa1A0, xa1c0, rfl, ho0, hb⟩
  replace FB := Lib.hid (FB.out.b hb)
  replace Fa01 := Lib.hid (Fa01.out.b hb)
  replace Fa10 := Lib.hid (Fa10.out.b hb)
  replace Ba0 := Lib.hid (Ba0.out.b hb)
  replace Oxa01 := Lib.hid (Oxa01.out.b hb)
  replace Yxa0 := Lib.hid (Yxa0.out.b hb)
  have z_w7 : w6.heap.size + 1 ≤ w7.heap.size := by have hsz := hb.size; first | omega | (simp at hsz; omega)
  clear c_Ba0_0 c_Ba0_1
  have Oxa10 := Lib.hid (owned (ho0.mono (lo' := w6.heap.size + 1) (by simp) (Nat.le_refl _)))
  clear hb ho0
  have c_Yxa0_0 := Yxa0.out.now 0 _ rfl
  have c_Yxa0_1 := Yxa0.out.now 1 _ rfl
  go_wp2_with fail
  refine (S2.out _ _ _ _ _ Oxa01.out.orow2 Oxa10.out.orow).mono ?_; rintro e w8 ⟨rfl, hb⟩
  replace FB := Lib.hid (FB.out.b hb)
  replace Fa01 := Lib.hid (Fa01.out.b hb)
  replace Fa10 := Lib.hid (Fa10.out.b hb)
  replace Ba0 := Lib.hid (Ba0.out.b hb)
  replace Oxa01 := Lib.hid (Oxa01.out.b hb)
  replace Yxa0 := Lib.hid (Yxa0.out.b hb)
  replace Oxa10 := Lib.hid (Oxa10.out.b hb)
  have z_w8 : w7.heap.size ≤ w8.heap.size := by have hsz := hb.size; first | omega | (simp at hsz; omega)
  clear c_Yxa0_0 c_Yxa0_1
  clear hb 
  have c_Ba0_0 := Ba0.out.now 0 _ rfl
  have c_Ba0_1 := Ba0.out.now 1 _ rfl
  have c_Yxa0_0 := Yxa0.out.now 0 _ rfl
  have c_Yxa0_1 := Yxa0.out.now 1 _ rfl
  go_wp2_with fail
  go_region_held3 (fun w' => w'.cell? ⟨w.heap.size, 0, none⟩ = some (.int .i64 a0z0) ∧ w'.cell? ⟨w.heap.size, 1, none⟩ = some (.slice a0A1 a0n1 a0c1) ∧ w'.cell? ⟨w6.heap.size, 0, none⟩ = some (.int .i64 a0z0) ∧ w'.cell? ⟨w6.heap.size, 1, none⟩ = some (.slice xa0A1 a0n1 xa0c1))
    (first | (go_keep; done) | exact ⟨(((Ba0.out.b hq1).b hq2)).now 0 _ rfl, (((Ba0.out.b hq1).b hq2)).now 1 _ rfl, (((Yxa0.out.b hq1).b hq2)).now 0 _ rfl, (((Yxa0.out.b hq1).b hq2)).now 1 _ rfl⟩ | exact ⟨((Ba0.out.b hq1)).now 0 _ rfl, ((Ba0.out.b hq1)).now 1 _ rfl, ((Yxa0.out.b hq1)).now 0 _ rfl, ((Yxa0.out.b hq1)).now 1 _ rfl⟩)
    (first
      | (have hqz := hq1; clear hqz; go_at_call 17; (first | refine (eq_Hyper ha0k1 ((Oxa01.out.b hq1)).orow2 (owned2 ho1).orow2).mono ?_); rintro e w10 ⟨rfl, hq2⟩)
      | (go_at_call 24; (first | refine (to_Hyper ha0k1 (Fa01.out).row2).mono ?_ | refine (to_Hyper ha0k1 (HRow.drew (Fa01.out).row2)).mono ?_); rintro e w9 ⟨ya0A1, ya0c1, rfl, ho1, hq1'⟩; have hq1 := of_drew hq1'; clear hq1'))
  replace FB := Lib.hid (FB.out.b hq1)
  replace Fa01 := Lib.hid (Fa01.out.b hq1)
  replace Fa10 := Lib.hid (Fa10.out.b hq1)
  replace Ba0 := Lib.hid (Ba0.out.b hq1)
  replace Oxa01 := Lib.hid (Oxa01.out.b hq1)
  replace Yxa0 := Lib.hid (Yxa0.out.b hq1)
  replace Oxa10 := Lib.hid (Oxa10.out.b hq1)
  replace FB := Lib.hid (FB.out.b hq2)
  replace Fa01 := Lib.hid (Fa01.out.b hq2)
  replace Fa10 := Lib.hid (Fa10.out.b hq2)
  replace Ba0 := Lib.hid (Ba0.out.b hq2)
  replace Oxa01 := Lib.hid (Oxa01.out.b hq2)
  replace Yxa0 := Lib.hid (Yxa0.out.b hq2)
  replace Oxa10 := Lib.hid (Oxa10.out.b hq2)
  have z_w9 : w8.heap.size ≤ w9.heap.size := by have hsz := hq1.size; first | omega | (simp at hsz; omega)
  have z_w10 : w9.heap.size ≤ w10.heap.size := hq2.size
  clear c_Ba0_0 c_Ba0_1 c_Yxa0_0 c_Yxa0_1
  clear hq1 hq2 ho1
  go_wp2_with fail
  refine (to_PeelStepS ha1k0 Fa10.out.row).mono ?_; rintro e w11 ⟨ya1A0, ya1c0, rfl, ho0, hb⟩
  replace FB := Lib.hid (FB.out.b hb)
  replace Fa01 := Lib.hid (Fa01.out.b hb)
  replace Fa10 := Lib.hid (Fa10.out.b hb)
  replace Ba0 := Lib.hid (Ba0.out.b hb)
  replace Oxa01 := Lib.hid (Oxa01.out.b hb)
  replace Yxa0 := Lib.hid (Yxa0.out.b hb)
  replace Oxa10 := Lib.hid (Oxa10.out.b hb)
  have z_w11 : w10.heap.size ≤ w11.heap.size := by have hsz := hb.size; first | omega | (simp at hsz; omega)
  have Oya10 := Lib.hid (owned (ho0.mono (lo' := w10.heap.size) (Nat.le_refl _) (Nat.le_refl _)))
  clear hb ho0
  go_wp2_with fail
  refine (eq_PeelStepS ha1k0 Oxa10.out.orow Oya10.out.orow).mono ?_; rintro e w12 ⟨rfl, hb⟩
  replace FB := Lib.hid (FB.out.b hb)
  replace Fa01 := Lib.hid (Fa01.out.b hb)
  replace Fa10 := Lib.hid (Fa10.out.b hb)
  replace Ba0 := Lib.hid (Ba0.out.b hb)
  replace Oxa01 := Lib.hid (Oxa01.out.b hb)
  replace Yxa0 := Lib.hid (Yxa0.out.b hb)
  replace Oxa10 := Lib.hid (Oxa10.out.b hb)
  replace Oya10 := Lib.hid (Oya10.out.b hb)
  have z_w12 : w11.heap.size ≤ w12.heap.size := by have hsz := hb.size; first | omega | (simp at hsz; omega)
  clear hb
  clear Oya10
  go_wp2_with fail
  go_ret
  exact ⟨rfl, FB.out.now⟩
theorem walk_FnExactIsPeelOrder (w : World) (z : Int) (_wz : (Lit.int .i64 z).wf = true) (A : Option Addr) (n c : Nat) (l : Nat → Nat) (X : Nat → Nat → Int) (hm : n ≤ maxLen) (hs : ∀ i, i < n → l i ≤ maxLen) (hr : HRow w A n l X) (SA : Option Addr) (m sc : Nat) (Y : Nat → Int) (hm2 : m ≤ maxLen) (hy : GRow w SA (2 * m) (intV Y)) :
    Calls Try.prog 7 #[.agg #[.int .i64 z, .slice A n c], .slice SA m sc] w fun e w' => e = .returned (.bool true) ∧ Below w.heap.size w w' := by
  by_cases hg : HyperOk z n l X
  · obtain ⟨y, rfl⟩ := hg.nat
    by_cases h : OrdP n l X m Y
    · exact main_FnExactIsPeelOrder y n l X m Y true true A c SA sc w hm hr hs hm2 hy
        (fun hn A c SA sc w h1 h2 => (spec_isPeelOrder y A n c l X SA m sc Y w (by omega) h1 hg (by omega) h2).mono fun e w' ⟨b, he, hb, hw⟩ => ⟨by rw [he, show b = true from hb.2 h], hw⟩)
        (fun hn A c SA sc w h1 h2 => (impl_isPeelOrder y A n c l X SA m sc Y w (by omega) h1 hg (by omega) h2).mono fun e w' ⟨b, he, hb, hw⟩ => ⟨by rw [he, show b = true from hb.2 h], hw⟩)
    · exact main_FnExactIsPeelOrder y n l X m Y false true A c SA sc w hm hr hs hm2 hy
        (fun hn A c SA sc w h1 h2 => (spec_isPeelOrder y A n c l X SA m sc Y w (by omega) h1 hg (by omega) h2).mono fun e w' ⟨b, he, hb, hw⟩ => ⟨by rw [he]; cases b; rfl; exact absurd (hb.1 rfl) h, hw⟩)
        (fun hn A c SA sc w h1 h2 => (impl_isPeelOrder y A n c l X SA m sc Y w (by omega) h1 hg (by omega) h2).mono fun e w' ⟨b, he, hb, hw⟩ => ⟨by rw [he]; cases b; rfl; exact absurd (hb.1 rfl) h, hw⟩)
  · exact main_FnExactIsPeelOrder z n l X m Y false false A c SA sc w hm hr hs hm2 hy
      (fun hn A c SA sc w h1 h2 => spec_isPeelOrder_no z A n c l X SA m sc w (by omega) h1 hg)
      (fun hn A c SA sc w h1 h2 => impl_isPeelOrder_no z A n c l X SA m sc w (by omega) h1 hg)
end Go.Proofs.Ytfhanighnckbhaa
