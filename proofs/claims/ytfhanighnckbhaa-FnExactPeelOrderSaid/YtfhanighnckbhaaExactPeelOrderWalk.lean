/- The law of PeelOrder, walked: what both sides answer comes in as hypotheses. -/
import Derived.Test.YtfhanighnckbhaaPelO
import Derived.Deep.RegionHeld3
namespace Go.Proofs.Ytfhanighnckbhaa
open Go.RowKit

set_option maxRecDepth 100000 in
set_option maxHeartbeats 8000000 in
theorem main_FnExactPeelOrder (a0z0 : Int) (a0n1 : Nat) (a0L1 : Nat → Nat) (a0X1 : Nat → Nat → Int) (r0n0 : Nat) (r0X0 : Nat → Int) (r1z0 : Bool) (a0A1 : Option Addr) (a0c1 : Nat) (w : World) (ha0m1 : a0n1 ≤ maxLen) (ha0r1 : HRow w a0A1 a0n1 a0L1 a0X1) (ha0s1 : ∀ i, i < a0n1 → a0L1 i ≤ maxLen) (hr0m0 : r0n0 ≤ 1048576)
    (s1 : a0n1 + (sumL a0L1 a0n1) ≤ 1048576 → ∀ (ua0A1 : Option Addr) (ua0c1 : Nat) (w : World), HRow w ua0A1 a0n1 a0L1 a0X1 → Calls Try.prog 29 #[.agg #[.int .i64 a0z0, .slice ua0A1 a0n1 ua0c1]] w fun e w' => ∃ vr0A0 vr0c0, e = .returned (.tuple #[.slice vr0A0 r0n0 vr0c0, .bool r1z0]) ∧ GRow w' vr0A0 (2 * r0n0) (intV r0X0) ∧ Below w.heap.size w w')
    (s2 : a0n1 + (sumL a0L1 a0n1) ≤ 1048576 → ∀ (ua0A1 : Option Addr) (ua0c1 : Nat) (w : World), HRow w ua0A1 a0n1 a0L1 a0X1 → Calls Try.prog 30 #[.agg #[.int .i64 a0z0, .slice ua0A1 a0n1 ua0c1]] w fun e w' => ∃ vr0A0 vr0c0, e = .returned (.tuple #[.slice vr0A0 r0n0 vr0c0, .bool r1z0]) ∧ Ow w.heap.size w'.heap.size 82 vr0A0 (2 * r0n0) (intV r0X0) w' ∧ Below w.heap.size w w') :
    Calls Try.prog 5 #[.agg #[.int .i64 a0z0, .slice a0A1 a0n1 a0c1]] w fun e w' => e = .returned (.bool true) ∧ Below w.heap.size w w' := by
  have S1 := Lib.hid s1
  have S2 := Lib.hid s2
  clear s1 s2
  have FB := Lib.hid ((At.start w).alloc (.cells #[.int .i64 a0z0, .slice a0A1 a0n1 a0c1] 34))
  have Fa01 := Lib.hid ((rd2_of_row ha0r1).alloc (.cells #[.int .i64 a0z0, .slice a0A1 a0n1 a0c1] 34))
  have Ba0 := Lib.hid (boxed w #[.int .i64 a0z0, .slice a0A1 a0n1 a0c1] 34)
  clear ha0r1
  go_enter Try.func5, Try.ntmps5
  go_wp2_with fail
  refine (sz_Hyper ha0m1 ha0s1 Fa01.out.row2 (by omega) (by omega)).mono ?_; rintro e w1 ⟨rfl, hb⟩
  replace FB := Lib.hid (FB.out.b hb)
  replace Fa01 := Lib.hid (Fa01.out.b hb)
  replace Ba0 := Lib.hid (Ba0.out.b hb)
  have z_w1 : w.heap.size + 1 ≤ w1.heap.size := by have hsz := hb.size; first | omega | (simp at hsz; omega)
  clear hb
  by_cases hZ_a0 : ((a0n1 + (sumL a0L1 a0n1) : Nat) : Int) ≤ (1048576 : Int)
  rotate_left
  · rw [szv_no hZ_a0]
    go_wp2_with fail
    go_ret
    exact ⟨rfl, FB.out.now⟩
  rw [szv_yes hZ_a0]
  have hL_a0 : ¬ (((1048576 : Int) - (((a0n1 : Nat) : Int) + (((sumL a0L1 a0n1) : Nat) : Int))) < 0) := by omega
  have c_Ba0_0 := Ba0.out.now 0 _ rfl
  have c_Ba0_1 := Ba0.out.now 1 _ rfl
  replace S1 := Lib.hid (S1.out (by omega))
  replace S2 := Lib.hid (S2.out (by omega))
  have ha0k1 : a0n1 + sumL a0L1 a0n1 ≤ 1048576 := by omega
  go_wp2_with fail
  refine (to_Hyper ha0k1 Fa01.out.row2).mono ?_; rintro e w2 ⟨tma0A1, tma0c1, rfl, ho1, hb⟩
  replace FB := Lib.hid (FB.out.b hb)
  replace Fa01 := Lib.hid (Fa01.out.b hb)
  replace Ba0 := Lib.hid (Ba0.out.b hb)
  have z_w2 : w1.heap.size ≤ w2.heap.size := by have hsz := hb.size; first | omega | (simp at hsz; omega)
  clear c_Ba0_0 c_Ba0_1
  have Otma01 := Lib.hid (owned2 (ho1.mono (lo' := w1.heap.size) (Nat.le_refl _) (Nat.le_refl _)))
  clear hb ho1
  go_wp2_with fail
  refine (S1.out _ _ _ Otma01.out.orow2).mono ?_; rintro e w3 ⟨mr0A0, mr0c0, rfl, hrr00, hb⟩
  replace FB := Lib.hid (FB.out.b hb)
  replace Fa01 := Lib.hid (Fa01.out.b hb)
  replace Ba0 := Lib.hid (Ba0.out.b hb)
  replace Otma01 := Lib.hid (Otma01.out.b hb)
  have z_w3 : w2.heap.size ≤ w3.heap.size := by have hsz := hb.size; first | omega | (simp at hsz; omega)
  have Vmr00 := Lib.hid (rd_of_row hrr00)
  clear hb hrr00
  clear Otma01
  have c_Ba0_0 := Ba0.out.now 0 _ rfl
  have c_Ba0_1 := Ba0.out.now 1 _ rfl
  go_wp2_with fail
  refine (to_Hyper ha0k1 Fa01.out.row2).mono ?_; rintro e w4 ⟨xa0A1, xa0c1, rfl, ho1, hb⟩
  replace FB := Lib.hid (FB.out.b hb)
  replace Fa01 := Lib.hid (Fa01.out.b hb)
  replace Ba0 := Lib.hid (Ba0.out.b hb)
  replace Vmr00 := Lib.hid (Vmr00.out.b hb)
  have z_w4 : w3.heap.size ≤ w4.heap.size := by have hsz := hb.size; first | omega | (simp at hsz; omega)
  clear c_Ba0_0 c_Ba0_1
  have Oxa01 := Lib.hid (owned2 (ho1.mono (lo' := w3.heap.size) (Nat.le_refl _) (Nat.le_refl _)))
  clear hb ho1
  replace FB := Lib.hid (FB.out.alloc (.cells #[.int .i64 a0z0, .slice xa0A1 a0n1 xa0c1] 26))
  replace Fa01 := Lib.hid (Fa01.out.alloc (.cells #[.int .i64 a0z0, .slice xa0A1 a0n1 xa0c1] 26))
  replace Ba0 := Lib.hid (Ba0.out.alloc (.cells #[.int .i64 a0z0, .slice xa0A1 a0n1 xa0c1] 26))
  replace Vmr00 := Lib.hid (Vmr00.out.alloc (.cells #[.int .i64 a0z0, .slice xa0A1 a0n1 xa0c1] 26))
  replace Oxa01 := Lib.hid (Oxa01.out.alloc (.cells #[.int .i64 a0z0, .slice xa0A1 a0n1 xa0c1] 26))
  have Yxa0 := Lib.hid (boxed w4 #[.int .i64 a0z0, .slice xa0A1 a0n1 xa0c1] 26)
  have c_Yxa0_0 := Yxa0.out.now 0 _ rfl
  have c_Yxa0_1 := Yxa0.out.now 1 _ rfl
  go_wp2_with fail
  refine (S2.out _ _ _ Oxa01.out.orow2).mono ?_; rintro e w5 ⟨gr0A0, gr0c0, rfl, hrr00, hb⟩
  replace FB := Lib.hid (FB.out.b hb)
  replace Fa01 := Lib.hid (Fa01.out.b hb)
  replace Ba0 := Lib.hid (Ba0.out.b hb)
  replace Vmr00 := Lib.hid (Vmr00.out.b hb)
  replace Oxa01 := Lib.hid (Oxa01.out.b hb)
  replace Yxa0 := Lib.hid (Yxa0.out.b hb)
  have z_w5 : w4.heap.size + 1 ≤ w5.heap.size := by have hsz := hb.size; first | omega | (simp at hsz; omega)
  clear c_Yxa0_0 c_Yxa0_1
  have Ogr00 := Lib.hid (owned (hrr00.mono (lo' := w4.heap.size + 1) (by simp) (Nat.le_refl _)))
  clear hb hrr00
  go_wp2_with fail
  refine (eq_PeelStepS hr0m0 Ogr00.out.orow Vmr00.out.row).mono ?_; rintro e w6 ⟨rfl, hb⟩
  replace FB := Lib.hid (FB.out.b hb)
  replace Fa01 := Lib.hid (Fa01.out.b hb)
  replace Ba0 := Lib.hid (Ba0.out.b hb)
  replace Vmr00 := Lib.hid (Vmr00.out.b hb)
  replace Oxa01 := Lib.hid (Oxa01.out.b hb)
  replace Yxa0 := Lib.hid (Yxa0.out.b hb)
  replace Ogr00 := Lib.hid (Ogr00.out.b hb)
  have z_w6 : w5.heap.size ≤ w6.heap.size := by have hsz := hb.size; first | omega | (simp at hsz; omega)
  clear hb
  have c_Ba0_0 := Ba0.out.now 0 _ rfl
  have c_Ba0_1 := Ba0.out.now 1 _ rfl
  have c_Yxa0_0 := Yxa0.out.now 0 _ rfl
  have c_Yxa0_1 := Yxa0.out.now 1 _ rfl
  go_wp2_with fail
  go_region_held3 (fun w' => w'.cell? ⟨w.heap.size, 0, none⟩ = some (.int .i64 a0z0) ∧ w'.cell? ⟨w.heap.size, 1, none⟩ = some (.slice a0A1 a0n1 a0c1) ∧ w'.cell? ⟨w4.heap.size, 0, none⟩ = some (.int .i64 a0z0) ∧ w'.cell? ⟨w4.heap.size, 1, none⟩ = some (.slice xa0A1 a0n1 xa0c1))
    (first | (go_keep; done) | exact ⟨(((Ba0.out.b hq1).b hq2)).now 0 _ rfl, (((Ba0.out.b hq1).b hq2)).now 1 _ rfl, (((Yxa0.out.b hq1).b hq2)).now 0 _ rfl, (((Yxa0.out.b hq1).b hq2)).now 1 _ rfl⟩ | exact ⟨((Ba0.out.b hq1)).now 0 _ rfl, ((Ba0.out.b hq1)).now 1 _ rfl, ((Yxa0.out.b hq1)).now 0 _ rfl, ((Yxa0.out.b hq1)).now 1 _ rfl⟩)
    (first
      | (have hqz := hq1; clear hqz; go_at_call 17; (first | refine (eq_Hyper ha0k1 ((Oxa01.out.b hq1)).orow2 (owned2 ho1).orow2).mono ?_); rintro e w8 ⟨rfl, hq2⟩)
      | (go_at_call 24; (first | refine (to_Hyper ha0k1 (Fa01.out).row2).mono ?_ | refine (to_Hyper ha0k1 (HRow.drew (Fa01.out).row2)).mono ?_); rintro e w7 ⟨ya0A1, ya0c1, rfl, ho1, hq1'⟩; have hq1 := of_drew hq1'; clear hq1'))
  replace FB := Lib.hid (FB.out.b hq1)
  replace Fa01 := Lib.hid (Fa01.out.b hq1)
  replace Ba0 := Lib.hid (Ba0.out.b hq1)
  replace Vmr00 := Lib.hid (Vmr00.out.b hq1)
  replace Oxa01 := Lib.hid (Oxa01.out.b hq1)
  replace Yxa0 := Lib.hid (Yxa0.out.b hq1)
  replace Ogr00 := Lib.hid (Ogr00.out.b hq1)
  replace FB := Lib.hid (FB.out.b hq2)
  replace Fa01 := Lib.hid (Fa01.out.b hq2)
  replace Ba0 := Lib.hid (Ba0.out.b hq2)
  replace Vmr00 := Lib.hid (Vmr00.out.b hq2)
  replace Oxa01 := Lib.hid (Oxa01.out.b hq2)
  replace Yxa0 := Lib.hid (Yxa0.out.b hq2)
  replace Ogr00 := Lib.hid (Ogr00.out.b hq2)
  have z_w7 : w6.heap.size ≤ w7.heap.size := by have hsz := hq1.size; first | omega | (simp at hsz; omega)
  have z_w8 : w7.heap.size ≤ w8.heap.size := hq2.size
  clear c_Ba0_0 c_Ba0_1 c_Yxa0_0 c_Yxa0_1
  clear hq1 hq2 ho1
  have c_Yxa0_0 := Yxa0.out.now 0 _ rfl
  have c_Yxa0_1 := Yxa0.out.now 1 _ rfl
  go_wp2_with fail
  refine (mark_Hyper ha0k1 Oxa01.out.now Oxa01.out.top (by omega) (by omega)).mono ?_; rintro e w9 ⟨rfl, hm0, hg⟩
  replace FB := Lib.hid (FB.out.far hg (by omega))
  replace Fa01 := Lib.hid (Fa01.out.far hg (by omega))
  replace Ba0 := Lib.hid (Ba0.out.far hg (by omega))
  replace Vmr00 := Lib.hid (Vmr00.out.far hg (by omega))
  replace Yxa0 := Lib.hid (Yxa0.out.far hg (by omega))
  replace Ogr00 := Lib.hid (Ogr00.out.far hg (by omega))
  have z_w9 : w8.heap.size ≤ w9.heap.size := by have hsz := hg.size; first | omega | (simp at hsz; omega)
  replace Oxa01 := Lib.hid (At.mk hm0 (Nat.le_trans Oxa01.out.top hg.size) (Ow2.lives _ _ _ _ _ _))
  clear c_Yxa0_0 c_Yxa0_1
  clear hg hm0
  clear Oxa01 Yxa0
  go_wp2_with fail
  refine (eq_PeelStepS hr0m0 Ogr00.out.orow Vmr00.out.row).mono ?_; rintro e w10 ⟨rfl, hb⟩
  replace FB := Lib.hid (FB.out.b hb)
  replace Fa01 := Lib.hid (Fa01.out.b hb)
  replace Ba0 := Lib.hid (Ba0.out.b hb)
  replace Vmr00 := Lib.hid (Vmr00.out.b hb)
  replace Ogr00 := Lib.hid (Ogr00.out.b hb)
  have z_w10 : w9.heap.size ≤ w10.heap.size := by have hsz := hb.size; first | omega | (simp at hsz; omega)
  clear hb
  go_wp2_with fail
  refine (mark_PeelStepS hr0m0 Ogr00.out.now Ogr00.out.top (by omega) (by omega)).mono ?_; rintro e w11 ⟨rfl, hm0, hg⟩
  replace FB := Lib.hid (FB.out.far hg (by omega))
  replace Fa01 := Lib.hid (Fa01.out.far hg (by omega))
  replace Ba0 := Lib.hid (Ba0.out.far hg (by omega))
  replace Vmr00 := Lib.hid (Vmr00.out.far hg (by omega))
  have z_w11 : w10.heap.size ≤ w11.heap.size := by have hsz := hg.size; first | omega | (simp at hsz; omega)
  replace Ogr00 := Lib.hid (At.mk hm0 (Nat.le_trans Ogr00.out.top hg.size) (Ow.lives _ _ _ _ _ _))
  clear hg hm0
  go_wp2_with fail
  refine (held_PeelStepS hr0m0 Ogr00.out.orow (by omega) (by omega)).mono ?_; rintro e w12 ⟨rfl, hb⟩
  replace FB := Lib.hid (FB.out.b hb)
  replace Fa01 := Lib.hid (Fa01.out.b hb)
  replace Ba0 := Lib.hid (Ba0.out.b hb)
  replace Vmr00 := Lib.hid (Vmr00.out.b hb)
  replace Ogr00 := Lib.hid (Ogr00.out.b hb)
  have z_w12 : w11.heap.size ≤ w12.heap.size := by have hsz := hb.size; first | omega | (simp at hsz; omega)
  clear hb
  have c_Ba0_0 := Ba0.out.now 0 _ rfl
  have c_Ba0_1 := Ba0.out.now 1 _ rfl
  go_wp2_with fail
  refine (to_Hyper ha0k1 Fa01.out.row2).mono ?_; rintro e w13 ⟨tha0A1, tha0c1, rfl, ho1, hb⟩
  replace FB := Lib.hid (FB.out.b hb)
  replace Fa01 := Lib.hid (Fa01.out.b hb)
  replace Ba0 := Lib.hid (Ba0.out.b hb)
  replace Vmr00 := Lib.hid (Vmr00.out.b hb)
  replace Ogr00 := Lib.hid (Ogr00.out.b hb)
  have z_w13 : w12.heap.size ≤ w13.heap.size := by have hsz := hb.size; first | omega | (simp at hsz; omega)
  clear c_Ba0_0 c_Ba0_1
  have Otha01 := Lib.hid (owned2 (ho1.mono (lo' := w12.heap.size) (Nat.le_refl _) (Nat.le_refl _)))
  clear hb ho1
  go_wp2_with fail
  refine (S2.out _ _ _ Otha01.out.orow2).mono ?_; rintro e w14 ⟨hr0A0, hr0c0, rfl, hrr00, hb⟩
  replace FB := Lib.hid (FB.out.b hb)
  replace Fa01 := Lib.hid (Fa01.out.b hb)
  replace Ba0 := Lib.hid (Ba0.out.b hb)
  replace Vmr00 := Lib.hid (Vmr00.out.b hb)
  replace Ogr00 := Lib.hid (Ogr00.out.b hb)
  replace Otha01 := Lib.hid (Otha01.out.b hb)
  have z_w14 : w13.heap.size ≤ w14.heap.size := by have hsz := hb.size; first | omega | (simp at hsz; omega)
  have Ohr00 := Lib.hid (owned (hrr00.mono (lo' := w13.heap.size) (Nat.le_refl _) (Nat.le_refl _)))
  clear hb hrr00
  clear Otha01
  go_wp2_with fail
  refine (eq_PeelStepS hr0m0 Ohr00.out.orow Vmr00.out.row).mono ?_; rintro e w15 ⟨rfl, hb⟩
  replace FB := Lib.hid (FB.out.b hb)
  replace Fa01 := Lib.hid (Fa01.out.b hb)
  replace Ba0 := Lib.hid (Ba0.out.b hb)
  replace Vmr00 := Lib.hid (Vmr00.out.b hb)
  replace Ogr00 := Lib.hid (Ogr00.out.b hb)
  replace Ohr00 := Lib.hid (Ohr00.out.b hb)
  have z_w15 : w14.heap.size ≤ w15.heap.size := by have hsz := hb.size; first | omega | (simp at hsz; omega)
  clear hb
  go_wp2_with fail
  refine (held_PeelStepS hr0m0 Ogr00.out.orow (by omega) (by omega)).mono ?_; rintro e w16 ⟨rfl, hb⟩
  replace FB := Lib.hid (FB.out.b hb)
  replace Fa01 := Lib.hid (Fa01.out.b hb)
  replace Ba0 := Lib.hid (Ba0.out.b hb)
  replace Vmr00 := Lib.hid (Vmr00.out.b hb)
  replace Ogr00 := Lib.hid (Ogr00.out.b hb)
  replace Ohr00 := Lib.hid (Ohr00.out.b hb)
  have z_w16 : w15.heap.size ≤ w16.heap.size := by have hsz := hb.size; first | omega | (simp at hsz; omega)
  clear hb
  go_wp2_with fail
  go_ret
  exact ⟨rfl, FB.out.now⟩
theorem walk_FnExactPeelOrder (w : World) (z : Int) (_wz : (Lit.int .i64 z).wf = true) (A : Option Addr) (n c : Nat) (l : Nat → Nat) (X : Nat → Nat → Int) (hm : n ≤ maxLen) (hs : ∀ i, i < n → l i ≤ maxLen) (hr : HRow w A n l X) :
    Calls Try.prog 5 #[.agg #[.int .i64 z, .slice A n c]] w fun e w' => e = .returned (.bool true) ∧ Below w.heap.size w w' := by
  by_cases hg : HyperOk z n l X
  · obtain ⟨y, rfl⟩ := hg.nat
    have hn40 := hg.2.2.1
    obtain ⟨k, hgo, hf⟩ := goes_ex y l X n zeroC
    have hkn := goes_lt hgo
    by_cases h0 : (leftL (goneS y l X n zeroC k) n).length = 0
    · exact main_FnExactPeelOrder y n l X k (stF (stE y l X n zeroC) (stP y l X n zeroC)) true A c w hm hr hs (by omega)
        (fun hn A c w h => by
          obtain ⟨B, d, h⟩ := h
          exact (spec_peelOrder y A n c B l d X w hn h hg).mono fun e w' h1 => StepsOwn.row e w' ((steps_post hgo hf w e w' h1).1 h0))
        (fun hn A c w h => by
          obtain ⟨B, d, h⟩ := h
          exact (impl_peelOrder y A n c B l d X w hn h hg).mono fun e w' h1 => (steps_post hgo hf w e w' h1).1 h0)
    · exact main_FnExactPeelOrder y n l X 0 (fun _ => 0) false A c w hm hr hs (by omega)
        (fun hn A c w h => by
          obtain ⟨B, d, h⟩ := h
          exact (spec_peelOrder y A n c B l d X w hn h hg).mono fun e w' h1 => StepsOwn.row e w' ((steps_post hgo hf w e w' h1).2 (Nat.pos_of_ne_zero h0)))
        (fun hn A c w h => by
          obtain ⟨B, d, h⟩ := h
          exact (impl_peelOrder y A n c B l d X w hn h hg).mono fun e w' h1 => (steps_post hgo hf w e w' h1).2 (Nat.pos_of_ne_zero h0))
  · exact main_FnExactPeelOrder z n l X 0 (fun _ => 0) false A c w hm hr hs (by omega)
      (fun hn A c w h => (spec_peelOrder_no z A n c l X w hn h hg).mono fun e w' h1 => StepsOwn.row e w' (steps_none h1.1 h1.2))
      (fun hn A c w h => (impl_peelOrder_no z A n c l X w hn h hg).mono fun e w' h1 => steps_none h1.1 h1.2)
end Go.Proofs.Ytfhanighnckbhaa
