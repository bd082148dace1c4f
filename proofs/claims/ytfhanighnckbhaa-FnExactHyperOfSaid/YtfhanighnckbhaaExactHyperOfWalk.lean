/- The law of HyperOf, walked: what both sides answer comes in as hypotheses. -/
import Derived.Test.YtfhanighnckbhaaObjStr
import Derived.Test.YtfhanighnckbhaaObjSS
import Derived.Test.YtfhanighnckbhaaHypO
import Derived.Deep.RegionHeld3
namespace Go.Proofs.Ytfhanighnckbhaa
open Go.RowKit

set_option maxRecDepth 100000 in
set_option maxHeartbeats 8000000 in
theorem main_FnExactHyperOf (a0z0 : Int) (a1n0 : Nat) (a1X0 : Nat → ByteArray) (a2z0 : Int) (r0z0 : Int) (r0n1 : Nat) (r0L1 : Nat → Nat) (r0X1 : Nat → Nat → Int) (r1z0 : Bool) (a1A0 : Option Addr) (a1c0 : Nat) (w : World) (ha1m0 : a1n0 ≤ maxLen) (ha1r0 : GRow w a1A0 a1n0 (strV a1X0)) (ha1s0 : ∀ i, i < a1n0 → (a1X0 i).size ≤ maxLen) (hr0m1 : r0n1 + sumL r0L1 r0n1 ≤ 1048576)
    (s1 : a1n0 + (sizeS a1X0 a1n0) ≤ 1048576 → ∀ (ua1A0 : Option Addr) (ua1c0 : Nat) (w : World), GRow w ua1A0 a1n0 (strV a1X0) → Calls Try.prog 14 #[.int .i64 a0z0, .slice ua1A0 a1n0 ua1c0, .int .i64 a2z0] w fun e w' => ∃ vr0A1 vr0c1, e = .returned (.tuple #[.agg #[.int .i64 r0z0, .slice vr0A1 r0n1 vr0c1], .bool r1z0]) ∧ HRow w' vr0A1 r0n1 r0L1 r0X1 ∧ Below w.heap.size w w')
    (s2 : a1n0 + (sizeS a1X0 a1n0) ≤ 1048576 → ∀ (ua1A0 : Option Addr) (ua1c0 : Nat) (w : World), GRow w ua1A0 a1n0 (strV a1X0) → Calls Try.prog 16 #[.int .i64 a0z0, .slice ua1A0 a1n0 ua1c0, .int .i64 a2z0] w fun e w' => ∃ vr0A1 vr0c1, e = .returned (.tuple #[.agg #[.int .i64 r0z0, .slice vr0A1 r0n1 vr0c1], .bool r1z0]) ∧ Ow2 w.heap.size w'.heap.size vr0A1 r0n1 r0L1 r0X1 w' ∧ Below w.heap.size w w') :
    Calls Try.prog 3 #[.int .i64 a0z0, .slice a1A0 a1n0 a1c0, .int .i64 a2z0] w fun e w' => e = .returned (.bool true) ∧ Below w.heap.size w w' := by
  have S1 := Lib.hid s1
  have S2 := Lib.hid s2
  clear s1 s2
  have FB := Lib.hid (At.start w)
  have Fa10 := Lib.hid (rd_of_row ha1r0)
  clear ha1r0
  go_enter Try.func3, Try.ntmps3
  go_wp2_with fail
  refine (sz_StringS ha1m0 ha1s0 Fa10.out.row (by omega) (by omega)).mono ?_; rintro e w1 ⟨rfl, hb⟩
  replace FB := Lib.hid (FB.out.b hb)
  replace Fa10 := Lib.hid (Fa10.out.b hb)
  have z_w1 : w.heap.size ≤ w1.heap.size := by have hsz := hb.size; first | omega | (simp at hsz; omega)
  clear hb
  by_cases hZ_a1 : ((a1n0 + (sizeS a1X0 a1n0) : Nat) : Int) ≤ (1048576 : Int)
  rotate_left
  · rw [szv_no hZ_a1]
    go_wp2_with fail
    go_ret
    exact ⟨rfl, FB.out.now⟩
  rw [szv_yes hZ_a1]
  have hL_a1 : ¬ (((1048576 : Int) - (((a1n0 : Nat) : Int) + (((sizeS a1X0 a1n0) : Nat) : Int))) < 0) := by omega
  replace S1 := Lib.hid (S1.out (by omega))
  replace S2 := Lib.hid (S2.out (by omega))
  have ha1k0 : a1n0 ≤ 1048576 := by omega
  go_wp2_with fail
  refine (to_StringS ha1k0 Fa10.out.row).mono ?_; rintro e w2 ⟨tma1A0, tma1c0, rfl, ho0, hb⟩
  replace FB := Lib.hid (FB.out.b hb)
  replace Fa10 := Lib.hid (Fa10.out.b hb)
  have z_w2 : w1.heap.size ≤ w2.heap.size := by have hsz := hb.size; first | omega | (simp at hsz; omega)
  have Otma10 := Lib.hid (owned (ho0.mono (lo' := w1.heap.size) (Nat.le_refl _) (Nat.le_refl _)))
  clear hb ho0
  go_wp2_with fail
  refine (S1.out _ _ _ Otma10.out.orow).mono ?_; rintro e w3 ⟨mr0A1, mr0c1, rfl, hrr01, hb⟩
  replace FB := Lib.hid (FB.out.b hb)
  replace Fa10 := Lib.hid (Fa10.out.b hb)
  replace Otma10 := Lib.hid (Otma10.out.b hb)
  have z_w3 : w2.heap.size ≤ w3.heap.size := by have hsz := hb.size; first | omega | (simp at hsz; omega)
  have Vmr01 := Lib.hid (rd2_of_row hrr01)
  clear hb hrr01
  clear Otma10
  replace FB := Lib.hid (FB.out.alloc (.cells #[.int .i64 r0z0, .slice mr0A1 r0n1 mr0c1] 26))
  replace Fa10 := Lib.hid (Fa10.out.alloc (.cells #[.int .i64 r0z0, .slice mr0A1 r0n1 mr0c1] 26))
  replace Vmr01 := Lib.hid (Vmr01.out.alloc (.cells #[.int .i64 r0z0, .slice mr0A1 r0n1 mr0c1] 26))
  have Xmr0 := Lib.hid (boxed w3 #[.int .i64 r0z0, .slice mr0A1 r0n1 mr0c1] 26)
  go_wp2_with fail
  refine (to_StringS ha1k0 Fa10.out.row).mono ?_; rintro e w4 ⟨xa1A0, xa1c0, rfl, ho0, hb⟩
  replace FB := Lib.hid (FB.out.b hb)
  replace Fa10 := Lib.hid (Fa10.out.b hb)
  replace Vmr01 := Lib.hid (Vmr01.out.b hb)
  replace Xmr0 := Lib.hid (Xmr0.out.b hb)
  have z_w4 : w3.heap.size + 1 ≤ w4.heap.size := by have hsz := hb.size; first | omega | (simp at hsz; omega)
  have Oxa10 := Lib.hid (owned (ho0.mono (lo' := w3.heap.size + 1) (by simp) (Nat.le_refl _)))
  clear hb ho0
  go_wp2_with fail
  refine (S2.out _ _ _ Oxa10.out.orow).mono ?_; rintro e w5 ⟨gr0A1, gr0c1, rfl, hrr01, hb⟩
  replace FB := Lib.hid (FB.out.b hb)
  replace Fa10 := Lib.hid (Fa10.out.b hb)
  replace Vmr01 := Lib.hid (Vmr01.out.b hb)
  replace Xmr0 := Lib.hid (Xmr0.out.b hb)
  replace Oxa10 := Lib.hid (Oxa10.out.b hb)
  have z_w5 : w4.heap.size ≤ w5.heap.size := by have hsz := hb.size; first | omega | (simp at hsz; omega)
  have Ogr01 := Lib.hid (owned2 (hrr01.mono (lo' := w4.heap.size) (Nat.le_refl _) (Nat.le_refl _)))
  clear hb hrr01
  replace FB := Lib.hid (FB.out.alloc (.cells #[.int .i64 r0z0, .slice gr0A1 r0n1 gr0c1] 26))
  replace Fa10 := Lib.hid (Fa10.out.alloc (.cells #[.int .i64 r0z0, .slice gr0A1 r0n1 gr0c1] 26))
  replace Vmr01 := Lib.hid (Vmr01.out.alloc (.cells #[.int .i64 r0z0, .slice gr0A1 r0n1 gr0c1] 26))
  replace Xmr0 := Lib.hid (Xmr0.out.alloc (.cells #[.int .i64 r0z0, .slice gr0A1 r0n1 gr0c1] 26))
  replace Oxa10 := Lib.hid (Oxa10.out.alloc (.cells #[.int .i64 r0z0, .slice gr0A1 r0n1 gr0c1] 26))
  replace Ogr01 := Lib.hid (Ogr01.out.alloc (.cells #[.int .i64 r0z0, .slice gr0A1 r0n1 gr0c1] 26))
  have Xgr0 := Lib.hid (boxed w5 #[.int .i64 r0z0, .slice gr0A1 r0n1 gr0c1] 26)
  have c_Xgr0_0 := Xgr0.out.now 0 _ rfl
  have c_Xgr0_1 := Xgr0.out.now 1 _ rfl
  have c_Xmr0_0 := Xmr0.out.now 0 _ rfl
  have c_Xmr0_1 := Xmr0.out.now 1 _ rfl
  go_wp2_with fail
  refine (eq_Hyper hr0m1 Ogr01.out.orow2 Vmr01.out.row2).mono ?_; rintro e w6 ⟨rfl, hb⟩
  replace FB := Lib.hid (FB.out.b hb)
  replace Fa10 := Lib.hid (Fa10.out.b hb)
  replace Vmr01 := Lib.hid (Vmr01.out.b hb)
  replace Xmr0 := Lib.hid (Xmr0.out.b hb)
  replace Oxa10 := Lib.hid (Oxa10.out.b hb)
  replace Ogr01 := Lib.hid (Ogr01.out.b hb)
  replace Xgr0 := Lib.hid (Xgr0.out.b hb)
  have z_w6 : w5.heap.size + 1 ≤ w6.heap.size := by have hsz := hb.size; first | omega | (simp at hsz; omega)
  clear c_Xgr0_0 c_Xgr0_1 c_Xmr0_0 c_Xmr0_1
  clear hb
  go_wp2_with fail
  refine (to_StringS ha1k0 Fa10.out.row).mono ?_; rintro e w7 ⟨ya1A0, ya1c0, rfl, ho0, hb⟩
  replace FB := Lib.hid (FB.out.b hb)
  replace Fa10 := Lib.hid (Fa10.out.b hb)
  replace Vmr01 := Lib.hid (Vmr01.out.b hb)
  replace Xmr0 := Lib.hid (Xmr0.out.b hb)
  replace Oxa10 := Lib.hid (Oxa10.out.b hb)
  replace Ogr01 := Lib.hid (Ogr01.out.b hb)
  replace Xgr0 := Lib.hid (Xgr0.out.b hb)
  have z_w7 : w6.heap.size ≤ w7.heap.size := by have hsz := hb.size; first | omega | (simp at hsz; omega)
  have Oya10 := Lib.hid (owned (ho0.mono (lo' := w6.heap.size) (Nat.le_refl _) (Nat.le_refl _)))
  clear hb ho0
  go_wp2_with fail
  refine (eq_StringS ha1k0 Oxa10.out.orow Oya10.out.orow).mono ?_; rintro e w8 ⟨rfl, hb⟩
  replace FB := Lib.hid (FB.out.b hb)
  replace Fa10 := Lib.hid (Fa10.out.b hb)
  replace Vmr01 := Lib.hid (Vmr01.out.b hb)
  replace Xmr0 := Lib.hid (Xmr0.out.b hb)
  replace Oxa10 := Lib.hid (Oxa10.out.b hb)
  replace Ogr01 := Lib.hid (Ogr01.out.b hb)
  replace Xgr0 := Lib.hid (Xgr0.out.b hb)
  replace Oya10 := Lib.hid (Oya10.out.b hb)
  have z_w8 : w7.heap.size ≤ w8.heap.size := by have hsz := hb.size; first | omega | (simp at hsz; omega)
  clear hb
  clear Oya10
  go_wp2_with fail
  refine (mark_StringS ha1k0 Oxa10.out.now Oxa10.out.top (by omega) (by omega)).mono ?_; rintro e w9 ⟨rfl, hm0, hg⟩
  replace FB := Lib.hid (FB.out.far hg (by omega))
  replace Fa10 := Lib.hid (Fa10.out.far hg (by omega))
  replace Vmr01 := Lib.hid (Vmr01.out.far hg (by omega))
  replace Xmr0 := Lib.hid (Xmr0.out.far hg (by omega))
  replace Ogr01 := Lib.hid (Ogr01.out.far hg (by omega))
  replace Xgr0 := Lib.hid (Xgr0.out.far hg (by omega))
  have z_w9 : w8.heap.size ≤ w9.heap.size := by have hsz := hg.size; first | omega | (simp at hsz; omega)
  replace Oxa10 := Lib.hid (At.mk hm0 (Nat.le_trans Oxa10.out.top hg.size) (Ow.lives _ _ _ _ _ _))
  clear hg hm0
  clear Oxa10
  have c_Xgr0_0 := Xgr0.out.now 0 _ rfl
  have c_Xgr0_1 := Xgr0.out.now 1 _ rfl
  have c_Xmr0_0 := Xmr0.out.now 0 _ rfl
  have c_Xmr0_1 := Xmr0.out.now 1 _ rfl
  go_wp2_with fail
  refine (eq_Hyper hr0m1 Ogr01.out.orow2 Vmr01.out.row2).mono ?_; rintro e w10 ⟨rfl, hb⟩
  replace FB := Lib.hid (FB.out.b hb)
  replace Fa10 := Lib.hid (Fa10.out.b hb)
  replace Vmr01 := Lib.hid (Vmr01.out.b hb)
  replace Xmr0 := Lib.hid (Xmr0.out.b hb)
  replace Ogr01 := Lib.hid (Ogr01.out.b hb)
  replace Xgr0 := Lib.hid (Xgr0.out.b hb)
  have z_w10 : w9.heap.size ≤ w10.heap.size := by have hsz := hb.size; first | omega | (simp at hsz; omega)
  clear c_Xgr0_0 c_Xgr0_1 c_Xmr0_0 c_Xmr0_1
  clear hb
  have c_Xgr0_0 := Xgr0.out.now 0 _ rfl
  have c_Xgr0_1 := Xgr0.out.now 1 _ rfl
  go_wp2_with fail
  refine (mark_Hyper hr0m1 Ogr01.out.now Ogr01.out.top (by omega) (by omega)).mono ?_; rintro e w11 ⟨rfl, hm0, hg⟩
  replace FB := Lib.hid (FB.out.far hg (by omega))
  replace Fa10 := Lib.hid (Fa10.out.far hg (by omega))
  replace Vmr01 := Lib.hid (Vmr01.out.far hg (by omega))
  replace Xmr0 := Lib.hid (Xmr0.out.far hg (by omega))
  replace Xgr0 := Lib.hid (Xgr0.out.far hg (by omega))
  have z_w11 : w10.heap.size ≤ w11.heap.size := by have hsz := hg.size; first | omega | (simp at hsz; omega)
  replace Ogr01 := Lib.hid (At.mk hm0 (Nat.le_trans Ogr01.out.top hg.size) (Ow2.lives _ _ _ _ _ _))
  clear c_Xgr0_0 c_Xgr0_1
  clear hg hm0
  have c_Xgr0_0 := Xgr0.out.now 0 _ rfl
  have c_Xgr0_1 := Xgr0.out.now 1 _ rfl
  go_wp2_with fail
  refine (held_Hyper hr0m1 Ogr01.out.orow2 (by omega) (by omega)).mono ?_; rintro e w12 ⟨rfl, hb⟩
  replace FB := Lib.hid (FB.out.b hb)
  replace Fa10 := Lib.hid (Fa10.out.b hb)
  replace Vmr01 := Lib.hid (Vmr01.out.b hb)
  replace Xmr0 := Lib.hid (Xmr0.out.b hb)
  replace Ogr01 := Lib.hid (Ogr01.out.b hb)
  replace Xgr0 := Lib.hid (Xgr0.out.b hb)
  have z_w12 : w11.heap.size ≤ w12.heap.size := by have hsz := hb.size; first | omega | (simp at hsz; omega)
  clear c_Xgr0_0 c_Xgr0_1
  clear hb
  go_wp2_with fail
  refine (to_StringS ha1k0 Fa10.out.row).mono ?_; rintro e w13 ⟨tha1A0, tha1c0, rfl, ho0, hb⟩
  replace FB := Lib.hid (FB.out.b hb)
  replace Fa10 := Lib.hid (Fa10.out.b hb)
  replace Vmr01 := Lib.hid (Vmr01.out.b hb)
  replace Xmr0 := Lib.hid (Xmr0.out.b hb)
  replace Ogr01 := Lib.hid (Ogr01.out.b hb)
  replace Xgr0 := Lib.hid (Xgr0.out.b hb)
  have z_w13 : w12.heap.size ≤ w13.heap.size := by have hsz := hb.size; first | omega | (simp at hsz; omega)
  have Otha10 := Lib.hid (owned (ho0.mono (lo' := w12.heap.size) (Nat.le_refl _) (Nat.le_refl _)))
  clear hb ho0
  go_wp2_with fail
  refine (S2.out _ _ _ Otha10.out.orow).mono ?_; rintro e w14 ⟨hr0A1, hr0c1, rfl, hrr01, hb⟩
  replace FB := Lib.hid (FB.out.b hb)
  replace Fa10 := Lib.hid (Fa10.out.b hb)
  replace Vmr01 := Lib.hid (Vmr01.out.b hb)
  replace Xmr0 := Lib.hid (Xmr0.out.b hb)
  replace Ogr01 := Lib.hid (Ogr01.out.b hb)
  replace Xgr0 := Lib.hid (Xgr0.out.b hb)
  replace Otha10 := Lib.hid (Otha10.out.b hb)
  have z_w14 : w13.heap.size ≤ w14.heap.size := by have hsz := hb.size; first | omega | (simp at hsz; omega)
  have Ohr01 := Lib.hid (owned2 (hrr01.mono (lo' := w13.heap.size) (Nat.le_refl _) (Nat.le_refl _)))
  clear hb hrr01
  clear Otha10
  replace FB := Lib.hid (FB.out.alloc (.cells #[.int .i64 r0z0, .slice hr0A1 r0n1 hr0c1] 26))
  replace Fa10 := Lib.hid (Fa10.out.alloc (.cells #[.int .i64 r0z0, .slice hr0A1 r0n1 hr0c1] 26))
  replace Vmr01 := Lib.hid (Vmr01.out.alloc (.cells #[.int .i64 r0z0, .slice hr0A1 r0n1 hr0c1] 26))
  replace Xmr0 := Lib.hid (Xmr0.out.alloc (.cells #[.int .i64 r0z0, .slice hr0A1 r0n1 hr0c1] 26))
  replace Ogr01 := Lib.hid (Ogr01.out.alloc (.cells #[.int .i64 r0z0, .slice hr0A1 r0n1 hr0c1] 26))
  replace Xgr0 := Lib.hid (Xgr0.out.alloc (.cells #[.int .i64 r0z0, .slice hr0A1 r0n1 hr0c1] 26))
  replace Ohr01 := Lib.hid (Ohr01.out.alloc (.cells #[.int .i64 r0z0, .slice hr0A1 r0n1 hr0c1] 26))
  have Xhr0 := Lib.hid (boxed w14 #[.int .i64 r0z0, .slice hr0A1 r0n1 hr0c1] 26)
  have c_Xhr0_0 := Xhr0.out.now 0 _ rfl
  have c_Xhr0_1 := Xhr0.out.now 1 _ rfl
  have c_Xmr0_0 := Xmr0.out.now 0 _ rfl
  have c_Xmr0_1 := Xmr0.out.now 1 _ rfl
  go_wp2_with fail
  refine (eq_Hyper hr0m1 Ohr01.out.orow2 Vmr01.out.row2).mono ?_; rintro e w15 ⟨rfl, hb⟩
  replace FB := Lib.hid (FB.out.b hb)
  replace Fa10 := Lib.hid (Fa10.out.b hb)
  replace Vmr01 := Lib.hid (Vmr01.out.b hb)
  replace Xmr0 := Lib.hid (Xmr0.out.b hb)
  replace Ogr01 := Lib.hid (Ogr01.out.b hb)
  replace Xgr0 := Lib.hid (Xgr0.out.b hb)
  replace Ohr01 := Lib.hid (Ohr01.out.b hb)
  replace Xhr0 := Lib.hid (Xhr0.out.b hb)
  have z_w15 : w14.heap.size + 1 ≤ w15.heap.size := by have hsz := hb.size; first | omega | (simp at hsz; omega)
  clear c_Xhr0_0 c_Xhr0_1 c_Xmr0_0 c_Xmr0_1
  clear hb
  have c_Xgr0_0 := Xgr0.out.now 0 _ rfl
  have c_Xgr0_1 := Xgr0.out.now 1 _ rfl
  go_wp2_with fail
  refine (held_Hyper hr0m1 Ogr01.out.orow2 (by omega) (by omega)).mono ?_; rintro e w16 ⟨rfl, hb⟩
  replace FB := Lib.hid (FB.out.b hb)
  replace Fa10 := Lib.hid (Fa10.out.b hb)
  replace Vmr01 := Lib.hid (Vmr01.out.b hb)
  replace Xmr0 := Lib.hid (Xmr0.out.b hb)
  replace Ogr01 := Lib.hid (Ogr01.out.b hb)
  replace Xgr0 := Lib.hid (Xgr0.out.b hb)
  replace Ohr01 := Lib.hid (Ohr01.out.b hb)
  replace Xhr0 := Lib.hid (Xhr0.out.b hb)
  have z_w16 : w15.heap.size ≤ w16.heap.size := by have hsz := hb.size; first | omega | (simp at hsz; omega)
  clear c_Xgr0_0 c_Xgr0_1
  clear hb
  go_wp2_with fail
  go_ret
  exact ⟨rfl, FB.out.now⟩
theorem walk_FnExactHyperOf (w : World) (seed : Int) (_ws : (Lit.int .i64 seed).wf = true) (KA : Option Addr) (n kc : Nat) (S : Nat → ByteArray) (hm : n ≤ maxLen) (hr : SRow w KA n S) (g : Int) (_wg : (Lit.int .i64 g).wf = true) :
    Calls Try.prog 3 #[.int .i64 seed, .slice KA n kc, .int .i64 g] w fun e w' => e = .returned (.bool true) ∧ Below w.heap.size w w' := by
  by_cases hk : keyedB seed S n g = true
  · have hk2 := hk
    unfold keyedB at hk2
    simp only [Bool.and_eq_true, decide_eq_true_eq] at hk2
    obtain ⟨⟨hsd, hkk⟩, h1, h2⟩ := hk2
    obtain ⟨q, rfl⟩ := Int.eq_ofNat_of_zero_le (show 0 ≤ g by omega)
    have hn := keysB_size hkk
    have hsum : ∀ m, sumL (fun _ => 3) m = 3 * m := fun m => by
      induction m with
      | zero => rfl
      | succ m ih => rw [sumL, ih]; omega
    exact main_FnExactHyperOf seed n S q ((3 * q : Nat) : Int) n (fun _ => 3) (eH seed q S) true KA kc w hm hr.grow hr.size (by rw [hsum]; omega)
      (fun hn A c w h => spec_hyperOf seed q A n c S w hr.size h hsd hkk (by omega) (by omega))
      (fun hn A c w h => impl_hyperOf seed q A n c S w hr.size h hsd hkk (by omega) (by omega))
  · have hkf : keyedB seed S n g = false := by simpa using hk
    exact main_FnExactHyperOf seed n S g 0 0 (fun _ => 0) (fun _ _ => 0) false KA kc w hm hr.grow hr.size (by simp [sumL])
      (fun hn A c w h => (spec_hyperOf_no seed g A n c S w (by omega) hr.size h hkf).mono fun e w' ⟨h1, h2⟩ => ⟨none, 0, h1, (ow2_zero 0 0 none _ _ w').rd.row (Nat.zero_le _), h2⟩)
      (fun hn A c w h => (impl_hyperOf_no seed g A n c S w (by omega) hr.size h hkf).mono fun e w' ⟨h1, h2⟩ => ⟨none, 0, h1, ow2_zero _ _ _ _ _ _, h2⟩)
end Go.Proofs.Ytfhanighnckbhaa
