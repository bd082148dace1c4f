/- The law of CountingOf, walked: what both sides answer comes in as hypotheses. -/
import Derived.Test.YtpajbcgdoedleabObjStr
import Derived.Test.YtpajbcgdoedleabObjCo
import Derived.Test.YtpajbcgdoedleabCoZ
import Derived.Deep.RegionHeld3
namespace Go.Proofs.Ytpajbcgdoedleab
open Go.RowKit

set_option maxRecDepth 100000 in
set_option maxHeartbeats 8000000 in
theorem main_FnExactCountingOf (a0z0 : Int) (a1z0 : Int) (a2z0 : Int) (a3n0 : Nat) (a3X0 : Nat → ByteArray) (r0z0 : Int) (r0z1 : Int) (r0n2 : Nat) (r0X2 : Nat → Int) (r1z0 : Bool) (a3A0 : Option Addr) (a3c0 : Nat) (w : World) (ha3m0 : a3n0 ≤ maxLen) (ha3r0 : GRow w a3A0 a3n0 (strV a3X0)) (ha3s0 : ∀ i, i < a3n0 → (a3X0 i).size ≤ maxLen) (hr0m2 : r0n2 ≤ 1048576)
    (s1 : a3n0 + (sizeS a3X0 a3n0) ≤ 1048576 → ∀ (ua3A0 : Option Addr) (ua3c0 : Nat) (w : World), GRow w ua3A0 a3n0 (strV a3X0) → Calls Try.prog 18 #[.int .i64 a0z0, .int .i64 a1z0, .int .i64 a2z0, .slice ua3A0 a3n0 ua3c0] w fun e w' => ∃ vr0A2 vr0c2, e = .returned (.tuple #[.agg #[.int .i64 r0z0, .int .i64 r0z1, .slice vr0A2 r0n2 vr0c2], .bool r1z0]) ∧ GRow w' vr0A2 r0n2 (intV r0X2) ∧ Below w.heap.size w w')
    (s2 : a3n0 + (sizeS a3X0 a3n0) ≤ 1048576 → ∀ (ua3A0 : Option Addr) (ua3c0 : Nat) (w : World), GRow w ua3A0 a3n0 (strV a3X0) → Calls Try.prog 20 #[.int .i64 a0z0, .int .i64 a1z0, .int .i64 a2z0, .slice ua3A0 a3n0 ua3c0] w fun e w' => ∃ vr0A2 vr0c2, e = .returned (.tuple #[.agg #[.int .i64 r0z0, .int .i64 r0z1, .slice vr0A2 r0n2 vr0c2], .bool r1z0]) ∧ Ow w.heap.size w'.heap.size 3 vr0A2 r0n2 (intV r0X2) w' ∧ Below w.heap.size w w') :
    Calls Try.prog 4 #[.int .i64 a0z0, .int .i64 a1z0, .int .i64 a2z0, .slice a3A0 a3n0 a3c0] w fun e w' => e = .returned (.bool true) ∧ Below w.heap.size w w' := by
  have S1 := Lib.hid s1
  have S2 := Lib.hid s2
  clear s1 s2
  have FB := Lib.hid (At.start w)
  have Fa30 := Lib.hid (rd_of_row ha3r0)
  clear ha3r0
  go_enter Try.func4, Try.ntmps4
  go_wp2_with fail
  refine (sz_StringS ha3m0 ha3s0 Fa30.out.row (by omega) (by omega)).mono ?_; rintro e w1 ⟨rfl, hb⟩
  replace FB := Lib.hid (FB.out.b hb)
  replace Fa30 := Lib.hid (Fa30.out.b hb)
  have z_w1 : w.heap.size ≤ w1.heap.size := by have hsz := hb.size; first | omega | (simp at hsz; omega)
  clear hb
  by_cases hZ_a3 : ((a3n0 + (sizeS a3X0 a3n0) : Nat) : Int) ≤ (1048576 : Int)
  rotate_left
  · rw [szv_no hZ_a3]
    go_wp2_with fail
    go_ret
    exact ⟨rfl, FB.out.now⟩
  rw [szv_yes hZ_a3]
  have hL_a3 : ¬ (((1048576 : Int) - (((a3n0 : Nat) : Int) + (((sizeS a3X0 a3n0) : Nat) : Int))) < 0) := by omega
  replace S1 := Lib.hid (S1.out (by omega))
  replace S2 := Lib.hid (S2.out (by omega))
  have ha3k0 : a3n0 ≤ 1048576 := by omega
  go_wp2_with fail
  refine (to_StringS ha3k0 Fa30.out.row).mono ?_; rintro e w2 ⟨tma3A0, tma3c0, rfl, ho0, hb⟩
  replace FB := Lib.hid (FB.out.b hb)
  replace Fa30 := Lib.hid (Fa30.out.b hb)
  have z_w2 : w1.heap.size ≤ w2.heap.size := by have hsz := hb.size; first | omega | (simp at hsz; omega)
  have Otma30 := Lib.hid (owned (ho0.mono (lo' := w1.heap.size) (Nat.le_refl _) (Nat.le_refl _)))
  clear hb ho0
  go_wp2_with fail
  refine (S1.out _ _ _ Otma30.out.orow).mono ?_; rintro e w3 ⟨mr0A2, mr0c2, rfl, hrr02, hb⟩
  replace FB := Lib.hid (FB.out.b hb)
  replace Fa30 := Lib.hid (Fa30.out.b hb)
  replace Otma30 := Lib.hid (Otma30.out.b hb)
  have z_w3 : w2.heap.size ≤ w3.heap.size := by have hsz := hb.size; first | omega | (simp at hsz; omega)
  have Vmr02 := Lib.hid (rd_of_row hrr02)
  clear hb hrr02
  clear Otma30
  replace FB := Lib.hid (FB.out.alloc (.cells #[.int .i64 r0z0, .int .i64 r0z1, .slice mr0A2 r0n2 mr0c2] 27))
  replace Fa30 := Lib.hid (Fa30.out.alloc (.cells #[.int .i64 r0z0, .int .i64 r0z1, .slice mr0A2 r0n2 mr0c2] 27))
  replace Vmr02 := Lib.hid (Vmr02.out.alloc (.cells #[.int .i64 r0z0, .int .i64 r0z1, .slice mr0A2 r0n2 mr0c2] 27))
  have Xmr0 := Lib.hid (boxed w3 #[.int .i64 r0z0, .int .i64 r0z1, .slice mr0A2 r0n2 mr0c2] 27)
  go_wp2_with fail
  refine (to_StringS ha3k0 Fa30.out.row).mono ?_; rintro e w4 ⟨xa3A0, xa3c0, rfl, ho0, hb⟩
  replace FB := Lib.hid (FB.out.b hb)
  replace Fa30 := Lib.hid (Fa30.out.b hb)
  replace Vmr02 := Lib.hid (Vmr02.out.b hb)
  replace Xmr0 := Lib.hid (Xmr0.out.b hb)
  have z_w4 : w3.heap.size + 1 ≤ w4.heap.size := by have hsz := hb.size; first | omega | (simp at hsz; omega)
  have Oxa30 := Lib.hid (owned (ho0.mono (lo' := w3.heap.size + 1) (by simp) (Nat.le_refl _)))
  clear hb ho0
  go_wp2_with fail
  refine (S2.out _ _ _ Oxa30.out.orow).mono ?_; rintro e w5 ⟨gr0A2, gr0c2, rfl, hrr02, hb⟩
  replace FB := Lib.hid (FB.out.b hb)
  replace Fa30 := Lib.hid (Fa30.out.b hb)
  replace Vmr02 := Lib.hid (Vmr02.out.b hb)
  replace Xmr0 := Lib.hid (Xmr0.out.b hb)
  replace Oxa30 := Lib.hid (Oxa30.out.b hb)
  have z_w5 : w4.heap.size ≤ w5.heap.size := by have hsz := hb.size; first | omega | (simp at hsz; omega)
  have Ogr02 := Lib.hid (owned (hrr02.mono (lo' := w4.heap.size) (Nat.le_refl _) (Nat.le_refl _)))
  clear hb hrr02
  replace FB := Lib.hid (FB.out.alloc (.cells #[.int .i64 r0z0, .int .i64 r0z1, .slice gr0A2 r0n2 gr0c2] 27))
  replace Fa30 := Lib.hid (Fa30.out.alloc (.cells #[.int .i64 r0z0, .int .i64 r0z1, .slice gr0A2 r0n2 gr0c2] 27))
  replace Vmr02 := Lib.hid (Vmr02.out.alloc (.cells #[.int .i64 r0z0, .int .i64 r0z1, .slice gr0A2 r0n2 gr0c2] 27))
  replace Xmr0 := Lib.hid (Xmr0.out.alloc (.cells #[.int .i64 r0z0, .int .i64 r0z1, .slice gr0A2 r0n2 gr0c2] 27))
  replace Oxa30 := Lib.hid (Oxa30.out.alloc (.cells #[.int .i64 r0z0, .int .i64 r0z1, .slice gr0A2 r0n2 gr0c2] 27))
  replace Ogr02 := Lib.hid (Ogr02.out.alloc (.cells #[.int .i64 r0z0, .int .i64 r0z1, .slice gr0A2 r0n2 gr0c2] 27))
  have Xgr0 := Lib.hid (boxed w5 #[.int .i64 r0z0, .int .i64 r0z1, .slice gr0A2 r0n2 gr0c2] 27)
  have c_Xgr0_0 := Xgr0.out.now 0 _ rfl
  have c_Xgr0_1 := Xgr0.out.now 1 _ rfl
  have c_Xgr0_2 := Xgr0.out.now 2 _ rfl
  have c_Xmr0_0 := Xmr0.out.now 0 _ rfl
  have c_Xmr0_1 := Xmr0.out.now 1 _ rfl
  have c_Xmr0_2 := Xmr0.out.now 2 _ rfl
  go_wp2_with fail
  refine (eq_Counting hr0m2 Ogr02.out.orow Vmr02.out.row).mono ?_; rintro e w6 ⟨rfl, hb⟩
  replace FB := Lib.hid (FB.out.b hb)
  replace Fa30 := Lib.hid (Fa30.out.b hb)
  replace Vmr02 := Lib.hid (Vmr02.out.b hb)
  replace Xmr0 := Lib.hid (Xmr0.out.b hb)
  replace Oxa30 := Lib.hid (Oxa30.out.b hb)
  replace Ogr02 := Lib.hid (Ogr02.out.b hb)
  replace Xgr0 := Lib.hid (Xgr0.out.b hb)
  have z_w6 : w5.heap.size + 1 ≤ w6.heap.size := by have hsz := hb.size; first | omega | (simp at hsz; omega)
  clear c_Xgr0_0 c_Xgr0_1 c_Xgr0_2 c_Xmr0_0 c_Xmr0_1 c_Xmr0_2
  clear hb
  go_wp2_with fail
  refine (to_StringS ha3k0 Fa30.out.row).mono ?_; rintro e w7 ⟨ya3A0, ya3c0, rfl, ho0, hb⟩
  replace FB := Lib.hid (FB.out.b hb)
  replace Fa30 := Lib.hid (Fa30.out.b hb)
  replace Vmr02 := Lib.hid (Vmr02.out.b hb)
  replace Xmr0 := Lib.hid (Xmr0.out.b hb)
  replace Oxa30 := Lib.hid (Oxa30.out.b hb)
  replace Ogr02 := Lib.hid (Ogr02.out.b hb)
  replace Xgr0 := Lib.hid (Xgr0.out.b hb)
  have z_w7 : w6.heap.size ≤ w7.heap.size := by have hsz := hb.size; first | omega | (simp at hsz; omega)
  have Oya30 := Lib.hid (owned (ho0.mono (lo' := w6.heap.size) (Nat.le_refl _) (Nat.le_refl _)))
  clear hb ho0
  go_wp2_with fail
  refine (eq_StringS ha3k0 Oxa30.out.orow Oya30.out.orow).mono ?_; rintro e w8 ⟨rfl, hb⟩
  replace FB := Lib.hid (FB.out.b hb)
  replace Fa30 := Lib.hid (Fa30.out.b hb)
  replace Vmr02 := Lib.hid (Vmr02.out.b hb)
  replace Xmr0 := Lib.hid (Xmr0.out.b hb)
  replace Oxa30 := Lib.hid (Oxa30.out.b hb)
  replace Ogr02 := Lib.hid (Ogr02.out.b hb)
  replace Xgr0 := Lib.hid (Xgr0.out.b hb)
  replace Oya30 := Lib.hid (Oya30.out.b hb)
  have z_w8 : w7.heap.size ≤ w8.heap.size := by have hsz := hb.size; first | omega | (simp at hsz; omega)
  clear hb
  clear Oya30
  go_wp2_with fail
  refine (mark_StringS ha3k0 Oxa30.out.now Oxa30.out.top (by omega) (by omega)).mono ?_; rintro e w9 ⟨rfl, hm0, hg⟩
  replace FB := Lib.hid (FB.out.far hg (by omega))
  replace Fa30 := Lib.hid (Fa30.out.far hg (by omega))
  replace Vmr02 := Lib.hid (Vmr02.out.far hg (by omega))
  replace Xmr0 := Lib.hid (Xmr0.out.far hg (by omega))
  replace Ogr02 := Lib.hid (Ogr02.out.far hg (by omega))
  replace Xgr0 := Lib.hid (Xgr0.out.far hg (by omega))
  have z_w9 : w8.heap.size ≤ w9.heap.size := by have hsz := hg.size; first | omega | (simp at hsz; omega)
  replace Oxa30 := Lib.hid (At.mk hm0 (Nat.le_trans Oxa30.out.top hg.size) (Ow.lives _ _ _ _ _ _))
  clear hg hm0
  clear Oxa30
  have c_Xgr0_0 := Xgr0.out.now 0 _ rfl
  have c_Xgr0_1 := Xgr0.out.now 1 _ rfl
  have c_Xgr0_2 := Xgr0.out.now 2 _ rfl
  have c_Xmr0_0 := Xmr0.out.now 0 _ rfl
  have c_Xmr0_1 := Xmr0.out.now 1 _ rfl
  have c_Xmr0_2 := Xmr0.out.now 2 _ rfl
  go_wp2_with fail
  refine (eq_Counting hr0m2 Ogr02.out.orow Vmr02.out.row).mono ?_; rintro e w10 ⟨rfl, hb⟩
  replace FB := Lib.hid (FB.out.b hb)
  replace Fa30 := Lib.hid (Fa30.out.b hb)
  replace Vmr02 := Lib.hid (Vmr02.out.b hb)
  replace Xmr0 := Lib.hid (Xmr0.out.b hb)
  replace Ogr02 := Lib.hid (Ogr02.out.b hb)
  replace Xgr0 := Lib.hid (Xgr0.out.b hb)
  have z_w10 : w9.heap.size ≤ w10.heap.size := by have hsz := hb.size; first | omega | (simp at hsz; omega)
  clear c_Xgr0_0 c_Xgr0_1 c_Xgr0_2 c_Xmr0_0 c_Xmr0_1 c_Xmr0_2
  clear hb
  have c_Xgr0_0 := Xgr0.out.now 0 _ rfl
  have c_Xgr0_1 := Xgr0.out.now 1 _ rfl
  have c_Xgr0_2 := Xgr0.out.now 2 _ rfl
  go_wp2_with fail
  refine (mark_Counting hr0m2 Ogr02.out.now Ogr02.out.top (by omega) (by omega)).mono ?_; rintro e w11 ⟨rfl, hm0, hg⟩
  replace FB := Lib.hid (FB.out.far hg (by omega))
  replace Fa30 := Lib.hid (Fa30.out.far hg (by omega))
  replace Vmr02 := Lib.hid (Vmr02.out.far hg (by omega))
  replace Xmr0 := Lib.hid (Xmr0.out.far hg (by omega))
  replace Xgr0 := Lib.hid (Xgr0.out.far hg (by omega))
  have z_w11 : w10.heap.size ≤ w11.heap.size := by have hsz := hg.size; first | omega | (simp at hsz; omega)
  replace Ogr02 := Lib.hid (At.mk hm0 (Nat.le_trans Ogr02.out.top hg.size) (Ow.lives _ _ _ _ _ _))
  clear c_Xgr0_0 c_Xgr0_1 c_Xgr0_2
  clear hg hm0
  have c_Xgr0_0 := Xgr0.out.now 0 _ rfl
  have c_Xgr0_1 := Xgr0.out.now 1 _ rfl
  have c_Xgr0_2 := Xgr0.out.now 2 _ rfl
  go_wp2_with fail
  refine (held_Counting hr0m2 Ogr02.out.orow (by omega) (by omega)).mono ?_; rintro e w12 ⟨rfl, hb⟩
  replace FB := Lib.hid (FB.out.b hb)
  replace Fa30 := Lib.hid (Fa30.out.b hb)
  replace Vmr02 := Lib.hid (Vmr02.out.b hb)
  replace Xmr0 := Lib.hid (Xmr0.out.b hb)
  replace Ogr02 := Lib.hid (Ogr02.out.b hb)
  replace Xgr0 := Lib.hid (Xgr0.out.b hb)
  have z_w12 : w11.heap.size ≤ w12.heap.size := by have hsz := hb.size; first | omega | (simp at hsz; omega)
  clear c_Xgr0_0 c_Xgr0_1 c_Xgr0_2
  clear hb
  go_wp2_with fail
  refine (to_StringS ha3k0 Fa30.out.row).mono ?_; rintro e w13 ⟨tha3A0, tha3c0, rfl, ho0, hb⟩
  replace FB := Lib.hid (FB.out.b hb)
  replace Fa30 := Lib.hid (Fa30.out.b hb)
  replace Vmr02 := Lib.hid (Vmr02.out.b hb)
  replace Xmr0 := Lib.hid (Xmr0.out.b hb)
  replace Ogr02 := Lib.hid (Ogr02.out.b hb)
  replace Xgr0 := Lib.hid (Xgr0.out.b hb)
  have z_w13 : w12.heap.size ≤ w13.heap.size := by have hsz := hb.size; first | omega | (simp at hsz; omega)
  have Otha30 := Lib.hid (owned (ho0.mono (lo' := w12.heap.size) (Nat.le_refl _) (Nat.le_refl _)))
  clear hb ho0
  go_wp2_with fail
  refine (S2.out _ _ _ Otha30.out.orow).mono ?_; rintro e w14 ⟨hr0A2, hr0c2, rfl, hrr02, hb⟩
  replace FB := Lib.hid (FB.out.b hb)
  replace Fa30 := Lib.hid (Fa30.out.b hb)
  replace Vmr02 := Lib.hid (Vmr02.out.b hb)
  replace Xmr0 := Lib.hid (Xmr0.out.b hb)
  replace Ogr02 := Lib.hid (Ogr02.out.b hb)
  replace Xgr0 := Lib.hid (Xgr0.out.b hb)
  replace Otha30 := Lib.hid (Otha30.out.b hb)
  have z_w14 : w13.heap.size ≤ w14.heap.size := by have hsz := hb.size; first | omega | (simp at hsz; omega)
  have Ohr02 := Lib.hid (owned (hrr02.mono (lo' := w13.heap.size) (Nat.le_refl _) (Nat.le_refl _)))
  clear hb hrr02
  clear Otha30
  replace FB := Lib.hid (FB.out.alloc (.cells #[.int .i64 r0z0, .int .i64 r0z1, .slice hr0A2 r0n2 hr0c2] 27))
  replace Fa30 := Lib.hid (Fa30.out.alloc (.cells #[.int .i64 r0z0, .int .i64 r0z1, .slice hr0A2 r0n2 hr0c2] 27))
  replace Vmr02 := Lib.hid (Vmr02.out.alloc (.cells #[.int .i64 r0z0, .int .i64 r0z1, .slice hr0A2 r0n2 hr0c2] 27))
  replace Xmr0 := Lib.hid (Xmr0.out.alloc (.cells #[.int .i64 r0z0, .int .i64 r0z1, .slice hr0A2 r0n2 hr0c2] 27))
  replace Ogr02 := Lib.hid (Ogr02.out.alloc (.cells #[.int .i64 r0z0, .int .i64 r0z1, .slice hr0A2 r0n2 hr0c2] 27))
  replace Xgr0 := Lib.hid (Xgr0.out.alloc (.cells #[.int .i64 r0z0, .int .i64 r0z1, .slice hr0A2 r0n2 hr0c2] 27))
  replace Ohr02 := Lib.hid (Ohr02.out.alloc (.cells #[.int .i64 r0z0, .int .i64 r0z1, .slice hr0A2 r0n2 hr0c2] 27))
  have Xhr0 := Lib.hid (boxed w14 #[.int .i64 r0z0, .int .i64 r0z1, .slice hr0A2 r0n2 hr0c2] 27)
  have c_Xhr0_0 := Xhr0.out.now 0 _ rfl
  have c_Xhr0_1 := Xhr0.out.now 1 _ rfl
  have c_Xhr0_2 := Xhr0.out.now 2 _ rfl
  have c_Xmr0_0 := Xmr0.out.now 0 _ rfl
  have c_Xmr0_1 := Xmr0.out.now 1 _ rfl
  have c_Xmr0_2 := Xmr0.out.now 2 _ rfl
  go_wp2_with fail
  refine (eq_Counting hr0m2 Ohr02.out.orow Vmr02.out.row).mono ?_; rintro e w15 ⟨rfl, hb⟩
  replace FB := Lib.hid (FB.out.b hb)
  replace Fa30 := Lib.hid (Fa30.out.b hb)
  replace Vmr02 := Lib.hid (Vmr02.out.b hb)
  replace Xmr0 := Lib.hid (Xmr0.out.b hb)
  replace Ogr02 := Lib.hid (Ogr02.out.b hb)
  replace Xgr0 := Lib.hid (Xgr0.out.b hb)
  replace Ohr02 := Lib.hid (Ohr02.out.b hb)
  replace Xhr0 := Lib.hid (Xhr0.out.b hb)
  have z_w15 : w14.heap.size + 1 ≤ w15.heap.size := by have hsz := hb.size; first | omega | (simp at hsz; omega)
  clear c_Xhr0_0 c_Xhr0_1 c_Xhr0_2 c_Xmr0_0 c_Xmr0_1 c_Xmr0_2
  clear hb
  have c_Xgr0_0 := Xgr0.out.now 0 _ rfl
  have c_Xgr0_1 := Xgr0.out.now 1 _ rfl
  have c_Xgr0_2 := Xgr0.out.now 2 _ rfl
  go_wp2_with fail
  refine (held_Counting hr0m2 Ogr02.out.orow (by omega) (by omega)).mono ?_; rintro e w16 ⟨rfl, hb⟩
  replace FB := Lib.hid (FB.out.b hb)
  replace Fa30 := Lib.hid (Fa30.out.b hb)
  replace Vmr02 := Lib.hid (Vmr02.out.b hb)
  replace Xmr0 := Lib.hid (Xmr0.out.b hb)
  replace Ogr02 := Lib.hid (Ogr02.out.b hb)
  replace Xgr0 := Lib.hid (Xgr0.out.b hb)
  replace Ohr02 := Lib.hid (Ohr02.out.b hb)
  replace Xhr0 := Lib.hid (Xhr0.out.b hb)
  have z_w16 : w15.heap.size ≤ w16.heap.size := by have hsz := hb.size; first | omega | (simp at hsz; omega)
  clear c_Xgr0_0 c_Xgr0_1 c_Xgr0_2
  clear hb
  go_wp2_with fail
  go_ret
  exact ⟨rfl, FB.out.now⟩
/-! last -/
theorem walk_FnExactCountingOf (w : World) (z0 : Int) (_w0 : (Lit.int .i64 z0).wf = true) (z1 : Int) (_w1 : (Lit.int .i64 z1).wf = true) (z2 : Int) (_w2 : (Lit.int .i64 z2).wf = true) (K : Option Addr) (k kc : Nat) (S : Nat → ByteArray) (hm : k ≤ maxLen) (hr : SRow w K k S) :
    Calls Try.prog 4 #[.int .i64 z0, .int .i64 z1, .int .i64 z2, .slice K k kc] w fun e w' => e = .returned (.bool true) ∧ Below w.heap.size w w' := by
  cases h : (fiB z0 z1 z2 && keysB S k) with
  | true =>
    rw [Bool.and_eq_true] at h
    obtain ⟨p, z, rfl, rfl, h1, h2, h3, h4⟩ := fiB_nat h.1
    exact main_FnExactCountingOf z0 p z k S z0 p z (upK z0 p z S k) true K kc w hm hr.grow hr.size (by omega)
      (fun hn _ _ w g => (spec_countingOf h.1 h.2 (by omega) hr.size g).mono fun e w' h => h.row) (fun hn _ _ w g => impl_countingOf h.1 h.2 (by omega) hr.size g)
  | false =>
    exact main_FnExactCountingOf z0 z1 z2 k S 0 0 0 (fun _ => 0) false K kc w hm hr.grow hr.size (by omega)
      (fun hn _ _ w g => (spec_countingOf_no h (by omega) hr.size g).mono fun e w' h => h.row) (fun hn _ _ w g => impl_countingOf_no h (by omega) hr.size g)
end Go.Proofs.Ytpajbcgdoedleab
