/- The law of MovesBetween, walked: what both sides answer comes in as hypotheses. -/
import Derived.Test.YtfjimjbndkhkcaaObjStr
import Derived.Test.YtfjimjbndkhkcaaObjInt
import Derived.Test.YtfjimjbndkhkcaaToN
import Derived.Test.YtfjimjbndkhkcaaMvJ
import Derived.Deep.RegionHeld3
namespace Go.Proofs.Ytfjimjbndkhkcaa
open Go.RowKit

set_option maxRecDepth 100000 in
set_option maxHeartbeats 8000000 in
theorem main_FnExactMovesBetween (a0z0 : Int) (a1n0 : Nat) (a1X0 : Nat → ByteArray) (a2z0 : Int) (a3n0 : Nat) (a3X0 : Nat → Int) (a4n0 : Nat) (a4X0 : Nat → Int) (r0n0 : Nat) (r0X0 : Nat → Int) (r1z0 : Bool) (a1A0 : Option Addr) (a1c0 : Nat) (a3A0 : Option Addr) (a3c0 : Nat) (a4A0 : Option Addr) (a4c0 : Nat) (w : World) (ha1m0 : a1n0 ≤ maxLen) (ha1r0 : GRow w a1A0 a1n0 (strV a1X0)) (ha1s0 : ∀ i, i < a1n0 → (a1X0 i).size ≤ maxLen) (_ha3m0 : a3n0 ≤ maxLen) (ha3r0 : GRow w a3A0 a3n0 (intV a3X0)) (_ha4m0 : a4n0 ≤ maxLen) (ha4r0 : GRow w a4A0 a4n0 (intV a4X0)) (hr0m0 : r0n0 ≤ 1048576)
    (s1 : a3n0 ≤ 1048576 → a4n0 ≤ 1048576 → a1n0 + (sizeS a1X0 a1n0) ≤ 1048576 → ∀ (ua1A0 : Option Addr) (ua1c0 : Nat) (ua3A0 : Option Addr) (ua4A0 : Option Addr) (w : World), GRow w ua1A0 a1n0 (strV a1X0) → GRow w ua3A0 a3n0 (intV a3X0) → GRow w ua4A0 a4n0 (intV a4X0) → Calls Try.prog 49 #[.int .i64 a0z0, .slice ua1A0 a1n0 ua1c0, .int .i64 a2z0, .slice ua3A0 a3n0 a3n0, .slice ua4A0 a4n0 a4n0] w fun e w' => ∃ vr0A0 vr0c0, e = .returned (.tuple #[.slice vr0A0 r0n0 vr0c0, .bool r1z0]) ∧ GRow w' vr0A0 r0n0 (intV r0X0) ∧ Below w.heap.size w w')
    (s2 : a3n0 ≤ 1048576 → a4n0 ≤ 1048576 → a1n0 + (sizeS a1X0 a1n0) ≤ 1048576 → ∀ (ua1A0 : Option Addr) (ua1c0 : Nat) (ua3A0 : Option Addr) (ua4A0 : Option Addr) (w : World), GRow w ua1A0 a1n0 (strV a1X0) → GRow w ua3A0 a3n0 (intV a3X0) → GRow w ua4A0 a4n0 (intV a4X0) → Calls Try.prog 50 #[.int .i64 a0z0, .slice ua1A0 a1n0 ua1c0, .int .i64 a2z0, .slice ua3A0 a3n0 a3n0, .slice ua4A0 a4n0 a4n0] w fun e w' => ∃ vr0A0 vr0c0, e = .returned (.tuple #[.slice vr0A0 r0n0 vr0c0, .bool r1z0]) ∧ Ow w.heap.size w'.heap.size 3 vr0A0 r0n0 (intV r0X0) w' ∧ Below w.heap.size w w') :
    Calls Try.prog 14 #[.int .i64 a0z0, .slice a1A0 a1n0 a1c0, .int .i64 a2z0, .slice a3A0 a3n0 a3c0, .slice a4A0 a4n0 a4c0] w fun e w' => e = .returned (.bool true) ∧ Below w.heap.size w w' := by
  have S1 := Lib.hid s1
  have S2 := Lib.hid s2
  clear s1 s2
  have FB := Lib.hid (At.start w)
  have Fa10 := Lib.hid (rd_of_row ha1r0)
  have Fa30 := Lib.hid (rd_of_row ha3r0)
  have Fa40 := Lib.hid (rd_of_row ha4r0)
  clear ha1r0 ha3r0 ha4r0
  by_cases hlong_a3 : (1048576 : Int) < (a3n0 : Int)
  · go_enter Try.func14, Try.ntmps14
    go_wp2_with fail
    go_ret
    exact ⟨rfl, FB.out.now⟩
  by_cases hlong_a4 : (1048576 : Int) < (a4n0 : Int)
  · go_enter Try.func14, Try.ntmps14
    go_wp2_with fail
    go_ret
    exact ⟨rfl, FB.out.now⟩
  go_enter Try.func14, Try.ntmps14
  go_wp2_with fail
  refine (sz_StringS ha1m0 ha1s0 Fa10.out.row (by omega) (by omega)).mono ?_; rintro e w1 ⟨rfl, hb⟩
  replace FB := Lib.hid (FB.out.b hb)
  replace Fa10 := Lib.hid (Fa10.out.b hb)
  replace Fa30 := Lib.hid (Fa30.out.b hb)
  replace Fa40 := Lib.hid (Fa40.out.b hb)
  have z_w1 : w.heap.size ≤ w1.heap.size := by have hsz := hb.size; first | omega | (simp at hsz; omega)
  clear hb
  by_cases hZ_a1 : ((a1n0 + (sizeS a1X0 a1n0) : Nat) : Int) ≤ (1048576 : Int)
  rotate_left
  · rw [szv_no hZ_a1]
    go_wp2_with fail
    go_ret
    exact ⟨rfl, FB.out.now⟩
  rw [szv_yes hZ_a1]
  have hL_a1 : ¬ (((1048576 : Int) - (((a1n0 : Nat) : Int) + (((sizeS a1X0 a1n0) : Nat) : Int))) < 0) := by omega
  replace S1 := Lib.hid (S1.out (by omega) (by omega) (by omega))
  replace S2 := Lib.hid (S2.out (by omega) (by omega) (by omega))
  have ha1k0 : a1n0 ≤ 1048576 := by omega
  have ha3k0 : a3n0 ≤ 1048576 := by omega
  have ha4k0 : a4n0 ≤ 1048576 := by omega
  go_wp2_with fail
  refine (to_StringS ha1k0 Fa10.out.row).mono ?_; rintro e w2 ⟨tma1A0, tma1c0, rfl, ho0, hb⟩
  replace FB := Lib.hid (FB.out.b hb)
  replace Fa10 := Lib.hid (Fa10.out.b hb)
  replace Fa30 := Lib.hid (Fa30.out.b hb)
  replace Fa40 := Lib.hid (Fa40.out.b hb)
  have z_w2 : w1.heap.size ≤ w2.heap.size := by have hsz := hb.size; first | omega | (simp at hsz; omega)
  have Otma10 := Lib.hid (owned (ho0.mono (lo' := w1.heap.size) (Nat.le_refl _) (Nat.le_refl _)))
  clear hb ho0
  go_wp2_with fail
  refine (to_IntSn ha3k0 Fa30.out.row).mono ?_; rintro e w3 ⟨tma3A0, rfl, ho0, hb⟩
  replace FB := Lib.hid (FB.out.b hb)
  replace Fa10 := Lib.hid (Fa10.out.b hb)
  replace Fa30 := Lib.hid (Fa30.out.b hb)
  replace Fa40 := Lib.hid (Fa40.out.b hb)
  replace Otma10 := Lib.hid (Otma10.out.b hb)
  have z_w3 : w2.heap.size ≤ w3.heap.size := by have hsz := hb.size; first | omega | (simp at hsz; omega)
  have Otma30 := Lib.hid (owned (ho0.mono (lo' := w2.heap.size) (Nat.le_refl _) (Nat.le_refl _)))
  clear hb ho0
  go_wp2_with fail
  refine (to_IntSn ha4k0 Fa40.out.row).mono ?_; rintro e w4 ⟨tma4A0, rfl, ho0, hb⟩
  replace FB := Lib.hid (FB.out.b hb)
  replace Fa10 := Lib.hid (Fa10.out.b hb)
  replace Fa30 := Lib.hid (Fa30.out.b hb)
  replace Fa40 := Lib.hid (Fa40.out.b hb)
  replace Otma10 := Lib.hid (Otma10.out.b hb)
  replace Otma30 := Lib.hid (Otma30.out.b hb)
  have z_w4 : w3.heap.size ≤ w4.heap.size := by have hsz := hb.size; first | omega | (simp at hsz; omega)
  have Otma40 := Lib.hid (owned (ho0.mono (lo' := w3.heap.size) (Nat.le_refl _) (Nat.le_refl _)))
  clear hb ho0
  go_wp2_with fail
  refine (S1.out _ _ _ _ _ Otma10.out.orow Otma30.out.orow Otma40.out.orow).mono ?_; rintro e w5 ⟨mr0A0, mr0c0, rfl, hrr00, hb⟩
  replace FB := Lib.hid (FB.out.b hb)
  replace Fa10 := Lib.hid (Fa10.out.b hb)
  replace Fa30 := Lib.hid (Fa30.out.b hb)
  replace Fa40 := Lib.hid (Fa40.out.b hb)
  replace Otma10 := Lib.hid (Otma10.out.b hb)
  replace Otma30 := Lib.hid (Otma30.out.b hb)
  replace Otma40 := Lib.hid (Otma40.out.b hb)
  have z_w5 : w4.heap.size ≤ w5.heap.size := by have hsz := hb.size; first | omega | (simp at hsz; omega)
  have Vmr00 := Lib.hid (rd_of_row hrr00)
  clear hb hrr00
  clear Otma10 Otma30 Otma40
  go_wp2_with fail
  refine (to_StringS ha1k0 Fa10.out.row).mono ?_; rintro e w6 ⟨xa1A0, xa1c0, rfl, ho0, hb⟩
  replace FB := Lib.hid (FB.out.b hb)
  replace Fa10 := Lib.hid (Fa10.out.b hb)
  replace Fa30 := Lib.hid (Fa30.out.b hb)
  replace Fa40 := Lib.hid (Fa40.out.b hb)
  replace Vmr00 := Lib.hid (Vmr00.out.b hb)
  have z_w6 : w5.heap.size ≤ w6.heap.size := by have hsz := hb.size; first | omega | (simp at hsz; omega)
  have Oxa10 := Lib.hid (owned (ho0.mono (lo' := w5.heap.size) (Nat.le_refl _) (Nat.le_refl _)))
  clear hb ho0
  go_wp2_with fail
  refine (to_IntSn ha3k0 Fa30.out.row).mono ?_; rintro e w7 ⟨xa3A0, rfl, ho0, hb⟩
  replace FB := Lib.hid (FB.out.b hb)
  replace Fa10 := Lib.hid (Fa10.out.b hb)
  replace Fa30 := Lib.hid (Fa30.out.b hb)
  replace Fa40 := Lib.hid (Fa40.out.b hb)
  replace Vmr00 := Lib.hid (Vmr00.out.b hb)
  replace Oxa10 := Lib.hid (Oxa10.out.b hb)
  have z_w7 : w6.heap.size ≤ w7.heap.size := by have hsz := hb.size; first | omega | (simp at hsz; omega)
  have Oxa30 := Lib.hid (owned (ho0.mono (lo' := w6.heap.size) (Nat.le_refl _) (Nat.le_refl _)))
  clear hb ho0
  go_wp2_with fail
  refine (to_IntSn ha4k0 Fa40.out.row).mono ?_; rintro e w8 ⟨xa4A0, rfl, ho0, hb⟩
  replace FB := Lib.hid (FB.out.b hb)
  replace Fa10 := Lib.hid (Fa10.out.b hb)
  replace Fa30 := Lib.hid (Fa30.out.b hb)
  replace Fa40 := Lib.hid (Fa40.out.b hb)
  replace Vmr00 := Lib.hid (Vmr00.out.b hb)
  replace Oxa10 := Lib.hid (Oxa10.out.b hb)
  replace Oxa30 := Lib.hid (Oxa30.out.b hb)
  have z_w8 : w7.heap.size ≤ w8.heap.size := by have hsz := hb.size; first | omega | (simp at hsz; omega)
  have Oxa40 := Lib.hid (owned (ho0.mono (lo' := w7.heap.size) (Nat.le_refl _) (Nat.le_refl _)))
  clear hb ho0
  go_wp2_with fail
  refine (S2.out _ _ _ _ _ Oxa10.out.orow Oxa30.out.orow Oxa40.out.orow).mono ?_; rintro e w9 ⟨gr0A0, gr0c0, rfl, hrr00, hb⟩
  replace FB := Lib.hid (FB.out.b hb)
  replace Fa10 := Lib.hid (Fa10.out.b hb)
  replace Fa30 := Lib.hid (Fa30.out.b hb)
  replace Fa40 := Lib.hid (Fa40.out.b hb)
  replace Vmr00 := Lib.hid (Vmr00.out.b hb)
  replace Oxa10 := Lib.hid (Oxa10.out.b hb)
  replace Oxa30 := Lib.hid (Oxa30.out.b hb)
  replace Oxa40 := Lib.hid (Oxa40.out.b hb)
  have z_w9 : w8.heap.size ≤ w9.heap.size := by have hsz := hb.size; first | omega | (simp at hsz; omega)
  have Ogr00 := Lib.hid (owned (hrr00.mono (lo' := w8.heap.size) (Nat.le_refl _) (Nat.le_refl _)))
  clear hb hrr00
  go_wp2_with fail
  refine (eq_IntS hr0m0 Ogr00.out.orow Vmr00.out.row).mono ?_; rintro e w10 ⟨rfl, hb⟩
  replace FB := Lib.hid (FB.out.b hb)
  replace Fa10 := Lib.hid (Fa10.out.b hb)
  replace Fa30 := Lib.hid (Fa30.out.b hb)
  replace Fa40 := Lib.hid (Fa40.out.b hb)
  replace Vmr00 := Lib.hid (Vmr00.out.b hb)
  replace Oxa10 := Lib.hid (Oxa10.out.b hb)
  replace Oxa30 := Lib.hid (Oxa30.out.b hb)
  replace Oxa40 := Lib.hid (Oxa40.out.b hb)
  replace Ogr00 := Lib.hid (Ogr00.out.b hb)
  have z_w10 : w9.heap.size ≤ w10.heap.size := by have hsz := hb.size; first | omega | (simp at hsz; omega)
  clear hb
  go_wp2_with fail
  refine (to_StringS ha1k0 Fa10.out.row).mono ?_; rintro e w11 ⟨ya1A0, ya1c0, rfl, ho0, hb⟩
  replace FB := Lib.hid (FB.out.b hb)
  replace Fa10 := Lib.hid (Fa10.out.b hb)
  replace Fa30 := Lib.hid (Fa30.out.b hb)
  replace Fa40 := Lib.hid (Fa40.out.b hb)
  replace Vmr00 := Lib.hid (Vmr00.out.b hb)
  replace Oxa10 := Lib.hid (Oxa10.out.b hb)
  replace Oxa30 := Lib.hid (Oxa30.out.b hb)
  replace Oxa40 := Lib.hid (Oxa40.out.b hb)
  replace Ogr00 := Lib.hid (Ogr00.out.b hb)
  have z_w11 : w10.heap.size ≤ w11.heap.size := by have hsz := hb.size; first | omega | (simp at hsz; omega)
  have Oya10 := Lib.hid (owned (ho0.mono (lo' := w10.heap.size) (Nat.le_refl _) (Nat.le_refl _)))
  clear hb ho0
  go_wp2_with fail
  refine (eq_StringS ha1k0 Oxa10.out.orow Oya10.out.orow).mono ?_; rintro e w12 ⟨rfl, hb⟩
  replace FB := Lib.hid (FB.out.b hb)
  replace Fa10 := Lib.hid (Fa10.out.b hb)
  replace Fa30 := Lib.hid (Fa30.out.b hb)
  replace Fa40 := Lib.hid (Fa40.out.b hb)
  replace Vmr00 := Lib.hid (Vmr00.out.b hb)
  replace Oxa10 := Lib.hid (Oxa10.out.b hb)
  replace Oxa30 := Lib.hid (Oxa30.out.b hb)
  replace Oxa40 := Lib.hid (Oxa40.out.b hb)
  replace Ogr00 := Lib.hid (Ogr00.out.b hb)
  replace Oya10 := Lib.hid (Oya10.out.b hb)
  have z_w12 : w11.heap.size ≤ w12.heap.size := by have hsz := hb.size; first | omega | (simp at hsz; omega)
  clear hb
  clear Oya10
  go_wp2_with fail
  refine (to_IntSn ha3k0 Fa30.out.row).mono ?_; rintro e w13 ⟨ya3A0, rfl, ho0, hb⟩
  replace FB := Lib.hid (FB.out.b hb)
  replace Fa10 := Lib.hid (Fa10.out.b hb)
  replace Fa30 := Lib.hid (Fa30.out.b hb)
  replace Fa40 := Lib.hid (Fa40.out.b hb)
  replace Vmr00 := Lib.hid (Vmr00.out.b hb)
  replace Oxa10 := Lib.hid (Oxa10.out.b hb)
  replace Oxa30 := Lib.hid (Oxa30.out.b hb)
  replace Oxa40 := Lib.hid (Oxa40.out.b hb)
  replace Ogr00 := Lib.hid (Ogr00.out.b hb)
  have z_w13 : w12.heap.size ≤ w13.heap.size := by have hsz := hb.size; first | omega | (simp at hsz; omega)
  have Oya30 := Lib.hid (owned (ho0.mono (lo' := w12.heap.size) (Nat.le_refl _) (Nat.le_refl _)))
  clear hb ho0
  go_wp2_with fail
  refine (eq_IntS ha3k0 Oxa30.out.orow Oya30.out.orow).mono ?_; rintro e w14 ⟨rfl, hb⟩
  replace FB := Lib.hid (FB.out.b hb)
  replace Fa10 := Lib.hid (Fa10.out.b hb)
  replace Fa30 := Lib.hid (Fa30.out.b hb)
  replace Fa40 := Lib.hid (Fa40.out.b hb)
  replace Vmr00 := Lib.hid (Vmr00.out.b hb)
  replace Oxa10 := Lib.hid (Oxa10.out.b hb)
  replace Oxa30 := Lib.hid (Oxa30.out.b hb)
  replace Oxa40 := Lib.hid (Oxa40.out.b hb)
  replace Ogr00 := Lib.hid (Ogr00.out.b hb)
  replace Oya30 := Lib.hid (Oya30.out.b hb)
  have z_w14 : w13.heap.size ≤ w14.heap.size := by have hsz := hb.size; first | omega | (simp at hsz; omega)
  clear hb
  clear Oya30
  go_wp2_with fail
  refine (to_IntSn ha4k0 Fa40.out.row).mono ?_; rintro e w15 ⟨ya4A0, rfl, ho0, hb⟩
  replace FB := Lib.hid (FB.out.b hb)
  replace Fa10 := Lib.hid (Fa10.out.b hb)
  replace Fa30 := Lib.hid (Fa30.out.b hb)
  replace Fa40 := Lib.hid (Fa40.out.b hb)
  replace Vmr00 := Lib.hid (Vmr00.out.b hb)
  replace Oxa10 := Lib.hid (Oxa10.out.b hb)
  replace Oxa30 := Lib.hid (Oxa30.out.b hb)
  replace Oxa40 := Lib.hid (Oxa40.out.b hb)
  replace Ogr00 := Lib.hid (Ogr00.out.b hb)
  have z_w15 : w14.heap.size ≤ w15.heap.size := by have hsz := hb.size; first | omega | (simp at hsz; omega)
  have Oya40 := Lib.hid (owned (ho0.mono (lo' := w14.heap.size) (Nat.le_refl _) (Nat.le_refl _)))
  clear hb ho0
  go_wp2_with fail
  refine (eq_IntS ha4k0 Oxa40.out.orow Oya40.out.orow).mono ?_; rintro e w16 ⟨rfl, hb⟩
  replace FB := Lib.hid (FB.out.b hb)
  replace Fa10 := Lib.hid (Fa10.out.b hb)
  replace Fa30 := Lib.hid (Fa30.out.b hb)
  replace Fa40 := Lib.hid (Fa40.out.b hb)
  replace Vmr00 := Lib.hid (Vmr00.out.b hb)
  replace Oxa10 := Lib.hid (Oxa10.out.b hb)
  replace Oxa30 := Lib.hid (Oxa30.out.b hb)
  replace Oxa40 := Lib.hid (Oxa40.out.b hb)
  replace Ogr00 := Lib.hid (Ogr00.out.b hb)
  replace Oya40 := Lib.hid (Oya40.out.b hb)
  have z_w16 : w15.heap.size ≤ w16.heap.size := by have hsz := hb.size; first | omega | (simp at hsz; omega)
  clear hb
  clear Oya40
  go_wp2_with fail
  refine (mark_StringS ha1k0 Oxa10.out.now Oxa10.out.top (by omega) (by omega)).mono ?_; rintro e w17 ⟨rfl, hm0, hg⟩
  replace FB := Lib.hid (FB.out.far hg (by omega))
  replace Fa10 := Lib.hid (Fa10.out.far hg (by omega))
  replace Fa30 := Lib.hid (Fa30.out.far hg (by omega))
  replace Fa40 := Lib.hid (Fa40.out.far hg (by omega))
  replace Vmr00 := Lib.hid (Vmr00.out.far hg (by omega))
  replace Oxa30 := Lib.hid (Oxa30.out.far hg (by omega))
  replace Oxa40 := Lib.hid (Oxa40.out.far hg (by omega))
  replace Ogr00 := Lib.hid (Ogr00.out.far hg (by omega))
  have z_w17 : w16.heap.size ≤ w17.heap.size := by have hsz := hg.size; first | omega | (simp at hsz; omega)
  replace Oxa10 := Lib.hid (At.mk hm0 (Nat.le_trans Oxa10.out.top hg.size) (Ow.lives _ _ _ _ _ _))
  clear hg hm0
  clear Oxa10
  go_wp2_with fail
  refine (mark_IntS ha3k0 Oxa30.out.now Oxa30.out.top (by omega) (by omega)).mono ?_; rintro e w18 ⟨rfl, hm0, hg⟩
  replace FB := Lib.hid (FB.out.far hg (by omega))
  replace Fa10 := Lib.hid (Fa10.out.far hg (by omega))
  replace Fa30 := Lib.hid (Fa30.out.far hg (by omega))
  replace Fa40 := Lib.hid (Fa40.out.far hg (by omega))
  replace Vmr00 := Lib.hid (Vmr00.out.far hg (by omega))
  replace Oxa40 := Lib.hid (Oxa40.out.far hg (by omega))
  replace Ogr00 := Lib.hid (Ogr00.out.far hg (by omega))
  have z_w18 : w17.heap.size ≤ w18.heap.size := by have hsz := hg.size; first | omega | (simp at hsz; omega)
  replace Oxa30 := Lib.hid (At.mk hm0 (Nat.le_trans Oxa30.out.top hg.size) (Ow.lives _ _ _ _ _ _))
  clear hg hm0
  clear Oxa30
  go_wp2_with fail
  refine (mark_IntS ha4k0 Oxa40.out.now Oxa40.out.top (by omega) (by omega)).mono ?_; rintro e w19 ⟨rfl, hm0, hg⟩
  replace FB := Lib.hid (FB.out.far hg (by omega))
  replace Fa10 := Lib.hid (Fa10.out.far hg (by omega))
  replace Fa30 := Lib.hid (Fa30.out.far hg (by omega))
  replace Fa40 := Lib.hid (Fa40.out.far hg (by omega))
  replace Vmr00 := Lib.hid (Vmr00.out.far hg (by omega))
  replace Ogr00 := Lib.hid (Ogr00.out.far hg (by omega))
  have z_w19 : w18.heap.size ≤ w19.heap.size := by have hsz := hg.size; first | omega | (simp at hsz; omega)
  replace Oxa40 := Lib.hid (At.mk hm0 (Nat.le_trans Oxa40.out.top hg.size) (Ow.lives _ _ _ _ _ _))
  clear hg hm0
  clear Oxa40
  go_wp2_with fail
  refine (eq_IntS hr0m0 Ogr00.out.orow Vmr00.out.row).mono ?_; rintro e w20 ⟨rfl, hb⟩
  replace FB := Lib.hid (FB.out.b hb)
  replace Fa10 := Lib.hid (Fa10.out.b hb)
  replace Fa30 := Lib.hid (Fa30.out.b hb)
  replace Fa40 := Lib.hid (Fa40.out.b hb)
  replace Vmr00 := Lib.hid (Vmr00.out.b hb)
  replace Ogr00 := Lib.hid (Ogr00.out.b hb)
  have z_w20 : w19.heap.size ≤ w20.heap.size := by have hsz := hb.size; first | omega | (simp at hsz; omega)
  clear hb
  go_wp2_with fail
  refine (mark_IntS hr0m0 Ogr00.out.now Ogr00.out.top (by omega) (by omega)).mono ?_; rintro e w21 ⟨rfl, hm0, hg⟩
  replace FB := Lib.hid (FB.out.far hg (by omega))
  replace Fa10 := Lib.hid (Fa10.out.far hg (by omega))
  replace Fa30 := Lib.hid (Fa30.out.far hg (by omega))
  replace Fa40 := Lib.hid (Fa40.out.far hg (by omega))
  replace Vmr00 := Lib.hid (Vmr00.out.far hg (by omega))
  have z_w21 : w20.heap.size ≤ w21.heap.size := by have hsz := hg.size; first | omega | (simp at hsz; omega)
  replace Ogr00 := Lib.hid (At.mk hm0 (Nat.le_trans Ogr00.out.top hg.size) (Ow.lives _ _ _ _ _ _))
  clear hg hm0
  go_wp2_with fail
  refine (held_IntS hr0m0 Ogr00.out.orow (by omega) (by omega)).mono ?_; rintro e w22 ⟨rfl, hb⟩
  replace FB := Lib.hid (FB.out.b hb)
  replace Fa10 := Lib.hid (Fa10.out.b hb)
  replace Fa30 := Lib.hid (Fa30.out.b hb)
  replace Fa40 := Lib.hid (Fa40.out.b hb)
  replace Vmr00 := Lib.hid (Vmr00.out.b hb)
  replace Ogr00 := Lib.hid (Ogr00.out.b hb)
  have z_w22 : w21.heap.size ≤ w22.heap.size := by have hsz := hb.size; first | omega | (simp at hsz; omega)
  clear hb
  go_wp2_with fail
  refine (to_StringS ha1k0 Fa10.out.row).mono ?_; rintro e w23 ⟨tha1A0, tha1c0, rfl, ho0, hb⟩
  replace FB := Lib.hid (FB.out.b hb)
  replace Fa10 := Lib.hid (Fa10.out.b hb)
  replace Fa30 := Lib.hid (Fa30.out.b hb)
  replace Fa40 := Lib.hid (Fa40.out.b hb)
  replace Vmr00 := Lib.hid (Vmr00.out.b hb)
  replace Ogr00 := Lib.hid (Ogr00.out.b hb)
  have z_w23 : w22.heap.size ≤ w23.heap.size := by have hsz := hb.size; first | omega | (simp at hsz; omega)
  have Otha10 := Lib.hid (owned (ho0.mono (lo' := w22.heap.size) (Nat.le_refl _) (Nat.le_refl _)))
  clear hb ho0
  go_wp2_with fail
  refine (to_IntSn ha3k0 Fa30.out.row).mono ?_; rintro e w24 ⟨tha3A0, rfl, ho0, hb⟩
  replace FB := Lib.hid (FB.out.b hb)
  replace Fa10 := Lib.hid (Fa10.out.b hb)
  replace Fa30 := Lib.hid (Fa30.out.b hb)
  replace Fa40 := Lib.hid (Fa40.out.b hb)
  replace Vmr00 := Lib.hid (Vmr00.out.b hb)
  replace Ogr00 := Lib.hid (Ogr00.out.b hb)
  replace Otha10 := Lib.hid (Otha10.out.b hb)
  have z_w24 : w23.heap.size ≤ w24.heap.size := by have hsz := hb.size; first | omega | (simp at hsz; omega)
  have Otha30 := Lib.hid (owned (ho0.mono (lo' := w23.heap.size) (Nat.le_refl _) (Nat.le_refl _)))
  clear hb ho0
  go_wp2_with fail
  refine (to_IntSn ha4k0 Fa40.out.row).mono ?_; rintro e w25 ⟨tha4A0, rfl, ho0, hb⟩
  replace FB := Lib.hid (FB.out.b hb)
  replace Fa10 := Lib.hid (Fa10.out.b hb)
  replace Fa30 := Lib.hid (Fa30.out.b hb)
  replace Fa40 := Lib.hid (Fa40.out.b hb)
  replace Vmr00 := Lib.hid (Vmr00.out.b hb)
  replace Ogr00 := Lib.hid (Ogr00.out.b hb)
  replace Otha10 := Lib.hid (Otha10.out.b hb)
  replace Otha30 := Lib.hid (Otha30.out.b hb)
  have z_w25 : w24.heap.size ≤ w25.heap.size := by have hsz := hb.size; first | omega | (simp at hsz; omega)
  have Otha40 := Lib.hid (owned (ho0.mono (lo' := w24.heap.size) (Nat.le_refl _) (Nat.le_refl _)))
  clear hb ho0
  go_wp2_with fail
  refine (S2.out _ _ _ _ _ Otha10.out.orow Otha30.out.orow Otha40.out.orow).mono ?_; rintro e w26 ⟨hr0A0, hr0c0, rfl, hrr00, hb⟩
  replace FB := Lib.hid (FB.out.b hb)
  replace Fa10 := Lib.hid (Fa10.out.b hb)
  replace Fa30 := Lib.hid (Fa30.out.b hb)
  replace Fa40 := Lib.hid (Fa40.out.b hb)
  replace Vmr00 := Lib.hid (Vmr00.out.b hb)
  replace Ogr00 := Lib.hid (Ogr00.out.b hb)
  replace Otha10 := Lib.hid (Otha10.out.b hb)
  replace Otha30 := Lib.hid (Otha30.out.b hb)
  replace Otha40 := Lib.hid (Otha40.out.b hb)
  have z_w26 : w25.heap.size ≤ w26.heap.size := by have hsz := hb.size; first | omega | (simp at hsz; omega)
  have Ohr00 := Lib.hid (owned (hrr00.mono (lo' := w25.heap.size) (Nat.le_refl _) (Nat.le_refl _)))
  clear hb hrr00
  clear Otha10 Otha30 Otha40
  go_wp2_with fail
  refine (eq_IntS hr0m0 Ohr00.out.orow Vmr00.out.row).mono ?_; rintro e w27 ⟨rfl, hb⟩
  replace FB := Lib.hid (FB.out.b hb)
  replace Fa10 := Lib.hid (Fa10.out.b hb)
  replace Fa30 := Lib.hid (Fa30.out.b hb)
  replace Fa40 := Lib.hid (Fa40.out.b hb)
  replace Vmr00 := Lib.hid (Vmr00.out.b hb)
  replace Ogr00 := Lib.hid (Ogr00.out.b hb)
  replace Ohr00 := Lib.hid (Ohr00.out.b hb)
  have z_w27 : w26.heap.size ≤ w27.heap.size := by have hsz := hb.size; first | omega | (simp at hsz; omega)
  clear hb
  go_wp2_with fail
  refine (held_IntS hr0m0 Ogr00.out.orow (by omega) (by omega)).mono ?_; rintro e w28 ⟨rfl, hb⟩
  replace FB := Lib.hid (FB.out.b hb)
  replace Fa10 := Lib.hid (Fa10.out.b hb)
  replace Fa30 := Lib.hid (Fa30.out.b hb)
  replace Fa40 := Lib.hid (Fa40.out.b hb)
  replace Vmr00 := Lib.hid (Vmr00.out.b hb)
  replace Ogr00 := Lib.hid (Ogr00.out.b hb)
  replace Ohr00 := Lib.hid (Ohr00.out.b hb)
  have z_w28 : w27.heap.size ≤ w28.heap.size := by have hsz := hb.size; first | omega | (simp at hsz; omega)
  clear hb
  go_wp2_with fail
  go_ret
  exact ⟨rfl, FB.out.now⟩
theorem least_of {P : Nat → Prop} : ∀ i, P i → ∃ k, k ≤ i ∧ P k ∧ ∀ j, j < k → ¬ P j := fun i => by
  induction i using Nat.strongRecOn with
  | _ i ih =>
    intro h
    by_cases hx : ∃ j, j < i ∧ P j
    · obtain ⟨j, h1, h2⟩ := hx
      obtain ⟨k, k1, k2, k3⟩ := ih j h1 h2
      exact ⟨k, by omega, k2, k3⟩
    · exact ⟨i, Nat.le_refl _, h, fun j hj hp => hx ⟨j, hj, hp⟩⟩
theorem mvEnd_ex {T F : Nat → Int} {n : Nat} : ∀ d k, n - k ≤ d → MvAll T F n k → k + dfN T (mvS T F n k) n ≤ n → ∃ k', MvEnd T F n k' ∧ k' ≤ n := fun d => by
  induction d with
  | zero =>
    intro k hd hA hk
    refine ⟨k, ⟨hA, fun i hi hm => ?_⟩, by omega⟩
    obtain ⟨x, x1, x2, x3⟩ := least_of i hm
    have := (mv_next hA ⟨by omega, x2, x3⟩ hk).2.2.2
    omega
  | succ d ih =>
    intro k hd hA hk
    by_cases hx : ∃ i, i < n ∧ MvOk T (mvS T F n k) n i
    · obtain ⟨i, hi, hm⟩ := hx
      obtain ⟨x, x1, x2, x3⟩ := least_of i hm
      obtain ⟨a1, _, _, a4⟩ := mv_next hA ⟨by omega, x2, x3⟩ hk
      exact ih (k + 1) (by omega) a1 a4
    · exact ⟨k, ⟨hA, fun i hi hm => hx ⟨i, hi, hm⟩⟩, by omega⟩
theorem ow_of_ownedQ {w : World} {B n c : Nat} {A : Option Addr} {X : Nat → Int} (h : w.ownsRow B 3 1 (.slice A n c) n (vals (intV X) n)) : Ow B w.heap.size 3 A n (intV X) w := by
  rcases owned_vec h with rfl | ⟨g, rfl, hg, ho⟩
  · exact ow_zero _ _ _ _ _ _
  · exact ow_of_own (m := n) ho hg (Nat.le_refl _)
def MvOut (k : Nat) (X : Nat → Int) (b : Bool) (w : World) (e : Ending) (w' : World) : Prop := ∃ A c, e = .returned (.tuple #[.slice A k c, .bool b]) ∧ Ow w.heap.size w'.heap.size 3 A k (intV X) w' ∧ Below w.heap.size w w'
theorem MvOut.row {k : Nat} {X : Nat → Int} {b : Bool} {w w' : World} {e : Ending} (h : MvOut k X b w e w') : ∃ A c, e = .returned (.tuple #[.slice A k c, .bool b]) ∧ GRow w' A k (intV X) ∧ Below w.heap.size w w' := by
  obtain ⟨A, c, h1, h2, h3⟩ := h
  exact ⟨A, c, h1, h2.rd.row (Nat.le_refl _), h3⟩
theorem MvRes.out {ok : Prop} {T F : Nat → Int} {n k : Nat} {w w' : World} {e : Ending} (h : MvRes ok T F n w e w') (hk : MvEnd T F n k) :
    (ok ∧ (∀ i, i < n → mvS T F n k i = T i) → MvOut k (mvL T F n) true w e w') ∧ (¬ (ok ∧ ∀ i, i < n → mvS T F n k i = T i) → MvOut 0 (fun _ => 0) false w e w') := by
  rcases h with ⟨h0, k', hk', _, hb, ⟨hs, A, c, rfl, ho⟩ | ⟨hs, rfl⟩⟩ | ⟨h0, rfl, hb⟩
  · obtain rfl := mvEnd_same hk hk'
    exact ⟨fun _ => ⟨A, c, rfl, ow_of_ownedQ ho, hb⟩, fun hn => absurd ⟨h0, hs⟩ hn⟩
  · obtain rfl := mvEnd_same hk hk'
    exact ⟨fun hn => absurd hn.2 hs, fun _ => ⟨none, 0, rfl, ow_zero _ _ _ _ _ _, hb⟩⟩
  · exact ⟨fun hn => absurd hn.1 h0, fun _ => ⟨none, 0, rfl, ow_zero _ _ _ _ _ _, hb⟩⟩
theorem walk_FnExactMovesBetween (w : World) (z : Int) (_wz : (Lit.int .i64 z).wf = true) (A : Option Addr) (n c : Nat) (S : Nat → ByteArray) (hm : n ≤ maxLen) (hr : SRow w A n S) (P : Int) (_wP : (Lit.int .i64 P).wf = true) (FA : Option Addr) (m fc : Nat) (F : Nat → Int) (hm2 : m ≤ maxLen) (hr2 : IRow w FA m F) (EA : Option Addr) (q ec : Nat) (T : Nat → Int) (hm3 : q ≤ maxLen) (hr3 : IRow w EA q T) :
    Calls Try.prog 14 #[.int .i64 z, .slice A n c, .int .i64 P, .slice FA m fc, .slice EA q ec] w fun e w' => e = .returned (.bool true) ∧ Below w.heap.size w w' := by
  obtain ⟨k, hk, hkn⟩ := mvEnd_ex (T := T) (F := F) (n := n) n 0 (by omega) (fun j hj => absurd hj (by omega)) (by have := dfN_le T F n; show 0 + dfN T F n ≤ n; omega)
  have hs1 := fun (h2 : n + sizeS S n ≤ 1048576) (h0 : m ≤ 1048576) (h1 : q ≤ 1048576) (A : Option Addr) (c : Nat) (FA EA : Option Addr) (w : World) (g1 : GRow w A n (strV S)) (g2 : GRow w FA m (intV F)) (g3 : GRow w EA q (intV T)) => spec_moves z P A n c S FA m F EA q T w (by omega) hr.size g1 h0 g2 h1 g3
  have hs2 := fun (h2 : n + sizeS S n ≤ 1048576) (h0 : m ≤ 1048576) (h1 : q ≤ 1048576) (A : Option Addr) (c : Nat) (FA EA : Option Addr) (w : World) (g1 : GRow w A n (strV S)) (g2 : GRow w FA m (intV F)) (g3 : GRow w EA q (intV T)) => impl_moves z P A n c S FA m F EA q T w (by omega) hr.size g1 h0 g2 h1 g3
  by_cases hok : MvGood z P n S m F q T ∧ ∀ i, i < n → mvS T F n k i = T i
  · have hn40 : n ≤ 40 := by
      have := hok.1.1
      simp only [Bool.and_eq_true] at this
      exact keysB_size this.2
    exact main_FnExactMovesBetween z n S P m F q T k (mvL T F n) true A c FA fc EA ec w hm hr.grow hr.size hm2 hr2 hm3 hr3 (by omega)
      (fun h0 h1 h2 A c FA EA w g1 g2 g3 => (hs1 h2 h0 h1 A c FA EA w g1 g2 g3).mono fun e w' h => ((h.out hk).1 hok).row)
      (fun h0 h1 h2 A c FA EA w g1 g2 g3 => (hs2 h2 h0 h1 A c FA EA w g1 g2 g3).mono fun e w' h => (h.out hk).1 hok)
  · exact main_FnExactMovesBetween z n S P m F q T 0 (fun _ => 0) false A c FA fc EA ec w hm hr.grow hr.size hm2 hr2 hm3 hr3 (by omega)
      (fun h0 h1 h2 A c FA EA w g1 g2 g3 => (hs1 h2 h0 h1 A c FA EA w g1 g2 g3).mono fun e w' h => ((h.out hk).2 hok).row)
      (fun h0 h1 h2 A c FA EA w g1 g2 g3 => (hs2 h2 h0 h1 A c FA EA w g1 g2 g3).mono fun e w' h => (h.out hk).2 hok)
end Go.Proofs.Ytfjimjbndkhkcaa
