/- The law of IsCrowd, walked: what both sides answer comes in as hypotheses. -/
import Derived.Test.YtffdkfhnlgfigaaObjStr
import Derived.Test.YtffdkfhnlgfigaaObjInt
import Derived.Test.YtffdkfhnlgfigaaToN
import Derived.Test.YtffdkfhnlgfigaaCroI
import Derived.Deep.RegionHeld3
namespace Go.Proofs.Ytffdkfhnlgfigaa
open Go.RowKit

set_option maxRecDepth 100000 in
set_option maxHeartbeats 8000000 in
theorem main_FnExactIsCrowd (a0z0 : Int) (a1n0 : Nat) (a1X0 : Nat → ByteArray) (a2z0 : Int) (a3n0 : Nat) (a3X0 : Nat → Int) (r0z0 : Bool) (r1z0 : Bool) (a1A0 : Option Addr) (a1c0 : Nat) (a3A0 : Option Addr) (a3c0 : Nat) (w : World) (ha1m0 : a1n0 ≤ maxLen) (ha1r0 : GRow w a1A0 a1n0 (strV a1X0)) (ha1s0 : ∀ i, i < a1n0 → (a1X0 i).size ≤ maxLen) (_ha3m0 : a3n0 ≤ maxLen) (ha3r0 : GRow w a3A0 a3n0 (intV a3X0))
    (s1 : a3n0 ≤ 1048576 → a1n0 + (sizeS a1X0 a1n0) ≤ 1048576 → ∀ (ua1A0 : Option Addr) (ua1c0 : Nat) (ua3A0 : Option Addr) (w : World), GRow w ua1A0 a1n0 (strV a1X0) → GRow w ua3A0 a3n0 (intV a3X0) → Calls Try.prog 35 #[.int .i64 a0z0, .slice ua1A0 a1n0 ua1c0, .int .i64 a2z0, .slice ua3A0 a3n0 a3n0] w fun e w' => e = .returned (.tuple #[.bool r0z0, .bool r1z0]) ∧ Below w.heap.size w w')
    (s2 : a3n0 ≤ 1048576 → a1n0 + (sizeS a1X0 a1n0) ≤ 1048576 → ∀ (ua1A0 : Option Addr) (ua1c0 : Nat) (ua3A0 : Option Addr) (w : World), GRow w ua1A0 a1n0 (strV a1X0) → GRow w ua3A0 a3n0 (intV a3X0) → Calls Try.prog 37 #[.int .i64 a0z0, .slice ua1A0 a1n0 ua1c0, .int .i64 a2z0, .slice ua3A0 a3n0 a3n0] w fun e w' => e = .returned (.tuple #[.bool r0z0, .bool r1z0]) ∧ Below w.heap.size w w') :
    Calls Try.prog 7 #[.int .i64 a0z0, .slice a1A0 a1n0 a1c0, .int .i64 a2z0, .slice a3A0 a3n0 a3c0] w fun e w' => e = .returned (.bool true) ∧ Below w.heap.size w w' := by
  have S1 := Lib.hid s1
  have S2 := Lib.hid s2
  clear s1 s2
  have FB := Lib.hid (At.start w)
  have Fa10 := Lib.hid (rd_of_row ha1r0)
  have Fa30 := Lib.hid (rd_of_row ha3r0)
  clear ha1r0 ha3r0
  by_cases hlong_a3 : (1048576 : Int) < (a3n0 : Int)
  · go_enter Try.func7, Try.ntmps7
    go_wp2_with fail
    go_ret
    exact ⟨rfl, FB.out.now⟩
  go_enter Try.func7, Try.ntmps7
  go_wp2_with fail
  refine (sz_StringS ha1m0 ha1s0 Fa10.out.row (by omega) (by omega)).mono ?_; rintro e w1 ⟨rfl, hb⟩
  replace FB := Lib.hid (FB.out.b hb)
  replace Fa10 := Lib.hid (Fa10.out.b hb)
  replace Fa30 := Lib.hid (Fa30.out.b hb)
  have z_w1 : w.heap.size ≤ w1.heap.size := by have hsz := hb.size; first | omega | (simp at hsz; omega)
  clear hb
  by_cases hZ_a1 : ((a1n0 + (sizeS a1X0 a1n0) : Nat) : Int) ≤ (1048576 : Int)
  rotate_left
  · rw [szv_no hZ_a1]
    go_wp2_with fail
    go_ret
    exact ⟨rfl, FB.out.now⟩
  rw [szv_yes hZ_a1]
  have hL_a1 : ¬ (((1048576 : Int) - (((a1n0 : Nat) : Int) + (((sizeS a1X0 a1n0) : Nat) : Int))) < 0) := by omega
  replace S1 := Lib.hid (S1.out (by omega) (by omega))
  replace S2 := Lib.hid (S2.out (by omega) (by omega))
  have ha1k0 : a1n0 ≤ 1048576 := by omega
  have ha3k0 : a3n0 ≤ 1048576 := by omega
  go_wp2_with fail
  refine (to_StringS ha1k0 Fa10.out.row).mono ?_; rintro e w2 ⟨tma1A0, tma1c0, rfl, ho0, hb⟩
  replace FB := Lib.hid (FB.out.b hb)
  replace Fa10 := Lib.hid (Fa10.out.b hb)
  replace Fa30 := Lib.hid (Fa30.out.b hb)
  have z_w2 : w1.heap.size ≤ w2.heap.size := by have hsz := hb.size; first | omega | (simp at hsz; omega)
  have Otma10 := Lib.hid (owned (ho0.mono (lo' := w1.heap.size) (Nat.le_refl _) (Nat.le_refl _)))
  clear hb ho0
  go_wp2_with fail
  refine (to_IntSn ha3k0 Fa30.out.row).mono ?_; rintro e w3 ⟨tma3A0, rfl, ho0, hb⟩
  replace FB := Lib.hid (FB.out.b hb)
  replace Fa10 := Lib.hid (Fa10.out.b hb)
  replace Fa30 := Lib.hid (Fa30.out.b hb)
  replace Otma10 := Lib.hid (Otma10.out.b hb)
  have z_w3 : w2.heap.size ≤ w3.heap.size := by have hsz := hb.size; first | omega | (simp at hsz; omega)
  have Otma30 := Lib.hid (owned (ho0.mono (lo' := w2.heap.size) (Nat.le_refl _) (Nat.le_refl _)))
  clear hb ho0
  go_wp2_with fail
  refine (S1.out _ _ _ _ Otma10.out.orow Otma30.out.orow).mono ?_; rintro e w4 ⟨rfl, hb⟩
  replace FB := Lib.hid (FB.out.b hb)
  replace Fa10 := Lib.hid (Fa10.out.b hb)
  replace Fa30 := Lib.hid (Fa30.out.b hb)
  replace Otma10 := Lib.hid (Otma10.out.b hb)
  replace Otma30 := Lib.hid (Otma30.out.b hb)
  have z_w4 : w3.heap.size ≤ w4.heap.size := by have hsz := hb.size; first | omega | (simp at hsz; omega)
  clear hb 
  clear Otma10 Otma30
  go_wp2_with fail
  refine (to_StringS ha1k0 Fa10.out.row).mono ?_; rintro e w5 ⟨xa1A0, xa1c0, rfl, ho0, hb⟩
  replace FB := Lib.hid (FB.out.b hb)
  replace Fa10 := Lib.hid (Fa10.out.b hb)
  replace Fa30 := Lib.hid (Fa30.out.b hb)
  have z_w5 : w4.heap.size ≤ w5.heap.size := by have hsz := hb.size; first | omega | (simp at hsz; omega)
  have Oxa10 := Lib.hid (owned (ho0.mono (lo' := w4.heap.size) (Nat.le_refl _) (Nat.le_refl _)))
  clear hb ho0
  go_wp2_with fail
  refine (to_IntSn ha3k0 Fa30.out.row).mono ?_; rintro e w6 ⟨xa3A0, rfl, ho0, hb⟩
  replace FB := Lib.hid (FB.out.b hb)
  replace Fa10 := Lib.hid (Fa10.out.b hb)
  replace Fa30 := Lib.hid (Fa30.out.b hb)
  replace Oxa10 := Lib.hid (Oxa10.out.b hb)
  have z_w6 : w5.heap.size ≤ w6.heap.size := by have hsz := hb.size; first | omega | (simp at hsz; omega)
  have Oxa30 := Lib.hid (owned (ho0.mono (lo' := w5.heap.size) (Nat.le_refl _) (Nat.le_refl _)))
  clear hb ho0
  go_wp2_with fail
  refine (S2.out _ _ _ _ Oxa10.out.orow Oxa30.out.orow).mono ?_; rintro e w7 ⟨rfl, hb⟩
  replace FB := Lib.hid (FB.out.b hb)
  replace Fa10 := Lib.hid (Fa10.out.b hb)
  replace Fa30 := Lib.hid (Fa30.out.b hb)
  replace Oxa10 := Lib.hid (Oxa10.out.b hb)
  replace Oxa30 := Lib.hid (Oxa30.out.b hb)
  have z_w7 : w6.heap.size ≤ w7.heap.size := by have hsz := hb.size; first | omega | (simp at hsz; omega)
  clear hb 
  go_wp2_with fail
  refine (to_StringS ha1k0 Fa10.out.row).mono ?_; rintro e w8 ⟨ya1A0, ya1c0, rfl, ho0, hb⟩
  replace FB := Lib.hid (FB.out.b hb)
  replace Fa10 := Lib.hid (Fa10.out.b hb)
  replace Fa30 := Lib.hid (Fa30.out.b hb)
  replace Oxa10 := Lib.hid (Oxa10.out.b hb)
  replace Oxa30 := Lib.hid (Oxa30.out.b hb)
  have z_w8 : w7.heap.size ≤ w8.heap.size := by have hsz := hb.size; first | omega | (simp at hsz; omega)
  have Oya10 := Lib.hid (owned (ho0.mono (lo' := w7.heap.size) (Nat.le_refl _) (Nat.le_refl _)))
  clear hb ho0
  go_wp2_with fail
  refine (eq_StringS ha1k0 Oxa10.out.orow Oya10.out.orow).mono ?_; rintro e w9 ⟨rfl, hb⟩
  replace FB := Lib.hid (FB.out.b hb)
  replace Fa10 := Lib.hid (Fa10.out.b hb)
  replace Fa30 := Lib.hid (Fa30.out.b hb)
  replace Oxa10 := Lib.hid (Oxa10.out.b hb)
  replace Oxa30 := Lib.hid (Oxa30.out.b hb)
  replace Oya10 := Lib.hid (Oya10.out.b hb)
  have z_w9 : w8.heap.size ≤ w9.heap.size := by have hsz := hb.size; first | omega | (simp at hsz; omega)
  clear hb
  clear Oya10
  go_wp2_with fail
  refine (to_IntSn ha3k0 Fa30.out.row).mono ?_; rintro e w10 ⟨ya3A0, rfl, ho0, hb⟩
  replace FB := Lib.hid (FB.out.b hb)
  replace Fa10 := Lib.hid (Fa10.out.b hb)
  replace Fa30 := Lib.hid (Fa30.out.b hb)
  replace Oxa10 := Lib.hid (Oxa10.out.b hb)
  replace Oxa30 := Lib.hid (Oxa30.out.b hb)
  have z_w10 : w9.heap.size ≤ w10.heap.size := by have hsz := hb.size; first | omega | (simp at hsz; omega)
  have Oya30 := Lib.hid (owned (ho0.mono (lo' := w9.heap.size) (Nat.le_refl _) (Nat.le_refl _)))
  clear hb ho0
  go_wp2_with fail
  refine (eq_IntS ha3k0 Oxa30.out.orow Oya30.out.orow).mono ?_; rintro e w11 ⟨rfl, hb⟩
  replace FB := Lib.hid (FB.out.b hb)
  replace Fa10 := Lib.hid (Fa10.out.b hb)
  replace Fa30 := Lib.hid (Fa30.out.b hb)
  replace Oxa10 := Lib.hid (Oxa10.out.b hb)
  replace Oxa30 := Lib.hid (Oxa30.out.b hb)
  replace Oya30 := Lib.hid (Oya30.out.b hb)
  have z_w11 : w10.heap.size ≤ w11.heap.size := by have hsz := hb.size; first | omega | (simp at hsz; omega)
  clear hb
  clear Oya30
  go_wp2_with fail
  go_ret
  exact ⟨rfl, FB.out.now⟩
theorem WordIs.twoC {ok : Bool} {P : Prop} {b : Bool} {w w' : World} {e : Ending} (h : WordIs ok P w e w') (hb : b = true ↔ ok = true ∧ P) : e = .returned (.tuple #[.bool b, .bool ok]) ∧ Below w.heap.size w w' := by
  obtain ⟨b', h1, h2, h3⟩ := h
  exact ⟨by rw [h1, show b' = b from Bool.eq_iff_iff.2 (h2.trans hb.symm)], h3⟩
theorem walk_FnExactIsCrowd (w : World) (z : Int) (_wz : (Lit.int .i64 z).wf = true) (A : Option Addr) (n c : Nat) (S : Nat → ByteArray) (hm : n ≤ maxLen) (hr : SRow w A n S) (P : Int) (_wP : (Lit.int .i64 P).wf = true) (FA : Option Addr) (m fc : Nat) (F : Nat → Int) (hm2 : m ≤ maxLen) (hr2 : IRow w FA m F) :
    Calls Try.prog 7 #[.int .i64 z, .slice A n c, .int .i64 P, .slice FA m fc] w fun e w' => e = .returned (.bool true) ∧ Below w.heap.size w w' := by
  have hex : ∃ b : Bool, b = true ↔ (sizeB z P && keysB S n) = true ∧ CrP (celV2 z P S) n F m := by
    by_cases h : (sizeB z P && keysB S n) = true ∧ CrP (celV2 z P S) n F m
    · exact ⟨true, by simpa using h⟩
    · exact ⟨false, by simpa using h⟩
  obtain ⟨b, hb⟩ := hex
  exact main_FnExactIsCrowd z n S P m F b (sizeB z P && keysB S n) A c FA fc w hm hr.grow hr.size hm2 hr2
    (fun h1 h2 A c EA w g1 g2 => (spec_isCrowd z P A n c S EA m m F w (by omega) hr.size g1 h1 g2).mono fun e w' h => h.twoC hb)
    (fun h1 h2 A c EA w g1 g2 => (impl_isCrowd z P A n c S EA m m F w (by omega) hr.size g1 h1 g2).mono fun e w' h => h.twoC hb)
end Go.Proofs.Ytffdkfhnlgfigaa
