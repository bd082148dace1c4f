/- The law of LeastBloom, walked: what both sides answer comes in as hypotheses. -/
import Derived.Test.YtpajbcgdoedleaaObjStr
import Derived.Test.YtpajbcgdoedleaaBlLe
import Derived.Deep.RegionHeld3
namespace Go.Proofs.Ytpajbcgdoedleaa
open Go.RowKit

set_option maxRecDepth 100000 in
set_option maxHeartbeats 8000000 in
theorem main_FnExactLeastBloom (a0z0 : Int) (a1z0 : Int) (a2n0 : Nat) (a2X0 : Nat → ByteArray) (a3n0 : Nat) (a3X0 : Nat → ByteArray) (a4z0 : Int) (r0z0 : Int) (r1z0 : Bool) (a2A0 : Option Addr) (a2c0 : Nat) (a3A0 : Option Addr) (a3c0 : Nat) (w : World) (ha2m0 : a2n0 ≤ maxLen) (ha2r0 : GRow w a2A0 a2n0 (strV a2X0)) (ha2s0 : ∀ i, i < a2n0 → (a2X0 i).size ≤ maxLen) (ha3m0 : a3n0 ≤ maxLen) (ha3r0 : GRow w a3A0 a3n0 (strV a3X0)) (ha3s0 : ∀ i, i < a3n0 → (a3X0 i).size ≤ maxLen)
    (s1 : a2n0 + (sizeS a2X0 a2n0) + a3n0 + (sizeS a3X0 a3n0) ≤ 1048576 → ∀ (ua2A0 : Option Addr) (ua2c0 : Nat) (ua3A0 : Option Addr) (ua3c0 : Nat) (w : World), GRow w ua2A0 a2n0 (strV a2X0) → GRow w ua3A0 a3n0 (strV a3X0) → Calls Try.prog 46 #[.int .i64 a0z0, .int .i64 a1z0, .slice ua2A0 a2n0 ua2c0, .slice ua3A0 a3n0 ua3c0, .int .i64 a4z0] w fun e w' => e = .returned (.tuple #[.int .i64 r0z0, .bool r1z0]) ∧ Below w.heap.size w w')
    (s2 : a2n0 + (sizeS a2X0 a2n0) + a3n0 + (sizeS a3X0 a3n0) ≤ 1048576 → ∀ (ua2A0 : Option Addr) (ua2c0 : Nat) (ua3A0 : Option Addr) (ua3c0 : Nat) (w : World), GRow w ua2A0 a2n0 (strV a2X0) → GRow w ua3A0 a3n0 (strV a3X0) → Calls Try.prog 47 #[.int .i64 a0z0, .int .i64 a1z0, .slice ua2A0 a2n0 ua2c0, .slice ua3A0 a3n0 ua3c0, .int .i64 a4z0] w fun e w' => e = .returned (.tuple #[.int .i64 r0z0, .bool r1z0]) ∧ Below w.heap.size w w') :
    Calls Try.prog 13 #[.int .i64 a0z0, .int .i64 a1z0, .slice a2A0 a2n0 a2c0, .slice a3A0 a3n0 a3c0, .int .i64 a4z0] w fun e w' => e = .returned (.bool true) ∧ Below w.heap.size w w' := by
  have S1 := Lib.hid s1
  have S2 := Lib.hid s2
  clear s1 s2
  have FB := Lib.hid (At.start w)
  have Fa20 := Lib.hid (rd_of_row ha2r0)
  have Fa30 := Lib.hid (rd_of_row ha3r0)
  clear ha2r0 ha3r0
  go_enter Try.func13, Try.ntmps13
  go_wp2_with fail
  refine (sz_StringS ha2m0 ha2s0 Fa20.out.row (by omega) (by omega)).mono ?_; rintro e w1 ⟨rfl, hb⟩
  replace FB := Lib.hid (FB.out.b hb)
  replace Fa20 := Lib.hid (Fa20.out.b hb)
  replace Fa30 := Lib.hid (Fa30.out.b hb)
  have z_w1 : w.heap.size ≤ w1.heap.size := by have hsz := hb.size; first | omega | (simp at hsz; omega)
  clear hb
  by_cases hZ_a2 : ((a2n0 + (sizeS a2X0 a2n0) : Nat) : Int) ≤ (1048576 : Int)
  rotate_left
  · rw [szv_no hZ_a2]
    go_wp2_with fail
    go_ret
    exact ⟨rfl, FB.out.now⟩
  rw [szv_yes hZ_a2]
  have hL_a2 : ¬ (((1048576 : Int) - (((a2n0 : Nat) : Int) + (((sizeS a2X0 a2n0) : Nat) : Int))) < 0) := by omega
  go_wp2_with fail
  refine (sz_StringS ha3m0 ha3s0 Fa30.out.row (by omega) (by omega)).mono ?_; rintro e w2 ⟨rfl, hb⟩
  replace FB := Lib.hid (FB.out.b hb)
  replace Fa20 := Lib.hid (Fa20.out.b hb)
  replace Fa30 := Lib.hid (Fa30.out.b hb)
  have z_w2 : w1.heap.size ≤ w2.heap.size := by have hsz := hb.size; first | omega | (simp at hsz; omega)
  clear hb
  by_cases hZ_a3 : ((a3n0 + (sizeS a3X0 a3n0) : Nat) : Int) ≤ ((1048576 : Int) - (((a2n0 : Nat) : Int) + (((sizeS a2X0 a2n0) : Nat) : Int)))
  rotate_left
  · rw [szv_no hZ_a3]
    go_wp2_with fail
    go_ret
    exact ⟨rfl, FB.out.now⟩
  rw [szv_yes hZ_a3]
  have hL_a3 : ¬ ((((1048576 : Int) - (((a2n0 : Nat) : Int) + (((sizeS a2X0 a2n0) : Nat) : Int))) - (((a3n0 : Nat) : Int) + (((sizeS a3X0 a3n0) : Nat) : Int))) < 0) := by omega
  replace S1 := Lib.hid (S1.out (by omega))
  replace S2 := Lib.hid (S2.out (by omega))
  have ha2k0 : a2n0 ≤ 1048576 := by omega
  have ha3k0 : a3n0 ≤ 1048576 := by omega
  go_wp2_with fail
  refine (to_StringS ha2k0 Fa20.out.row).mono ?_; rintro e w3 ⟨tma2A0, tma2c0, rfl, ho0, hb⟩
  replace FB := Lib.hid (FB.out.b hb)
  replace Fa20 := Lib.hid (Fa20.out.b hb)
  replace Fa30 := Lib.hid (Fa30.out.b hb)
  have z_w3 : w2.heap.size ≤ w3.heap.size := by have hsz := hb.size; first | omega | (simp at hsz; omega)
  have Otma20 := Lib.hid (owned (ho0.mono (lo' := w2.heap.size) (Nat.le_refl _) (Nat.le_refl _)))
  clear hb ho0
  go_wp2_with fail
  refine (to_StringS ha3k0 Fa30.out.row).mono ?_; rintro e w4 ⟨tma3A0, tma3c0, rfl, ho0, hb⟩
  replace FB := Lib.hid (FB.out.b hb)
  replace Fa20 := Lib.hid (Fa20.out.b hb)
  replace Fa30 := Lib.hid (Fa30.out.b hb)
  replace Otma20 := Lib.hid (Otma20.out.b hb)
  have z_w4 : w3.heap.size ≤ w4.heap.size := by have hsz := hb.size; first | omega | (simp at hsz; omega)
  have Otma30 := Lib.hid (owned (ho0.mono (lo' := w3.heap.size) (Nat.le_refl _) (Nat.le_refl _)))
  clear hb ho0
  go_wp2_with fail
  refine (S1.out _ _ _ _ _ Otma20.out.orow Otma30.out.orow).mono ?_; rintro e w5 ⟨rfl, hb⟩
  replace FB := Lib.hid (FB.out.b hb)
  replace Fa20 := Lib.hid (Fa20.out.b hb)
  replace Fa30 := Lib.hid (Fa30.out.b hb)
  replace Otma20 := Lib.hid (Otma20.out.b hb)
  replace Otma30 := Lib.hid (Otma30.out.b hb)
  have z_w5 : w4.heap.size ≤ w5.heap.size := by have hsz := hb.size; first | omega | (simp at hsz; omega)
  clear hb 
  clear Otma20 Otma30
  go_wp2_with fail
  refine (to_StringS ha2k0 Fa20.out.row).mono ?_; rintro e w6 ⟨xa2A0, xa2c0, rfl, ho0, hb⟩
  replace FB := Lib.hid (FB.out.b hb)
  replace Fa20 := Lib.hid (Fa20.out.b hb)
  replace Fa30 := Lib.hid (Fa30.out.b hb)
  have z_w6 : w5.heap.size ≤ w6.heap.size := by have hsz := hb.size; first | omega | (simp at hsz; omega)
  have Oxa20 := Lib.hid (owned (ho0.mono (lo' := w5.heap.size) (Nat.le_refl _) (Nat.le_refl _)))
  clear hb ho0
  go_wp2_with fail
  refine (to_StringS ha3k0 Fa30.out.row).mono ?_; rintro e w7 ⟨xa3A0, xa3c0, rfl, ho0, hb⟩
  replace FB := Lib.hid (FB.out.b hb)
  replace Fa20 := Lib.hid (Fa20.out.b hb)
  replace Fa30 := Lib.hid (Fa30.out.b hb)
  replace Oxa20 := Lib.hid (Oxa20.out.b hb)
  have z_w7 : w6.heap.size ≤ w7.heap.size := by have hsz := hb.size; first | omega | (simp at hsz; omega)
  have Oxa30 := Lib.hid (owned (ho0.mono (lo' := w6.heap.size) (Nat.le_refl _) (Nat.le_refl _)))
  clear hb ho0
  go_wp2_with fail
  refine (S2.out _ _ _ _ _ Oxa20.out.orow Oxa30.out.orow).mono ?_; rintro e w8 ⟨rfl, hb⟩
  replace FB := Lib.hid (FB.out.b hb)
  replace Fa20 := Lib.hid (Fa20.out.b hb)
  replace Fa30 := Lib.hid (Fa30.out.b hb)
  replace Oxa20 := Lib.hid (Oxa20.out.b hb)
  replace Oxa30 := Lib.hid (Oxa30.out.b hb)
  have z_w8 : w7.heap.size ≤ w8.heap.size := by have hsz := hb.size; first | omega | (simp at hsz; omega)
  clear hb 
  go_wp2_with fail
  refine (to_StringS ha2k0 Fa20.out.row).mono ?_; rintro e w9 ⟨ya2A0, ya2c0, rfl, ho0, hb⟩
  replace FB := Lib.hid (FB.out.b hb)
  replace Fa20 := Lib.hid (Fa20.out.b hb)
  replace Fa30 := Lib.hid (Fa30.out.b hb)
  replace Oxa20 := Lib.hid (Oxa20.out.b hb)
  replace Oxa30 := Lib.hid (Oxa30.out.b hb)
  have z_w9 : w8.heap.size ≤ w9.heap.size := by have hsz := hb.size; first | omega | (simp at hsz; omega)
  have Oya20 := Lib.hid (owned (ho0.mono (lo' := w8.heap.size) (Nat.le_refl _) (Nat.le_refl _)))
  clear hb ho0
  go_wp2_with fail
  refine (eq_StringS ha2k0 Oxa20.out.orow Oya20.out.orow).mono ?_; rintro e w10 ⟨rfl, hb⟩
  replace FB := Lib.hid (FB.out.b hb)
  replace Fa20 := Lib.hid (Fa20.out.b hb)
  replace Fa30 := Lib.hid (Fa30.out.b hb)
  replace Oxa20 := Lib.hid (Oxa20.out.b hb)
  replace Oxa30 := Lib.hid (Oxa30.out.b hb)
  replace Oya20 := Lib.hid (Oya20.out.b hb)
  have z_w10 : w9.heap.size ≤ w10.heap.size := by have hsz := hb.size; first | omega | (simp at hsz; omega)
  clear hb
  clear Oya20
  go_wp2_with fail
  refine (to_StringS ha3k0 Fa30.out.row).mono ?_; rintro e w11 ⟨ya3A0, ya3c0, rfl, ho0, hb⟩
  replace FB := Lib.hid (FB.out.b hb)
  replace Fa20 := Lib.hid (Fa20.out.b hb)
  replace Fa30 := Lib.hid (Fa30.out.b hb)
  replace Oxa20 := Lib.hid (Oxa20.out.b hb)
  replace Oxa30 := Lib.hid (Oxa30.out.b hb)
  have z_w11 : w10.heap.size ≤ w11.heap.size := by have hsz := hb.size; first | omega | (simp at hsz; omega)
  have Oya30 := Lib.hid (owned (ho0.mono (lo' := w10.heap.size) (Nat.le_refl _) (Nat.le_refl _)))
  clear hb ho0
  go_wp2_with fail
  refine (eq_StringS ha3k0 Oxa30.out.orow Oya30.out.orow).mono ?_; rintro e w12 ⟨rfl, hb⟩
  replace FB := Lib.hid (FB.out.b hb)
  replace Fa20 := Lib.hid (Fa20.out.b hb)
  replace Fa30 := Lib.hid (Fa30.out.b hb)
  replace Oxa20 := Lib.hid (Oxa20.out.b hb)
  replace Oxa30 := Lib.hid (Oxa30.out.b hb)
  replace Oya30 := Lib.hid (Oya30.out.b hb)
  have z_w12 : w11.heap.size ≤ w12.heap.size := by have hsz := hb.size; first | omega | (simp at hsz; omega)
  clear hb
  clear Oya30
  go_wp2_with fail
  go_ret
  exact ⟨rfl, FB.out.now⟩
/-! last -/
theorem walk_FnExactLeastBloom (w : World) (z0 : Int) (_w0 : (Lit.int .i64 z0).wf = true) (z1 : Int) (_w1 : (Lit.int .i64 z1).wf = true) (K : Option Addr) (k kc : Nat) (S : Nat → ByteArray) (hm2 : k ≤ maxLen) (hr2 : SRow w K k S) (L : Option Addr) (t tc : Nat) (T : Nat → ByteArray) (hm3 : t ≤ maxLen) (hr3 : SRow w L t T) (z2 : Int) (_w2 : (Lit.int .i64 z2).wf = true) :
    Calls Try.prog 13 #[.int .i64 z0, .int .i64 z1, .slice K k kc, .slice L t tc, .int .i64 z2] w fun e w' => e = .returned (.bool true) ∧ Below w.heap.size w w' := by
  by_cases h : fiB z0 z1 z2 = true ∧ keysB S k = true ∧ textsB T t = true
  · obtain ⟨h0, hkb, htb⟩ := h
    obtain ⟨p, z, rfl, rfl, h1, h2, h3, h4⟩ := fiB_nat h0
    have hx := find_ex (LbP z0 p S k T t) 1 z
    rw [Int.add_comm] at hx
    rcases hx with ⟨v, v1, v2, v3, v4⟩ | hN
    · exact main_FnExactLeastBloom z0 p k S t T z v true K kc L tc w hm2 hr2.grow hr2.size hm3 hr3.grow hr3.size
        (fun hn _ _ _ _ w g1 g2 => (spec_least h0 hkb htb (by omega) (by omega) hr2.size hr3.size g1 g2).mono fun e w' hf => (find_det hf).1 v v1 v2 v3 v4)
        (fun hn _ _ _ _ w g1 g2 => (impl_least h0 hkb htb (by omega) (by omega) hr2.size hr3.size g1 g2).mono fun e w' hf => (find_det hf).1 v v1 v2 v3 v4)
    · exact main_FnExactLeastBloom z0 p k S t T z 0 false K kc L tc w hm2 hr2.grow hr2.size hm3 hr3.grow hr3.size
        (fun hn _ _ _ _ w g1 g2 => (spec_least h0 hkb htb (by omega) (by omega) hr2.size hr3.size g1 g2).mono fun e w' hf => (find_det hf).2 hN)
        (fun hn _ _ _ _ w g1 g2 => (impl_least h0 hkb htb (by omega) (by omega) hr2.size hr3.size g1 g2).mono fun e w' hf => (find_det hf).2 hN)
  · exact main_FnExactLeastBloom z0 z1 k S t T z2 0 false K kc L tc w hm2 hr2.grow hr2.size hm3 hr3.grow hr3.size
      (fun hn _ _ _ _ w g1 g2 => spec_least_no h (by omega) (by omega) hr2.size hr3.size g1 g2)
      (fun hn _ _ _ _ w g1 g2 => impl_least_no h (by omega) (by omega) hr2.size hr3.size g1 g2)
end Go.Proofs.Ytpajbcgdoedleaa
