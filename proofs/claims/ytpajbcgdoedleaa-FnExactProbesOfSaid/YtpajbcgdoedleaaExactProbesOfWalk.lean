/- The law of ProbesOf, walked: what both sides answer comes in as hypotheses. -/
import Derived.Test.YtpajbcgdoedleaaObjInt
import Derived.Test.YtpajbcgdoedleaaBlB
import Derived.Deep.RegionHeld3
namespace Go.Proofs.Ytpajbcgdoedleaa
open Go.RowKit

set_option maxRecDepth 100000 in
set_option maxHeartbeats 8000000 in
theorem main_FnExactProbesOf (a0z0 : Int) (a1z0 : Int) (a2z0 : Int) (a3z0 : ByteArray) (r0n0 : Nat) (r0X0 : Nat → Int) (r1z0 : Bool) (w : World) (_ha3s0 : a3z0.size ≤ maxLen) (hr0m0 : r0n0 ≤ 1048576)
    (s1 : a3z0.size ≤ 1048576 → ∀ (w : World), Calls Try.prog 23 #[.int .i64 a0z0, .int .i64 a1z0, .int .i64 a2z0, .string a3z0] w fun e w' => ∃ vr0A0 vr0c0, e = .returned (.tuple #[.slice vr0A0 r0n0 vr0c0, .bool r1z0]) ∧ GRow w' vr0A0 r0n0 (intV r0X0) ∧ Below w.heap.size w w')
    (s2 : a3z0.size ≤ 1048576 → ∀ (w : World), Calls Try.prog 24 #[.int .i64 a0z0, .int .i64 a1z0, .int .i64 a2z0, .string a3z0] w fun e w' => ∃ vr0A0 vr0c0, e = .returned (.tuple #[.slice vr0A0 r0n0 vr0c0, .bool r1z0]) ∧ Ow w.heap.size w'.heap.size 3 vr0A0 r0n0 (intV r0X0) w' ∧ Below w.heap.size w w') :
    Calls Try.prog 5 #[.int .i64 a0z0, .int .i64 a1z0, .int .i64 a2z0, .string a3z0] w fun e w' => e = .returned (.bool true) ∧ Below w.heap.size w w' := by
  have S1 := Lib.hid s1
  have S2 := Lib.hid s2
  clear s1 s2
  by_cases hlong_a3 : (1048576 : Int) < (a3z0.size : Int)
  · go_enter Try.func5, Try.ntmps5
    go_wp2_with fail
    go_ret
    exact ⟨rfl, Below.refl _ _⟩
  have FB := Lib.hid (At.start w)
  go_enter Try.func5, Try.ntmps5
  replace S1 := Lib.hid (S1.out (by omega))
  replace S2 := Lib.hid (S2.out (by omega))
  go_wp2_with fail
  refine (S1.out _).mono ?_; rintro e w1 ⟨mr0A0, mr0c0, rfl, hrr00, hb⟩
  replace FB := Lib.hid (FB.out.b hb)
  have z_w1 : w.heap.size ≤ w1.heap.size := by have hsz := hb.size; first | omega | (simp at hsz; omega)
  have Vmr00 := Lib.hid (rd_of_row hrr00)
  clear hb hrr00
  go_wp2_with fail
  refine (S2.out _).mono ?_; rintro e w2 ⟨gr0A0, gr0c0, rfl, hrr00, hb⟩
  replace FB := Lib.hid (FB.out.b hb)
  replace Vmr00 := Lib.hid (Vmr00.out.b hb)
  have z_w2 : w1.heap.size ≤ w2.heap.size := by have hsz := hb.size; first | omega | (simp at hsz; omega)
  have Ogr00 := Lib.hid (owned (hrr00.mono (lo' := w1.heap.size) (Nat.le_refl _) (Nat.le_refl _)))
  clear hb hrr00
  go_wp2_with fail
  refine (eq_IntS hr0m0 Ogr00.out.orow Vmr00.out.row).mono ?_; rintro e w3 ⟨rfl, hb⟩
  replace FB := Lib.hid (FB.out.b hb)
  replace Vmr00 := Lib.hid (Vmr00.out.b hb)
  replace Ogr00 := Lib.hid (Ogr00.out.b hb)
  have z_w3 : w2.heap.size ≤ w3.heap.size := by have hsz := hb.size; first | omega | (simp at hsz; omega)
  clear hb
  go_wp2_with fail
  refine (mark_IntS hr0m0 Ogr00.out.now Ogr00.out.top (by omega) (by omega)).mono ?_; rintro e w4 ⟨rfl, hm0, hg⟩
  replace FB := Lib.hid (FB.out.far hg (by omega))
  replace Vmr00 := Lib.hid (Vmr00.out.far hg (by omega))
  have z_w4 : w3.heap.size ≤ w4.heap.size := by have hsz := hg.size; first | omega | (simp at hsz; omega)
  replace Ogr00 := Lib.hid (At.mk hm0 (Nat.le_trans Ogr00.out.top hg.size) (Ow.lives _ _ _ _ _ _))
  clear hg hm0
  go_wp2_with fail
  refine (held_IntS hr0m0 Ogr00.out.orow (by omega) (by omega)).mono ?_; rintro e w5 ⟨rfl, hb⟩
  replace FB := Lib.hid (FB.out.b hb)
  replace Vmr00 := Lib.hid (Vmr00.out.b hb)
  replace Ogr00 := Lib.hid (Ogr00.out.b hb)
  have z_w5 : w4.heap.size ≤ w5.heap.size := by have hsz := hb.size; first | omega | (simp at hsz; omega)
  clear hb
  go_wp2_with fail
  refine (S2.out _).mono ?_; rintro e w6 ⟨hr0A0, hr0c0, rfl, hrr00, hb⟩
  replace FB := Lib.hid (FB.out.b hb)
  replace Vmr00 := Lib.hid (Vmr00.out.b hb)
  replace Ogr00 := Lib.hid (Ogr00.out.b hb)
  have z_w6 : w5.heap.size ≤ w6.heap.size := by have hsz := hb.size; first | omega | (simp at hsz; omega)
  have Ohr00 := Lib.hid (owned (hrr00.mono (lo' := w5.heap.size) (Nat.le_refl _) (Nat.le_refl _)))
  clear hb hrr00
  go_wp2_with fail
  refine (eq_IntS hr0m0 Ohr00.out.orow Vmr00.out.row).mono ?_; rintro e w7 ⟨rfl, hb⟩
  replace FB := Lib.hid (FB.out.b hb)
  replace Vmr00 := Lib.hid (Vmr00.out.b hb)
  replace Ogr00 := Lib.hid (Ogr00.out.b hb)
  replace Ohr00 := Lib.hid (Ohr00.out.b hb)
  have z_w7 : w6.heap.size ≤ w7.heap.size := by have hsz := hb.size; first | omega | (simp at hsz; omega)
  clear hb
  go_wp2_with fail
  refine (held_IntS hr0m0 Ogr00.out.orow (by omega) (by omega)).mono ?_; rintro e w8 ⟨rfl, hb⟩
  replace FB := Lib.hid (FB.out.b hb)
  replace Vmr00 := Lib.hid (Vmr00.out.b hb)
  replace Ogr00 := Lib.hid (Ogr00.out.b hb)
  replace Ohr00 := Lib.hid (Ohr00.out.b hb)
  have z_w8 : w7.heap.size ≤ w8.heap.size := by have hsz := hb.size; first | omega | (simp at hsz; omega)
  clear hb
  go_wp2_with fail
  go_ret
  exact ⟨rfl, FB.out.now⟩
/-! last -/
theorem walk_FnExactProbesOf (w : World) (z0 : Int) (_w0 : (Lit.int .i64 z0).wf = true) (z1 : Int) (_w1 : (Lit.int .i64 z1).wf = true) (z2 : Int) (_w2 : (Lit.int .i64 z2).wf = true) (s : ByteArray) (hs : s.size ≤ maxLen) :
    Calls Try.prog 5 #[.int .i64 z0, .int .i64 z1, .int .i64 z2, .string s] w fun e w' => e = .returned (.bool true) ∧ Below w.heap.size w w' := by
  cases h : (fiB z0 z1 z2 && isKeyB s.data.toList) with
  | true =>
    rw [Bool.and_eq_true] at h
    obtain ⟨p, z, rfl, rfl, h1, h2, h3, h4⟩ := fiB_nat h.1
    exact main_FnExactProbesOf z0 p z s p (prI z0 s z) true w hs (by omega)
      (fun _ w => (spec_probesOfT h.1 h.2 hs).mono fun e w' h => h.row) (fun _ w => impl_probesOfT h.1 h.2 hs)
  | false =>
    exact main_FnExactProbesOf z0 z1 z2 s 0 (fun _ => 0) false w hs (by omega)
      (fun _ w => (spec_probesOf_no h hs).mono fun e w' h => h.row) (fun _ w => impl_probesOf_no h hs)
end Go.Proofs.Ytpajbcgdoedleaa
