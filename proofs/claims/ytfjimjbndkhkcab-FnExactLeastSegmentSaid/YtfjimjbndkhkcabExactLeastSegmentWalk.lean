/- The law of LeastSegment, walked: what both sides answer comes in as hypotheses. -/
import Derived.Test.YtfjimjbndkhkcabObjStr
import Derived.Test.YtfjimjbndkhkcabPeelF
import Derived.Deep.RegionHeld3
namespace Go.Proofs.Ytfjimjbndkhkcab
open Go.RowKit

set_option maxRecDepth 100000 in
set_option maxHeartbeats 8000000 in
theorem main_FnExactLeastSegment (a0z0 : Int) (a1n0 : Nat) (a1X0 : Nat → ByteArray) (a2z0 : Int) (r0z0 : Int) (r1z0 : Bool) (a1A0 : Option Addr) (a1c0 : Nat) (w : World) (ha1m0 : a1n0 ≤ maxLen) (ha1r0 : GRow w a1A0 a1n0 (strV a1X0)) (ha1s0 : ∀ i, i < a1n0 → (a1X0 i).size ≤ maxLen)
    (s1 : a1n0 + (sizeS a1X0 a1n0) ≤ 1048576 → ∀ (ua1A0 : Option Addr) (ua1c0 : Nat) (w : World), GRow w ua1A0 a1n0 (strV a1X0) → Calls Try.prog 12 #[.int .i64 a0z0, .slice ua1A0 a1n0 ua1c0, .int .i64 a2z0] w fun e w' => e = .returned (.tuple #[.int .i64 r0z0, .bool r1z0]) ∧ Below w.heap.size w w')
    (s2 : a1n0 + (sizeS a1X0 a1n0) ≤ 1048576 → ∀ (ua1A0 : Option Addr) (ua1c0 : Nat) (w : World), GRow w ua1A0 a1n0 (strV a1X0) → Calls Try.prog 13 #[.int .i64 a0z0, .slice ua1A0 a1n0 ua1c0, .int .i64 a2z0] w fun e w' => e = .returned (.tuple #[.int .i64 r0z0, .bool r1z0]) ∧ Below w.heap.size w w') :
    Calls Try.prog 4 #[.int .i64 a0z0, .slice a1A0 a1n0 a1c0, .int .i64 a2z0] w fun e w' => e = .returned (.bool true) ∧ Below w.heap.size w w' := by
  have S1 := Lib.hid s1
  have S2 := Lib.hid s2
  clear s1 s2
  have FB := Lib.hid (At.start w)
  have Fa10 := Lib.hid (rd_of_row ha1r0)
  clear ha1r0
  go_enter Try.func4, Try.ntmps4
  go_wp2_with fail
  refine (sz_StringS ha1m0 ha1s0 Fa10.out.row (by omega) (by omega)).mono ?_; rintro e w1 ⟨rfl, hb⟩
  replace FB := Lib.hid (FB.out.b hb)
  replace Fa10 := Lib.hid (Fa10.out.b hb)
  have z_w1 : w.heap.size ≤ w1.heap.size := by have hsz := hb.size; first | omega | (simp at hsz; omega)
  clear hb
  by_cases hZ_a1 : ((a1n0 + (sizeS a1X0 a1n0) : Nat) : Int) ≤ (1048576 : Int)
  rotate_left
  · rw [szv_no hZ_a1]
    go_wp2_with fail
    go_ret
    exact ⟨rfl, FB.out.now⟩
  rw [szv_yes hZ_a1]
  have hL_a1 : ¬ (((1048576 : Int) - (((a1n0 : Nat) : Int) + (((sizeS a1X0 a1n0) : Nat) : Int))) < 0) := by omega
  replace S1 := Lib.hid (S1.out (by omega))
  replace S2 := Lib.hid (S2.out (by omega))
  have ha1k0 : a1n0 ≤ 1048576 := by omega
  go_wp2_with fail
  refine (to_StringS ha1k0 Fa10.out.row).mono ?_; rintro e w2 ⟨tma1A0, tma1c0, rfl, ho0, hb⟩
  replace FB := Lib.hid (FB.out.b hb)
  replace Fa10 := Lib.hid (Fa10.out.b hb)
  have z_w2 : w1.heap.size ≤ w2.heap.size := by have hsz := hb.size; first | omega | (simp at hsz; omega)
  have Otma10 := Lib.hid (owned (ho0.mono (lo' := w1.heap.size) (Nat.le_refl _) (Nat.le_refl _)))
  clear hb ho0
  go_wp2_with fail
  refine (S1.out _ _ _ Otma10.out.orow).mono ?_; rintro e w3 ⟨rfl, hb⟩
  replace FB := Lib.hid (FB.out.b hb)
  replace Fa10 := Lib.hid (Fa10.out.b hb)
  replace Otma10 := Lib.hid (Otma10.out.b hb)
  have z_w3 : w2.heap.size ≤ w3.heap.size := by have hsz := hb.size; first | omega | (simp at hsz; omega)
  clear hb 
  clear Otma10
  go_wp2_with fail
  refine (to_StringS ha1k0 Fa10.out.row).mono ?_; rintro e w4 ⟨xa1A0, xa1c0, rfl, ho0, hb⟩
  replace FB := Lib.hid (FB.out.b hb)
  replace Fa10 := Lib.hid (Fa10.out.b hb)
  have z_w4 : w3.heap.size ≤ w4.heap.size := by have hsz := hb.size; first | omega | (simp at hsz; omega)
  have Oxa10 := Lib.hid (owned (ho0.mono (lo' := w3.heap.size) (Nat.le_refl _) (Nat.le_refl _)))
  clear hb ho0
  go_wp2_with fail
  refine (S2.out _ _ _ Oxa10.out.orow).mono ?_; rintro e w5 ⟨rfl, hb⟩
  replace FB := Lib.hid (FB.out.b hb)
  replace Fa10 := Lib.hid (Fa10.out.b hb)
  replace Oxa10 := Lib.hid (Oxa10.out.b hb)
  have z_w5 : w4.heap.size ≤ w5.heap.size := by have hsz := hb.size; first | omega | (simp at hsz; omega)
  clear hb 
  go_wp2_with fail
  refine (to_StringS ha1k0 Fa10.out.row).mono ?_; rintro e w6 ⟨ya1A0, ya1c0, rfl, ho0, hb⟩
  replace FB := Lib.hid (FB.out.b hb)
  replace Fa10 := Lib.hid (Fa10.out.b hb)
  replace Oxa10 := Lib.hid (Oxa10.out.b hb)
  have z_w6 : w5.heap.size ≤ w6.heap.size := by have hsz := hb.size; first | omega | (simp at hsz; omega)
  have Oya10 := Lib.hid (owned (ho0.mono (lo' := w5.heap.size) (Nat.le_refl _) (Nat.le_refl _)))
  clear hb ho0
  go_wp2_with fail
  refine (eq_StringS ha1k0 Oxa10.out.orow Oya10.out.orow).mono ?_; rintro e w7 ⟨rfl, hb⟩
  replace FB := Lib.hid (FB.out.b hb)
  replace Fa10 := Lib.hid (Fa10.out.b hb)
  replace Oxa10 := Lib.hid (Oxa10.out.b hb)
  replace Oya10 := Lib.hid (Oya10.out.b hb)
  have z_w7 : w6.heap.size ≤ w7.heap.size := by have hsz := hb.size; first | omega | (simp at hsz; omega)
  clear hb
  clear Oya10
  go_wp2_with fail
  go_ret
  exact ⟨rfl, FB.out.now⟩
theorem walk_FnExactLeastSegment (w : World) (seed : Int) (_ws : (Lit.int .i64 seed).wf = true) (KA : Option Addr) (n kc : Nat) (S : Nat → ByteArray) (hm : n ≤ maxLen) (hr : SRow w KA n S) (m : Int) (_wm : (Lit.int .i64 m).wf = true) :
    Calls Try.prog 4 #[.int .i64 seed, .slice KA n kc, .int .i64 m] w fun e w' => e = .returned (.bool true) ∧ Below w.heap.size w w' := by
  by_cases hR : 1 ≤ m ∧ m ≤ 24
  · have hab : 1 + ((m.toNat : Nat) : Int) = m + 1 := by omega
    have hx := find_ex (PsP S n seed) 1 m.toNat
    rw [hab] at hx
    rcases hx with ⟨v, h1, h2, h3, h4⟩ | hN
    · have hk : keyedB seed S n m = true := by
        cases e : keyedB seed S n m
        · exact absurd h3 (keyed_segNot e hR.1 hR.2)
        · rfl
      exact main_FnExactLeastSegment seed n S m v true KA kc w hm hr.grow hr.size
        (fun hn A c w h => (spec_leastSegment seed A n c S m w (by omega) hr.size h hk).mono fun e w' hf => (find_det hf).1 v h1 h2 h3 h4)
        (fun hn A c w h => (impl_leastSegment seed A n c S m w (by omega) hr.size h hR).mono fun e w' hf => (find_det hf).1 v h1 h2 h3 h4)
    · refine main_FnExactLeastSegment seed n S m 0 false KA kc w hm hr.grow hr.size
        (fun hn A c w h => ?_)
        (fun hn A c w h => (impl_leastSegment seed A n c S m w (by omega) hr.size h hR).mono fun e w' hf => (find_det hf).2 hN)
      cases hk : keyedB seed S n m
      · exact spec_leastSegment_no seed A n c S m w (by omega) hr.size h hk
      · exact (spec_leastSegment seed A n c S m w (by omega) hr.size h hk).mono fun e w' hf => (find_det hf).2 hN
  · have hk : keyedB seed S n m = false := by
      unfold keyedB
      rw [decide_eq_false hR]; simp
    exact main_FnExactLeastSegment seed n S m 0 false KA kc w hm hr.grow hr.size
      (fun hn A c w h => spec_leastSegment_no seed A n c S m w (by omega) hr.size h hk)
      (fun hn A c w h => impl_leastSegment_no seed A n c m w hR)
end Go.Proofs.Ytfjimjbndkhkcab
