/- The law of FirstSeed, walked: what both sides answer comes in as hypotheses. -/
import Derived.Test.YtfjimjbndkhkcabObjStr
import Derived.Test.YtfjimjbndkhkcabPeelF
import Derived.Deep.RegionHeld3
namespace Go.Proofs.Ytfjimjbndkhkcab
open Go.RowKit

set_option maxRecDepth 100000 in
set_option maxHeartbeats 8000000 in
theorem main_FnExactFirstSeed (a0n0 : Nat) (a0X0 : Nat → ByteArray) (a1z0 : Int) (a2z0 : Int) (a3z0 : Int) (r0z0 : Int) (r1z0 : Bool) (a0A0 : Option Addr) (a0c0 : Nat) (w : World) (ha0m0 : a0n0 ≤ maxLen) (ha0r0 : GRow w a0A0 a0n0 (strV a0X0)) (ha0s0 : ∀ i, i < a0n0 → (a0X0 i).size ≤ maxLen)
    (s1 : a0n0 + (sizeS a0X0 a0n0) ≤ 1048576 → ∀ (ua0A0 : Option Addr) (ua0c0 : Nat) (w : World), GRow w ua0A0 a0n0 (strV a0X0) → Calls Try.prog 8 #[.slice ua0A0 a0n0 ua0c0, .int .i64 a1z0, .int .i64 a2z0, .int .i64 a3z0] w fun e w' => e = .returned (.tuple #[.int .i64 r0z0, .bool r1z0]) ∧ Below w.heap.size w w')
    (s2 : a0n0 + (sizeS a0X0 a0n0) ≤ 1048576 → ∀ (ua0A0 : Option Addr) (ua0c0 : Nat) (w : World), GRow w ua0A0 a0n0 (strV a0X0) → Calls Try.prog 10 #[.slice ua0A0 a0n0 ua0c0, .int .i64 a1z0, .int .i64 a2z0, .int .i64 a3z0] w fun e w' => e = .returned (.tuple #[.int .i64 r0z0, .bool r1z0]) ∧ Below w.heap.size w w') :
    Calls Try.prog 3 #[.slice a0A0 a0n0 a0c0, .int .i64 a1z0, .int .i64 a2z0, .int .i64 a3z0] w fun e w' => e = .returned (.bool true) ∧ Below w.heap.size w w' := by
  have S1 := Lib.hid s1
  have S2 := Lib.hid s2
  clear s1 s2
  have FB := Lib.hid (At.start w)
  have Fa00 := Lib.hid (rd_of_row ha0r0)
  clear ha0r0
  go_enter Try.func3, Try.ntmps3
  go_wp2_with fail
  refine (sz_StringS ha0m0 ha0s0 Fa00.out.row (by omega) (by omega)).mono ?_; rintro e w1 ⟨rfl, hb⟩
  replace FB := Lib.hid (FB.out.b hb)
  replace Fa00 := Lib.hid (Fa00.out.b hb)
  have z_w1 : w.heap.size ≤ w1.heap.size := by have hsz := hb.size; first | omega | (simp at hsz; omega)
  clear hb
  by_cases hZ_a0 : ((a0n0 + (sizeS a0X0 a0n0) : Nat) : Int) ≤ (1048576 : Int)
  rotate_left
  · rw [szv_no hZ_a0]
    go_wp2_with fail
    go_ret
    exact ⟨rfl, FB.out.now⟩
  rw [szv_yes hZ_a0]
  have hL_a0 : ¬ (((1048576 : Int) - (((a0n0 : Nat) : Int) + (((sizeS a0X0 a0n0) : Nat) : Int))) < 0) := by omega
  replace S1 := Lib.hid (S1.out (by omega))
  replace S2 := Lib.hid (S2.out (by omega))
  have ha0k0 : a0n0 ≤ 1048576 := by omega
  go_wp2_with fail
  refine (to_StringS ha0k0 Fa00.out.row).mono ?_; rintro e w2 ⟨tma0A0, tma0c0, rfl, ho0, hb⟩
  replace FB := Lib.hid (FB.out.b hb)
  replace Fa00 := Lib.hid (Fa00.out.b hb)
  have z_w2 : w1.heap.size ≤ w2.heap.size := by have hsz := hb.size; first | omega | (simp at hsz; omega)
  have Otma00 := Lib.hid (owned (ho0.mono (lo' := w1.heap.size) (Nat.le_refl _) (Nat.le_refl _)))
  clear hb ho0
  go_wp2_with fail
  refine (S1.out _ _ _ Otma00.out.orow).mono ?_; rintro e w3 ⟨rfl, hb⟩
  replace FB := Lib.hid (FB.out.b hb)
  replace Fa00 := Lib.hid (Fa00.out.b hb)
  replace Otma00 := Lib.hid (Otma00.out.b hb)
  have z_w3 : w2.heap.size ≤ w3.heap.size := by have hsz := hb.size; first | omega | (simp at hsz; omega)
  clear hb 
  clear Otma00
  go_wp2_with fail
  refine (to_StringS ha0k0 Fa00.out.row).mono ?_; rintro e w4 ⟨xa0A0, xa0c0, rfl, ho0, hb⟩
  replace FB := Lib.hid (FB.out.b hb)
  replace Fa00 := Lib.hid (Fa00.out.b hb)
  have z_w4 : w3.heap.size ≤ w4.heap.size := by have hsz := hb.size; first | omega | (simp at hsz; omega)
  have Oxa00 := Lib.hid (owned (ho0.mono (lo' := w3.heap.size) (Nat.le_refl _) (Nat.le_refl _)))
  clear hb ho0
  go_wp2_with fail
  refine (S2.out _ _ _ Oxa00.out.orow).mono ?_; rintro e w5 ⟨rfl, hb⟩
  replace FB := Lib.hid (FB.out.b hb)
  replace Fa00 := Lib.hid (Fa00.out.b hb)
  replace Oxa00 := Lib.hid (Oxa00.out.b hb)
  have z_w5 : w4.heap.size ≤ w5.heap.size := by have hsz := hb.size; first | omega | (simp at hsz; omega)
  clear hb 
  go_wp2_with fail
  refine (to_StringS ha0k0 Fa00.out.row).mono ?_; rintro e w6 ⟨ya0A0, ya0c0, rfl, ho0, hb⟩
  replace FB := Lib.hid (FB.out.b hb)
  replace Fa00 := Lib.hid (Fa00.out.b hb)
  replace Oxa00 := Lib.hid (Oxa00.out.b hb)
  have z_w6 : w5.heap.size ≤ w6.heap.size := by have hsz := hb.size; first | omega | (simp at hsz; omega)
  have Oya00 := Lib.hid (owned (ho0.mono (lo' := w5.heap.size) (Nat.le_refl _) (Nat.le_refl _)))
  clear hb ho0
  go_wp2_with fail
  refine (eq_StringS ha0k0 Oxa00.out.orow Oya00.out.orow).mono ?_; rintro e w7 ⟨rfl, hb⟩
  replace FB := Lib.hid (FB.out.b hb)
  replace Fa00 := Lib.hid (Fa00.out.b hb)
  replace Oxa00 := Lib.hid (Oxa00.out.b hb)
  replace Oya00 := Lib.hid (Oya00.out.b hb)
  have z_w7 : w6.heap.size ≤ w7.heap.size := by have hsz := hb.size; first | omega | (simp at hsz; omega)
  clear hb
  clear Oya00
  go_wp2_with fail
  go_ret
  exact ⟨rfl, FB.out.now⟩
theorem walk_FnExactFirstSeed (w : World) (KA : Option Addr) (n kc : Nat) (S : Nat → ByteArray) (hm : n ≤ maxLen) (hr : SRow w KA n S) (g : Int) (_wg : (Lit.int .i64 g).wf = true) (a : Int) (_wa : (Lit.int .i64 a).wf = true) (b : Int) (_wb : (Lit.int .i64 b).wf = true) :
    Calls Try.prog 3 #[.slice KA n kc, .int .i64 g, .int .i64 a, .int .i64 b] w fun e w' => e = .returned (.bool true) ∧ Below w.heap.size w w' := by
  by_cases hR : RangeOk a b
  · have hab : a + ((b - a).toNat : Int) = b := by have := hR.2.1; omega
    have hx := find_ex (PkP S n g) a (b - a).toNat
    rw [hab] at hx
    rcases hx with ⟨v, h1, h2, h3, h4⟩ | hN
    · have hk : keyedB 0 S n g = true := by
        cases e : keyedB 0 S n g
        · exact absurd h3 (keyed_not e)
        · rfl
      exact main_FnExactFirstSeed n S g a b v true KA kc w hm hr.grow hr.size
        (fun hn A c w h => (spec_firstSeed A n c S g a b w (by omega) hr.size h hR hk).mono fun e w' hf => (find_det hf).1 v h1 h2 h3 h4)
        (fun hn A c w h => (impl_firstSeed A n c S g a b w (by omega) hr.size h hR).mono fun e w' hf => (find_det hf).1 v h1 h2 h3 h4)
    · refine main_FnExactFirstSeed n S g a b 0 false KA kc w hm hr.grow hr.size
        (fun hn A c w h => ?_)
        (fun hn A c w h => (impl_firstSeed A n c S g a b w (by omega) hr.size h hR).mono fun e w' hf => (find_det hf).2 hN)
      cases hk : keyedB 0 S n g
      · exact spec_firstSeed_no A n c S g a b w (by omega) hr.size h (fun hh => by rw [hh.2] at hk; cases hk)
      · exact (spec_firstSeed A n c S g a b w (by omega) hr.size h hR hk).mono fun e w' hf => (find_det hf).2 hN
  · exact main_FnExactFirstSeed n S g a b 0 false KA kc w hm hr.grow hr.size
      (fun hn A c w h => spec_firstSeed_no A n c S g a b w (by omega) hr.size h (fun hh => hR hh.1))
      (fun hn A c w h => impl_firstSeed_no A n c g a b w hR)
end Go.Proofs.Ytfjimjbndkhkcab
