/- The law of PrintOf, walked: what both sides answer comes in as hypotheses. -/
import Derived.Test.YtpajbcgdoedleabObjInt
import Derived.Test.YtpajbcgdoedleabPrT
import Derived.Deep.RegionHeld3
namespace Go.Proofs.Ytpajbcgdoedleab
open Go.RowKit

set_option maxRecDepth 100000 in
set_option maxHeartbeats 8000000 in
theorem main_FnExactPrintOf (a0z0 : Int) (a1z0 : Int) (a2z0 : ByteArray) (r0z0 : Int) (r1z0 : Bool) (w : World) (_ha2s0 : a2z0.size ≤ maxLen)
    (s1 : a2z0.size ≤ 1048576 → ∀ (w : World), Calls Try.prog 34 #[.int .i64 a0z0, .int .i64 a1z0, .string a2z0] w fun e w' => e = .returned (.tuple #[.int .i64 r0z0, .bool r1z0]) ∧ Below w.heap.size w w')
    (s2 : a2z0.size ≤ 1048576 → ∀ (w : World), Calls Try.prog 35 #[.int .i64 a0z0, .int .i64 a1z0, .string a2z0] w fun e w' => e = .returned (.tuple #[.int .i64 r0z0, .bool r1z0]) ∧ Below w.heap.size w w') :
    Calls Try.prog 8 #[.int .i64 a0z0, .int .i64 a1z0, .string a2z0] w fun e w' => e = .returned (.bool true) ∧ Below w.heap.size w w' := by
  have S1 := Lib.hid s1
  have S2 := Lib.hid s2
  clear s1 s2
  by_cases hlong_a2 : (1048576 : Int) < (a2z0.size : Int)
  · go_enter Try.func8, Try.ntmps8
    go_wp2_with fail
    go_ret
    exact ⟨rfl, Below.refl _ _⟩
  have FB := Lib.hid (At.start w)
  go_enter Try.func8, Try.ntmps8
  replace S1 := Lib.hid (S1.out (by omega))
  replace S2 := Lib.hid (S2.out (by omega))
  go_wp2_with fail
  refine (S1.out _).mono ?_; rintro e w1 ⟨rfl, hb⟩
  replace FB := Lib.hid (FB.out.b hb)
  have z_w1 : w.heap.size ≤ w1.heap.size := by have hsz := hb.size; first | omega | (simp at hsz; omega)
  clear hb 
  go_wp2_with fail
  refine (S2.out _).mono ?_; rintro e w2 ⟨rfl, hb⟩
  replace FB := Lib.hid (FB.out.b hb)
  have z_w2 : w1.heap.size ≤ w2.heap.size := by have hsz := hb.size; first | omega | (simp at hsz; omega)
  clear hb 
  go_wp2_with fail
  go_ret
  exact ⟨rfl, FB.out.now⟩
/-! last -/
theorem walk_FnExactPrintOf (w : World) (z0 : Int) (_w0 : (Lit.int .i64 z0).wf = true) (z1 : Int) (_w1 : (Lit.int .i64 z1).wf = true) (s : ByteArray) (hs : s.size ≤ maxLen) :
    Calls Try.prog 8 #[.int .i64 z0, .int .i64 z1, .string s] w fun e w' => e = .returned (.bool true) ∧ Below w.heap.size w w' := by
  cases h : (prB z0 z1 && isKeyB s.data.toList) with
  | true =>
    rw [Bool.and_eq_true] at h
    obtain ⟨v, rfl⟩ : ∃ v : Nat, z1 = v := ⟨z1.toNat, by have := (prB_out h.1).2; omega⟩
    exact main_FnExactPrintOf z0 v s (prV z0 v s) true w hs (fun _ w => spec_printOfT h.1 h.2 hs) (fun _ w => impl_printOfT h.1 h.2 hs)
  | false =>
    exact main_FnExactPrintOf z0 z1 s 0 false w hs (fun _ w => spec_printOf_no h hs) (fun _ w => impl_printOf_no h hs)
end Go.Proofs.Ytpajbcgdoedleab
