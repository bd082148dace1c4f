/- The law of DeltaLength, walked: what both sides answer comes in as hypotheses. -/
import Derived.Test.YtdkkflejpcgipabCodeL
import Derived.Deep.RegionHeld3
namespace Go.Proofs.Ytdkkflejpcgipab
open Go.RowKit

set_option maxRecDepth 100000 in
set_option maxHeartbeats 8000000 in
theorem main_FnExactDeltaLength (a0z0 : Int) (r0z0 : Int) (r1z0 : Bool) (w : World) 
    (s1 : ∀ (w : World), Calls Try.prog 14 #[.int .i64 a0z0] w fun e w' => e = .returned (.tuple #[.int .i64 r0z0, .bool r1z0]) ∧ Below w.heap.size w w')
    (s2 : ∀ (w : World), Calls Try.prog 15 #[.int .i64 a0z0] w fun e w' => e = .returned (.tuple #[.int .i64 r0z0, .bool r1z0]) ∧ Below w.heap.size w w') :
    Calls Try.prog 4 #[.int .i64 a0z0] w fun e w' => e = .returned (.bool true) ∧ Below w.heap.size w w' := by
  have S1 := Lib.hid s1
  have S2 := Lib.hid s2
  clear s1 s2
  have FB := Lib.hid (At.start w)
  go_enter Try.func4, Try.ntmps4
  go_wp2_with fail
  refine (S1.out _).mono ?_; rintro e w1 ⟨rfl, hb⟩
  replace FB := Lib.hid (FB.out.b hb)
  have z_w1 : w.heap.size ≤ w1.heap.size := by have hsz := hb.size; first | omega | (simp at hsz; omega)
  clear hb 
  go_wp2_with fail
  refine (S2.out _).mono ?_; rintro e w2 ⟨rfl, hb⟩
  replace FB := Lib.hid (FB.out.b hb)
  have z_w2 : w1.heap.size ≤ w2.heap.size := by have hsz := hb.size; first | omega | (simp at hsz; omega)
  clear hb 
  go_wp2_with fail
  go_ret
  exact ⟨rfl, FB.out.now⟩

theorem walk_FnExactDeltaLength (w : World) (a : Int) (_w0 : (Lit.int .i64 a).wf = true) :
    Calls Try.prog 4 #[.int .i64 a] w fun e w' => e = .returned (.bool true) ∧ Below w.heap.size w w' := by
  by_cases h : 1 ≤ a ∧ a ≤ 100000
  · obtain ⟨n, rfl⟩ := Int.eq_ofNat_of_zero_le (show 0 ≤ a by omega)
    obtain ⟨l, hl⟩ := isL_ex (n := n) (by omega)
    obtain ⟨k, hk⟩ := isL_ex (n := l + 1) (by omega)
    have ez : ((2 * k + 1 + l : Nat) : Int) = 2 * (k : Int) + 1 + (l : Int) := by push_cast; rfl
    exact main_FnExactDeltaLength n (2 * (k : Int) + 1 + (l : Int)) true w (fun w => (spec_deltaLength_yes n l k w (by omega) (by omega) hl hk).mono fun e w' ⟨he, hw⟩ => ⟨he, by rw [← hw]; exact Below.refl _ _⟩) (fun w => by rw [← ez]; exact impl_deltaLength n _ _ _ true w (fun W => impl_deltaCode n l k W (by omega) (by omega) hl hk))
  · exact main_FnExactDeltaLength a 0 false w (fun w => (spec_deltaLength_no a w h).mono fun e w' ⟨he, hw⟩ => ⟨he, by rw [← hw]; exact Below.refl _ _⟩) (fun w => impl_deltaLength a 0 0 _ false w (fun W => impl_deltaCode_no a W h))
end Go.Proofs.Ytdkkflejpcgipab
