/- The law of WidthFor, walked: what both sides answer comes in as hypotheses. -/
import Derived.Test.YtdkkflejpcgipaaObjInt
import Derived.Test.YtdkkflejpcgipaaWidthS
import Derived.Deep.RegionHeld3
namespace Go.Proofs.Ytdkkflejpcgipaa
open Go.RowKit

set_option maxRecDepth 100000 in
set_option maxHeartbeats 8000000 in
theorem main_FnExactWidthFor (a0z0 : Int) (a1z0 : Int) (r0z0 : Int) (r1z0 : Bool) (w : World) 
    (s1 : ∀ (w : World), Calls Try.prog 16 #[.int .i64 a0z0, .int .i64 a1z0] w fun e w' => e = .returned (.tuple #[.int .i64 r0z0, .bool r1z0]) ∧ Below w.heap.size w w')
    (s2 : ∀ (w : World), Calls Try.prog 17 #[.int .i64 a0z0, .int .i64 a1z0] w fun e w' => e = .returned (.tuple #[.int .i64 r0z0, .bool r1z0]) ∧ Below w.heap.size w w') :
    Calls Try.prog 3 #[.int .i64 a0z0, .int .i64 a1z0] w fun e w' => e = .returned (.bool true) ∧ Below w.heap.size w w' := by
  have S1 := Lib.hid s1
  have S2 := Lib.hid s2
  clear s1 s2
  have FB := Lib.hid (At.start w)
  go_enter Try.func3, Try.ntmps3
  go_wp2_with fail
  refine (S1.out _).mono ?_; rintro e w1 ⟨rfl, hb⟩
  replace FB := Lib.hid (FB.out.b hb)
  have z_w1 : w.heap.size ≤ w1.heap.size := by have hsz := hb.size; first | omega | (simp at hsz; omega)
  clear hb 
  go_wp2_with fail
  refine (S2.out _).mono ?_; rintro e w2 ⟨rfl, hb⟩
  replace FB := Lib.hid (FB.out.b hb)
  have z_w2 : w1.heap.size ≤ w2.heap.size := by have hsz := hb.size; first | omega | (simp at hsz; omega)
  clear hb 
  go_wp2_with fail
  go_ret
  exact ⟨rfl, FB.out.now⟩
theorem walk_FnExactWidthFor (w : World) (a : Int) (_w0 : (Lit.int .i64 a).wf = true) (b : Int) (_w1 : (Lit.int .i64 b).wf = true) :
    Calls Try.prog 3 #[.int .i64 a, .int .i64 b] w fun e w' => e = .returned (.bool true) ∧ Below w.heap.size w w' := by
  by_cases h : WOk a b
  · obtain ⟨c, L, v, rfl, rfl, h0, h1, h2, h3⟩ := wOk_nat h
    exact main_FnExactWidthFor c L v true w (fun w => (spec_width_yes c L v w h0 h1 h2 h3).mono fun e w' ⟨he, hw⟩ => ⟨he, by rw [← hw]; exact Below.refl _ _⟩)
      (fun w => (impl_width_yes c L v w h0 h1 h2 h3).mono fun e w' ⟨he, hw⟩ => ⟨he, by rw [← hw]; exact Below.refl _ _⟩)
  · exact main_FnExactWidthFor a b 0 false w (fun w => (spec_width_no a b w h).mono fun e w' ⟨he, hw⟩ => ⟨he, by rw [← hw]; exact Below.refl _ _⟩)
      (fun w => (impl_width_no a b w h).mono fun e w' ⟨he, hw⟩ => ⟨he, by rw [← hw]; exact Below.refl _ _⟩)
end Go.Proofs.Ytdkkflejpcgipaa
