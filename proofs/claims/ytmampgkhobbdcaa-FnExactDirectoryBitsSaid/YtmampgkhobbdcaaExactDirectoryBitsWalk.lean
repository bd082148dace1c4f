/- The law of DirectoryBits, walked: what both sides answer comes in as hypotheses. -/
import Derived.Test.YtmampgkhobbdcaaObjInt
import Derived.Test.YtmampgkhobbdcaaDir
import Derived.Deep.RegionHeld3
namespace Go.Proofs.Ytmampgkhobbdcaa
open Go.RowKit

set_option maxRecDepth 100000 in
set_option maxHeartbeats 8000000 in
theorem main_FnExactDirectoryBits (a0z0 : Int) (r0z0 : Int) (r1z0 : Bool) (w : World) 
    (s1 : ∀ (w : World), Calls Try.prog 45 #[.int .i64 a0z0] w fun e w' => e = .returned (.tuple #[.int .i64 r0z0, .bool r1z0]) ∧ Below w.heap.size w w')
    (s2 : ∀ (w : World), Calls Try.prog 46 #[.int .i64 a0z0] w fun e w' => e = .returned (.tuple #[.int .i64 r0z0, .bool r1z0]) ∧ Below w.heap.size w w') :
    Calls Try.prog 13 #[.int .i64 a0z0] w fun e w' => e = .returned (.bool true) ∧ Below w.heap.size w w' := by
  have S1 := Lib.hid s1
  have S2 := Lib.hid s2
  clear s1 s2
  have FB := Lib.hid (At.start w)
  go_enter Try.func13, Try.ntmps13
  go_wp2_with fail
  refine (S1.out _).mono ?_; rintro e w1 ⟨rfl, hb⟩
  replace FB := Lib.hid (FB.out.b hb)
  have z_w1 : w.heap.size ≤ w1.heap.size := by have hsz := hb.size; first | omega | (simp at hsz; omega)
  clear hb 
  go_wp2_with fail
  refine (S2.out _).mono ?_; rintro e w2 ⟨rfl, hb⟩
  replace FB := Lib.hid (FB.out.b hb)
  have z_w2 : w1.heap.size ≤ w2.heap.size := by have hsz := hb.size; first | omega | (simp at hsz; omega)
  clear hb 
  go_wp2_with fail
  go_ret
  exact ⟨rfl, FB.out.now⟩

theorem walk_FnExactDirectoryBits (w : World) (z : Int) (_wz : (Lit.int .i64 z).wf = true) :
    Calls Try.prog 13 #[.int .i64 z] w fun e w' => e = .returned (.bool true) ∧ Below w.heap.size w w' := by
  by_cases h : 0 ≤ z ∧ z ≤ 4096
  · exact main_FnExactDirectoryBits z (dirZ z) true w (fun w => spec_dirBits_yes z w h.1 h.2) (fun w => impl_dirBits_yes z w h.1 h.2)
  · exact main_FnExactDirectoryBits z 0 false w (fun w => spec_dirBits_no z w h) (fun w => impl_dirBits_no z w h)
end Go.Proofs.Ytmampgkhobbdcaa
