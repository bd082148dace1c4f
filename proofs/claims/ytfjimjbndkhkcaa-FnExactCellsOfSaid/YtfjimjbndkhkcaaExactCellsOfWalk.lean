/- The law of CellsOf, walked: what both sides answer comes in as hypotheses. -/
import Derived.Test.YtfjimjbndkhkcaaObjStr
import Derived.Test.YtfjimjbndkhkcaaCuA
import Derived.Deep.RegionHeld3
namespace Go.Proofs.Ytfjimjbndkhkcaa
open Go.RowKit

set_option maxRecDepth 100000 in
set_option maxHeartbeats 8000000 in
theorem main_FnExactCellsOf (a0z0 : Int) (a1z0 : ByteArray) (a2z0 : Int) (r0z0 : Int) (r1z0 : Int) (r2z0 : Bool) (w : World) (_ha1s0 : a1z0.size ≤ maxLen)
    (s1 : a1z0.size ≤ 1048576 → ∀ (w : World), Calls Try.prog 15 #[.int .i64 a0z0, .string a1z0, .int .i64 a2z0] w fun e w' => e = .returned (.tuple #[.int .i64 r0z0, .int .i64 r1z0, .bool r2z0]) ∧ Below w.heap.size w w')
    (s2 : a1z0.size ≤ 1048576 → ∀ (w : World), Calls Try.prog 16 #[.int .i64 a0z0, .string a1z0, .int .i64 a2z0] w fun e w' => e = .returned (.tuple #[.int .i64 r0z0, .int .i64 r1z0, .bool r2z0]) ∧ Below w.heap.size w w') :
    Calls Try.prog 3 #[.int .i64 a0z0, .string a1z0, .int .i64 a2z0] w fun e w' => e = .returned (.bool true) ∧ Below w.heap.size w w' := by
  have S1 := Lib.hid s1
  have S2 := Lib.hid s2
  clear s1 s2
  by_cases hlong_a1 : (1048576 : Int) < (a1z0.size : Int)
  · go_enter Try.func3, Try.ntmps3
    go_wp2_with fail
    go_ret
    exact ⟨rfl, Below.refl _ _⟩
  have FB := Lib.hid (At.start w)
  go_enter Try.func3, Try.ntmps3
  replace S1 := Lib.hid (S1.out (by omega))
  replace S2 := Lib.hid (S2.out (by omega))
  go_wp2_with fail
  refine (S1.out _).mono ?_; rintro e w1 ⟨rfl, hb⟩
  replace FB := Lib.hid (FB.out.b hb)
  have z_w1 : w.heap.size ≤ w1.heap.size := by have hsz := hb.size; first | omega | (simp at hsz; omega)
  clear hb 
  go_wp2_with fail
  refine (S2.out _).mono ?_; rintro e w2 ⟨rfl, hb⟩
  replace FB := Lib.hid (FB.out.b hb)
  have z_w2 : w1.heap.size ≤ w2.heap.size := by have hsz := hb.size; first | omega | (simp at hsz; omega)
  clear hb 
  go_wp2_with fail
  go_ret
  exact ⟨rfl, FB.out.now⟩
theorem walk_FnExactCellsOf (w : World) (z : Int) (_wz : (Lit.int .i64 z).wf = true) (s : ByteArray) (hs : s.size ≤ maxLen) (P : Int) (_wp : (Lit.int .i64 P).wf = true) :
    Calls Try.prog 3 #[.int .i64 z, .string s, .int .i64 P] w fun e w' => e = .returned (.bool true) ∧ Below w.heap.size w w' :=
  main_FnExactCellsOf z s P _ _ _ w hs (fun _ w => spec_cells z P s w hs) (fun _ w => impl_cells z P s w hs)
end Go.Proofs.Ytfjimjbndkhkcaa
