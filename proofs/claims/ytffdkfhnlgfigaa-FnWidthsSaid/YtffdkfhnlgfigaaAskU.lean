/- Questions to a Sparse: what each answers, both ways. -/
import Derived.Test.YtffdkfhnlgfigaaAskT
import Derived.Test.YtffdkfhnlgfigaaQuietC
namespace Go.Proofs.Ytffdkfhnlgfigaa
open Go.RowKit

section
variable (A1 : Option Addr) (n1 c1 : Nat) (X1 : Nat → Int) (A2 : Option Addr) (n2 c2 : Nat) (X2 : Nat → Int) (w : World)
variable {z0 z1 z2 z3 z4 : Int} {c L v : Nat} {f : Nat → Nat}
set_option maxRecDepth 100000 in
set_option maxHeartbeats 1000000 in
theorem impl_SparseBits_no (hn1 : n1 ≤ 1048576) (hn2 : n2 ≤ 1048576) (h1 : IRow w A1 n1 X1) (h2 : IRow w A2 n2 X2) (h : ¬ SpV z0 z1 z2 z3 n1 X1 z4 n2 X2) :
    Calls Try.prog 13 #[.agg (spC z0 z1 z2 z3 A1 n1 c1 z4 A2 n2 c2)] w fun e w' => e = .returned (.tuple #[.int .i64 0, .bool false]) ∧ Below w.heap.size w w' := by
  have S0 := Lib.hid (SL.start (z0 := z0) (z1 := z1) (z2 := z2) (z3 := z3) (z4 := z4) (c1 := c1) (c2 := c2) h1 h2)
  clear h1 h2
  have HV := Lib.hid h
  clear h
  go_enter Try.func13, Try.ntmps13
  unfold spC
  go_wp2_with fail
  refine ((BoolIs.two (impl_isSparse A1 n1 c1 X1 A2 n2 c2 X2 _ z0 z1 z2 z3 z4 hn1 hn2 S0.out.low S0.out.high)).2 HV.out).mono ?_; rintro e w1 ⟨rfl, hb⟩
  have S1 := Lib.hid (S0.out.step hb)
  clear hb S0
  obtain ⟨q0, q1, q2, q3, q4, q5, q6⟩ := S1.out.cells
  go_wp2_with fail
  go_ret2
  exact ⟨rfl, S1.out.below⟩

set_option maxRecDepth 100000 in
set_option maxHeartbeats 1000000 in
theorem impl_SparseBits_yes (zl zh : Nat) (hn1 : n1 ≤ 1048576) (hn2 : n2 ≤ 1048576) (h1 : IRow w A1 n1 X1) (h2 : IRow w A2 n2 X2) (h : SpV z0 z1 z2 z3 n1 X1 z4 n2 X2) (hl : z3 = zl) (hh : z4 = zh) (b1 : zl ≤ 960) (b2 : zh ≤ 200) :
    Calls Try.prog 13 #[.agg (spC z0 z1 z2 z3 A1 n1 c1 z4 A2 n2 c2)] w fun e w' => e = .returned (.tuple #[.int .i64 ((zl : Int) + (zh : Int)), .bool true]) ∧ Below w.heap.size w w' := by
  have S0 := Lib.hid (SL.start (z0 := z0) (z1 := z1) (z2 := z2) (z3 := z3) (z4 := z4) (c1 := c1) (c2 := c2) h1 h2)
  clear h1 h2
  subst hl hh
  have HV := Lib.hid h
  clear h
  go_enter Try.func13, Try.ntmps13
  unfold spC
  go_wp2_with fail
  refine ((BoolIs.two (impl_isSparse A1 n1 c1 X1 A2 n2 c2 X2 _ z0 z1 z2 zl zh hn1 hn2 S0.out.low S0.out.high)).1 HV.out).mono ?_; rintro e w1 ⟨rfl, hb⟩
  have S1 := Lib.hid (S0.out.step hb)
  clear hb S0
  obtain ⟨q0, q1, q2, q3, q4, q5, q6⟩ := S1.out.cells
  go_wp2_with fail
  go_ret2
  exact ⟨rfl, S1.out.below⟩

end
end Go.Proofs.Ytffdkfhnlgfigaa
