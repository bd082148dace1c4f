/- BloomLoad: both sides. -/
import Derived.Test.YtpajbcgdoedleaaBlG
import Derived.Test.YtpajbcgdoedleaaBlD
import Derived.Test.YtpajbcgdoedleaaCount
namespace Go.Proofs.Ytpajbcgdoedleaa
open Go.RowKit

section
variable {z0 z1 z2 : Int} {p z : Nat} {A : Option Addr} {n c : Nat} {X : Nat → Int} {w : World}
set_option maxRecDepth 100000 in
set_option maxHeartbeats 1000000 in
theorem spec_bloomLoad (h : fiB z0 p z = true) (hg : Good z n X) (hn : n ≤ 1048576) (hr : IRow w A n X) :
    Calls Try.prog 42 #[.agg #[.int .i64 z0, .int .i64 p, .int .i64 z, .slice A n c]] w fun e w' => e = .returned (.tuple #[.int .i64 (cntN (fun i => (X i).toNat) 0 (z - 0)), .bool true]) ∧ Below w.heap.size w w' := by
  obtain ⟨h0, h1, h2⟩ := fiB_out h
  have hzn : z ≤ 16 * n := by have := hg.2.2.1; omega
  have S0 := Lib.hid (BlC.start (z0 := z0) (z1 := p) (z2 := z) (c := c) hr)
  have x0 := S0.out.box.cell 0 _ rfl
  have x1 := S0.out.box.cell 1 _ rfl
  have x2 := S0.out.box.cell 2 _ rfl
  have x3 := S0.out.box.cell 3 _ rfl
  clear hr
  go_enter Try.func42, Try.ntmps42
  go_wp2_with fail
  refine (spec_fiGood (b := true) (by simp [BlV, h, hg]) hn S0.out.row).mono ?_; rintro e w1 ⟨rfl, hw⟩
  have S1 := Lib.hid (S0.out.step hw)
  clear hw x0 x1 x2 x3 S0
  have x0 := S1.out.box.cell 0 _ rfl
  have x1 := S1.out.box.cell 1 _ rfl
  have x2 := S1.out.box.cell 2 _ rfl
  have x3 := S1.out.box.cell 3 _ rfl
  go_wp2_with fail
  refine (spec_biCount z A n c (fun i => (X i).toNat) 0 z _ hn (wrow_good S1.out.row hg) (by omega) hzn (by omega)).mono ?_; rintro e w3 ⟨rfl, hw⟩
  have S2 := Lib.hid (S1.out.step hw)
  clear hw
  go_wp2_with fail
  go_ret2
  exact ⟨rfl, S2.out.below⟩
set_option maxRecDepth 100000 in
set_option maxHeartbeats 1000000 in
theorem spec_bloomLoad_no (h : ¬ BlV z0 z1 z2 n X) (hn : n ≤ 1048576) (hr : IRow w A n X) :
    Calls Try.prog 42 #[.agg #[.int .i64 z0, .int .i64 z1, .int .i64 z2, .slice A n c]] w fun e w' => e = .returned (.tuple #[.int .i64 0, .bool false]) ∧ Below w.heap.size w w' := by
  have S0 := Lib.hid (BlC.start (z0 := z0) (z1 := z1) (z2 := z2) (c := c) hr)
  have x0 := S0.out.box.cell 0 _ rfl
  have x1 := S0.out.box.cell 1 _ rfl
  have x2 := S0.out.box.cell 2 _ rfl
  have x3 := S0.out.box.cell 3 _ rfl
  clear hr
  go_enter Try.func42, Try.ntmps42
  go_wp2_with fail
  refine (spec_fiGood (b := false) (by simp [h]) hn S0.out.row).mono ?_; rintro e w1 ⟨rfl, hw⟩
  have S1 := Lib.hid (S0.out.step hw)
  clear hw x0 x1 x2 x3 S0
  go_wp2_with fail
  go_ret2
  exact ⟨rfl, S1.out.below⟩
set_option maxRecDepth 100000 in
set_option maxHeartbeats 1000000 in
theorem impl_bloomLoad (h : fiB z0 p z = true) (hg : Good z n X) (hn : n ≤ 1048576) (hr : IRow w A n X) :
    Calls Try.prog 43 #[.agg #[.int .i64 z0, .int .i64 p, .int .i64 z, .slice A n c]] w fun e w' => e = .returned (.tuple #[.int .i64 (cntN (fun i => (X i).toNat) 0 (z - 0)), .bool true]) ∧ Below w.heap.size w w' := by
  obtain ⟨h0, h1, h2⟩ := fiB_out h
  have hzn : z ≤ 16 * n := by have := hg.2.2.1; omega
  have S0 := Lib.hid (BlC.start (z0 := z0) (z1 := p) (z2 := z) (c := c) hr)
  have x0 := S0.out.box.cell 0 _ rfl
  have x1 := S0.out.box.cell 1 _ rfl
  have x2 := S0.out.box.cell 2 _ rfl
  have x3 := S0.out.box.cell 3 _ rfl
  clear hr
  go_enter Try.func43, Try.ntmps43
  go_wp2_with fail
  refine (impl_isBloom (b := true) (by simp [BlV, h, hg]) hn S0.out.row).mono ?_; rintro e w1 ⟨rfl, hw⟩
  have S1 := Lib.hid (S0.out.step hw)
  clear hw x0 x1 x2 x3 S0
  have x0 := S1.out.box.cell 0 _ rfl
  have x1 := S1.out.box.cell 1 _ rfl
  have x2 := S1.out.box.cell 2 _ rfl
  have x3 := S1.out.box.cell 3 _ rfl
  go_wp2_with fail
  refine (impl_count_yes z A n c X 0 z _ hn S1.out.row ⟨hg, by omega, by omega, by omega⟩).mono ?_; rintro e w3 ⟨rfl, hw⟩
  have S2 := Lib.hid (S1.out.step hw)
  clear hw
  go_wp2_with fail
  go_ret2
  exact ⟨rfl, S2.out.below⟩
set_option maxRecDepth 100000 in
set_option maxHeartbeats 1000000 in
theorem impl_bloomLoad_no (h : ¬ BlV z0 z1 z2 n X) (hn : n ≤ 1048576) (hr : IRow w A n X) :
    Calls Try.prog 43 #[.agg #[.int .i64 z0, .int .i64 z1, .int .i64 z2, .slice A n c]] w fun e w' => e = .returned (.tuple #[.int .i64 0, .bool false]) ∧ Below w.heap.size w w' := by
  have S0 := Lib.hid (BlC.start (z0 := z0) (z1 := z1) (z2 := z2) (c := c) hr)
  have x0 := S0.out.box.cell 0 _ rfl
  have x1 := S0.out.box.cell 1 _ rfl
  have x2 := S0.out.box.cell 2 _ rfl
  have x3 := S0.out.box.cell 3 _ rfl
  clear hr
  go_enter Try.func43, Try.ntmps43
  go_wp2_with fail
  refine (impl_isBloom (b := false) (by simp [h]) hn S0.out.row).mono ?_; rintro e w1 ⟨rfl, hw⟩
  have S1 := Lib.hid (S0.out.step hw)
  clear hw x0 x1 x2 x3 S0
  go_wp2_with fail
  go_ret2
  exact ⟨rfl, S1.out.below⟩
end
end Go.Proofs.Ytpajbcgdoedleaa
