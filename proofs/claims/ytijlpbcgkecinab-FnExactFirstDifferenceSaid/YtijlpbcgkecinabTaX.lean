/- RetrieveValue: both sides. -/
import Derived.Test.YtijlpbcgkecinabTaW
namespace Go.Proofs.Ytijlpbcgkecinab
open Go.RowKit

section
variable {z0 z1 z2 : Int} {A : Option Addr} {n c : Nat} {X : Nat → Int} {s : ByteArray} {w : World}
set_option maxRecDepth 100000 in
set_option maxHeartbeats 1000000 in
theorem impl_retrieve (hn : n ≤ 1048576) (hs : s.size ≤ maxLen) (hr : IRow w A n X) (h : TaV z0 z1 z2 n X ∧ isKeyB s.data.toList = true) :
    Calls Try.prog 16 #[.agg #[.int .i64 z0, .int .i64 z1, .int .i64 z2, .slice A n c], .string s] w fun e w' => e = .returned (.tuple #[.int .i64 (taN z0 z1.toNat s X : Nat), .bool true]) ∧ Below w.heap.size w w' := by
  have S0 := Lib.hid (BX1.start (cs := #[.int .i64 z0, .int .i64 z1, .int .i64 z2, .slice A n c]) (t := 27) hr)
  have x0 := S0.out.box.cell 0 _ rfl
  have x1 := S0.out.box.cell 1 _ rfl
  have x2 := S0.out.box.cell 2 _ rfl
  have x3 := S0.out.box.cell 3 _ rfl
  clear hr
  obtain ⟨g, rfl⟩ : ∃ g : Nat, z1 = g := ⟨z1.toNat, by have := h.1.2.1; omega⟩
  obtain ⟨v, rfl⟩ : ∃ v : Nat, z2 = v := ⟨z2.toNat, by have := h.1.2.2.1; omega⟩
  rw [Int.toNat_natCast]
  go_enter Try.func16, Try.ntmps16
  go_wp2_with fail
  refine (impl_isTable (b := true) (by simp [h.1]) hn S0.out.row).mono ?_; rintro e w1 ⟨rfl, hw⟩
  have S1 := Lib.hid (S0.out.step hw)
  clear hw x0 x1 x2 x3 S0
  have x0 := S1.out.box.cell 0 _ rfl
  have x1 := S1.out.box.cell 1 _ rfl
  have x2 := S1.out.box.cell 2 _ rfl
  have x3 := S1.out.box.cell 3 _ rfl
  go_wp2_with fail
  refine (impl_isKey _ _ hs).mono ?_; rintro e w2 ⟨rfl, rfl⟩
  rw [h.2]
  go_wp2_with fail
  refine (impl_valueFor hs S1.out.row h.1).mono ?_; rintro e w3 ⟨rfl, hw⟩
  have S2 := Lib.hid (S1.out.step hw)
  clear hw
  go_wp2_with fail
  go_ret2
  exact ⟨rfl, S2.out.below⟩
set_option maxRecDepth 100000 in
set_option maxHeartbeats 1000000 in
theorem impl_retrieve_no (hn : n ≤ 1048576) (hs : s.size ≤ maxLen) (hr : IRow w A n X) (h : ¬ (TaV z0 z1 z2 n X ∧ isKeyB s.data.toList = true)) :
    Calls Try.prog 16 #[.agg #[.int .i64 z0, .int .i64 z1, .int .i64 z2, .slice A n c], .string s] w fun e w' => e = .returned (.tuple #[.int .i64 0, .bool false]) ∧ Below w.heap.size w w' := by
  have S0 := Lib.hid (BX1.start (cs := #[.int .i64 z0, .int .i64 z1, .int .i64 z2, .slice A n c]) (t := 27) hr)
  have x0 := S0.out.box.cell 0 _ rfl
  have x1 := S0.out.box.cell 1 _ rfl
  have x2 := S0.out.box.cell 2 _ rfl
  have x3 := S0.out.box.cell 3 _ rfl
  clear hr
  by_cases hv : TaV z0 z1 z2 n X
  · have hk : isKeyB s.data.toList = false := by
      cases e : isKeyB s.data.toList
      · rfl
      · exact absurd ⟨hv, e⟩ h
    go_enter Try.func16, Try.ntmps16
    go_wp2_with fail
    refine (impl_isTable (b := true) (by simp [hv]) hn S0.out.row).mono ?_; rintro e w1 ⟨rfl, hw⟩
    have S1 := Lib.hid (S0.out.step hw)
    clear hw x0 x1 x2 x3 S0
    go_wp2_with fail
    refine (impl_isKey _ _ hs).mono ?_; rintro e w2 ⟨rfl, rfl⟩
    rw [hk]
    go_wp2_with fail
    go_ret2
    exact ⟨rfl, S1.out.below⟩
  · go_enter Try.func16, Try.ntmps16
    go_wp2_with fail
    refine (impl_isTable (b := false) (by simp [hv]) hn S0.out.row).mono ?_; rintro e w1 ⟨rfl, hw⟩
    have S1 := Lib.hid (S0.out.step hw)
    clear hw x0 x1 x2 x3 S0
    go_wp2_with fail
    go_ret2
    exact ⟨rfl, S1.out.below⟩
set_option maxRecDepth 100000 in
set_option maxHeartbeats 1000000 in
theorem spec_retrieve (hn : n ≤ 1048576) (hs : s.size ≤ maxLen) (hr : IRow w A n X) (h : TaV z0 z1 z2 n X ∧ isKeyB s.data.toList = true) :
    Calls Try.prog 15 #[.agg #[.int .i64 z0, .int .i64 z1, .int .i64 z2, .slice A n c], .string s] w fun e w' => e = .returned (.tuple #[.int .i64 (taN z0 z1.toNat s X : Nat), .bool true]) ∧ Below w.heap.size w w' := by
  have S0 := Lib.hid (BX1.start (cs := #[.int .i64 z0, .int .i64 z1, .int .i64 z2, .slice A n c]) (t := 27) hr)
  have x0 := S0.out.box.cell 0 _ rfl
  have x1 := S0.out.box.cell 1 _ rfl
  have x2 := S0.out.box.cell 2 _ rfl
  have x3 := S0.out.box.cell 3 _ rfl
  clear hr
  obtain ⟨g, rfl⟩ : ∃ g : Nat, z1 = g := ⟨z1.toNat, by have := h.1.2.1; omega⟩
  obtain ⟨v, rfl⟩ : ∃ v : Nat, z2 = v := ⟨z2.toNat, by have := h.1.2.2.1; omega⟩
  rw [Int.toNat_natCast]
  go_enter Try.func15, Try.ntmps15
  go_wp2_with fail
  refine (spec_reTable (b := true) (by simp [h.1]) hn S0.out.row).mono ?_; rintro e w1 ⟨rfl, hw⟩
  have S1 := Lib.hid (S0.out.step hw)
  clear hw x0 x1 x2 x3 S0
  have x0 := S1.out.box.cell 0 _ rfl
  have x1 := S1.out.box.cell 1 _ rfl
  have x2 := S1.out.box.cell 2 _ rfl
  have x3 := S1.out.box.cell 3 _ rfl
  go_wp2_with fail
  refine (spec_isKey _ _ hs).mono ?_; rintro e w2 ⟨rfl, rfl⟩
  rw [h.2]
  go_wp2_with fail
  refine (spec_reValue hs S1.out.row h.1).mono ?_; rintro e w3 ⟨rfl, hw⟩
  have S2 := Lib.hid (S1.out.step hw)
  clear hw
  go_wp2_with fail
  go_ret2
  exact ⟨rfl, S2.out.below⟩
set_option maxRecDepth 100000 in
set_option maxHeartbeats 1000000 in
theorem spec_retrieve_no (hn : n ≤ 1048576) (hs : s.size ≤ maxLen) (hr : IRow w A n X) (h : ¬ (TaV z0 z1 z2 n X ∧ isKeyB s.data.toList = true)) :
    Calls Try.prog 15 #[.agg #[.int .i64 z0, .int .i64 z1, .int .i64 z2, .slice A n c], .string s] w fun e w' => e = .returned (.tuple #[.int .i64 0, .bool false]) ∧ Below w.heap.size w w' := by
  have S0 := Lib.hid (BX1.start (cs := #[.int .i64 z0, .int .i64 z1, .int .i64 z2, .slice A n c]) (t := 27) hr)
  have x0 := S0.out.box.cell 0 _ rfl
  have x1 := S0.out.box.cell 1 _ rfl
  have x2 := S0.out.box.cell 2 _ rfl
  have x3 := S0.out.box.cell 3 _ rfl
  clear hr
  by_cases hv : TaV z0 z1 z2 n X
  · have hk : isKeyB s.data.toList = false := by
      cases e : isKeyB s.data.toList
      · rfl
      · exact absurd ⟨hv, e⟩ h
    go_enter Try.func15, Try.ntmps15
    go_wp2_with fail
    refine (spec_reTable (b := true) (by simp [hv]) hn S0.out.row).mono ?_; rintro e w1 ⟨rfl, hw⟩
    have S1 := Lib.hid (S0.out.step hw)
    clear hw x0 x1 x2 x3 S0
    go_wp2_with fail
    refine (spec_isKey _ _ hs).mono ?_; rintro e w2 ⟨rfl, rfl⟩
    rw [hk]
    go_wp2_with fail
    go_ret2
    exact ⟨rfl, S1.out.below⟩
  · go_enter Try.func15, Try.ntmps15
    go_wp2_with fail
    refine (spec_reTable (b := false) (by simp [hv]) hn S0.out.row).mono ?_; rintro e w1 ⟨rfl, hw⟩
    have S1 := Lib.hid (S0.out.step hw)
    clear hw x0 x1 x2 x3 S0
    go_wp2_with fail
    go_ret2
    exact ⟨rfl, S1.out.below⟩
end
end Go.Proofs.Ytijlpbcgkecinab
