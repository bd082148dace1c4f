/- Which Peeled, Displaced and Ordered are valid: both sides, whatever the argument. -/
import Derived.Test.YtfhanighnckbhabIdxF
namespace Go.Proofs.Ytfhanighnckbhab
open Go.RowKit

/-- A struct with one slice of ints in a box. -/
structure BX1 (w : World) (b : Nat) (cs : Array Value) (t : TypeId) (A : Option Addr) (n : Nat) (X : Nat → Int) (wi : World) : Prop where
  below : Below w.heap.size w wi
  box : NBX w.heap.size b cs t wi
  row : IRow wi A n X
section
variable {w wi wj : World} {b n : Nat} {cs : Array Value} {t : TypeId} {A : Option Addr} {X : Nat → Int}
theorem BX1.step (h : BX1 w b cs t A n X wi) (hb : Below wi.heap.size wi wj) : BX1 w b cs t A n X wj := ⟨h.below.trans (hb.mono h.below.size), h.box.b hb, h.row.b hb⟩
theorem BX1.drewN (h : BX1 w b cs t A n X wi) (k : Nat) : BX1 w b cs t A n X (wi.drewN k) := h.step (below_drewN (Below.refl _ _) _)
theorem BX1.drew (h : BX1 w b cs t A n X wi) : BX1 w b cs t A n X wi.drew := h.step (Below.drew (Below.refl _ _))
theorem BX1.start (h : IRow w A n X) : BX1 w w.heap.size cs t A n X (w.alloc (.cells cs t)) := ⟨(Below.refl _ _).alloc (Nat.le_refl _) _, nbx0 w _ _, h.b ((Below.refl _ _).alloc (Nat.le_refl _) _)⟩
end
theorem seedB_dec {s : Int} {b : Bool} (h : decide (0 ≤ s ∧ s ≤ 9999) = b) : seedB s 0 = b := by
  rw [← h]; unfold seedB; simp

def PeV (z0 z1 : Int) (n : Nat) (X : Nat → Int) : Prop := (0 ≤ z0 ∧ z0 ≤ 9999) ∧ (1 ≤ z1 ∧ z1 ≤ 24) ∧ (n : Int) = 3 * z1 ∧ InAll n X 0 (3)
set_option maxRecDepth 100000 in
set_option maxHeartbeats 4000000 in
theorem spec_pfPeeled (z0 z1 : Int) (A : Option Addr) (n c : Nat) (X : Nat → Int) (w : World) (hn : n ≤ 1048576) (hr : IRow w A n X) :
    Calls Try.prog 53 #[.agg #[.int .i64 z0, .int .i64 z1, .slice A n c]] w (BoolIs (PeV z0 z1 n X) w) := by
  have S0 := Lib.hid (BX1.start (cs := #[.int .i64 z0, .int .i64 z1, .slice A n c]) (t := 27) hr)
  clear hr
  have x0 := S0.out.box.cell 0 _ rfl
  have x1 := S0.out.box.cell 1 _ rfl
  have x2 := S0.out.box.cell 2 _ rfl
  by_cases h0 : 0 ≤ z0 ∧ z0 ≤ 9999
  rotate_left
  · have D0 := Lib.hid (decide_eq_false h0)
    have HN := Lib.hid (show ¬ (PeV z0 z1 n X) from fun h => h0 h.1)
    clear h0
    go_enter Try.func53, Try.ntmps53
    go_wp2_with fail
    refine (l1In_of D0.out _).mono ?_; rintro e w1 ⟨rfl, rfl⟩
    go_wp2_with fail
    go_ret
    exact ⟨false, rfl, by simp only [Bool.false_eq_true, false_iff]; exact HN.out, S0.out.below⟩
  have D0 := Lib.hid (decide_eq_true h0)
  by_cases h1 : 1 ≤ z1 ∧ z1 ≤ 24
  rotate_left
  · have D1 := Lib.hid (decide_eq_false h1)
    have HN := Lib.hid (show ¬ (PeV z0 z1 n X) from fun h => h1 h.2.1)
    clear h1
    go_enter Try.func53, Try.ntmps53
    go_wp2_with fail
    refine (l1In_of D0.out _).mono ?_; rintro e w1 ⟨rfl, rfl⟩
    go_wp2_with fail
    refine (l1In_of D1.out _).mono ?_; rintro e w1 ⟨rfl, rfl⟩
    go_wp2_with fail
    go_ret
    exact ⟨false, rfl, by simp only [Bool.false_eq_true, false_iff]; exact HN.out, S0.out.below⟩
  have D1 := Lib.hid (decide_eq_true h1)
  have e1 : IntKind.i64.wrap ((3 : Int) * z1) = 3 * z1 := IntWalk.i64_in _ (by omega)
  by_cases hc : (n : Int) = 3 * z1
  rotate_left
  · have d0 : ((n : Int) == 3 * z1) = false := by simpa using hc
    have HN := Lib.hid (show ¬ (PeV z0 z1 n X) from fun h => hc h.2.2.1)
    clear hc
    go_enter Try.func53, Try.ntmps53
    go_wp2_with fail
    refine (l1In_of D0.out _).mono ?_; rintro e w1 ⟨rfl, rfl⟩
    go_wp2_with fail
    refine (l1In_of D1.out _).mono ?_; rintro e w1 ⟨rfl, rfl⟩
    go_wp2_with fail
    go_ret
    exact ⟨false, rfl, by simp only [Bool.false_eq_true, false_iff]; exact HN.out, S0.out.below⟩
  have d0 : ((n : Int) == 3 * z1) = true := by simpa using hc
  have HC := Lib.hid hc
  have HV := Lib.hid (show InAll n X 0 (3) ↔ PeV z0 z1 n X from ⟨fun h => ⟨h0, h1, hc, h⟩, fun h => h.2.2.2⟩)
  clear hc
  go_enter Try.func53, Try.ntmps53
  go_wp2_with fail
  refine (l1In_of D0.out _).mono ?_; rintro e w1 ⟨rfl, rfl⟩
  go_wp2_with fail
  refine (l1In_of D1.out _).mono ?_; rintro e w1 ⟨rfl, rfl⟩
  go_wp2_with fail
  refine (spec_l1AllG A n c X _ _ _ hn S0.out.row).mono ?_; rintro e w1 ⟨b, rfl, hb, k, rfl⟩
  have HB := Lib.hid hb
  have S1 := Lib.hid (S0.out.drewN k)
  clear hb
  go_wp2_with fail
  go_ret
  exact ⟨b, rfl, HB.out.trans HV.out, S1.out.below⟩
set_option maxRecDepth 100000 in
set_option maxHeartbeats 4000000 in
theorem impl_isValid_Peeled (z0 z1 : Int) (A : Option Addr) (n c : Nat) (X : Nat → Int) (w : World) (hn : n ≤ 1048576) (hr : IRow w A n X) :
    Calls Try.prog 55 #[.agg #[.int .i64 z0, .int .i64 z1, .slice A n c]] w (BoolIs (PeV z0 z1 n X) w) := by
  have S0 := Lib.hid (BX1.start (cs := #[.int .i64 z0, .int .i64 z1, .slice A n c]) (t := 27) hr)
  clear hr
  have x0 := S0.out.box.cell 0 _ rfl
  have x1 := S0.out.box.cell 1 _ rfl
  have x2 := S0.out.box.cell 2 _ rfl
  have HB := Lib.hid (fun W (h : IRow W A n X) => impl_areBelow A n c X (3 * z1) (4) W hn h)
  by_cases h0 : heB z0 z1 = true
  rotate_left
  · have E0 := Lib.hid (show heB z0 z1 = false by simpa using h0)
    have HN := Lib.hid (show ¬ (PeV z0 z1 n X) from fun h => h0 (by unfold heB seedB; simp only [Bool.and_eq_true, decide_eq_true_eq]; have := h.1; have := h.2.1; omega))
    go_enter Try.func55, Try.ntmps55
    go_wp2_with fail
    refine (impl_hasEdges z0 z1 _).mono ?_; rintro e w1 ⟨rfl, rfl⟩
    rw [E0.out]
    go_wp2_with fail
    go_ret
    exact ⟨false, rfl, by simp only [Bool.false_eq_true, false_iff]; exact HN.out, S0.out.below⟩
  have E0 := Lib.hid h0
  have H0 : (0 ≤ z0 ∧ z0 ≤ 9999) ∧ 1 ≤ z1 ∧ z1 ≤ 24 := by
    unfold heB seedB at h0; simp only [Bool.and_eq_true, decide_eq_true_eq] at h0; omega
  have e1 : IntKind.i64.wrap ((3 : Int) * z1) = 3 * z1 := IntWalk.i64_in _ (by omega)
  have HV := Lib.hid (show ((n : Int) = 3 * z1 ∧ InAll n X 0 (4 - 1)) ↔ PeV z0 z1 n X from ⟨fun h => ⟨⟨by omega, by omega⟩, ⟨by omega, by omega⟩, h.1, by have h2 := h.2; exact fun i hi => ⟨(h2 i hi).1, by have := (h2 i hi).2; omega⟩⟩, fun h => ⟨h.2.2.1, by have h2 := h.2.2.2; exact fun i hi => ⟨(h2 i hi).1, by have := (h2 i hi).2; omega⟩⟩⟩)
  go_enter Try.func55, Try.ntmps55
  go_wp2_with fail
  refine (impl_hasEdges z0 z1 _).mono ?_; rintro e w1 ⟨rfl, rfl⟩
  rw [E0.out]
  go_wp2_with fail
  refine (HB.out _ S0.out.row).mono ?_; rintro e w2 ⟨b, rfl, hbv, hq1⟩
  have S1 := Lib.hid (S0.out.step hq1)
  have HBV := Lib.hid (hbv.trans HV.out)
  clear hbv hq1
  go_wp2_with fail
  go_ret
  exact ⟨b, rfl, HBV.out, S1.out.below⟩
set_option maxRecDepth 100000 in
set_option maxHeartbeats 1000000 in
theorem spec_isPeeled (z0 z1 : Int) (A : Option Addr) (n c : Nat) (X : Nat → Int) (w : World) (hn : n ≤ 1048576) (hr : IRow w A n X) :
    Calls Try.prog 14 #[.agg #[.int .i64 z0, .int .i64 z1, .slice A n c]] w (BoolIs (PeV z0 z1 n X) w) := by
  have S0 := Lib.hid (BX1.start (cs := #[.int .i64 z0, .int .i64 z1, .slice A n c]) (t := 27) hr)
  clear hr
  go_enter Try.func14, Try.ntmps14
  go_wp2_with fail
  refine (spec_pfPeeled z0 z1 A n c X _ hn S0.out.row).mono ?_; rintro e w1 ⟨b, rfl, hb, hw⟩
  have S1 := Lib.hid (S0.out.step hw)
  have HB := Lib.hid hb
  clear hw hb
  go_wp2_with fail
  go_ret
  exact ⟨b, rfl, HB.out, S1.out.below⟩
set_option maxRecDepth 100000 in
set_option maxHeartbeats 1000000 in
theorem impl_isPeeled (z0 z1 : Int) (A : Option Addr) (n c : Nat) (X : Nat → Int) (w : World) (hn : n ≤ 1048576) (hr : IRow w A n X) :
    Calls Try.prog 16 #[.agg #[.int .i64 z0, .int .i64 z1, .slice A n c]] w (BoolIs (PeV z0 z1 n X) w) := by
  have S0 := Lib.hid (BX1.start (cs := #[.int .i64 z0, .int .i64 z1, .slice A n c]) (t := 27) hr)
  clear hr
  go_enter Try.func16, Try.ntmps16
  go_wp2_with fail
  refine (impl_isValid_Peeled z0 z1 A n c X _ hn S0.out.row).mono ?_; rintro e w1 ⟨b, rfl, hb, hw⟩
  have S1 := Lib.hid (S0.out.step hw)
  have HB := Lib.hid hb
  clear hw hb
  go_wp2_with fail
  go_ret
  exact ⟨b, rfl, HB.out, S1.out.below⟩
def DiV (z0 z1 z2 : Int) (n : Nat) (X : Nat → Int) : Prop := (0 ≤ z0 ∧ z0 ≤ 9999) ∧ (1 ≤ z1 ∧ z1 ≤ 24) ∧ (1 ≤ z2 ∧ z2 ≤ 64) ∧ (n : Int) = z1 ∧ InAll n X 0 (999)
set_option maxRecDepth 100000 in
set_option maxHeartbeats 4000000 in
theorem spec_pfDisplaced (z0 z1 z2 : Int) (A : Option Addr) (n c : Nat) (X : Nat → Int) (w : World) (hn : n ≤ 1048576) (hr : IRow w A n X) :
    Calls Try.prog 74 #[.agg #[.int .i64 z0, .int .i64 z1, .int .i64 z2, .slice A n c]] w (BoolIs (DiV z0 z1 z2 n X) w) := by
  have S0 := Lib.hid (BX1.start (cs := #[.int .i64 z0, .int .i64 z1, .int .i64 z2, .slice A n c]) (t := 51) hr)
  clear hr
  have x0 := S0.out.box.cell 0 _ rfl
  have x1 := S0.out.box.cell 1 _ rfl
  have x2 := S0.out.box.cell 2 _ rfl
  have x3 := S0.out.box.cell 3 _ rfl
  by_cases h0 : 0 ≤ z0 ∧ z0 ≤ 9999
  rotate_left
  · have D0 := Lib.hid (decide_eq_false h0)
    have HN := Lib.hid (show ¬ (DiV z0 z1 z2 n X) from fun h => h0 h.1)
    clear h0
    go_enter Try.func74, Try.ntmps74
    go_wp2_with fail
    refine (l1In_of D0.out _).mono ?_; rintro e w1 ⟨rfl, rfl⟩
    go_wp2_with fail
    go_ret
    exact ⟨false, rfl, by simp only [Bool.false_eq_true, false_iff]; exact HN.out, S0.out.below⟩
  have D0 := Lib.hid (decide_eq_true h0)
  by_cases h1 : 1 ≤ z1 ∧ z1 ≤ 24
  rotate_left
  · have D1 := Lib.hid (decide_eq_false h1)
    have HN := Lib.hid (show ¬ (DiV z0 z1 z2 n X) from fun h => h1 h.2.1)
    clear h1
    go_enter Try.func74, Try.ntmps74
    go_wp2_with fail
    refine (l1In_of D0.out _).mono ?_; rintro e w1 ⟨rfl, rfl⟩
    go_wp2_with fail
    refine (l1In_of D1.out _).mono ?_; rintro e w1 ⟨rfl, rfl⟩
    go_wp2_with fail
    go_ret
    exact ⟨false, rfl, by simp only [Bool.false_eq_true, false_iff]; exact HN.out, S0.out.below⟩
  have D1 := Lib.hid (decide_eq_true h1)
  by_cases h2 : 1 ≤ z2 ∧ z2 ≤ 64
  rotate_left
  · have D2 := Lib.hid (decide_eq_false h2)
    have HN := Lib.hid (show ¬ (DiV z0 z1 z2 n X) from fun h => h2 h.2.2.1)
    clear h2
    go_enter Try.func74, Try.ntmps74
    go_wp2_with fail
    refine (l1In_of D0.out _).mono ?_; rintro e w1 ⟨rfl, rfl⟩
    go_wp2_with fail
    refine (l1In_of D1.out _).mono ?_; rintro e w1 ⟨rfl, rfl⟩
    go_wp2_with fail
    refine (l1In_of D2.out _).mono ?_; rintro e w1 ⟨rfl, rfl⟩
    go_wp2_with fail
    go_ret
    exact ⟨false, rfl, by simp only [Bool.false_eq_true, false_iff]; exact HN.out, S0.out.below⟩
  have D2 := Lib.hid (decide_eq_true h2)
  by_cases hc : (n : Int) = z1
  rotate_left
  · have d0 : ((n : Int) == z1) = false := by simpa using hc
    have HN := Lib.hid (show ¬ (DiV z0 z1 z2 n X) from fun h => hc h.2.2.2.1)
    clear hc
    go_enter Try.func74, Try.ntmps74
    go_wp2_with fail
    refine (l1In_of D0.out _).mono ?_; rintro e w1 ⟨rfl, rfl⟩
    go_wp2_with fail
    refine (l1In_of D1.out _).mono ?_; rintro e w1 ⟨rfl, rfl⟩
    go_wp2_with fail
    refine (l1In_of D2.out _).mono ?_; rintro e w1 ⟨rfl, rfl⟩
    go_wp2_with fail
    go_ret
    exact ⟨false, rfl, by simp only [Bool.false_eq_true, false_iff]; exact HN.out, S0.out.below⟩
  have d0 : ((n : Int) == z1) = true := by simpa using hc
  have HC := Lib.hid hc
  have HV := Lib.hid (show InAll n X 0 (999) ↔ DiV z0 z1 z2 n X from ⟨fun h => ⟨h0, h1, h2, hc, h⟩, fun h => h.2.2.2.2⟩)
  clear hc
  go_enter Try.func74, Try.ntmps74
  go_wp2_with fail
  refine (l1In_of D0.out _).mono ?_; rintro e w1 ⟨rfl, rfl⟩
  go_wp2_with fail
  refine (l1In_of D1.out _).mono ?_; rintro e w1 ⟨rfl, rfl⟩
  go_wp2_with fail
  refine (l1In_of D2.out _).mono ?_; rintro e w1 ⟨rfl, rfl⟩
  go_wp2_with fail
  refine (spec_l1AllG A n c X _ _ _ hn S0.out.row).mono ?_; rintro e w1 ⟨b, rfl, hb, k, rfl⟩
  have HB := Lib.hid hb
  have S1 := Lib.hid (S0.out.drewN k)
  clear hb
  go_wp2_with fail
  go_ret
  exact ⟨b, rfl, HB.out.trans HV.out, S1.out.below⟩
set_option maxRecDepth 100000 in
set_option maxHeartbeats 4000000 in
theorem impl_isValid_Displaced (z0 z1 z2 : Int) (A : Option Addr) (n c : Nat) (X : Nat → Int) (w : World) (hn : n ≤ 1048576) (hr : IRow w A n X) :
    Calls Try.prog 75 #[.agg #[.int .i64 z0, .int .i64 z1, .int .i64 z2, .slice A n c]] w (BoolIs (DiV z0 z1 z2 n X) w) := by
  have S0 := Lib.hid (BX1.start (cs := #[.int .i64 z0, .int .i64 z1, .int .i64 z2, .slice A n c]) (t := 51) hr)
  clear hr
  have x0 := S0.out.box.cell 0 _ rfl
  have x1 := S0.out.box.cell 1 _ rfl
  have x2 := S0.out.box.cell 2 _ rfl
  have x3 := S0.out.box.cell 3 _ rfl
  have HB := Lib.hid (fun W (h : IRow W A n X) => impl_areBelow A n c X (z1) (1000) W hn h)
  by_cases h0 : seedB z0 0 = true
  rotate_left
  · have E0 := Lib.hid (show seedB z0 0 = false by simpa using h0)
    have HN := Lib.hid (show ¬ (DiV z0 z1 z2 n X) from fun h => h0 (by unfold seedB; simp only [decide_eq_true_eq]; have := h.1; omega))
    go_enter Try.func75, Try.ntmps75
    go_wp2_with fail
    refine (impl_isHashNumber z0 0 _).mono ?_; rintro e w1 ⟨rfl, rfl⟩
    rw [E0.out]
    go_wp2_with fail
    go_ret
    exact ⟨false, rfl, by simp only [Bool.false_eq_true, false_iff]; exact HN.out, S0.out.below⟩
  have E0 := Lib.hid h0
  have H0 : 0 ≤ z0 ∧ z0 ≤ 9999 := by
    unfold seedB at h0; simp only [decide_eq_true_eq] at h0; omega
  by_cases g1a : 1 ≤ z1
  rotate_left
  · have y1a : decide ((1 : Int) ≤ z1) = false := by simpa using g1a
    have HN := Lib.hid (show ¬ (DiV z0 z1 z2 n X) from fun h => g1a h.2.1.1)
    go_enter Try.func75, Try.ntmps75
    go_wp2_with fail
    refine (impl_isHashNumber z0 0 _).mono ?_; rintro e w1 ⟨rfl, rfl⟩
    rw [E0.out]
    go_wp2_with fail
    go_ret
    exact ⟨false, rfl, by simp only [Bool.false_eq_true, false_iff]; exact HN.out, S0.out.below⟩
  have y1a : decide ((1 : Int) ≤ z1) = true := by simpa using g1a
  by_cases g1b : z1 ≤ 24
  rotate_left
  · have y1b : decide (z1 ≤ (24 : Int)) = false := by simpa using g1b
    have HN := Lib.hid (show ¬ (DiV z0 z1 z2 n X) from fun h => g1b h.2.1.2)
    go_enter Try.func75, Try.ntmps75
    go_wp2_with fail
    refine (impl_isHashNumber z0 0 _).mono ?_; rintro e w1 ⟨rfl, rfl⟩
    rw [E0.out]
    go_wp2_with fail
    go_ret
    exact ⟨false, rfl, by simp only [Bool.false_eq_true, false_iff]; exact HN.out, S0.out.below⟩
  have y1b : decide (z1 ≤ (24 : Int)) = true := by simpa using g1b
  by_cases g2a : 1 ≤ z2
  rotate_left
  · have y2a : decide ((1 : Int) ≤ z2) = false := by simpa using g2a
    have HN := Lib.hid (show ¬ (DiV z0 z1 z2 n X) from fun h => g2a h.2.2.1.1)
    go_enter Try.func75, Try.ntmps75
    go_wp2_with fail
    refine (impl_isHashNumber z0 0 _).mono ?_; rintro e w1 ⟨rfl, rfl⟩
    rw [E0.out]
    go_wp2_with fail
    go_ret
    exact ⟨false, rfl, by simp only [Bool.false_eq_true, false_iff]; exact HN.out, S0.out.below⟩
  have y2a : decide ((1 : Int) ≤ z2) = true := by simpa using g2a
  by_cases g2b : z2 ≤ 64
  rotate_left
  · have y2b : decide (z2 ≤ (64 : Int)) = false := by simpa using g2b
    have HN := Lib.hid (show ¬ (DiV z0 z1 z2 n X) from fun h => g2b h.2.2.1.2)
    go_enter Try.func75, Try.ntmps75
    go_wp2_with fail
    refine (impl_isHashNumber z0 0 _).mono ?_; rintro e w1 ⟨rfl, rfl⟩
    rw [E0.out]
    go_wp2_with fail
    go_ret
    exact ⟨false, rfl, by simp only [Bool.false_eq_true, false_iff]; exact HN.out, S0.out.below⟩
  have y2b : decide (z2 ≤ (64 : Int)) = true := by simpa using g2b
  have HV := Lib.hid (show ((n : Int) = z1 ∧ InAll n X 0 (1000 - 1)) ↔ DiV z0 z1 z2 n X from ⟨fun h => ⟨⟨by omega, by omega⟩, ⟨by omega, by omega⟩, ⟨by omega, by omega⟩, h.1, by have h2 := h.2; exact fun i hi => ⟨(h2 i hi).1, by have := (h2 i hi).2; omega⟩⟩, fun h => ⟨h.2.2.2.1, by have h2 := h.2.2.2.2; exact fun i hi => ⟨(h2 i hi).1, by have := (h2 i hi).2; omega⟩⟩⟩)
  go_enter Try.func75, Try.ntmps75
  go_wp2_with fail
  refine (impl_isHashNumber z0 0 _).mono ?_; rintro e w1 ⟨rfl, rfl⟩
  rw [E0.out]
  go_wp2_with fail
  refine (HB.out _ S0.out.row).mono ?_; rintro e w2 ⟨b, rfl, hbv, hq1⟩
  have S1 := Lib.hid (S0.out.step hq1)
  have HBV := Lib.hid (hbv.trans HV.out)
  clear hbv hq1
  go_wp2_with fail
  go_ret
  exact ⟨b, rfl, HBV.out, S1.out.below⟩
set_option maxRecDepth 100000 in
set_option maxHeartbeats 1000000 in
theorem spec_isDisplaced (z0 z1 z2 : Int) (A : Option Addr) (n c : Nat) (X : Nat → Int) (w : World) (hn : n ≤ 1048576) (hr : IRow w A n X) :
    Calls Try.prog 34 #[.agg #[.int .i64 z0, .int .i64 z1, .int .i64 z2, .slice A n c]] w (BoolIs (DiV z0 z1 z2 n X) w) := by
  have S0 := Lib.hid (BX1.start (cs := #[.int .i64 z0, .int .i64 z1, .int .i64 z2, .slice A n c]) (t := 51) hr)
  clear hr
  go_enter Try.func34, Try.ntmps34
  go_wp2_with fail
  refine (spec_pfDisplaced z0 z1 z2 A n c X _ hn S0.out.row).mono ?_; rintro e w1 ⟨b, rfl, hb, hw⟩
  have S1 := Lib.hid (S0.out.step hw)
  have HB := Lib.hid hb
  clear hw hb
  go_wp2_with fail
  go_ret
  exact ⟨b, rfl, HB.out, S1.out.below⟩
set_option maxRecDepth 100000 in
set_option maxHeartbeats 1000000 in
theorem impl_isDisplaced (z0 z1 z2 : Int) (A : Option Addr) (n c : Nat) (X : Nat → Int) (w : World) (hn : n ≤ 1048576) (hr : IRow w A n X) :
    Calls Try.prog 36 #[.agg #[.int .i64 z0, .int .i64 z1, .int .i64 z2, .slice A n c]] w (BoolIs (DiV z0 z1 z2 n X) w) := by
  have S0 := Lib.hid (BX1.start (cs := #[.int .i64 z0, .int .i64 z1, .int .i64 z2, .slice A n c]) (t := 51) hr)
  clear hr
  go_enter Try.func36, Try.ntmps36
  go_wp2_with fail
  refine (impl_isValid_Displaced z0 z1 z2 A n c X _ hn S0.out.row).mono ?_; rintro e w1 ⟨b, rfl, hb, hw⟩
  have S1 := Lib.hid (S0.out.step hw)
  have HB := Lib.hid hb
  clear hw hb
  go_wp2_with fail
  go_ret
  exact ⟨b, rfl, HB.out, S1.out.below⟩
def OrV (z0 z1 z2 : Int) (n : Nat) (X : Nat → Int) : Prop := (0 ≤ z0 ∧ z0 ≤ 9999) ∧ (1 ≤ z1 ∧ z1 ≤ 24) ∧ (1 ≤ z2 ∧ z2 ≤ 40) ∧ (n : Int) = 3 * z1 ∧ InAll n X 0 (z2 - 1)
set_option maxRecDepth 100000 in
set_option maxHeartbeats 4000000 in
theorem spec_pfOrdered (z0 z1 z2 : Int) (A : Option Addr) (n c : Nat) (X : Nat → Int) (w : World) (hn : n ≤ 1048576) (hr : IRow w A n X) :
    Calls Try.prog 77 #[.agg #[.int .i64 z0, .int .i64 z1, .int .i64 z2, .slice A n c]] w (BoolIs (OrV z0 z1 z2 n X) w) := by
  have S0 := Lib.hid (BX1.start (cs := #[.int .i64 z0, .int .i64 z1, .int .i64 z2, .slice A n c]) (t := 61) hr)
  clear hr
  have x0 := S0.out.box.cell 0 _ rfl
  have x1 := S0.out.box.cell 1 _ rfl
  have x2 := S0.out.box.cell 2 _ rfl
  have x3 := S0.out.box.cell 3 _ rfl
  by_cases h0 : 0 ≤ z0 ∧ z0 ≤ 9999
  rotate_left
  · have D0 := Lib.hid (decide_eq_false h0)
    have HN := Lib.hid (show ¬ (OrV z0 z1 z2 n X) from fun h => h0 h.1)
    clear h0
    go_enter Try.func77, Try.ntmps77
    go_wp2_with fail
    refine (l1In_of D0.out _).mono ?_; rintro e w1 ⟨rfl, rfl⟩
    go_wp2_with fail
    go_ret
    exact ⟨false, rfl, by simp only [Bool.false_eq_true, false_iff]; exact HN.out, S0.out.below⟩
  have D0 := Lib.hid (decide_eq_true h0)
  by_cases h1 : 1 ≤ z1 ∧ z1 ≤ 24
  rotate_left
  · have D1 := Lib.hid (decide_eq_false h1)
    have HN := Lib.hid (show ¬ (OrV z0 z1 z2 n X) from fun h => h1 h.2.1)
    clear h1
    go_enter Try.func77, Try.ntmps77
    go_wp2_with fail
    refine (l1In_of D0.out _).mono ?_; rintro e w1 ⟨rfl, rfl⟩
    go_wp2_with fail
    refine (l1In_of D1.out _).mono ?_; rintro e w1 ⟨rfl, rfl⟩
    go_wp2_with fail
    go_ret
    exact ⟨false, rfl, by simp only [Bool.false_eq_true, false_iff]; exact HN.out, S0.out.below⟩
  have D1 := Lib.hid (decide_eq_true h1)
  by_cases h2 : 1 ≤ z2 ∧ z2 ≤ 40
  rotate_left
  · have D2 := Lib.hid (decide_eq_false h2)
    have HN := Lib.hid (show ¬ (OrV z0 z1 z2 n X) from fun h => h2 h.2.2.1)
    clear h2
    go_enter Try.func77, Try.ntmps77
    go_wp2_with fail
    refine (l1In_of D0.out _).mono ?_; rintro e w1 ⟨rfl, rfl⟩
    go_wp2_with fail
    refine (l1In_of D1.out _).mono ?_; rintro e w1 ⟨rfl, rfl⟩
    go_wp2_with fail
    refine (l1In_of D2.out _).mono ?_; rintro e w1 ⟨rfl, rfl⟩
    go_wp2_with fail
    go_ret
    exact ⟨false, rfl, by simp only [Bool.false_eq_true, false_iff]; exact HN.out, S0.out.below⟩
  have D2 := Lib.hid (decide_eq_true h2)
  have e1 : IntKind.i64.wrap ((3 : Int) * z1) = 3 * z1 := IntWalk.i64_in _ (by omega)
  have e2 : IntKind.i64.wrap (z2 - (1 : Int)) = z2 - 1 := IntWalk.i64_in _ (by omega)
  by_cases hc : (n : Int) = 3 * z1
  rotate_left
  · have d0 : ((n : Int) == 3 * z1) = false := by simpa using hc
    have HN := Lib.hid (show ¬ (OrV z0 z1 z2 n X) from fun h => hc h.2.2.2.1)
    clear hc
    go_enter Try.func77, Try.ntmps77
    go_wp2_with fail
    refine (l1In_of D0.out _).mono ?_; rintro e w1 ⟨rfl, rfl⟩
    go_wp2_with fail
    refine (l1In_of D1.out _).mono ?_; rintro e w1 ⟨rfl, rfl⟩
    go_wp2_with fail
    refine (l1In_of D2.out _).mono ?_; rintro e w1 ⟨rfl, rfl⟩
    go_wp2_with fail
    go_ret
    exact ⟨false, rfl, by simp only [Bool.false_eq_true, false_iff]; exact HN.out, S0.out.below⟩
  have d0 : ((n : Int) == 3 * z1) = true := by simpa using hc
  have HC := Lib.hid hc
  have HV := Lib.hid (show InAll n X 0 (z2 - 1) ↔ OrV z0 z1 z2 n X from ⟨fun h => ⟨h0, h1, h2, hc, h⟩, fun h => h.2.2.2.2⟩)
  clear hc
  go_enter Try.func77, Try.ntmps77
  go_wp2_with fail
  refine (l1In_of D0.out _).mono ?_; rintro e w1 ⟨rfl, rfl⟩
  go_wp2_with fail
  refine (l1In_of D1.out _).mono ?_; rintro e w1 ⟨rfl, rfl⟩
  go_wp2_with fail
  refine (l1In_of D2.out _).mono ?_; rintro e w1 ⟨rfl, rfl⟩
  go_wp2_with fail
  refine (spec_l1AllG A n c X _ _ _ hn S0.out.row).mono ?_; rintro e w1 ⟨b, rfl, hb, k, rfl⟩
  have HB := Lib.hid hb
  have S1 := Lib.hid (S0.out.drewN k)
  clear hb
  go_wp2_with fail
  go_ret
  exact ⟨b, rfl, HB.out.trans HV.out, S1.out.below⟩
set_option maxRecDepth 100000 in
set_option maxHeartbeats 4000000 in
theorem impl_isValid_Ordered (z0 z1 z2 : Int) (A : Option Addr) (n c : Nat) (X : Nat → Int) (w : World) (hn : n ≤ 1048576) (hr : IRow w A n X) :
    Calls Try.prog 78 #[.agg #[.int .i64 z0, .int .i64 z1, .int .i64 z2, .slice A n c]] w (BoolIs (OrV z0 z1 z2 n X) w) := by
  have S0 := Lib.hid (BX1.start (cs := #[.int .i64 z0, .int .i64 z1, .int .i64 z2, .slice A n c]) (t := 61) hr)
  clear hr
  have x0 := S0.out.box.cell 0 _ rfl
  have x1 := S0.out.box.cell 1 _ rfl
  have x2 := S0.out.box.cell 2 _ rfl
  have x3 := S0.out.box.cell 3 _ rfl
  have HB := Lib.hid (fun W (h : IRow W A n X) => impl_areBelow A n c X (3 * z1) (z2) W hn h)
  by_cases h0 : heB z0 z1 = true
  rotate_left
  · have E0 := Lib.hid (show heB z0 z1 = false by simpa using h0)
    have HN := Lib.hid (show ¬ (OrV z0 z1 z2 n X) from fun h => h0 (by unfold heB seedB; simp only [Bool.and_eq_true, decide_eq_true_eq]; have := h.1; have := h.2.1; omega))
    go_enter Try.func78, Try.ntmps78
    go_wp2_with fail
    refine (impl_hasEdges z0 z1 _).mono ?_; rintro e w1 ⟨rfl, rfl⟩
    rw [E0.out]
    go_wp2_with fail
    go_ret
    exact ⟨false, rfl, by simp only [Bool.false_eq_true, false_iff]; exact HN.out, S0.out.below⟩
  have E0 := Lib.hid h0
  have H0 : (0 ≤ z0 ∧ z0 ≤ 9999) ∧ 1 ≤ z1 ∧ z1 ≤ 24 := by
    unfold heB seedB at h0; simp only [Bool.and_eq_true, decide_eq_true_eq] at h0; omega
  by_cases g2a : 1 ≤ z2
  rotate_left
  · have y2a : decide ((1 : Int) ≤ z2) = false := by simpa using g2a
    have HN := Lib.hid (show ¬ (OrV z0 z1 z2 n X) from fun h => g2a h.2.2.1.1)
    go_enter Try.func78, Try.ntmps78
    go_wp2_with fail
    refine (impl_hasEdges z0 z1 _).mono ?_; rintro e w1 ⟨rfl, rfl⟩
    rw [E0.out]
    go_wp2_with fail
    go_ret
    exact ⟨false, rfl, by simp only [Bool.false_eq_true, false_iff]; exact HN.out, S0.out.below⟩
  have y2a : decide ((1 : Int) ≤ z2) = true := by simpa using g2a
  by_cases g2b : z2 ≤ 40
  rotate_left
  · have y2b : decide (z2 ≤ (40 : Int)) = false := by simpa using g2b
    have HN := Lib.hid (show ¬ (OrV z0 z1 z2 n X) from fun h => g2b h.2.2.1.2)
    go_enter Try.func78, Try.ntmps78
    go_wp2_with fail
    refine (impl_hasEdges z0 z1 _).mono ?_; rintro e w1 ⟨rfl, rfl⟩
    rw [E0.out]
    go_wp2_with fail
    go_ret
    exact ⟨false, rfl, by simp only [Bool.false_eq_true, false_iff]; exact HN.out, S0.out.below⟩
  have y2b : decide (z2 ≤ (40 : Int)) = true := by simpa using g2b
  have e1 : IntKind.i64.wrap ((3 : Int) * z1) = 3 * z1 := IntWalk.i64_in _ (by omega)
  have HV := Lib.hid (show ((n : Int) = 3 * z1 ∧ InAll n X 0 (z2 - 1)) ↔ OrV z0 z1 z2 n X from ⟨fun h => ⟨⟨by omega, by omega⟩, ⟨by omega, by omega⟩, ⟨by omega, by omega⟩, h.1, by have h2 := h.2; exact h2⟩, fun h => ⟨h.2.2.2.1, by have h2 := h.2.2.2.2; exact h2⟩⟩)
  go_enter Try.func78, Try.ntmps78
  go_wp2_with fail
  refine (impl_hasEdges z0 z1 _).mono ?_; rintro e w1 ⟨rfl, rfl⟩
  rw [E0.out]
  go_wp2_with fail
  refine (HB.out _ S0.out.row).mono ?_; rintro e w2 ⟨b, rfl, hbv, hq1⟩
  have S1 := Lib.hid (S0.out.step hq1)
  have HBV := Lib.hid (hbv.trans HV.out)
  clear hbv hq1
  go_wp2_with fail
  go_ret
  exact ⟨b, rfl, HBV.out, S1.out.below⟩
set_option maxRecDepth 100000 in
set_option maxHeartbeats 1000000 in
theorem spec_isOrdered (z0 z1 z2 : Int) (A : Option Addr) (n c : Nat) (X : Nat → Int) (w : World) (hn : n ≤ 1048576) (hr : IRow w A n X) :
    Calls Try.prog 41 #[.agg #[.int .i64 z0, .int .i64 z1, .int .i64 z2, .slice A n c]] w (BoolIs (OrV z0 z1 z2 n X) w) := by
  have S0 := Lib.hid (BX1.start (cs := #[.int .i64 z0, .int .i64 z1, .int .i64 z2, .slice A n c]) (t := 61) hr)
  clear hr
  go_enter Try.func41, Try.ntmps41
  go_wp2_with fail
  refine (spec_pfOrdered z0 z1 z2 A n c X _ hn S0.out.row).mono ?_; rintro e w1 ⟨b, rfl, hb, hw⟩
  have S1 := Lib.hid (S0.out.step hw)
  have HB := Lib.hid hb
  clear hw hb
  go_wp2_with fail
  go_ret
  exact ⟨b, rfl, HB.out, S1.out.below⟩
set_option maxRecDepth 100000 in
set_option maxHeartbeats 1000000 in
theorem impl_isOrdered (z0 z1 z2 : Int) (A : Option Addr) (n c : Nat) (X : Nat → Int) (w : World) (hn : n ≤ 1048576) (hr : IRow w A n X) :
    Calls Try.prog 43 #[.agg #[.int .i64 z0, .int .i64 z1, .int .i64 z2, .slice A n c]] w (BoolIs (OrV z0 z1 z2 n X) w) := by
  have S0 := Lib.hid (BX1.start (cs := #[.int .i64 z0, .int .i64 z1, .int .i64 z2, .slice A n c]) (t := 61) hr)
  clear hr
  go_enter Try.func43, Try.ntmps43
  go_wp2_with fail
  refine (impl_isValid_Ordered z0 z1 z2 A n c X _ hn S0.out.row).mono ?_; rintro e w1 ⟨b, rfl, hb, hw⟩
  have S1 := Lib.hid (S0.out.step hw)
  have HB := Lib.hid hb
  clear hw hb
  go_wp2_with fail
  go_ret
  exact ⟨b, rfl, HB.out, S1.out.below⟩
end Go.Proofs.Ytfhanighnckbhab
