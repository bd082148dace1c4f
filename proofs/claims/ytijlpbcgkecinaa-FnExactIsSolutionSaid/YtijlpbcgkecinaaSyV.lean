/- Which systems are valid: both sides, whatever the argument. -/
import Derived.Test.YtijlpbcgkecinaaObjSy
import Derived.Test.YtijlpbcgkecinaaRead
import Derived.Test.YtijlpbcgkecinaaIdxF
namespace Go.Proofs.Ytijlpbcgkecinaa
open Go.RowKit

def SyV (z : Int) (n : Nat) (V : Nat → BV) (m : Nat) : Prop := (1 ≤ z ∧ z ≤ 72) ∧ n ≤ 40 ∧ m = n ∧ ∀ i, i < n → (V i).z = z ∧ Good (V i).z (V i).l (V i).x
/-- A System in a box. -/
structure SX (w : World) (z : Int) (A : Option Addr) (n c : Nat) (V : Nat → BV) (B : Nat → Option Addr) (d : Nat → Nat) (A2 : Option Addr) (m c2 : Nat) (R : Nat → Bool) (wi : World) : Prop where
  below : Below w.heap.size w wi
  box : NBX w.heap.size w.heap.size #[.int .i64 z, .slice A n c, .slice A2 m c2] 30 wi
  row : VR wi A n V B d
  right : GRow wi A2 m (boolV R)
section
variable {w wi wj : World} {z : Int} {A A2 : Option Addr} {n c m c2 : Nat} {V : Nat → BV} {B : Nat → Option Addr} {d : Nat → Nat} {R : Nat → Bool}
theorem SX.step (h : SX w z A n c V B d A2 m c2 R wi) (hb : Below wi.heap.size wi wj) : SX w z A n c V B d A2 m c2 R wj := ⟨h.below.trans (hb.mono h.below.size), h.box.b hb, h.row.b hb, h.right.b hb⟩
theorem SX.al (h : SX w z A n c V B d A2 m c2 R wi) (o : Obj) : SX w z A n c V B d A2 m c2 R (wi.alloc o) := h.step ((Below.refl _ _).alloc (Nat.le_refl _) _)
theorem SX.drewN (h : SX w z A n c V B d A2 m c2 R wi) (k : Nat) : SX w z A n c V B d A2 m c2 R (wi.drewN k) := h.step (below_drewN (Below.refl _ _) _)
theorem SX.drew (h : SX w z A n c V B d A2 m c2 R wi) : SX w z A n c V B d A2 m c2 R wi.drew := h.step (Below.drew (Below.refl _ _))
theorem SX.start (h : VR w A n V B d) (hr : GRow w A2 m (boolV R)) : SX w z A n c V B d A2 m c2 R (w.alloc (.cells #[.int .i64 z, .slice A n c, .slice A2 m c2] 30)) :=
  ⟨(Below.refl _ _).alloc (Nat.le_refl _) _, nbx0 w _ _, h.al _, hr.al _⟩
theorem SyV.len (h : SyV z n V m) : ∀ i, i < n → (V i).l ≤ 5 := fun i hi => by
  have h1 := h.2.2.2 i hi
  have h2 := h1.2.2.2.1
  have := h.1
  omega
theorem sumV_len {V : Nat → BV} {n : Nat} (h : n + sumV V n ≤ 1048576) : ∀ i, i < n → (V i).l ≤ 1048576 := fun i hi => by
  have := sumV_at V hi
  omega
theorem bool_fact (Q : Prop) : ∃ b : Bool, b = true ↔ Q := by
  by_cases h : Q
  · exact ⟨true, by simp [h]⟩
  · exact ⟨false, by simp [h]⟩
theorem bool_fix {b b' : Bool} {Q : Prop} (h : b = true ↔ Q) (h' : b' = true ↔ Q) : b = b' := by cases b <;> cases b' <;> simp_all

set_option maxRecDepth 100000 in
set_option maxHeartbeats 4000000 in
theorem impl_isSystem {b : Bool} (hb : b = true ↔ SyV z n V m) (hn : n + sumV V n ≤ 1048576) (hm : m ≤ 1048576) (hr : VR w A n V B d) (hq : GRow w A2 m (boolV R)) :
    Calls Try.prog 15 #[.agg #[.int .i64 z, .slice A n c, .slice A2 m c2]] w fun e w' => e = .returned (.bool b) ∧ Below w.heap.size w w' := by
  have S0 := Lib.hid (SX.start (z := z) (c := c) (c2 := c2) hr hq)
  have HL := Lib.hid (sumV_len hn)
  have HB := Lib.hid hb
  clear hr hq hb
  have x0 := S0.out.box.cell 0 _ rfl
  have x1 := S0.out.box.cell 1 _ rfl
  have x2 := S0.out.box.cell 2 _ rfl
  by_cases h1 : z < 1
  · have d1 : decide (z < 1) = true := by simpa using h1
    obtain rfl : b = false := bool_fix HB.out (by simp only [Bool.false_eq_true, false_iff]; exact fun h => by have := h.1; omega)
    go_enter Try.func15, Try.ntmps15
    go_wp2_with fail
    go_ret
    exact ⟨rfl, S0.out.below⟩
  have d1 : decide (z < 1) = false := by simpa using h1
  by_cases h2 : 72 < z
  · have d2 : decide (72 < z) = true := by simpa using h2
    obtain rfl : b = false := bool_fix HB.out (by simp only [Bool.false_eq_true, false_iff]; exact fun h => by have := h.1; omega)
    go_enter Try.func15, Try.ntmps15
    go_wp2_with fail
    go_ret
    exact ⟨rfl, S0.out.below⟩
  have d2 : decide (72 < z) = false := by simpa using h2
  by_cases h3 : (40 : Int) < n
  · have d3 : decide ((40 : Int) < n) = true := by simpa using h3
    have d3' : decide (40 < n) = true := by simp; omega
    obtain rfl : b = false := bool_fix HB.out (by simp only [Bool.false_eq_true, false_iff]; exact fun h => by have := h.2.1; omega)
    go_enter Try.func15, Try.ntmps15
    go_wp2_with fail
    go_ret
    exact ⟨rfl, S0.out.below⟩
  have d3 : decide ((40 : Int) < n) = false := by simpa using h3
  have d3' : decide (40 < n) = false := by simp; omega
  by_cases h4 : m = n
  rotate_left
  · have d4 : ((m : Int) != (n : Int)) = true := by simp; omega
    have d4' : (m != n) = true := by simp; omega
    obtain rfl : b = false := bool_fix HB.out (by simp only [Bool.false_eq_true, false_iff]; exact fun h => by have := h.2.2.1; omega)
    go_enter Try.func15, Try.ntmps15
    go_wp2_with fail
    go_ret
    exact ⟨rfl, S0.out.below⟩
  obtain rfl : n = m := h4.symm
  go_enter Try.func15, Try.ntmps15
  go_wp2_with fail
  go_loopw [31] (fun i wr => ∃ k : Nat, k ≤ n ∧ i = .int .i64 k ∧ Hid (∀ i, i < k → (V i).z = z ∧ Good (V i).z (V i).l (V i).x) ∧ Hid (SX w z A n c V B d A2 n c2 R wr)) (fun i _ => n - (intOf i).toNat)
  case atStart => exact ⟨0, Nat.zero_le _, rfl, Lib.hid (fun i hi => absurd hi (by omega)), S0⟩
  case round =>
    obtain ⟨k, hk, rfl, HI, HS⟩ := hrel
    by_cases hlt : k < n
    · obtain ⟨b1, o1, rfl, _, hc⟩ := HS.out.row.1 (by omega)
      have y0 := hc (k * 2) (by omega)
      have y1 := hc (k * 2 + 1) (by omega)
      rw [← Nat.add_assoc] at y1
      rw [bsV_0] at y0
      rw [bsV_1] at y1
      have hlk := HL.out k hlt
      have S1 := Lib.hid (HS.out.al (.cells #[.int .i64 (V k).z, .slice (B k) (V k).l (d k)] 55))
      have s0 := HS.out.box.cell 0 _ rfl
      have s1 := S1.out.box.cell 0 _ rfl
      clear hc
      by_cases hz : (V k).z = z
      · have e0 : ((V k).z != z) = false := by simp [hz]
        have HZ := Lib.hid hz
        clear hz
        go_wp2_with fail
        refine (impl_isBits (V k).z (B k) (V k).l (d k) (V k).x _ hlk (S1.out.row.2 k hlt)).mono ?_; rintro e w2 ⟨b2, rfl, hb2, hw⟩
        have S2 := Lib.hid (S1.out.step hw)
        have HG := Lib.hid hb2
        clear hw hb2 y0 y1
        cases b2
        · go_wp2_with fail
          go_ret
          exact ⟨by rw [bool_fix HB.out (show false = true ↔ _ by simp only [Bool.false_eq_true, false_iff]; exact fun h => by have := HG.out.2 (h.2.2.2 k hlt).2; simp at this)]; rfl, S2.out.below⟩
        · have HG2 := Lib.hid (HG.out.1 rfl)
          clear HG
          go_wp2_with fail
          go_roundw
          case rel => exact ⟨k + 1, by omega, by go_num, Lib.hid (fun i hi => by
            by_cases e : i = k
            · subst e; exact ⟨HZ.out, HG2.out⟩
            · exact HI.out i (by omega)), S2⟩
          case measure => simp [intOf]; omega
      · have e0 : ((V k).z != z) = true := by simp [hz]
        have HZ := Lib.hid hz
        clear hz
        go_wp2_with fail
        go_ret
        exact ⟨by rw [bool_fix HB.out (show false = true ↔ _ by simp only [Bool.false_eq_true, false_iff]; exact fun h => HZ.out (h.2.2.2 k hlt).1)]; rfl, S1.out.below⟩
    · obtain rfl : k = n := by omega
      go_wp2_with fail
      go_ret
      exact ⟨by rw [bool_fix HB.out (show true = true ↔ _ by simp only [true_iff]; exact ⟨⟨by omega, by omega⟩, by omega, rfl, HI.out⟩)]; rfl, HS.out.below⟩
set_option maxRecDepth 100000 in
set_option maxHeartbeats 4000000 in
theorem spec_reGood {b : Bool} (hb : b = true ↔ SyV z n V m) (hn : n + sumV V n ≤ 1048576) (hm : m ≤ 1048576) (hr : VR w A n V B d) (hq : GRow w A2 m (boolV R)) :
    Calls Try.prog 56 #[.agg #[.int .i64 z, .slice A n c, .slice A2 m c2]] w fun e w' => e = .returned (.bool b) ∧ Below w.heap.size w w' := by
  have S0 := Lib.hid (SX.start (z := z) (c := c) (c2 := c2) hr hq)
  have HL := Lib.hid (sumV_len hn)
  have HB := Lib.hid hb
  clear hr hq hb
  have x0 := S0.out.box.cell 0 _ rfl
  have x1 := S0.out.box.cell 1 _ rfl
  have x2 := S0.out.box.cell 2 _ rfl
  by_cases h1 : 1 ≤ z ∧ z ≤ 72
  rotate_left
  · have D1 := Lib.hid (decide_eq_false h1)
    obtain rfl : b = false := bool_fix HB.out (by simp only [Bool.false_eq_true, false_iff]; exact fun h => h1 h.1)
    clear h1
    go_enter Try.func56, Try.ntmps56
    go_wp2_with fail
    refine (l1In_of D1.out _).mono ?_; rintro e w1 ⟨rfl, rfl⟩
    go_wp2_with fail
    go_ret
    exact ⟨rfl, S0.out.below⟩
  have D1 := Lib.hid (decide_eq_true h1)
  have H1 := Lib.hid h1
  clear h1
  by_cases h3 : (40 : Int) < n
  · have d3 : decide ((40 : Int) < n) = true := by simpa using h3
    have d3' : decide (40 < n) = true := by simp; omega
    obtain rfl : b = false := bool_fix HB.out (by simp only [Bool.false_eq_true, false_iff]; exact fun h => by have := h.2.1; omega)
    go_enter Try.func56, Try.ntmps56
    go_wp2_with fail
    refine (l1In_of D1.out _).mono ?_; rintro e w1 ⟨rfl, rfl⟩
    go_wp2_with fail
    go_ret
    exact ⟨rfl, S0.out.below⟩
  have d3 : decide ((40 : Int) < n) = false := by simpa using h3
  have d3' : decide (40 < n) = false := by simp; omega
  by_cases h4 : m = n
  rotate_left
  · have d4 : ((m : Int) != (n : Int)) = true := by simp; omega
    have d4' : (m != n) = true := by simp; omega
    obtain rfl : b = false := bool_fix HB.out (by simp only [Bool.false_eq_true, false_iff]; exact fun h => by have := h.2.2.1; omega)
    go_enter Try.func56, Try.ntmps56
    go_wp2_with fail
    refine (l1In_of D1.out _).mono ?_; rintro e w1 ⟨rfl, rfl⟩
    go_wp2_with fail
    go_ret
    exact ⟨rfl, S0.out.below⟩
  obtain rfl : n = m := h4.symm
  go_enter Try.func56, Try.ntmps56
  go_wp2_with fail
  refine (l1In_of D1.out _).mono ?_; rintro e w1 ⟨rfl, rfl⟩
  go_wp2_with fail
  go_loopw [27] (fun i wr => ∃ k : Nat, k ≤ n ∧ i = .int .i64 k ∧ Hid (∀ i, i < k → (V i).z = z ∧ Good (V i).z (V i).l (V i).x) ∧ Hid (SX w z A n c V B d A2 n c2 R wr)) (fun i _ => n - (intOf i).toNat)
  case atStart => exact ⟨0, Nat.zero_le _, rfl, Lib.hid (fun i hi => absurd hi (by omega)), S0⟩
  case round =>
    obtain ⟨k, hk, rfl, HI, HS⟩ := hrel
    by_cases hlt : k < n
    · obtain ⟨b1, o1, rfl, _, hc⟩ := HS.out.row.1 (by omega)
      have y0 := hc (k * 2) (by omega)
      have y1 := hc (k * 2 + 1) (by omega)
      rw [← Nat.add_assoc] at y1
      rw [bsV_0] at y0
      rw [bsV_1] at y1
      have hlk := HL.out k hlt
      have hbx := (boxed wr #[.int .i64 (V k).z, .slice (B k) (V k).l (d k)] 55)
      have S1 := Lib.hid (HS.out.al (.cells #[.int .i64 (V k).z, .slice (B k) (V k).l (d k)] 55))
      have BX := Lib.hid hbx
      clear hc hbx
      go_wp2_with fail
      refine (spec_biGood (V k).z (B k) (V k).l (d k) (V k).x _ hlk (S1.out.row.2 k hlt)).mono ?_; rintro e w2 ⟨b2, rfl, hb2, hw⟩
      have S2 := Lib.hid (S1.out.step hw)
      have c0 := (BX.out.b hw).now 0 _ rfl
      have s0 := S2.out.box.cell 0 _ rfl
      have HG := Lib.hid hb2
      clear hw hb2 y0 y1
      cases b2
      · go_wp2_with fail
        go_ret
        exact ⟨by rw [bool_fix HB.out (show false = true ↔ _ by simp only [Bool.false_eq_true, false_iff]; exact fun h => by have := HG.out.2 (h.2.2.2 k hlt).2; simp at this)]; rfl, S2.out.below⟩
      · have HG2 := Lib.hid (HG.out.1 rfl)
        clear HG
        by_cases hz : (V k).z = z
        · have e0 : ((V k).z != z) = false := by simp [hz]
          have HZ := Lib.hid hz
          clear hz
          go_wp2_with fail
          go_roundw
          case rel => exact ⟨k + 1, by omega, by go_num, Lib.hid (fun i hi => by
            by_cases e : i = k
            · subst e; exact ⟨HZ.out, HG2.out⟩
            · exact HI.out i (by omega)), S2⟩
          case measure => simp [intOf]; omega
        · have e0 : ((V k).z != z) = true := by simp [hz]
          have HZ := Lib.hid hz
          clear hz
          go_wp2_with fail
          go_ret
          exact ⟨by rw [bool_fix HB.out (show false = true ↔ _ by simp only [Bool.false_eq_true, false_iff]; exact fun h => HZ.out (h.2.2.2 k hlt).1)]; rfl, S2.out.below⟩
    · obtain rfl : k = n := by omega
      go_wp2_with fail
      go_ret
      exact ⟨by rw [bool_fix HB.out (show true = true ↔ _ by simp only [true_iff]; exact ⟨H1.out, by omega, rfl, HI.out⟩)]; rfl, HS.out.below⟩
set_option maxRecDepth 100000 in
set_option maxHeartbeats 1000000 in
theorem spec_isSystem {b : Bool} (hb : b = true ↔ SyV z n V m) (hn : n + sumV V n ≤ 1048576) (hm : m ≤ 1048576) (hr : VR w A n V B d) (hq : GRow w A2 m (boolV R)) :
    Calls Try.prog 13 #[.agg #[.int .i64 z, .slice A n c, .slice A2 m c2]] w fun e w' => e = .returned (.bool b) ∧ Below w.heap.size w w' := by
  have S0 := Lib.hid (SX.start (z := z) (c := c) (c2 := c2) hr hq)
  clear hr hq
  go_enter Try.func13, Try.ntmps13
  go_wp2_with fail
  refine (spec_reGood hb hn hm S0.out.row S0.out.right).mono ?_; rintro e w1 ⟨rfl, hw⟩
  have S1 := Lib.hid (S0.out.step hw)
  clear hw
  go_wp2_with fail
  go_ret
  exact ⟨rfl, S1.out.below⟩
end
end Go.Proofs.Ytijlpbcgkecinaa
