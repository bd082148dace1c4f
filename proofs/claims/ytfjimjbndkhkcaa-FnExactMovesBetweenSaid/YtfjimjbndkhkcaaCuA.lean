/- The two cells of a key: both sides. -/
import Derived.Test.YtfjimjbndkhkcaaColl
namespace Go.Proofs.Ytfjimjbndkhkcaa
open Go.RowKit

def sizeB (z P : Int) : Bool := decide (0 ≤ z ∧ z ≤ 9999 ∧ 1 ≤ P ∧ P ≤ 64)
theorem sizeB_out {z P : Int} (h : sizeB z P = true) : 0 ≤ z ∧ z ≤ 9999 ∧ 1 ≤ P ∧ P ≤ 64 := by simpa [sizeB] using h
theorem sizeB_seed {z P : Int} (h : sizeB z P = true) : seedB z 0 = true ∧ seedB z 1 = true := by
  have := sizeB_out h
  unfold seedB; simp; omega
/-- The cells of a string, as numbers. -/
def celF (z : Int) (x : List UInt8) (P : Int) (i : Nat) : Int := placeI z (if i = 0 then 0 else 1) x P
theorem celF_bd {z : Int} {x : List UInt8} {P : Nat} (i : Nat) (h : 1 ≤ P) : ∃ q : Nat, celF z x P i = (q : Int) ∧ q < P := by
  obtain ⟨h0, h1⟩ := placeI_bd z (if i = 0 then 0 else 1) x P (by omega)
  exact ⟨(celF z x P i).toNat, (Int.toNat_of_nonneg h0).symm, by unfold celF; omega⟩
/-- The world behind a call that makes the two cells. -/
def celW (z : Int) (x : List UInt8) (P : Int) (w : World) : World := w.alloc (.cells #[.int .i64 (placeI z 0 x P), .int .i64 (placeI z 1 x P)] 3)
def celV (w : World) : Value := .slice (some ⟨w.heap.size, 0, none⟩) 2 2
theorem celW_row (z : Int) (x : List UInt8) (P : Int) (w : World) : IRow (celW z x P w) (some ⟨w.heap.size, 0, none⟩) 2 (celF z x P) := fun _ => ⟨w.heap.size, 0, rfl, by simp [celW], fun k hk => by
  have h := (boxed w #[.int .i64 (placeI z 0 x P), .int .i64 (placeI z 1 x P)] 3).now k
  have e : k = 0 ∨ k = 1 := by omega
  rw [Nat.zero_add]
  rcases e with rfl | rfl
  · exact h _ rfl
  · exact h _ rfl⟩
theorem celW_below (z : Int) (x : List UInt8) (P : Int) (w : World) : Below w.heap.size w (celW z x P w) := (Below.refl _ _).alloc (Nat.le_refl _) _
def CelIs (z : Int) (x : List UInt8) (P : Int) (w : World) (e : Ending) (w' : World) : Prop := e = .returned (celV w) ∧ w' = celW z x P w
theorem impl_hasCells (z P : Int) (w : World) : Calls Try.prog 56 #[.int .i64 z, .int .i64 P] w fun e w' => e = .returned (.bool (sizeB z P)) ∧ w = w' := by
  cases hs : seedB z 0 with
  | false =>
    have hz : sizeB z P = false := by
      unfold sizeB; unfold seedB at hs; simp at hs ⊢; omega
    go_enter Try.func56, Try.ntmps56
    go_wp2_with fail
    refine (impl_isHashNumber z 0 _).mono ?_; rintro e w' ⟨rfl, rfl⟩
    rw [hs]
    go_wp2_with fail
    go_ret
    exact ⟨by rw [hz]; rfl, rfl⟩
  | true =>
    have hb := seedB_out hs
    have hz := Lib.hid (show sizeB z P = decide (1 ≤ P ∧ P ≤ 64) by unfold sizeB; exact decide_eq_decide.2 (by omega))
    by_cases h1 : 1 ≤ P <;> by_cases h2 : P ≤ 64
    all_goals
      go_enter Try.func56, Try.ntmps56
      go_wp2_with fail
      refine (impl_isHashNumber z 0 _).mono ?_; rintro e w' ⟨rfl, rfl⟩
      rw [hs]
      (go_wp2_with fail) <;> (go_ret; exact ⟨ret_bool (by rw [hz.out]; simp [*]), rfl⟩)
theorem spec_cuSize (z P : Int) (w : World) : Calls Try.prog 53 #[.int .i64 z, .int .i64 P] w fun e w' => e = .returned (.bool (sizeB z P)) ∧ w = w' := by
  by_cases h1 : 0 ≤ z ∧ z ≤ 9999
  · go_enter Try.func53, Try.ntmps53
    go_wp2_with fail
    refine (l1In_yes _ _ _ _ h1.1 h1.2).mono ?_; rintro e w' ⟨rfl, rfl⟩
    go_wp2_with fail
    refine (l1In_any _ _ _ _).mono ?_; rintro e w' ⟨rfl, rfl⟩
    go_wp2_with fail
    go_ret
    exact ⟨ret_bool (by simp [sizeB, h1]), rfl⟩
  · go_enter Try.func53, Try.ntmps53
    go_wp2_with fail
    refine (l1In_no _ _ _ _ h1).mono ?_; rintro e w' ⟨rfl, rfl⟩
    go_wp2_with fail
    go_ret
    exact ⟨ret_bool (by simp [sizeB]; omega), rfl⟩
theorem impl_cellsOf (z P : Int) (s : ByteArray) (w : World) (hs : s.size ≤ maxLen) (h : sizeB z P = true) : Calls Try.prog 58 #[.int .i64 z, .string s, .int .i64 P] w (CelIs z s.data.toList P w) := by
  obtain ⟨h0, h1⟩ := sizeB_seed h
  obtain ⟨_, _, p1, p2⟩ := sizeB_out h
  go_enter Try.func58, Try.ntmps58
  go_wp2_with fail
  refine (impl_placeKey z 0 P s _ hs h0 (by omega) (by omega)).mono ?_; rintro e w' ⟨rfl, rfl⟩
  go_wp2_with fail
  refine (impl_placeKey z 1 P s _ hs h1 (by omega) (by omega)).mono ?_; rintro e w' ⟨rfl, rfl⟩
  go_wp2_with fail
  go_ret
  exact ⟨rfl, rfl⟩
theorem spec_cuCells (z P : Int) (s : ByteArray) (w : World) (hs : s.size ≤ maxLen) (h : sizeB z P = true) : Calls Try.prog 55 #[.int .i64 z, .string s, .int .i64 P] w (CelIs z s.data.toList P w) := by
  obtain ⟨h0, h1⟩ := sizeB_seed h
  obtain ⟨_, _, p1, p2⟩ := sizeB_out h
  go_enter Try.func55, Try.ntmps55
  go_wp2_with fail
  refine (spec_biPlace z 0 P s _ hs h0 (by omega) (by omega)).mono ?_; rintro e w' ⟨rfl, rfl⟩
  go_wp2_with fail
  refine (spec_biPlace z 1 P s _ hs h1 (by omega) (by omega)).mono ?_; rintro e w' ⟨rfl, rfl⟩
  go_wp2_with fail
  go_ret
  exact ⟨rfl, rfl⟩
/-- What CellsOf answers. -/
def celR (z : Int) (x : List UInt8) (P : Int) : Int × Int × Bool := if sizeB z P = true ∧ isKeyB x = true then (placeI z 0 x P, placeI z 1 x P, true) else (0, 0, false)
def CellsIs (z : Int) (x : List UInt8) (P : Int) (w : World) (e : Ending) (w' : World) : Prop := e = .returned (.tuple #[.int .i64 (celR z x P).1, .int .i64 (celR z x P).2.1, .bool (celR z x P).2.2]) ∧ Below w.heap.size w w'
set_option maxHeartbeats 1000000 in
theorem impl_cells (z P : Int) (s : ByteArray) (w : World) (hs : s.size ≤ maxLen) : Calls Try.prog 16 #[.int .i64 z, .string s, .int .i64 P] w (CellsIs z s.data.toList P w) := by
  cases h1 : sizeB z P with
  | false =>
    have hR := Lib.hid (show celR z s.data.toList P = (0, 0, false) by simp [celR, h1])
    go_enter Try.func16, Try.ntmps16
    go_wp2_with fail
    refine (impl_hasCells z P _).mono ?_; rintro e w' ⟨rfl, rfl⟩
    rw [h1]
    go_wp2_with fail
    go_ret3
    exact ⟨by rw [hR.out]; rfl, Below.refl _ _⟩
  | true =>
    cases h2 : isKeyB s.data.toList with
    | false =>
      have hR := Lib.hid (show celR z s.data.toList P = (0, 0, false) by simp [celR, h2])
      go_enter Try.func16, Try.ntmps16
      go_wp2_with fail
      refine (impl_hasCells z P _).mono ?_; rintro e w' ⟨rfl, rfl⟩
      rw [h1]
      go_wp2_with fail
      refine (impl_isKey s _ hs).mono ?_; rintro e w' ⟨rfl, rfl⟩
      rw [h2]
      go_wp2_with fail
      go_ret3
      exact ⟨by rw [hR.out]; rfl, Below.refl _ _⟩
    | true =>
      have hR := Lib.hid (show celR z s.data.toList P = (placeI z 0 s.data.toList P, placeI z 1 s.data.toList P, true) by simp [celR, h1, h2])
      obtain ⟨b, off, hA, _, hc⟩ := celW_row z s.data.toList P w (by omega)
      injection hA with hA; injection hA with e1 e2
      subst e1 e2
      have c0 := hc 0 (by omega)
      have c1 := hc 1 (by omega)
      unfold celF at c0 c1
      simp only [if_true, Nat.one_ne_zero, if_false, Nat.add_zero, Nat.zero_add] at c0 c1
      have HB := Lib.hid (celW_below z s.data.toList P w)
      clear hc
      go_enter Try.func16, Try.ntmps16
      go_wp2_with fail
      refine (impl_hasCells z P _).mono ?_; rintro e w' ⟨rfl, rfl⟩
      rw [h1]
      go_wp2_with fail
      refine (impl_isKey s _ hs).mono ?_; rintro e w' ⟨rfl, rfl⟩
      rw [h2]
      go_wp2_with fail
      refine (impl_cellsOf z P s _ hs h1).mono ?_; rintro e w' ⟨rfl, rfl⟩
      unfold celV
      generalize celW z s.data.toList P w = w2 at *
      go_wp2_with fail
      go_quiet (fail)
      go_wp2_with fail
      go_ret3
      exact ⟨by rw [hR.out]; rfl, below_drewN HB.out _⟩
set_option maxHeartbeats 1000000 in
theorem spec_cells (z P : Int) (s : ByteArray) (w : World) (hs : s.size ≤ maxLen) : Calls Try.prog 15 #[.int .i64 z, .string s, .int .i64 P] w (CellsIs z s.data.toList P w) := by
  cases h1 : sizeB z P with
  | false =>
    have hR := Lib.hid (show celR z s.data.toList P = (0, 0, false) by simp [celR, h1])
    go_enter Try.func15, Try.ntmps15
    go_wp2_with fail
    refine (spec_cuSize z P _).mono ?_; rintro e w' ⟨rfl, rfl⟩
    rw [h1]
    go_wp2_with fail
    go_ret3
    exact ⟨by rw [hR.out]; rfl, Below.refl _ _⟩
  | true =>
    cases h2 : isKeyB s.data.toList with
    | false =>
      have hR := Lib.hid (show celR z s.data.toList P = (0, 0, false) by simp [celR, h2])
      go_enter Try.func15, Try.ntmps15
      go_wp2_with fail
      refine (spec_cuSize z P _).mono ?_; rintro e w' ⟨rfl, rfl⟩
      rw [h1]
      go_wp2_with fail
      refine (spec_isKey s _ hs).mono ?_; rintro e w' ⟨rfl, rfl⟩
      rw [h2]
      go_wp2_with fail
      go_ret3
      exact ⟨by rw [hR.out]; rfl, Below.refl _ _⟩
    | true =>
      have hR := Lib.hid (show celR z s.data.toList P = (placeI z 0 s.data.toList P, placeI z 1 s.data.toList P, true) by simp [celR, h1, h2])
      obtain ⟨b, off, hA, _, hc⟩ := celW_row z s.data.toList P w (by omega)
      injection hA with hA; injection hA with e1 e2
      subst e1 e2
      have c0 := hc 0 (by omega)
      have c1 := hc 1 (by omega)
      unfold celF at c0 c1
      simp only [if_true, Nat.one_ne_zero, if_false, Nat.add_zero, Nat.zero_add] at c0 c1
      have HB := Lib.hid (celW_below z s.data.toList P w)
      clear hc
      go_enter Try.func15, Try.ntmps15
      go_wp2_with fail
      refine (spec_cuSize z P _).mono ?_; rintro e w' ⟨rfl, rfl⟩
      rw [h1]
      go_wp2_with fail
      refine (spec_isKey s _ hs).mono ?_; rintro e w' ⟨rfl, rfl⟩
      rw [h2]
      go_wp2_with fail
      refine (spec_cuCells z P s _ hs h1).mono ?_; rintro e w' ⟨rfl, rfl⟩
      unfold celV
      generalize celW z s.data.toList P w = w2 at *
      go_wp2_with fail
      go_quiet (fail)
      go_wp2_with fail
      go_ret3
      exact ⟨by rw [hR.out]; rfl, below_drewN HB.out _⟩
end Go.Proofs.Ytfjimjbndkhkcaa
