/- The two cells of a key: both sides. -/
import Derived.Test.YtffdkfhnlgfigaaColl
namespace Go.Proofs.Ytffdkfhnlgfigaa
open Go.RowKit

def sizeB (z P : Int) : Bool := decide (0 ≤ z ∧ z ≤ 9999 ∧ 1 ≤ P ∧ P ≤ 64)
theorem sizeB_out {z P : Int} (h : sizeB z P = true) : 0 ≤ z ∧ z ≤ 9999 ∧ 1 ≤ P ∧ P ≤ 64 := by simpa [sizeB] using h
theorem sizeB_seed {z P : Int} (h : sizeB z P = true) : seedB z 0 = true ∧ seedB z 1 = true := by
  have := sizeB_out h
  unfold seedB; simp; omega
/-- The cells of a string, as numbers. -/
def celF (z : Int) (x : List UInt8) (P : Int) (i : Nat) : Int := placeI z (if i = 0 then 0 else 1) x P
theorem celF_bd {z : Int} {x : List UInt8} {P : Nat} (i : Nat) (h : 1 ≤ P) : ∃ q : Nat, celF z x P i = (q : Int) ∧ q < P := by
  obtain ⟨h0, h1⟩ := placeI_bd z (if i = 0 then 0 else 1) x P (by omega)
  exact ⟨(celF z x P i).toNat, (Int.toNat_of_nonneg h0).symm, by unfold celF; omega⟩
/-- The world behind a call that makes the two cells. -/
def celW (z : Int) (x : List UInt8) (P : Int) (w : World) : World := w.alloc (.cells #[.int .i64 (placeI z 0 x P), .int .i64 (placeI z 1 x P)] 3)
def celV (w : World) : Value := .slice (some ⟨w.heap.size, 0, none⟩) 2 2
theorem celW_row (z : Int) (x : List UInt8) (P : Int) (w : World) : IRow (celW z x P w) (some ⟨w.heap.size, 0, none⟩) 2 (celF z x P) := fun _ => ⟨w.heap.size, 0, rfl, by simp [celW], fun k hk => by
  have h := (boxed w #[.int .i64 (placeI z 0 x P), .int .i64 (placeI z 1 x P)] 3).now k
  have e : k = 0 ∨ k = 1 := by omega
  rw [Nat.zero_add]
  rcases e with rfl | rfl
  · exact h _ rfl
  · exact h _ rfl⟩
theorem celW_below (z : Int) (x : List UInt8) (P : Int) (w : World) : Below w.heap.size w (celW z x P w) := (Below.refl _ _).alloc (Nat.le_refl _) _
def CelIs (z : Int) (x : List UInt8) (P : Int) (w : World) (e : Ending) (w' : World) : Prop := e = .returned (celV w) ∧ w' = celW z x P w
theorem impl_hasCells (z P : Int) (w : World) : Calls Try.prog 114 #[.int .i64 z, .int .i64 P] w fun e w' => e = .returned (.bool (sizeB z P)) ∧ w = w' := by
  cases hs : seedB z 0 with
  | false =>
    have hz : sizeB z P = false := by
      unfold sizeB; unfold seedB at hs; simp at hs ⊢; omega
    go_enter Try.func114, Try.ntmps114
    go_wp2_with fail
    refine (impl_isHashNumber z 0 _).mono ?_; rintro e w' ⟨rfl, rfl⟩
    rw [hs]
    go_wp2_with fail
    go_ret
    exact ⟨by rw [hz]; rfl, rfl⟩
  | true =>
    have hb := seedB_out hs
    have hz := Lib.hid (show sizeB z P = decide (1 ≤ P ∧ P ≤ 64) by unfold sizeB; exact decide_eq_decide.2 (by omega))
    by_cases h1 : 1 ≤ P <;> by_cases h2 : P ≤ 64
    all_goals
      go_enter Try.func114, Try.ntmps114
      go_wp2_with fail
      refine (impl_isHashNumber z 0 _).mono ?_; rintro e w' ⟨rfl, rfl⟩
      rw [hs]
      (go_wp2_with fail) <;> (go_ret; exact ⟨ret_bool (by rw [hz.out]; simp [*]), rfl⟩)
theorem spec_cuSize (z P : Int) (w : World) : Calls Try.prog 111 #[.int .i64 z, .int .i64 P] w fun e w' => e = .returned (.bool (sizeB z P)) ∧ w = w' := by
  by_cases h1 : 0 ≤ z ∧ z ≤ 9999
  · go_enter Try.func111, Try.ntmps111
    go_wp2_with fail
    refine (l1In_yes _ _ _ _ h1.1 h1.2).mono ?_; rintro e w' ⟨rfl, rfl⟩
    go_wp2_with fail
    refine (l1In_any _ _ _ _).mono ?_; rintro e w' ⟨rfl, rfl⟩
    go_wp2_with fail
    go_ret
    exact ⟨ret_bool (by simp [sizeB, h1]), rfl⟩
  · go_enter Try.func111, Try.ntmps111
    go_wp2_with fail
    refine (l1In_no _ _ _ _ h1).mono ?_; rintro e w' ⟨rfl, rfl⟩
    go_wp2_with fail
    go_ret
    exact ⟨ret_bool (by simp [sizeB]; omega), rfl⟩
theorem impl_cellsOf (z P : Int) (s : ByteArray) (w : World) (hs : s.size ≤ maxLen) (h : sizeB z P = true) : Calls Try.prog 116 #[.int .i64 z, .string s, .int .i64 P] w (CelIs z s.data.toList P w) := by
  obtain ⟨h0, h1⟩ := sizeB_seed h
  obtain ⟨_, _, p1, p2⟩ := sizeB_out h
  go_enter Try.func116, Try.ntmps116
  go_wp2_with fail
  refine (impl_placeKey z 0 P s _ hs h0 (by omega) (by omega)).mono ?_; rintro e w' ⟨rfl, rfl⟩
  go_wp2_with fail
  refine (impl_placeKey z 1 P s _ hs h1 (by omega) (by omega)).mono ?_; rintro e w' ⟨rfl, rfl⟩
  go_wp2_with fail
  go_ret
  exact ⟨rfl, rfl⟩
theorem spec_cuCells (z P : Int) (s : ByteArray) (w : World) (hs : s.size ≤ maxLen) (h : sizeB z P = true) : Calls Try.prog 113 #[.int .i64 z, .string s, .int .i64 P] w (CelIs z s.data.toList P w) := by
  obtain ⟨h0, h1⟩ := sizeB_seed h
  obtain ⟨_, _, p1, p2⟩ := sizeB_out h
  go_enter Try.func113, Try.ntmps113
  go_wp2_with fail
  refine (spec_biPlace z 0 P s _ hs h0 (by omega) (by omega)).mono ?_; rintro e w' ⟨rfl, rfl⟩
  go_wp2_with fail
  refine (spec_biPlace z 1 P s _ hs h1 (by omega) (by omega)).mono ?_; rintro e w' ⟨rfl, rfl⟩
  go_wp2_with fail
  go_ret
  exact ⟨rfl, rfl⟩
/-- What CellsOf answers. -/
def celR (z : Int) (x : List UInt8) (P : Int) : Int × Int × Bool := if sizeB z P = true ∧ isKeyB x = true then (placeI z 0 x P, placeI z 1 x P, true) else (0, 0, false)
def CellsIs (z : Int) (x : List UInt8) (P : Int) (w : World) (e : Ending) (w' : World) : Prop := e = .returned (.tuple #[.int .i64 (celR z x P).1, .int .i64 (celR z x P).2.1, .bool (celR z x P).2.2]) ∧ Below w.heap.size w w'
end Go.Proofs.Ytffdkfhnlgfigaa
