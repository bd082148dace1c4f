/- LoadsOf: the program's and the model's. -/
import Derived.Test.YtffdkfhnlgfigaaKeyRow
namespace Go.Proofs.Ytffdkfhnlgfigaa
open Go.RowKit

def plF (seed part : Int) (S : Nat → ByteArray) (P : Int) (i : Nat) : Int := placeI seed part (S i).data.toList P
theorem plF_bd (seed part : Int) (S : Nat → ByteArray) (P : Nat) (i : Nat) (h : 1 ≤ P) : ∃ q : Nat, plF seed part S P i = (q : Int) ∧ q < P := by
  obtain ⟨h0, h1⟩ := placeI_bd seed part (S i).data.toList P (by omega)
  exact ⟨(plF seed part S P i).toNat, (Int.toNat_of_nonneg h0).symm, by unfold plF; omega⟩
def cnt (F : Nat → Int) : Nat → Nat → Int
  | 0, _ => 0
  | k + 1, p => cnt F k p + (if F k = p then 1 else 0)
theorem cnt_bd (F : Nat → Int) (k p : Nat) : 0 ≤ cnt F k p ∧ cnt F k p ≤ k := by
  induction k with
  | zero => simp [cnt]
  | succ k ih => simp only [cnt]; split <;> omega
def LoadsOk (seed part : Int) (S : Nat → ByteArray) (n : Nat) (P : Int) : Prop := seedB seed part = true ∧ keysB S n = true ∧ 1 ≤ P ∧ P ≤ 64
/-- A slice of ints of the call's own and a word whether it is one. -/
def RowIs (m : Nat) (Y : Nat → Int) (b : Bool) (w : World) (e : Ending) (w' : World) : Prop :=
  ∃ A c, e = .returned (.tuple #[.slice A m c, .bool b]) ∧ Ow w.heap.size w'.heap.size 3 A m (intV Y) w' ∧ Below w.heap.size w w'

def NoRow (w : World) (e : Ending) (w' : World) : Prop := e = .returned (.tuple #[.slice none 0 0, .bool false]) ∧ w = w'
theorem RowIs.post {m : Nat} {Y : Nat → Int} {b : Bool} {w : World} (e : Ending) (w' : World) (h : RowIs m Y b w e w') :
    ∃ A c, e = .returned (.tuple #[.slice A m c, .bool b]) ∧ Ow w.heap.size w'.heap.size 3 A m (intV Y) w' ∧ Below w.heap.size w w' := h
theorem RowIs.read {m : Nat} {Y : Nat → Int} {b : Bool} {w : World} (e : Ending) (w' : World) (h : RowIs m Y b w e w') :
    ∃ A c, e = .returned (.tuple #[.slice A m c, .bool b]) ∧ GRow w' A m (intV Y) ∧ Below w.heap.size w w' := by
  obtain ⟨A, c, he, ho, hb⟩ := h
  exact ⟨A, c, he, ho.rd.row (Nat.le_refl _), hb⟩
theorem NoRow.is {w : World} (e : Ending) (w' : World) (h : NoRow w e w') : RowIs 0 (fun _ => 0) false w e w' := by
  obtain ⟨he, rfl⟩ := h
  exact ⟨none, 0, he, ow_zero _ _ _ _ _ _, Below.refl _ _⟩
end Go.Proofs.Ytffdkfhnlgfigaa
