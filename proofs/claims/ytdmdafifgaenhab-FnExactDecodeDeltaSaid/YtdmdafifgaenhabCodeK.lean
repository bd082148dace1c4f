/- The program's codes of one number. -/
import Derived.Test.YtdmdafifgaenhabCodeJ
import Derived.Test.YtdmdafifgaenhabLenS
namespace Go.Proofs.Ytdmdafifgaenhab
open Go.RowKit

theorem fld_tail (n l i : Nat) : fldB (n - 2 ^ l) l i = tailB n l i := rfl
/-- splitDigits. -/
def SplitIs (n l m : Nat) (w : World) (e : Ending) (w' : World) : Prop :=
  ∃ A c, e = .returned (.tuple #[.int .i64 l, .agg #[.int .i64 l, .slice A m c], .bool true]) ∧ OVec w' w.heap.size A m (fun i => (wordsOf (tailB n l) i : Int)) ∧ Below w.heap.size w w'
/-- Two vectors in one list. -/
def two {α : Type} (a b : α) (k : Nat) : α := if k = 0 then a else b
theorem cat_two (a b : Nat) (f g : Nat → Bool) : catB (two a b) (two f g) 2 = fun i => if i < a then f i else g (i - a) := by
  funext i
  simp only [catB, catS, two]
  by_cases c : i < a
  · simp [c]
  · simp [c]
theorem catS_two (a b : Nat) : catS (two a b) 2 = a + b := by simp [catS, two]
theorem fld_one (l : Nat) : fldB (2 ^ l) (l + 1) = fun i => decide (i = l) := by
  funext i
  unfold fldB
  rw [Nat.testBit_two_pow]
  by_cases c : i = l
  · subst c; simp
  · have : ¬ l = i := fun h => c h.symm
    simp [c, this]
theorem gam_cat (n l : Nat) : catB (two (l + 1) l) (two (fldB (2 ^ l) (l + 1)) (tailB n l)) 2 = gamB n l := by
  rw [cat_two]
  funext i
  unfold gamB
  rw [fld_one]
theorem crow_two {w : World} {a b : Nat} {f g : Nat → Bool} {A B : Option Addr} {c d : Nat} (h1 : IRow w A ((a + 15) / 16) (fun i => (wordsOf f i : Int))) (h2 : IRow w B ((b + 15) / 16) (fun i => (wordsOf g i : Int))) (t : TypeId) :
    CRow (w.alloc (.cells #[.int .i64 a, .slice A ((a + 15) / 16) c, .int .i64 b, .slice B ((b + 15) / 16) d] t)) (some ⟨w.heap.size, 0, none⟩) 2 (two a b) (two f g) := fun _ => by
  have hb := (Below.refl w.heap.size w).alloc (Nat.le_refl _) (.cells #[.int .i64 a, .slice A ((a + 15) / 16) c, .int .i64 b, .slice B ((b + 15) / 16) d] t)
  refine ⟨w.heap.size, 0, rfl, by simp, fun k hk => ?_⟩
  have hk2 : k = 0 ∨ k = 1 := by omega
  rcases hk2 with rfl | rfl
  · exact ⟨A, c, by simp [go_sem, two], by simp [go_sem, two], by simpa [two] using h1.b hb⟩
  · exact ⟨B, d, by simp [go_sem, two], by simp [go_sem, two], by simpa [two] using h2.b hb⟩

theorem kept_box {wi : World} {base q p : Nat} {u0 u1 : Value} {t : TypeId} (h : NBX base q #[u0, u1] t wi) (hne : q ≠ p) (v0 v1 : Value) :
    ((wi.setCell ⟨p, 0, none⟩ v0).setCell ⟨p, 1, none⟩ v1).cell? ⟨q, 0, none⟩ = some u0 ∧ ((wi.setCell ⟨p, 0, none⟩ v0).setCell ⟨p, 1, none⟩ v1).cell? ⟨q, 1, none⟩ = some u1 := by
  have ho := (only_set wi p 0 v0).trans (only_set _ p 1 v1)
  have h2 := nbx_far h ho (by omega)
  exact ⟨h2.cell 0 _ rfl, h2.cell 1 _ rfl⟩
theorem del_cat (n l k : Nat) : catB (two (2 * k + 1) l) (two (gamB (l + 1) k) (tailB n l)) 2 = delB n l k := by
  rw [cat_two]
  funext i
  unfold delB
  rfl
end Go.Proofs.Ytdmdafifgaenhab
