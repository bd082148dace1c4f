/- CutBits: the program's and the model's. -/
import Derived.Test.YtdmdafifgaenhabPutF
import Derived.Test.YtdmdafifgaenhabCount
namespace Go.Proofs.Ytdmdafifgaenhab
open Go.RowKit

def cutF (X : Nat → Int) (a u : Nat) (i : Nat) : Bool := decide (i < u - a) && bitN (fun i => (X i).toNat) (a + i)
theorem cut_word (X : Nat → Int) (a u i : Nat) : fieldN (fun i => (X i).toNat) (a + 16 * i) (min 16 (u - a - 16 * i)) = wordsOf (cutF X a u) i := by
  apply Nat.eq_of_testBit_eq
  intro j
  rw [fieldN_bit, wordsOf, ofB_bit]
  unfold cutF
  by_cases c : j < 16
  · by_cases c2 : 16 * i + j < u - a
    · have c3 : j < min 16 (u - a - 16 * i) := by omega
      simp only [c, c2, c3, decide_true, Bool.true_and, Nat.add_assoc]
    · have c3 : ¬ j < min 16 (u - a - 16 * i) := by omega
      simp only [c, c2, c3, decide_true, decide_false, Bool.true_and, Bool.false_and]
  · have c3 : ¬ j < min 16 (u - a - 16 * i) := by omega
    simp only [c, c3, decide_false, Bool.false_and]

theorem BRow.cut {w : World} {A : Option Addr} {n cap : Nat} {F : Nat → Bool} (h : BRow w A n F) {a u : Nat} (ha : a ≤ u) (hu : u ≤ n) (hc : n ≤ cap) :
    BRow w (if cap = a then A else A.map (·.add a)) (u - a) (fun i => F (a + i)) := fun hn => by
  obtain ⟨b, off, rfl, hlt, hcell⟩ := h (by omega)
  rw [if_neg (by omega)]
  refine ⟨b, off + a, by simp [addr_add], hlt, fun k hk => ?_⟩
  rw [Nat.add_assoc]; exact hcell (a + k) (by omega)

theorem LS.put {w wi : World} {b B g o : Nat} {z : Int} {A : Option Addr} {n c : Nat} {X : Nat → Int} (h : LS w b z A n c X wi) (hr : IRow w A n X) (hw : w.heap.size ≤ B) (hb : b < B) (hg : B ≤ g) (v : Value) : LS w b z A n c X (wi.setCell ⟨g, o, none⟩ v) := by
  have h2 : Below B wi (wi.setCell ⟨g, o, none⟩ v) := below_setAt (Below.refl _ _) hg v
  have h3 := h.below.trans (h2.mono hw)
  exact ⟨h3, hr.below h3 (Nat.le_refl _), Nat.lt_of_lt_of_le h.box.1 h2.size, (h2.cell (p := ⟨b, 0, none⟩) hb).trans h.box.2.1, (h2.cell (p := ⟨b, 1, none⟩) hb).trans h.box.2.2⟩

end Go.Proofs.Ytdmdafifgaenhab
