/- JoinBits: the program's and the model's. -/
import Derived.Test.YtockhjdhihehlaaXor
import Derived.Test.YtockhjdhihehlaaApp
namespace Go.Proofs.Ytockhjdhihehlaa
open Go.RowKit

def JoinOk (z y : Int) (n m : Nat) (X Y : Nat → Int) : Prop := Good z n X ∧ Good y m Y ∧ z + y ≤ 4096
def joinF (X Y : Nat → Int) (z y : Nat) (i : Nat) : Bool := decide (i < z + y) && (if i < z then bitN (fun i => (X i).toNat) i else bitN (fun i => (Y i).toNat) (i - z))
/-- The words behind k words of the second vector. -/
def JoinSt (X Y : Nat → Int) (z y M k : Nat) (W1 : Nat → Nat) : Prop :=
  (∀ i, i < M → W1 i < 65536) ∧ ∀ i, i < 16 * M → bitN W1 i = if i < z then bitN (fun i => (X i).toNat) i else (decide (i < z + min (16 * k) y) && bitN (fun i => (Y i).toNat) (i - z))
section
variable {X Y : Nat → Int} {z y n m M k : Nat}
theorem JoinSt.start (hg : Good z n X) : JoinSt X Y z y M 0 (fun i => if i < n then (X i).toNat else 0) := by
  refine ⟨fun i hi => ?_, fun i hi => ?_⟩
  · by_cases c : i < n
    · simp only [c, if_true]; have := hg.2.2.2 i c; have := cap_le z i; omega
    · simp only [c, if_false]; omega
  · have e : bitN (fun i => if i < n then (X i).toNat else 0) i = (decide (i < 16 * n) && bitN (fun i => (X i).toNat) i) := by
      unfold bitN
      by_cases c : i / 16 < n
      · have : i < 16 * n := by omega
        simp [c, this]
      · have : ¬ i < 16 * n := by omega
        simp [c, this]
    rw [e]
    by_cases c : i < z
    · have : i < 16 * n := by have := hg.2.2.1; omega
      simp [c, this]
    · rw [if_neg c]
      have c2 : ¬ i < z + min (16 * 0) y := by omega
      simp only [c2, decide_false, Bool.false_and]
      by_cases c3 : i < 16 * n
      · rw [good_high hg (by omega) c3]; simp
      · simp [c3]
theorem JoinSt.step {W1 W2 : Nat → Nat} {P : Nat} (h : JoinSt X Y z y M k W1) (hP : P = min 16 (y - 16 * k)) (hp : PutSt W1 M (z + 16 * k) (Y k).toNat (z + 16 * k + P) W2) : JoinSt X Y z y M (k + 1) W2 := by
  refine ⟨hp.1, fun i hi => ?_⟩
  rw [hp.2 i hi]
  by_cases c : z + 16 * k ≤ i ∧ i < z + 16 * k + P
  · rw [if_pos c, if_neg (by omega)]
    have c2 : i < z + min (16 * (k + 1)) y := by omega
    simp only [c2, decide_true, Bool.true_and]
    unfold bitN
    rw [show (i - z) / 16 = k by omega, show (i - z) % 16 = i - (z + 16 * k) by omega]
  · rw [if_neg c, h.2 i hi]
    by_cases c2 : i < z
    · rw [if_pos c2, if_pos c2]
    · rw [if_neg c2, if_neg c2]
      rw [show decide (i < z + min (16 * k) y) = decide (i < z + min (16 * (k + 1)) y) from decide_eq_decide.2 (by omega)]
theorem JoinSt.words {W1 : Nat → Nat} (h : JoinSt X Y z y M k W1) (hk : y ≤ 16 * k) : ∀ i, i < M → W1 i = wordsOf (joinF X Y z y) i :=
  words_eq h.1 (fun i hi => by
    rw [h.2 i hi]; unfold joinF
    by_cases c : i < z
    · have : i < z + y := by omega
      simp [c, this]
    · simp only [c, if_false]; rw [Nat.min_eq_right hk])
end
theorem RB.put {w wi wj : World} {b B : Nat} (h : RB w b wi) (hb : Below B wi wj) (hw : w.heap.size ≤ B) (hB : b < B) : RB w b wj := h.low hb hw hB

theorem TS.cells {w wi : World} {b0 b1 : Nat} {z y : Int} {A B : Option Addr} {n c m d : Nat} {X Y : Nat → Int} (h : TS w b0 b1 z A n c X y B m d Y wi) :
    wi.cell? ⟨b0, 0, none⟩ = some (.int .i64 z) ∧ wi.cell? ⟨b0, 1, none⟩ = some (.slice A n c) ∧ wi.cell? ⟨b1, 0, none⟩ = some (.int .i64 y) ∧ wi.cell? ⟨b1, 1, none⟩ = some (.slice B m d) := ⟨h.box0.2.1, h.box0.2.2, h.box1.2.1, h.box1.2.2⟩
theorem TS.kept2 {w wi : World} {z y : Int} {A B : Option Addr} {n c m d : Nat} {X Y : Nat → Int} (h : TS w w.heap.size (w.heap.size + 1) z A n c X y B m d Y wi) (u v : Value) :
    ((wi.setCell ⟨w.heap.size + 1 + 1, 0, none⟩ u).setCell ⟨w.heap.size + 1 + 1, 1, none⟩ v).cell? ⟨w.heap.size, 0, none⟩ = some (.int .i64 z) ∧ ((wi.setCell ⟨w.heap.size + 1 + 1, 0, none⟩ u).setCell ⟨w.heap.size + 1 + 1, 1, none⟩ v).cell? ⟨w.heap.size, 1, none⟩ = some (.slice A n c) ∧
    ((wi.setCell ⟨w.heap.size + 1 + 1, 0, none⟩ u).setCell ⟨w.heap.size + 1 + 1, 1, none⟩ v).cell? ⟨w.heap.size + 1, 0, none⟩ = some (.int .i64 y) ∧ ((wi.setCell ⟨w.heap.size + 1 + 1, 0, none⟩ u).setCell ⟨w.heap.size + 1 + 1, 1, none⟩ v).cell? ⟨w.heap.size + 1, 1, none⟩ = some (.slice B m d) := by
  have hb : Below (w.heap.size + 1 + 1) wi ((wi.setCell ⟨w.heap.size + 1 + 1, 0, none⟩ u).setCell ⟨w.heap.size + 1 + 1, 1, none⟩ v) := below_setAt (below_setAt (Below.refl _ _) (Nat.le_refl _) _) (Nat.le_refl _) _
  exact ⟨(hb.cell (p := ⟨w.heap.size, 0, none⟩) (show w.heap.size < w.heap.size + 1 + 1 by omega)).trans h.box0.2.1, (hb.cell (p := ⟨w.heap.size, 1, none⟩) (show w.heap.size < w.heap.size + 1 + 1 by omega)).trans h.box0.2.2,
    (hb.cell (p := ⟨w.heap.size + 1, 0, none⟩) (show w.heap.size + 1 < w.heap.size + 1 + 1 by omega)).trans h.box1.2.1, (hb.cell (p := ⟨w.heap.size + 1, 1, none⟩) (show w.heap.size + 1 < w.heap.size + 1 + 1 by omega)).trans h.box1.2.2⟩
theorem brow_cat {w : World} {B z y c : Nat} {A : Option Addr} {F G : Nat → Bool} (h : w.ownsRow B 4 1 (.slice A (z + y) c) (z + y) (vals (catV (fun i => .bool (F i)) (fun i => .bool (G i)) z) (z + y))) : BRow w A (z + y) (fun i => if i < z then F i else G (i - z)) :=
  (GVec.row (owned_vec h)).congr (G := fun i => .bool (if i < z then F i else G (i - z))) (fun i _ => by unfold catV; split <;> rfl)
end Go.Proofs.Ytockhjdhihehlaa
