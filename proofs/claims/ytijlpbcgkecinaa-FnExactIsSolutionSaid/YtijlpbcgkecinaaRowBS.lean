/- Rows of bit vectors, two cells an element: what lies where. -/
import Derived.Test.YtijlpbcgkecinaaRowSS
namespace Go.Proofs.Ytijlpbcgkecinaa
open Go.RowKit

/-- A bit vector: its size, how many words it has, its words. -/
structure BV where
  z : Int
  l : Nat
  x : Nat → Int
def bsV (V : Nat → BV) (B : Nat → Option Addr) (d : Nat → Nat) (k : Nat) : Value := if k % 2 = 0 then .int .i64 (V (k / 2)).z else .slice (B (k / 2)) (V (k / 2)).l (d (k / 2))
theorem bsV_0 (V : Nat → BV) (B : Nat → Option Addr) (d : Nat → Nat) (k : Nat) : bsV V B d (k * 2) = .int .i64 (V k).z := by
  unfold bsV; rw [if_pos (by omega), show k * 2 / 2 = k by omega]
theorem bsV_1 (V : Nat → BV) (B : Nat → Option Addr) (d : Nat → Nat) (k : Nat) : bsV V B d (k * 2 + 1) = .slice (B k) (V k).l (d k) := by
  unfold bsV; rw [if_neg (by omega), show (k * 2 + 1) / 2 = k by omega]
/-- All words of the first n. -/
def sumV (V : Nat → BV) (n : Nat) : Nat := sumL (fun i => (V i).l) n
theorem sumV_succ (V : Nat → BV) (k : Nat) : sumV V (k + 1) = sumV V k + (V k).l := rfl
theorem sumV_at (V : Nat → BV) {k n : Nat} (h : k < n) : sumV V k + (V k).l ≤ sumV V n := sumL_at _ h

/-- Slice A holds n bit vectors V i, whose words lie at B i. -/
def VR (w : World) (A : Option Addr) (n : Nat) (V : Nat → BV) (B : Nat → Option Addr) (d : Nat → Nat) : Prop := GRow w A (n * 2) (bsV V B d) ∧ ∀ i, i < n → IRow w (B i) (V i).l (V i).x
def VRow (w : World) (A : Option Addr) (n : Nat) (V : Nat → BV) : Prop := ∃ B d, VR w A n V B d
def RdV (hi : Nat) (A : Option Addr) (n : Nat) (V : Nat → BV) (w : World) : Prop :=
  ∃ B d, Rd hi A (n * 2) (bsV V B d) w ∧ ∀ i, i < n → Rd hi (B i) (V i).l (intV (V i).x) w
def OwV (lo hi : Nat) (A : Option Addr) (n : Nat) (V : Nat → BV) (w : World) : Prop :=
  ∃ B d, Ow lo hi 55 A (n * 2) (bsV V B d) w ∧ (∀ i, i < n → Ow lo hi 3 (B i) (V i).l (intV (V i).x) w) ∧ ∀ i j, i < j → j < n → Apart (V i).l (B i) (V j).l (B j)
section
variable {w w' : World} {lo hi n : Nat} {A : Option Addr} {B : Nat → Option Addr} {d : Nat → Nat} {V : Nat → BV}
theorem VR.b (h : VR w A n V B d) (hb : Below w.heap.size w w') : VR w' A n V B d := ⟨h.1.b hb, fun i hi => (h.2 i hi).b hb⟩
theorem VR.below (h : VR w A n V B d) {L : Nat} (hb : Below L w w') (hL : w.heap.size ≤ L) : VR w' A n V B d := ⟨h.1.below hb hL, fun i hi => (h.2 i hi).below hb hL⟩
theorem VRow.b (h : VRow w A n V) (hb : Below w.heap.size w w') : VRow w' A n V := by
  obtain ⟨B, d, h⟩ := h; exact ⟨B, d, h.b hb⟩
theorem RdV.lives (hi : Nat) (A : Option Addr) (n : Nat) (V : Nat → BV) : Lives 0 hi (RdV hi A n V) := fun w w' h1 h2 h3 h4 hk h => by
  obtain ⟨B, d, h, hr⟩ := h
  exact ⟨B, d, Rd.lives _ _ _ _ w w' h1 h2 h3 h4 hk h, fun i hi => Rd.lives _ _ _ _ w w' h1 h2 h3 h4 hk (hr i hi)⟩
theorem OwV.lives (lo hi : Nat) (A : Option Addr) (n : Nat) (V : Nat → BV) : Lives lo hi (OwV lo hi A n V) := fun w w' h1 h2 h3 h4 hk h => by
  obtain ⟨B, d, h, hr, ha⟩ := h
  exact ⟨B, d, Ow.lives _ _ _ _ _ _ w w' h1 h2 h3 h4 hk h, fun i hi => Ow.lives _ _ _ _ _ _ w w' h1 h2 h3 h4 hk (hr i hi), ha⟩
theorem RdV.row (h : RdV hi A n V w) (ht : hi ≤ w.heap.size) : VRow w A n V := by
  obtain ⟨B, d, h, hr⟩ := h
  exact ⟨B, d, h.row ht, fun i hi => (hr i hi).row ht⟩
theorem rdV_of_row (h : VRow w A n V) : At 0 w.heap.size (RdV w.heap.size A n V) w := by
  obtain ⟨B, d, h, hr⟩ := h
  exact ⟨⟨B, d, h, fun i hi => hr i hi⟩, Nat.le_refl _, RdV.lives _ _ _ _⟩
theorem OwV.rd (h : OwV lo hi A n V w) : RdV hi A n V w := by
  obtain ⟨B, d, h, hr, _⟩ := h
  exact ⟨B, d, h.rd, fun i hi => (hr i hi).rd⟩
theorem At.rowV (a : At lo hi (RdV hi A n V) w) : VRow w A n V := a.now.row a.top
theorem At.orowV (a : At lo hi (OwV lo hi A n V) w) : VRow w A n V := a.now.rd.row a.top
theorem OwV.mono (h : OwV lo hi A n V w) {lo' hi' : Nat} (h1 : lo' ≤ lo) (h2 : hi ≤ hi') : OwV lo' hi' A n V w := by
  obtain ⟨B, d, h, hr, ha⟩ := h
  exact ⟨B, d, h.mono h1 h2, fun i hi => (hr i hi).mono h1 h2, ha⟩
theorem ownedV (h : OwV lo w.heap.size A n V w) : At lo w.heap.size (OwV lo w.heap.size A n V) w := ⟨h, Nat.le_refl _, OwV.lives _ _ _ _ _⟩
theorem VRow.drew (h : VRow w A n V) : VRow w.drew A n V := h
theorem VRow.al (h : VRow w A n V) (o : Obj) : VRow (w.alloc o) A n V := h.b ((Below.refl _ _).alloc (Nat.le_refl _) _)
theorem VR.al (h : VR w A n V B d) (o : Obj) : VR (w.alloc o) A n V B d := h.b ((Below.refl _ _).alloc (Nat.le_refl _) _)
theorem owV_zero (lo hi : Nat) (A : Option Addr) (V : Nat → BV) (w : World) : OwV lo hi A 0 V w := ⟨fun _ => none, fun _ => 0, ow_zero _ _ _ _ _ _, fun i hi => absurd hi (by omega), fun i j _ hj => absurd hj (by omega)⟩
theorem OwV.part (h : OwV lo hi A n V w) : ∃ B d, Ow lo hi 55 A (n * 2) (bsV V B d) w ∧ (∀ i, i < n → Ow lo hi 3 (B i) (V i).l (intV (V i).x) w) ∧ ∀ i j, i < n → j < n → i ≠ j → Apart (V i).l (B i) (V j).l (B j) := by
  obtain ⟨B, d, h1, h2, h3⟩ := h
  exact ⟨B, d, h1, h2, fun i j hi hj hne => by
    by_cases e : i < j
    · exact h3 i j e hj
    · exact (h3 j i (by omega) hi).symm⟩
end
end Go.Proofs.Ytijlpbcgkecinaa
