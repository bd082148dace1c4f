/- Rows of rows of ints: what lies where. -/
import Derived.Test.YthaipemgndahfaaObjTch
namespace Go.Proofs.Ythaipemgndahfaa
open Go.RowKit

def sliceV (B : Nat → Option Addr) (l d : Nat → Nat) (i : Nat) : Value := .slice (B i) (l i) (d i)
def sumL (l : Nat → Nat) : Nat → Nat
  | 0 => 0
  | n + 1 => sumL l n + l n
theorem sumL_le (l : Nat → Nat) {k n : Nat} (h : k ≤ n) : sumL l k ≤ sumL l n := by
  induction n with
  | zero => have : k = 0 := by omega
            subst this; exact Nat.le_refl _
  | succ n ih =>
    by_cases e : k = n + 1
    · subst e; exact Nat.le_refl _
    · have := ih (by omega); simp only [sumL]; omega
theorem sumL_at (l : Nat → Nat) {k n : Nat} (h : k < n) : sumL l k + l k ≤ sumL l n := sumL_le l (show k + 1 ≤ n from h)

/-- Slice A holds n slices B i, which read as X i. -/
def HR (w : World) (A : Option Addr) (n : Nat) (B : Nat → Option Addr) (l d : Nat → Nat) (X : Nat → Nat → Int) : Prop := GRow w A n (sliceV B l d) ∧ ∀ i, i < n → IRow w (B i) (l i) (X i)
def HRow (w : World) (A : Option Addr) (n : Nat) (l : Nat → Nat) (X : Nat → Nat → Int) : Prop := ∃ B d, HR w A n B l d X
def Rd2 (hi : Nat) (A : Option Addr) (n : Nat) (l : Nat → Nat) (X : Nat → Nat → Int) (w : World) : Prop :=
  ∃ B d, Rd hi A n (sliceV B l d) w ∧ ∀ i, i < n → Rd hi (B i) (l i) (intV (X i)) w
def Ow2 (lo hi : Nat) (A : Option Addr) (n : Nat) (l : Nat → Nat) (X : Nat → Nat → Int) (w : World) : Prop :=
  ∃ B d, Ow lo hi 24 A n (sliceV B l d) w ∧ (∀ i, i < n → Ow lo hi 3 (B i) (l i) (intV (X i)) w) ∧ ∀ i j, i < j → j < n → Apart (l i) (B i) (l j) (B j)
section
variable {w w' : World} {lo hi n : Nat} {A : Option Addr} {B : Nat → Option Addr} {l d : Nat → Nat} {X Y : Nat → Nat → Int}
theorem HR.b (h : HR w A n B l d X) (hb : Below w.heap.size w w') : HR w' A n B l d X := ⟨h.1.b hb, fun i hi => (h.2 i hi).b hb⟩
theorem HRow.b (h : HRow w A n l X) (hb : Below w.heap.size w w') : HRow w' A n l X := by
  obtain ⟨B, d, h⟩ := h; exact ⟨B, d, h.b hb⟩
theorem Rd2.lives (hi : Nat) (A : Option Addr) (n : Nat) (l : Nat → Nat) (X : Nat → Nat → Int) : Lives 0 hi (Rd2 hi A n l X) := fun w w' h1 h2 h3 h4 hk h => by
  obtain ⟨B, d, h, hr⟩ := h
  exact ⟨B, d, Rd.lives _ _ _ _ w w' h1 h2 h3 h4 hk h, fun i hi => Rd.lives _ _ _ _ w w' h1 h2 h3 h4 hk (hr i hi)⟩
theorem Ow2.lives (lo hi : Nat) (A : Option Addr) (n : Nat) (l : Nat → Nat) (X : Nat → Nat → Int) : Lives lo hi (Ow2 lo hi A n l X) := fun w w' h1 h2 h3 h4 hk h => by
  obtain ⟨B, d, h, hr, ha⟩ := h
  exact ⟨B, d, Ow.lives _ _ _ _ _ _ w w' h1 h2 h3 h4 hk h, fun i hi => Ow.lives _ _ _ _ _ _ w w' h1 h2 h3 h4 hk (hr i hi), ha⟩
theorem Rd2.row (h : Rd2 hi A n l X w) (ht : hi ≤ w.heap.size) : HRow w A n l X := by
  obtain ⟨B, d, h, hr⟩ := h
  exact ⟨B, d, h.row ht, fun i hi => (hr i hi).row ht⟩
theorem rd2_of_row (h : HRow w A n l X) : At 0 w.heap.size (Rd2 w.heap.size A n l X) w := by
  obtain ⟨B, d, h, hr⟩ := h
  exact ⟨⟨B, d, h, fun i hi => hr i hi⟩, Nat.le_refl _, Rd2.lives _ _ _ _ _⟩
theorem Ow2.rd (h : Ow2 lo hi A n l X w) : Rd2 hi A n l X w := by
  obtain ⟨B, d, h, hr, _⟩ := h
  exact ⟨B, d, h.rd, fun i hi => (hr i hi).rd⟩
theorem At.row2 (a : At lo hi (Rd2 hi A n l X) w) : HRow w A n l X := a.now.row a.top
theorem At.orow2 (a : At lo hi (Ow2 lo hi A n l X) w) : HRow w A n l X := a.now.rd.row a.top
theorem Ow2.mono (h : Ow2 lo hi A n l X w) {lo' hi' : Nat} (h1 : lo' ≤ lo) (h2 : hi ≤ hi') : Ow2 lo' hi' A n l X w := by
  obtain ⟨B, d, h, hr, ha⟩ := h
  exact ⟨B, d, h.mono h1 h2, fun i hi => (hr i hi).mono h1 h2, ha⟩
theorem owned2 (h : Ow2 lo w.heap.size A n l X w) : At lo w.heap.size (Ow2 lo w.heap.size A n l X) w := ⟨h, Nat.le_refl _, Ow2.lives _ _ _ _ _ _⟩
theorem Ow2.congr (h : Ow2 lo hi A n l X w) (e : ∀ i, i < n → ∀ j, j < l i → X i j = Y i j) : Ow2 lo hi A n l Y w := by
  obtain ⟨B, d, h, hr, ha⟩ := h
  exact ⟨B, d, h, fun i hi => (hr i hi).congr (fun j hj => by unfold intV; rw [e i hi j hj]), ha⟩
theorem HRow.congr (h : HRow w A n l X) (e : ∀ i, i < n → ∀ j, j < l i → X i j = Y i j) : HRow w A n l Y := by
  obtain ⟨B, d, h, hr⟩ := h
  exact ⟨B, d, h, fun i hi hl => by
    obtain ⟨b, o, h1, h2, h3⟩ := hr i hi hl
    exact ⟨b, o, h1, h2, fun k hk => by rw [h3 k hk, e i hi k hk]⟩⟩
theorem HRow.drew (h : HRow w A n l X) : HRow w.drew A n l X := h
theorem HRow.al (h : HRow w A n l X) (o : Obj) : HRow (w.alloc o) A n l X := h.b ((Below.refl _ _).alloc (Nat.le_refl _) _)
/-- Rows of two types lie in different blocks. -/
theorem apart_ty {lo' hi' m : Nat} {t t' : TypeId} {A' : Option Addr} {F G : Nat → Value} (h : Ow lo hi t A n F w) (k : Ow lo' hi' t' A' m G w) (hne : t ≠ t') : Apart n A m A' := fun hn hm b o c p hA hB he => by
  obtain ⟨g, off, cs, hA2, _, _, h3, _⟩ := h hn
  obtain ⟨g', off', cs', hB2, _, _, k3, _⟩ := k hm
  rw [hA] at hA2; injection hA2 with e; injection e with e1 e2
  rw [hB] at hB2; injection hB2 with e'; injection e' with e3 e4
  subst e1 e3 he
  rw [h3] at k3
  injection k3 with k3; injection k3 with _ k4 _
  exact hne k4
theorem Apart.symm {m : Nat} {A' : Option Addr} (h : Apart n A m A') : Apart m A' n A := fun hm hn b o c p hA hB he => h hn hm c p b o hB hA he.symm
end
end Go.Proofs.Ythaipemgndahfaa
