/- Contracts of the laws' small functions on bit vectors. -/
import Derived.Test.YtijlpbcgkecinabLawFns
import Derived.Handy
namespace Go.Proofs.Ytijlpbcgkecinab
open Go.RowKit

theorem bcell {W w1 : World} (hb : Below W.heap.size W w1) : (∀ b o, b < W.heap.size → w1.cell? ⟨b, o, none⟩ = W.cell? ⟨b, o, none⟩) ∧ (∀ b o, b < W.heap.size → w1.frozen? ⟨b, o, none⟩ = W.frozen? ⟨b, o, none⟩) :=
  ⟨fun b o h => hb.cell (p := ⟨b, o, none⟩) h, fun b o h => hb.frozen (p := ⟨b, o, none⟩) h⟩

/-- The box of a bit vector that was handed over by value: block b holds z and the slice. -/
def Box (w : World) (b : Nat) (z : Int) (A : Option Addr) (n c : Nat) : Prop :=
  b < w.heap.size ∧ w.cell? ⟨b, 0, none⟩ = some (.int .i64 z) ∧ w.cell? ⟨b, 1, none⟩ = some (.slice A n c)
theorem Box.b {w w' : World} {b : Nat} {z : Int} {A : Option Addr} {n c : Nat} (h : Box w b z A n c) (hb : Below w.heap.size w w') : Box w' b z A n c :=
  ⟨Nat.lt_of_lt_of_le h.1 hb.size, (hb.cell (p := ⟨b, 0, none⟩) h.1).trans h.2.1, (hb.cell (p := ⟨b, 1, none⟩) h.1).trans h.2.2⟩
theorem Box.new (w : World) (z : Int) (A : Option Addr) (n c : Nat) (t : TypeId) : Box (w.alloc (.cells #[.int .i64 z, .slice A n c] t)) w.heap.size z A n c :=
  ⟨by simp, by simp [go_sem], by simp [go_sem]⟩

def NewVec (w : World) (z : Int) (n : Nat) (X : Nat → Int) (e : Ending) (w' : World) : Prop :=
  ∃ g, e = .returned (.agg #[.int .i64 z, .slice (some ⟨g, 0, none⟩) n n]) ∧ w.heap.size ≤ g ∧ ORow w' g n X ∧ Below w.heap.size w w'

theorem grown_left {w w1 : World} {o : Obj} {r : Option Nat} (h : (w.alloc o).grownBy w1 r) : w.grownBy w1 r :=
  ⟨h.os, h.tape, h.output, by have := h.size; simp at this; omega, fun k hk hne => (h.block k (by simp; omega) hne).trans (Below.heap_alloc w o k hk)⟩

end Go.Proofs.Ytijlpbcgkecinab
