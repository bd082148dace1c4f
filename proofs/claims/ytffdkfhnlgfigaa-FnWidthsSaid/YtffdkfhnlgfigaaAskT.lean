/- Questions to a Sparse: what each answers, both ways. -/
import Derived.Test.YtffdkfhnlgfigaaAskS
namespace Go.Proofs.Ytffdkfhnlgfigaa
open Go.RowKit

section
variable (A1 : Option Addr) (n1 c1 : Nat) (X1 : Nat → Int) (A2 : Option Addr) (n2 c2 : Nat) (X2 : Nat → Int) (w : World)
variable {z0 z1 z2 z3 z4 : Int} {c L v : Nat} {f : Nat → Nat}
theorem SpV.lim (h : SpV z0 z1 z2 z3 n1 X1 z4 n2 X2) : 1 ≤ z1 ∧ z1 ≤ 100000 ∧ 0 ≤ z0 ∧ z0 ≤ 60 := by
  obtain ⟨c, L, v, f, h⟩ := h
  have := h.eL; have := h.num.h1; have := h.num.hL; have := h.ec; have := h.num.hc; omega
end
end Go.Proofs.Ytffdkfhnlgfigaa
