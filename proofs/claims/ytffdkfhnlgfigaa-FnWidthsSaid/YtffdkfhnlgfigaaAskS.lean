/- Questions to a Sparse: both ways. -/
import Derived.Test.YtffdkfhnlgfigaaListV
import Derived.Test.YtffdkfhnlgfigaaBinS
import Derived.Test.YtffdkfhnlgfigaaHas
namespace Go.Proofs.Ytffdkfhnlgfigaa
open Go.RowKit

theorem SpN.srt {c L w : Nat} {f : Nat → Nat} (h : SpN c L w f) : SrtN c (numI f) := fun i j hij hj => by unfold numI; have := h.mono hij hj; omega
section
variable (A1 : Option Addr) (n1 c1 : Nat) (X1 : Nat → Int) (A2 : Option Addr) (n2 c2 : Nat) (X2 : Nat → Int) (w : World)
variable {z0 z1 z2 z3 z4 : Int} {c L v : Nat} {f : Nat → Nat}
end
end Go.Proofs.Ytffdkfhnlgfigaa
