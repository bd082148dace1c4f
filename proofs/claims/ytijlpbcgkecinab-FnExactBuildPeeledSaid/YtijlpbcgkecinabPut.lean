/- setField, PutField, PutBit of the program. -/
import Derived.Test.YtijlpbcgkecinabGrow
namespace Go.Proofs.Ytijlpbcgkecinab
open Go.RowKit

def PutIs (W : Nat → Nat) (g m a0 width v : Nat) (w : World) (e : Ending) (w' : World) : Prop :=
  e = .returned (.tuple #[]) ∧ (∃ W1, PutSt W m a0 v (a0 + width) W1 ∧ ORow w' g m (fun i => (W1 i : Int))) ∧ w.grownBy w' (some g)
theorem only_drew {a w : World} {row : Option Nat} (h : a.grownBy w row) : a.grownBy w.drew row := ⟨h.os, h.tape, h.output, h.size, h.block⟩
theorem only_drewN {a w : World} {row : Option Nat} (h : a.grownBy w row) (n : Nat) : a.grownBy (w.drewN n) row := ⟨h.os, h.tape, h.output, h.size, h.block⟩

end Go.Proofs.Ytijlpbcgkecinab
