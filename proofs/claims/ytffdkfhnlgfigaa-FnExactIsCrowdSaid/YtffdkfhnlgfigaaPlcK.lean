/- A set's cells asked for; slices.EqualFunc of sets and cells. -/
import Derived.Test.YtffdkfhnlgfigaaPlcI
namespace Go.Proofs.Ytffdkfhnlgfigaa
open Go.RowKit

def hasB (s : Nat) (c : Int) : Bool := decide (0 ≤ c) && s.testBit c.toNat
def EqP (U : Nat → Nat) (n : Nat) (F : Nat → Int) (m : Nat) : Prop := n = m ∧ ∀ i, i < n → hasB (U i) (F i) = true
end Go.Proofs.Ytffdkfhnlgfigaa
