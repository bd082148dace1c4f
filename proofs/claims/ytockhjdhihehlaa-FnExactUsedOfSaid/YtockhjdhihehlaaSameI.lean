/- Two lists of ints compared: the library's way and the model's. -/
import Derived.Test.YtockhjdhihehlaaRead
import Derived.Deep.QuietTactic
namespace Go.Proofs.Ytockhjdhihehlaa
open Go.RowKit

def SameI (n : Nat) (X : Nat → Int) (m : Nat) (Y : Nat → Int) : Prop := n = m ∧ ∀ i, i < n → X i = Y i

end Go.Proofs.Ytockhjdhihehlaa
