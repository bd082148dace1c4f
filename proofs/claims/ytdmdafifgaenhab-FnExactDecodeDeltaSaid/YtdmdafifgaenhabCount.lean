/- CountBits: the program's and the model's. -/
import Derived.Test.YtdmdafifgaenhabRead
import Derived.Test.YtdmdafifgaenhabPop
namespace Go.Proofs.Ytdmdafifgaenhab
open Go.RowKit

def Span (z : Int) (n : Nat) (X : Nat → Int) (a b : Int) : Prop := Good z n X ∧ 0 ≤ a ∧ a ≤ b ∧ b ≤ z

end Go.Proofs.Ytdmdafifgaenhab
