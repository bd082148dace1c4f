/- The model's degrees; HyperDegrees of both sides. -/
import Derived.Test.YtockhjdhihehlaaDeg
import Derived.Test.YtockhjdhihehlaaIsHyp
namespace Go.Proofs.Ytockhjdhihehlaa
open Go.RowKit

/-- A row of indices of edges. -/
def EdIdx (n m : Nat) (E : Nat → Nat) : Prop := ∀ t, t < m → E t < n
def idxV (E : Nat → Nat) (t : Nat) : Int := ((E t : Nat) : Int)
end Go.Proofs.Ytockhjdhihehlaa
