/- IsHyper: both sides, whatever the argument. -/
import Derived.Test.YtockhjdhihehlaaEdge
namespace Go.Proofs.Ytockhjdhihehlaa
open Go.RowKit

theorem len_le {l : Nat → Nat} {n i : Nat} (h : n + sumL l n ≤ 1048576) (hi : i < n) : l i ≤ 1048576 := by have := sumL_at l hi; omega
end Go.Proofs.Ytockhjdhihehlaa
