/- Lengths of codes: both ways. -/
import Derived.Test.YtdmdafifgaenhabCodeK
import Derived.Test.YtdmdafifgaenhabKeys
namespace Go.Proofs.Ytdmdafifgaenhab
open Go.RowKit

theorem two_shl (l : Nat) : (2 : Int) * 2 ^ l = ((2 ^ (l + 1) : Nat) : Int) := by rw [Nat.pow_succ]; push_cast; rw [Int.mul_comm]
end Go.Proofs.Ytdmdafifgaenhab
