/- How many bits the directories take: both sides. -/
import Derived.Test.YtockhjdhihehlaaGood
namespace Go.Proofs.Ytockhjdhihehlaa
open Go.RowKit

def dirZ (z : Int) : Int := 13 * ((z + 63) / 64) + 6 * ((z + 15) / 16)
theorem impl_superCount (z : Int) (w : World) (h0 : 0 ≤ z) (h1 : z ≤ 9000) :
    Calls Try.prog 94 #[.int .i64 z] w fun e w' => e = .returned (.int .i64 ((z + 63) / 64)) ∧ w = w' := by
  go_enter Try.func94, Try.ntmps94
  go_wp2
  go_ret
  exact ⟨ret_int (by show (z + 64 - 1) / 64 = _; omega), rfl⟩
end Go.Proofs.Ytockhjdhihehlaa
