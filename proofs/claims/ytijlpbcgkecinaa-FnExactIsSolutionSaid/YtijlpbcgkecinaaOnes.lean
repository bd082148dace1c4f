/- math/bits.OnesCount of a word. -/
import Derived.Test.YtijlpbcgkecinaaPop
import Derived.Test.YtijlpbcgkecinaaRead
namespace Go.Proofs.Ytijlpbcgkecinaa
open Go.RowKit

set_option maxHeartbeats 400000 in
theorem onesCount (x : Nat) (w : World) (hx : x < 65536) :
    Calls Try.prog 102 #[.int .u64 x] w fun e w' => e = .returned (.int .i64 (pcF x)) ∧ w = w' := by
  go_enter Try.func102, Try.ntmps102
  go_wp2_with fail
  go_enter Try.func118, Try.ntmps118
  go_wp2_with fail
  go_ret
  refine ⟨?_, rfl⟩
  rw [← pcI_eq x hx]
  rfl
end Go.Proofs.Ytijlpbcgkecinaa
