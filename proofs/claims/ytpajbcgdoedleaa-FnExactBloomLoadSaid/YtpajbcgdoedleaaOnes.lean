/- math/bits.OnesCount of a word. -/
import Derived.Test.YtpajbcgdoedleaaPop
import Derived.Test.YtpajbcgdoedleaaRead
namespace Go.Proofs.Ytpajbcgdoedleaa
open Go.RowKit

set_option maxHeartbeats 400000 in
theorem onesCount (x : Nat) (w : World) (hx : x < 65536) :
    Calls Try.prog 100 #[.int .u64 x] w fun e w' => e = .returned (.int .i64 (pcF x)) ∧ w = w' := by
  go_enter Try.func100, Try.ntmps100
  go_wp2_with fail
  go_enter Try.func108, Try.ntmps108
  go_wp2_with fail
  go_ret
  refine ⟨?_, rfl⟩
  rw [← pcI_eq x hx]
  rfl
end Go.Proofs.Ytpajbcgdoedleaa
