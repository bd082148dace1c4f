/- How many bits the directories take: both sides. -/
import Derived.Test.YtpmedeefoaoabaaGood
namespace Go.Proofs.Ytpmedeefoaoabaa
open Go.RowKit

def dirZ (z : Int) : Int := 13 * ((z + 63) / 64) + 6 * ((z + 15) / 16)
theorem impl_superCount (z : Int) (w : World) (h0 : 0 ≤ z) (h1 : z ≤ 9000) :
    Calls Try.prog 21 #[.int .i64 z] w fun e w' => e = .returned (.int .i64 ((z + 63) / 64)) ∧ w = w' := by
  go_enter Try.func21, Try.ntmps21
  go_wp2
  go_ret
  exact ⟨ret_int (by show (z + 64 - 1) / 64 = _; omega), rfl⟩
theorem impl_dirBits_yes (z : Int) (w : World) (h0 : 0 ≤ z) (h1 : z ≤ 4096) :
    Calls Try.prog 9 #[.int .i64 z] w fun e w' => e = .returned (.tuple #[.int .i64 (dirZ z), .bool true]) ∧ Below w.heap.size w w' := by
  have d1 : ¬ (z < 0) := by omega
  have d2 : ¬ (4096 < z) := by omega
  go_enter Try.func9, Try.ntmps9
  go_wp2_with fail
  refine (impl_superCount z _ h0 (by omega)).mono ?_; rintro e w' ⟨rfl, rfl⟩
  go_wp2_with fail
  refine (impl_wordCount z _ h0 (by omega)).mono ?_; rintro e w' ⟨rfl, rfl⟩
  go_wp2_with fail
  go_ret2
  exact ⟨rfl, Below.refl _ _⟩
theorem impl_dirBits_no (z : Int) (w : World) (h : ¬ (0 ≤ z ∧ z ≤ 4096)) :
    Calls Try.prog 9 #[.int .i64 z] w fun e w' => e = .returned (.tuple #[.int .i64 0, .bool false]) ∧ Below w.heap.size w w' := by
  by_cases z0 : z < 0
  · go_enter Try.func9, Try.ntmps9
    go_wp2_with fail
    go_ret2
    exact ⟨rfl, Below.refl _ _⟩
  · have z1 : 4096 < z := by omega
    go_enter Try.func9, Try.ntmps9
    go_wp2_with fail
    go_ret2
    exact ⟨rfl, Below.refl _ _⟩
theorem spec_raSize (z : Int) (w : World) (h0 : 0 ≤ z) (h1 : z ≤ 4096) :
    Calls Try.prog 40 #[.int .i64 z] w fun e w' => e = .returned (.int .i64 (dirZ z)) ∧ w = w' := by
  go_enter Try.func40, Try.ntmps40
  go_wp2
  go_ret
  exact ⟨rfl, rfl⟩
end Go.Proofs.Ytpmedeefoaoabaa
