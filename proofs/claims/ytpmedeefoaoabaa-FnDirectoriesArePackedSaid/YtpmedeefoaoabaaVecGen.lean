/- Vectors that a law draws, and the laws' test whether two are the same. -/
import Derived.Test.YtpmedeefoaoabaaCur3
import Derived.Test.YtpmedeefoaoabaaOpenB
namespace Go.Proofs.Ytpmedeefoaoabaa
open Go.RowKit

set_option maxHeartbeats 400000 in
theorem pSameInts_yes {A B : Option Addr} {n c d : Nat} {X : Nat → Int} {w : World} (hn : n ≤ 1048576) (hx : GRow w A n (intV X)) (hy : GRow w B n (intV X)) :
    Calls Try.prog 20 #[.slice A n c, .slice B n d] w (SameRow w true) := by
  have HX := Lib.hid hx
  have HY := Lib.hid hy
  clear hx hy
  go_enter Try.func20, Try.ntmps20
  go_wp2_with fail
  go_loopw [13] (fun i wr => ∃ k : Nat, k ≤ n ∧ i = .int .i64 k ∧ Below w.heap.size w wr) (fun i _ => n - (intOf i).toNat)
  case atStart => exact ⟨0, Nat.zero_le _, rfl, Below.refl _ _⟩
  case round =>
    obtain ⟨k, hk, rfl, hb⟩ := hrel
    by_cases hlt : k < n
    · obtain ⟨b1, o1, rfl, l1, hc1⟩ := HX.out.below hb (Nat.le_refl _) (by omega)
      obtain ⟨b2, o2, rfl, l2, hc2⟩ := HY.out.below hb (Nat.le_refl _) (by omega)
      have hx := hc1 k hlt
      have hy := hc2 k hlt
      unfold intV at hx hy
      have HB := Lib.hid hb
      clear hb hc1 hc2 l1 l2
      go_wp2_with fail
      go_quiet (fail)
      go_wp2_with fail
      go_roundw
      case rel => exact ⟨k + 1, by omega, by go_num, below_drewN HB.out _⟩
      case measure => simp [intOf]; omega
    · obtain rfl : k = n := by omega
      have HB := Lib.hid hb
      clear hb
      go_wp2_with fail
      go_ret
      exact ⟨rfl, HB.out⟩
set_option maxHeartbeats 400000 in
theorem pSame_yes {z : Int} {A B : Option Addr} {n c d : Nat} {X : Nat → Int} {w : World} (hn : n ≤ 1048576) (hx : GRow w A n (intV X)) (hy : GRow w B n (intV X)) :
    Calls Try.prog 8 #[.agg #[.int .i64 z, .slice A n c], .agg #[.int .i64 z, .slice B n d]] w (SameRow w true) := by
  have HX := Lib.hid ((hx.al (.cells #[.int .i64 z, .slice A n c] 26)).al (.cells #[.int .i64 z, .slice B n d] 26))
  have HY := Lib.hid ((hy.al (.cells #[.int .i64 z, .slice A n c] 26)).al (.cells #[.int .i64 z, .slice B n d] 26))
  have FB := Lib.hid (((At.start w).alloc (.cells #[.int .i64 z, .slice A n c] 26)).alloc (.cells #[.int .i64 z, .slice B n d] 26))
  clear hx hy
  go_enter Try.func8, Try.ntmps8
  go_wp2_with fail
  refine (pSameInts_yes hn HX.out HY.out).mono ?_; rintro e w1 ⟨rfl, hb⟩
  have F1 := Lib.hid (FB.out.b hb)
  clear hb
  go_wp2_with fail
  go_ret
  exact ⟨rfl, F1.out.now⟩

def VecIn (w : World) (z : Int) (B : Option Addr) (m d : Nat) (X : Nat → Int) (w' : World) : Prop := -1 ≤ z ∧ z ≤ 4096 ∧ m ≤ 257 ∧ m ≤ d ∧ d ≤ maxLen ∧ Ow w.heap.size w'.heap.size 3 B m (intV X) w'

end Go.Proofs.Ytpmedeefoaoabaa
