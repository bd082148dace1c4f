/- The model's search in a list. -/
import Derived.Test.YtffdkfhnlgfigaaGen
import Derived.Test.YtffdkfhnlgfigaaObj
namespace Go.Proofs.Ytffdkfhnlgfigaa
open Go.RowKit

def HasIs (n : Nat) (X : Nat → Int) (x : Int) (w : World) (e : Ending) (w' : World) : Prop := ∃ b : Bool, e = .returned (.bool b) ∧ (b = true ↔ ∃ i, i < n ∧ X i = x) ∧ w = w'
set_option maxHeartbeats 400000 in
theorem spec_l1Has (A : Option Addr) (n c : Nat) (X : Nat → Int) (x : Int) (w : World) (hn : n ≤ 1048576) (hr : IRow w A n X) : Calls Try.prog 77 #[.slice A n c, .int .i64 x] w (HasIs n X x w) := by
  have HR := Lib.hid hr
  clear hr
  go_enter Try.func77, Try.ntmps77
  go_wp2_with fail
  go_loop [9] (fun i => ∃ q : Nat, q ≤ n ∧ i = .int .i64 q ∧ Hid (∀ i, i < q → X i ≠ x)) (fun i => n - (intOf i).toNat)
  case atStart => exact ⟨0, Nat.zero_le _, rfl, Lib.hid (fun i h => absurd h (by omega))⟩
  case round =>
    obtain ⟨q, hq, rfl, HN⟩ := hrel
    by_cases hlt : q < n
    · obtain ⟨b, off, rfl, hbl, hc⟩ := HR.out (by omega)
      have hx := hc q hlt
      clear hc
      by_cases he : X q = x
      · have d1 : (X q == x) = true := by simpa using he
        have HE := Lib.hid he
        clear he
        go_wp2_with fail
        go_ret
        exact ⟨true, rfl, by simp only [true_iff]; exact ⟨q, hlt, HE.out⟩, rfl⟩
      · have d1 : (X q == x) = false := by simpa using he
        have HN2 := Lib.hid (show ∀ i, i < q + 1 → X i ≠ x from fun i hi => by
          by_cases e : i = q
          · rw [e]; exact he
          · exact HN.out i (by omega))
        clear he
        go_wp2_with fail
        go_round
        case rel => exact ⟨q + 1, by omega, by go_num, HN2⟩
        case measure => simp [intOf]; omega
    · obtain rfl : q = n := by omega
      go_wp2_with fail
      go_ret
      exact ⟨false, rfl, by simp only [Bool.false_eq_true, false_iff]; rintro ⟨i, hi, e⟩; exact HN.out i hi e, rfl⟩
end Go.Proofs.Ytffdkfhnlgfigaa
