/- slices.Contains of ints. -/
import Derived.Test.YtpajbcgdoedleabColl
import Derived.Test.YtpajbcgdoedleabHas
namespace Go.Proofs.Ytpajbcgdoedleab
open Go.RowKit

theorem seek_from {X : Nat → Int} {x : Int} : ∀ (m a : Nat), 0 ≤ seekI (seek X x a m) ↔ ∃ i, a ≤ i ∧ i < a + m ∧ X i = x
  | 0, a => by simp [seek, seekI]; intros; omega
  | m + 1, a => by
    rw [seek]
    by_cases h : X a = x
    · rw [if_pos h]; simp only [seekI]; exact ⟨fun _ => ⟨a, Nat.le_refl _, by omega, h⟩, fun _ => by omega⟩
    · rw [if_neg h, seek_from m (a + 1)]
      constructor
      · rintro ⟨i, h1, h2, h3⟩; exact ⟨i, by omega, by omega, h3⟩
      · rintro ⟨i, h1, h2, h3⟩
        by_cases e : i = a
        · subst e; exact absurd h3 h
        · exact ⟨i, by omega, by omega, h3⟩
theorem seek_some {X : Nat → Int} {x : Int} {m : Nat} : 0 ≤ seekI (seek X x 0 m) ↔ ∃ i, i < m ∧ X i = x := by
  rw [seek_from]
  constructor
  · rintro ⟨i, _, h2, h3⟩; exact ⟨i, by omega, h3⟩
  · rintro ⟨i, h2, h3⟩; exact ⟨i, by omega, by omega, h3⟩
set_option maxHeartbeats 400000 in
theorem contains_is (A : Option Addr) (n c : Nat) (X : Nat → Int) (x : Int) (w : World) (hn : n ≤ 1048576) (hr : IRow w A n X) : Calls Try.prog 144 #[.slice A n c, .int .i64 x] w (HasIs n X x w) := by
  have HR := Lib.hid hr
  have HS := Lib.hid (seek_some (X := X) (x := x) (m := n))
  clear hr
  go_enter Try.func144, Try.ntmps144
  go_wp2_with fail
  refine (index_is A n c X x _ hn HR.out).mono ?_; rintro e w1 ⟨rfl, rfl⟩
  generalize seekI (seek X x 0 n) = v at *
  go_wp2_with fail
  go_ret
  exact ⟨_, rfl, by simp only [decide_eq_true_eq]; exact HS.out, rfl⟩

end Go.Proofs.Ytpajbcgdoedleab
