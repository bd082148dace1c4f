/- FromGaps: both sides; numbers that have codes. -/
import Derived.Test.YtpajbcgdoedleabGaps
namespace Go.Proofs.Ytpajbcgdoedleab
open Go.RowKit

def sumI (X : Nat → Int) : Nat → Int
  | 0 => -1
  | k + 1 => sumI X k + X k
def InAll (n : Nat) (X : Nat → Int) (lo hi : Int) : Prop := ∀ i, i < n → lo ≤ X i ∧ X i ≤ hi
def FromOk (n : Nat) (X : Nat → Int) : Prop := InAll n X 1 100000 ∧ sumI X n ≤ 99999
def fromF (X : Nat → Int) (i : Nat) : Int := sumI X (i + 1)
theorem sum_up {X : Nat → Int} {n : Nat} (h : InAll n X 1 100000) : ∀ k j, k + j ≤ n → sumI X k + j ≤ sumI X (k + j) ∧ sumI X (k + j) ≤ sumI X k + 100000 * j
  | _, 0, _ => by simp
  | k, j + 1, hj => by
    have h1 := sum_up h k j (by omega)
    have h2 := h (k + j) (by omega)
    rw [show k + (j + 1) = (k + j) + 1 by omega, sumI]
    omega
theorem sum_bd {X : Nat → Int} {n k : Nat} (h : InAll n X 1 100000) (hk : k ≤ n) (hn : n ≤ 60) : -1 ≤ sumI X k ∧ sumI X k ≤ 6000000 := by
  have := sum_up h 0 k (by omega)
  rw [Nat.zero_add] at this
  have e : sumI X 0 = -1 := rfl
  omega
theorem fromOk_step {X : Nat → Int} {q : Nat} (h : FromOk q X) (h1 : 1 ≤ X q) (h2 : sumI X q + X q ≤ 99999) (h0 : -1 ≤ sumI X q) : FromOk (q + 1) X :=
  ⟨fun i hi => by
    by_cases e : i = q
    · subst e; omega
    · exact h.1 i (by omega), h2⟩
theorem fromOk_not {X : Nat → Int} {q n : Nat} (hq : q < n) (h : ¬ (1 ≤ X q ∧ sumI X q + X q ≤ 99999)) : ¬ FromOk n X := fun hf => h ⟨(hf.1 q hq).1, by
  have h1 := sum_up hf.1 (q + 1) (n - (q + 1)) (by omega)
  rw [show q + 1 + (n - (q + 1)) = n by omega, sumI] at h1
  have := hf.2
  omega⟩

set_option maxHeartbeats 1000000 in
theorem spec_l1AllG (A : Option Addr) (n c : Nat) (X : Nat → Int) (lo hi : Int) (w : World) (hn : n ≤ 1048576) (hr : IRow w A n X) :
    Calls Try.prog 88 #[.slice A n c, .int .i64 lo, .int .i64 hi] w (RisIs (InAll n X lo hi) w) := by
  have HR := Lib.hid hr
  clear hr
  go_enter Try.func88, Try.ntmps88
  go_wp2_with fail
  go_loop [11] (fun i => ∃ k : Nat, k ≤ n ∧ i = .int .i64 k ∧ Hid (InAll k X lo hi)) (fun i => n - (intOf i).toNat)
  case atStart => exact ⟨0, Nat.zero_le _, rfl, fun i hi => absurd hi (by omega)⟩
  case round =>
    obtain ⟨k, hk, rfl, hp⟩ := hrel
    by_cases hlt : k < n
    · obtain ⟨b1, o1, rfl, l1, hc1⟩ := HR.out (by omega)
      have hx := hc1 k hlt
      clear hc1 l1
      by_cases hin : lo ≤ X k ∧ X k ≤ hi
      · have hq : Hid (InAll (k + 1) X lo hi) := fun i hi => by
          by_cases e : i = k
          · subst e; exact hin
          · exact hp.out i (by omega)
        go_wp2_with (go_at_call 72; refine (l1In_yes _ _ _ _ hin.1 hin.2).mono ?_; rintro e w' ⟨rfl, rfl⟩)
        go_round
        case rel => exact ⟨k + 1, by omega, by go_num, hq⟩
        case measure => simp [intOf]; omega
      · have hb := Lib.hid (show ¬ (InAll n X lo hi) from fun h => hin (h k hlt))
        go_wp2_with (go_at_call 72; refine (l1In_no _ _ _ _ hin).mono ?_; rintro e w' ⟨rfl, rfl⟩)
        go_ret
        exact ⟨false, rfl, by simp only [Bool.false_eq_true, false_iff]; exact hb.out, 0, rfl⟩
    · obtain rfl : k = n := by omega
      go_wp2_with fail
      go_ret
      exact ⟨true, rfl, by simp only [true_iff]; exact hp.out, 0, rfl⟩

end Go.Proofs.Ytpajbcgdoedleab
