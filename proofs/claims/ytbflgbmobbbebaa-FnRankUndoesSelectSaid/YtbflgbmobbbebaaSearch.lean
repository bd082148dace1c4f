/- sort.Search with a closure that keeps a fact on the world. -/
import Derived.Test.YtbflgbmobbbebaaRankQ
import Derived.Shelf.Abstract
namespace Go.Proofs.Ytbflgbmobbbebaa
open Go.RowKit

set_option maxRecDepth 100000 in
set_option maxHeartbeats 1000000 in
theorem search_any (g : Nat) (eg : ∀ args w, (callFunc g args).run Try.prog w = .ok (.enter g args) w) (cb : Array Value) (n : Nat) (p : Nat → Bool) (I : World → Prop) (w : World) (hn : n ≤ 1048576) (hI : I w)
    (hf : ∀ (i : Nat) (W : World), i < n → I W → Calls Try.prog g (#[.int .i64 i] ++ cb) W fun e W' => e = .returned (.bool (p i)) ∧ I W')
    (hmono : ∀ a b, a ≤ b → b < n → p a = true → p b = true) :
    Calls Try.prog 98 #[.int .i64 n, .func (.func g) #[] cb] w fun e W' => ∃ r : Nat, e = .returned (.int .i64 r) ∧ r ≤ n ∧ (∀ t, t < r → p t = false) ∧ (∀ t, r ≤ t → t < n → p t = true) ∧ I W' := by
  have HI := Lib.hid hI
  have HF := Lib.hid hf
  have M := Lib.hid hmono
  clear hI hf hmono
  go_enter Try.func98, Try.ntmps98
  go_wp2_with fail
  go_loopw [5, 6] (fun s5 s6 wr => ∃ lo hi : Nat, s5 = .int .i64 lo ∧ s6 = .int .i64 hi ∧ lo ≤ hi ∧ hi ≤ n ∧ Hid ((∀ t, t < lo → p t = false) ∧ (∀ t, hi ≤ t → t < n → p t = true) ∧ I wr)) (fun s5 s6 _ => (intOf s6).toNat - (intOf s5).toNat)
  case atStart => exact ⟨0, n, rfl, rfl, Nat.zero_le _, Nat.le_refl _, Lib.hid ⟨fun t ht => absurd ht (Nat.not_lt_zero _), fun t h1 h2 => by omega, HI.out⟩⟩
  case round =>
    obtain ⟨lo, hi, rfl, rfl, hlh, hin, R⟩ := hrel
    by_cases hlt : lo < hi
    · obtain ⟨q, hq⟩ : ∃ q : Nat, q = (lo + hi) / 2 := ⟨_, rfl⟩
      have hc := HF.out q wr (by omega) R.out.2.2
      rw [show (q : Int) = ((lo : Int) + (hi : Int)) / 2 by omega] at hc
      have HQ := Lib.hid hq
      clear hq
      cases hp : p q <;> rw [hp] at hc
      · have HP := Lib.hid hp
        clear hp
        go_wp2_with (go_at_fn g; refine hc.mono ?_; rintro e w' ⟨rfl, hI2⟩; have I2 := Lib.hid hI2; clear hI2)
        go_roundw
        case measure => simp [intOf]; omega
        case rel => exact ⟨q + 1, hi, by rw [HQ.out]; go_num, rfl, by have := HQ.out; omega, hin, Lib.hid ⟨fun t ht => (by
            cases h : p t with
            | false => rfl
            | true => have := M.out t q (by omega) (by have := HQ.out; omega) h; rw [HP.out] at this; cases this), R.out.2.1, I2.out⟩⟩
      · have HP := Lib.hid hp
        clear hp
        go_wp2_with (go_at_fn g; refine hc.mono ?_; rintro e w' ⟨rfl, hI2⟩; have I2 := Lib.hid hI2; clear hI2)
        go_roundw
        case measure => simp [intOf]; omega
        case rel => exact ⟨lo, q, rfl, by rw [HQ.out]; go_num, by have := HQ.out; omega, by have := HQ.out; omega, Lib.hid ⟨R.out.1, fun t ht htn => M.out q t ht htn HP.out, I2.out⟩⟩
    · obtain rfl : hi = lo := by omega
      go_wp2_with fail
      go_ret
      exact ⟨hi, rfl, hin, R.out.1, R.out.2.1, R.out.2.2⟩
end Go.Proofs.Ytbflgbmobbbebaa
