/- A set's cells asked for; slices.EqualFunc of sets and cells. -/
import Derived.Test.YtfjimjbndkhkcaaPlcI
namespace Go.Proofs.Ytfjimjbndkhkcaa
open Go.RowKit

def hasB (s : Nat) (c : Int) : Bool := decide (0 ≤ c) && s.testBit c.toNat
set_option maxRecDepth 100000 in
set_option maxHeartbeats 2000000 in
theorem impl_has (s : Nat) (c : Int) (w : World) (hs : s < 18446744073709551616) :
    Calls Try.prog 104 #[.int .u64 (s : Int), .int .i64 c] w fun e w' => e = .returned (.bool (hasB s c)) ∧ w = w' := by
  by_cases h0 : 0 ≤ c
  · obtain ⟨p, rfl⟩ := Int.eq_ofNat_of_zero_le h0
    have hs64 : s < 2 ^ 64 := by omega
    have HA := Lib.hid (show bits .and .u64 ((s : Int) / 2 ^ min p 64) 1 = ((s / 2 ^ min p 64 % 2 : Nat) : Int) by
      have e : (s : Int) / 2 ^ min p 64 = ((s / 2 ^ min p 64 : Nat) : Int) := by push_cast; rfl
      rw [e]
      exact u64_and_one _ (Nat.lt_of_le_of_lt (Nat.div_le_self _ _) hs))
    have HT := Lib.hid (show (((s / 2 ^ min p 64 % 2 : Nat) : Int) == 1) = hasB s p by
      unfold hasB
      rw [decide_eq_true h0, Bool.true_and, Int.toNat_natCast]
      have e : s.testBit (min p 64) = decide (s / 2 ^ min p 64 % 2 = 1) := Nat.testBit_eq_decide_div_mod_eq
      have e2 : s.testBit p = s.testBit (min p 64) := by
        by_cases h : p ≤ 64
        · rw [Nat.min_eq_left h]
        · rw [Nat.min_eq_right (by omega), Nat.testBit_lt_two_pow (Nat.lt_of_lt_of_le hs64 (Nat.pow_le_pow_right (by omega) (by omega))), Nat.testBit_lt_two_pow hs64]
      rw [e2, e]
      generalize s / 2 ^ min p 64 % 2 = u
      by_cases h : u = 1
      · subst h; rfl
      · rw [decide_eq_false h]; simp; omega)
    go_enter Try.func104, Try.ntmps104
    go_wp2_with fail
    go_ret
    exact ⟨ret_bool (by rw [HA.out]; exact HT.out), rfl⟩
  · have hb : hasB s c = false := by unfold hasB; rw [decide_eq_false h0]; rfl
    rw [hb]
    go_enter Try.func104, Try.ntmps104
    go_wp2_with fail
    go_ret
    exact ⟨rfl, rfl⟩
def EqP (U : Nat → Nat) (n : Nat) (F : Nat → Int) (m : Nat) : Prop := n = m ∧ ∀ i, i < n → hasB (U i) (F i) = true
set_option maxRecDepth 100000 in
set_option maxHeartbeats 2000000 in
theorem equal_has (g : Nat) (eg : ∀ args w, (callFunc g args).run Try.prog w = .ok (.enter g args) w) (cb : Array Value) (A : Option Addr) (n c : Nat) (U : Nat → Nat) (FA : Option Addr) (m mc : Nat) (F : Nat → Int) (w : World) (hn : n ≤ 1048576) (hm : m ≤ 1048576)
    (hr : GRow w A n (fun i => .int .u64 (U i : Nat))) (hf : IRow w FA m F) (hg : ∀ i, i < n → ∀ (c : Int) W, Calls Try.prog g (#[.int .u64 (U i : Nat), .int .i64 c] ++ cb) W fun e W' => e = .returned (.bool (hasB (U i) c)) ∧ W = W') :
    Calls Try.prog 103 #[.slice A n c, .slice FA m mc, .func (.func g) #[] cb] w (DecIs (EqP U n F m) w) := by
  have HR := Lib.hid hr
  have HF := Lib.hid hf
  have HG := Lib.hid hg
  clear hr hf hg
  by_cases hmn : n = m
  rotate_left
  · have d0 : ((n : Int) == (m : Int)) = false := by simp; omega
    go_enter Try.func103, Try.ntmps103
    go_wp2_with fail
    go_ret
    exact ⟨false, rfl, by simp only [Bool.false_eq_true, false_iff]; exact fun h => hmn h.1, rfl⟩
  subst hmn
  go_enter Try.func103, Try.ntmps103
  go_wp2_with fail
  go_loop [17] (fun i => ∃ q : Nat, q ≤ n ∧ i = .int .i64 q ∧ Hid (∀ i, i < q → hasB (U i) (F i) = true)) (fun i => n - (intOf i).toNat)
  case atStart => exact ⟨0, Nat.zero_le _, rfl, Lib.hid (fun i h => absurd h (by omega))⟩
  case round =>
    obtain ⟨q, hq, rfl, HN⟩ := hrel
    by_cases hlt : q < n
    · obtain ⟨b, off, hA, _, hcc⟩ := HR.out (by omega)
      obtain ⟨b2, off2, hFA, _, hcc2⟩ := HF.out (by omega)
      subst hA hFA
      have hx : w.cell? ⟨b, off + q, none⟩ = some (.int .u64 (U q : Nat)) := hcc q hlt
      have hy := hcc2 q hlt
      clear hcc hcc2
      have hc := HG.out q hlt (F q) w
      cases hb : hasB (U q) (F q) <;> rw [hb] at hc
      · have HX := Lib.hid (show ¬ EqP U n F n from fun h => by have := h.2 q hlt; rw [hb] at this; cases this)
        clear hb
        go_wp2_with fail
        refine hc.mono ?_; rintro e w' ⟨rfl, rfl⟩
        go_wp2_with fail
        go_ret
        exact ⟨false, rfl, by simp only [Bool.false_eq_true, false_iff]; exact HX.out, rfl⟩
      · have HX := Lib.hid (show ∀ i, i < q + 1 → hasB (U i) (F i) = true from fun i hi => by
          by_cases e : i = q
          · subst e; exact hb
          · exact HN.out i (by omega))
        clear hb
        go_wp2_with fail
        refine hc.mono ?_; rintro e w' ⟨rfl, rfl⟩
        go_wp2_with fail
        go_round
        case rel => exact ⟨q + 1, by omega, by go_num, HX⟩
        case measure => simp [intOf]; omega
    · obtain rfl : q = n := by omega
      go_wp2_with fail
      go_ret
      exact ⟨true, rfl, by simp only [true_iff]; exact ⟨rfl, HN.out⟩, rfl⟩
end Go.Proofs.Ytfjimjbndkhkcaa
