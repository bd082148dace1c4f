/- Is a list of numbers a tree list: what both sides answer. -/
import Derived.Test.YtmampgkhobbdcabTree
import Derived.Test.YtmampgkhobbdcabParenI
namespace Go.Proofs.Ytmampgkhobbdcab
open Go.RowKit

/-- A tree list of at most 64 nodes. -/
def IsTree (n : Nat) (p : Nat → Int) : Prop := n ≤ 64 ∧ (stkOf p n).isSome = true
def TreeIs (n : Nat) (p : Nat → Int) (w : World) (e : Ending) (w' : World) : Prop := ∃ b : Bool, e = .returned (.bool b) ∧ (b = true ↔ IsTree n p) ∧ w = w'

set_option maxRecDepth 100000 in
set_option maxHeartbeats 2000000 in
theorem impl_isTreeList (A : Option Addr) (n c : Nat) (p : Nat → Int) (w : World) (hn : n ≤ 1048576) (hr : IRow w A n p) :
    Calls Try.prog 52 #[.slice A n c] w (TreeIs n p w) := by
  have HR := Lib.hid hr
  clear hr
  go_enter Try.func52, Try.ntmps52
  by_cases h64 : (64 : Int) < n
  · go_wp2_with fail
    go_ret
    exact ⟨false, rfl, by simp only [Bool.false_eq_true, false_iff]; exact fun h => by have := h.1; omega, rfl⟩
  go_wp2_with fail
  go_loop [11] (fun i => ∃ (q : Nat) (l : List Nat), q ≤ n ∧ i = .int .i64 q ∧ Hid (stkOf p q = some l)) (fun i => n - (intOf i).toNat)
  case atStart => exact ⟨0, [], Nat.zero_le _, rfl, rfl⟩
  case round =>
    obtain ⟨q, l, hq, rfl, hl⟩ := hrel
    by_cases hlt : q < n
    · obtain ⟨b, off, rfl, _, hc⟩ := HR.out (by omega)
      have hcq := hc q hlt
      have HC := Lib.hid hc
      have HT := Lib.hid (stk_facts hl.out)
      clear hc
      go_wp2_with fail
      go_loop [5] (fun a => ∃ l' : List Nat, a = .int .i64 (top l') ∧ Hid (Chain p l' ∧ (∀ s, s ∈ l' → s < q) ∧ popTo (p q) l' = popTo (p q) l)) (fun a => (intOf a + 1).toNat)
      case atStart => exact ⟨l, by first | rw [HT.out.2.1] | (rw [HT.out.2.1]; go_num), HT.out.1, HT.out.2.2, rfl⟩
      case round =>
        obtain ⟨l', rfl, hl'⟩ := hrel
        cases l' with
        | nil =>
          have et : top [] = -1 := rfl
          rw [et]
          by_cases e : p q = -1
          · have HN := Lib.hid (stk_some hl.out (show popTo (p q) l = some [] by rw [← hl'.out.2.2, popTo, if_pos e]))
            have e5 : ((-1 : Int) != p q) = false := by simp [e]
            have e6 : ¬ (p q < -1) := by omega
            clear e
            go_wp2_with fail
            go_round
            case rel => exact ⟨q + 1, _, by omega, by go_num, HN.out⟩
            case measure => simp [intOf]; omega
          · have HN := Lib.hid (stk_no hl.out (show popTo (p q) l = none by rw [← hl'.out.2.2, popTo, if_neg e]))
            have hne : ((-1 : Int) != p q) = true := by simp; omega
            have hne2 : ((-1 : Int) == p q) = false := by simp; omega
            have HF := Lib.hid (show ¬ IsTree n p from fun h => by
              obtain ⟨k, hk⟩ := stk_before h.2 (show q + 1 ≤ n by omega)
              rw [HN.out] at hk; cases hk)
            go_wp2_with fail
            go_ret
            exact ⟨false, rfl, by simp only [Bool.false_eq_true, false_iff]; exact HF.out, rfl⟩
        | cons s r =>
          have et : top (s :: r) = s := rfl
          rw [et]
          have hsq : s < q := hl'.out.2.1 s (List.mem_cons_self ..)
          by_cases e : (s : Int) = p q
          · have HN := Lib.hid (stk_some hl.out (show popTo (p q) l = some (s :: r) by rw [← hl'.out.2.2, popTo, if_pos e]))
            have e3 : ((s : Int) != p q) = false := by simp [e]
            have e4 : ¬ (p q < -1) := by omega
            clear e
            go_wp2_with fail
            go_round
            case rel => exact ⟨q + 1, _, by omega, by go_num, HN.out⟩
            case measure => simp [intOf]; omega
          · have hcs := HC.out s (by omega)
            have hps := hl'.out.1.1
            have hlt2 := hl'.out.1.2.1
            rw [hps] at hcs
            have hne : ((s : Int) != p q) = true := by simp; exact e
            have hne2 : ((s : Int) == p q) = false := by simp; exact e
            have hne3 : ((s : Int) != -1) = true := by simp
            have HP := Lib.hid (show popTo (p q) r = popTo (p q) l by rw [← hl'.out.2.2, popTo, if_neg e])
            have HS := Lib.hid (fun t (h : t ∈ r) => hl'.out.2.1 t (List.mem_cons_of_mem _ h))
            have HCH := Lib.hid hl'.out.1.2.2
            clear hl'
            generalize hT : top r = T at *
            go_wp2_with fail
            go_round
            case rel => exact ⟨r, by rw [hT], HCH.out, HS.out, HP.out⟩
            case measure => simp [intOf]; omega
    · obtain rfl : q = n := by omega
      go_wp2_with fail
      go_ret
      exact ⟨true, rfl, by simp only [true_iff]; exact ⟨by omega, by rw [hl.out]; rfl⟩, rfl⟩

set_option maxRecDepth 100000 in
set_option maxHeartbeats 2000000 in
theorem spec_raTree (A : Option Addr) (n c : Nat) (p : Nat → Int) (w : World) (hn : n ≤ 1048576) (hr : IRow w A n p) :
    Calls Try.prog 50 #[.slice A n c] w (TreeIs n p w) := by
  have HR := Lib.hid hr
  clear hr
  go_enter Try.func50, Try.ntmps50
  by_cases h64 : (64 : Int) < n
  · go_wp2_with fail
    go_ret
    exact ⟨false, rfl, by simp only [Bool.false_eq_true, false_iff]; exact fun h => by have := h.1; omega, rfl⟩
  go_wp2_with fail
  go_loop [11] (fun i => ∃ (q : Nat) (l : List Nat), q ≤ n ∧ i = .int .i64 q ∧ Hid (stkOf p q = some l)) (fun i => n - (intOf i).toNat)
  case atStart => exact ⟨0, [], Nat.zero_le _, rfl, rfl⟩
  case round =>
    obtain ⟨q, l, hq, rfl, hl⟩ := hrel
    by_cases hlt : q < n
    · obtain ⟨b, off, rfl, _, hc⟩ := HR.out (by omega)
      have hcq := hc q hlt
      have HC := Lib.hid hc
      have HT := Lib.hid (stk_facts hl.out)
      clear hc
      go_wp2_with fail
      go_loop [5] (fun a => ∃ l' : List Nat, a = .int .i64 (top l') ∧ Hid (Chain p l' ∧ (∀ s, s ∈ l' → s < q) ∧ popTo (p q) l' = popTo (p q) l)) (fun a => (intOf a + 1).toNat)
      case atStart => exact ⟨l, by first | rw [HT.out.2.1] | (rw [HT.out.2.1]; go_num), HT.out.1, HT.out.2.2, rfl⟩
      case round =>
        obtain ⟨l', rfl, hl'⟩ := hrel
        cases l' with
        | nil =>
          have et : top [] = -1 := rfl
          rw [et]
          by_cases e : p q = -1
          · have HN := Lib.hid (stk_some hl.out (show popTo (p q) l = some [] by rw [← hl'.out.2.2, popTo, if_pos e]))
            have e5 : ((-1 : Int) != p q) = false := by simp [e]
            have e6 : ¬ (p q < -1) := by omega
            clear e
            go_wp2_with fail
            go_round
            case rel => exact ⟨q + 1, _, by omega, by go_num, HN.out⟩
            case measure => simp [intOf]; omega
          · have HN := Lib.hid (stk_no hl.out (show popTo (p q) l = none by rw [← hl'.out.2.2, popTo, if_neg e]))
            have hne : ((-1 : Int) != p q) = true := by simp; omega
            have hne2 : ((-1 : Int) == p q) = false := by simp; omega
            have HF := Lib.hid (show ¬ IsTree n p from fun h => by
              obtain ⟨k, hk⟩ := stk_before h.2 (show q + 1 ≤ n by omega)
              rw [HN.out] at hk; cases hk)
            by_cases e2 : p q < -1
            · go_wp2_with fail
              go_ret
              exact ⟨false, rfl, by simp only [Bool.false_eq_true, false_iff]; exact HF.out, rfl⟩
            · go_wp2_with fail
              go_ret
              exact ⟨false, rfl, by simp only [Bool.false_eq_true, false_iff]; exact HF.out, rfl⟩
        | cons s r =>
          have et : top (s :: r) = s := rfl
          rw [et]
          have hsq : s < q := hl'.out.2.1 s (List.mem_cons_self ..)
          by_cases e : (s : Int) = p q
          · have HN := Lib.hid (stk_some hl.out (show popTo (p q) l = some (s :: r) by rw [← hl'.out.2.2, popTo, if_pos e]))
            have e3 : ((s : Int) != p q) = false := by simp [e]
            have e4 : ¬ (p q < -1) := by omega
            clear e
            go_wp2_with fail
            go_round
            case rel => exact ⟨q + 1, _, by omega, by go_num, HN.out⟩
            case measure => simp [intOf]; omega
          · have hcs := HC.out s (by omega)
            have hps := hl'.out.1.1
            have hlt2 := hl'.out.1.2.1
            rw [hps] at hcs
            have hne : ((s : Int) != p q) = true := by simp; exact e
            have hne2 : ((s : Int) == p q) = false := by simp; exact e
            have hne3 : ((s : Int) != -1) = true := by simp
            have HP := Lib.hid (show popTo (p q) r = popTo (p q) l by rw [← hl'.out.2.2, popTo, if_neg e])
            have HS := Lib.hid (fun t (h : t ∈ r) => hl'.out.2.1 t (List.mem_cons_of_mem _ h))
            have HCH := Lib.hid hl'.out.1.2.2
            clear hl'
            generalize hT : top r = T at *
            go_wp2_with fail
            go_round
            case rel => exact ⟨r, by rw [hT], HCH.out, HS.out, HP.out⟩
            case measure => simp [intOf]; omega
    · obtain rfl : q = n := by omega
      go_wp2_with fail
      go_ret
      exact ⟨true, rfl, by simp only [true_iff]; exact ⟨by omega, by rw [hl.out]; rfl⟩, rfl⟩
end Go.Proofs.Ytmampgkhobbdcab
