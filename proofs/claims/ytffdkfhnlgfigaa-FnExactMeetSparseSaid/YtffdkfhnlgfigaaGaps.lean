/- GapsOf, FromGaps: both sides. -/
import Derived.Test.YtffdkfhnlgfigaaGen
import Derived.Test.YtffdkfhnlgfigaaObj
import Derived.Test.YtffdkfhnlgfigaaKeys
namespace Go.Proofs.Ytffdkfhnlgfigaa
open Go.RowKit

def Rising (n : Nat) (X : Nat → Int) : Prop := ∀ i, i < n → 0 ≤ X i ∧ X i ≤ 99999 ∧ (0 < i → X (i - 1) < X i)
def lastI (X : Nat → Int) (i : Nat) : Int := if i = 0 then -1 else X (i - 1)
def gapF (X : Nat → Int) (i : Nat) : Int := X i - lastI X i
theorem last_zero (X : Nat → Int) : lastI X 0 = -1 := rfl
theorem last_succ (X : Nat → Int) (i : Nat) : lastI X (i + 1) = X i := rfl
/-- A list of ints as answer, and a word whether it is one. -/
def IntsOwn (n : Nat) (X : Nat → Int) (b : Bool) (w : World) (e : Ending) (w' : World) : Prop :=
  ∃ A c, e = .returned (.tuple #[.slice A n c, .bool b]) ∧ Ow w.heap.size w'.heap.size 3 A n (intV X) w' ∧ Below w.heap.size w w'
theorem intsOwn_none (w : World) (X : Nat → Int) (e : Ending) (w' : World) (h : e = .returned (.tuple #[.slice none 0 0, .bool false])) (hb : Below w.heap.size w w') : IntsOwn 0 X false w e w' :=
  ⟨none, 0, h, ow_zero _ _ _ _ _ _, hb⟩
theorem ow_of_owned {w : World} {B n c : Nat} {A : Option Addr} {X : Nat → Int} (h : w.ownsRow B 3 1 (.slice A n c) n (vals (intV X) n)) : Ow B w.heap.size 3 A n (intV X) w := by
  rcases owned_vec h with rfl | ⟨g, rfl, hg, ho⟩
  · exact ow_zero _ _ _ _ _ _
  · exact ow_of_own ho hg (Nat.le_refl n)

def RisIs (p : Prop) (w : World) (e : Ending) (w' : World) : Prop := ∃ b : Bool, e = .returned (.bool b) ∧ (b = true ↔ p) ∧ ∃ k, w' = w.drewN k
theorem RisIs.two {f : FuncId} {args : Array Value} {w : World} {p : Prop} (h : Calls Try.prog f args w (RisIs p w)) :
    (p → Calls Try.prog f args w fun e w' => e = .returned (.bool true) ∧ Below w.heap.size w w') ∧ (¬ p → Calls Try.prog f args w fun e w' => e = .returned (.bool false) ∧ Below w.heap.size w w') := by
  constructor
  · intro hp
    refine h.mono ?_; rintro e w' ⟨b, rfl, hb, k, rfl⟩
    rw [hb.2 hp]; exact ⟨rfl, below_drewN (Below.refl _ _) _⟩
  · intro hp
    refine h.mono ?_; rintro e w' ⟨b, rfl, hb, k, rfl⟩
    rw [Bool.eq_false_iff.2 (fun e => hp (hb.1 e))]; exact ⟨rfl, below_drewN (Below.refl _ _) _⟩

theorem rising_snoc {q : Nat} {X : Nat → Int} (h : Rising q X) (h0 : lastI X q < X q) (h1 : X q ≤ 99999) (hl : -1 ≤ lastI X q) : Rising (q + 1) X := fun i hi => by
  by_cases e : i = q
  · subst e
    refine ⟨by omega, h1, fun hp => ?_⟩
    unfold lastI at h0; rw [if_neg (by omega)] at h0; exact h0
  · exact h i (by omega)
theorem rising_last {q : Nat} {X : Nat → Int} (h : Rising q X) : -1 ≤ lastI X q ∧ lastI X q ≤ 99999 := by
  unfold lastI
  split
  · omega
  · have := h (q - 1) (by omega); omega
theorem rising_not {q n : Nat} {X : Nat → Int} (hq : q < n) (h : ¬ (lastI X q < X q ∧ X q ≤ 99999)) : ¬ Rising n X := fun hr => h (by
  have h1 := hr q hq
  unfold lastI
  split
  · omega
  · exact ⟨h1.2.2 (by omega), h1.2.1⟩)

set_option maxRecDepth 100000 in
set_option maxHeartbeats 1000000 in
theorem spec_l1Rising (A : Option Addr) (n c : Nat) (X : Nat → Int) (w : World) (hn : n ≤ 1048576) (hr : IRow w A n X) :
    Calls Try.prog 53 #[.slice A n c, .int .i64 0, .int .i64 99999] w (RisIs (Rising n X) w) := by
  have HR := Lib.hid hr
  clear hr
  go_enter Try.func53, Try.ntmps53
  go_wp2_with fail
  go_loopw [11] (fun i wr => ∃ q : Nat, q ≤ n ∧ i = .int .i64 q ∧ Rising q X ∧ ∃ k, wr = w.drewN k) (fun i _ => n - (intOf i).toNat)
  case atStart => exact ⟨0, Nat.zero_le _, rfl, (fun i hi => absurd hi (by omega)), 0, rfl⟩
  case round =>
    obtain ⟨q, hq, rfl, hris, k, rfl⟩ := hrel
    have HS := Lib.hid hris
    obtain ⟨l0, l1⟩ := rising_last hris
    clear hris
    by_cases hlt : q < n
    · obtain ⟨b, off, rfl, _, hc⟩ := HR.out (by omega)
      have hcq := hc q hlt
      by_cases h1 : 0 ≤ X q ∧ X q ≤ 99999
      · obtain ⟨h1a, h1b⟩ := h1
        rcases Nat.eq_zero_or_pos q with h0 | h0
        · subst h0
          have HN := Lib.hid (rising_snoc HS.out (by unfold lastI; rw [if_pos rfl]; omega) h1b l0)
          have hc0 := hcq
          rw [Nat.add_zero] at hc0
          clear l0 l1 hc hcq
          go_wp2_with (go_at_call 43; refine (l1In_yes _ _ _ _ h1a h1b).mono ?_; rintro e w' ⟨rfl, rfl⟩)
          go_roundw
          case rel => exact ⟨1, by omega, by go_num, HN.out, k, rfl⟩
          case measure => simp [intOf]; omega
        · obtain ⟨p, rfl⟩ : ∃ p, q = p + 1 := ⟨q - 1, by omega⟩
          have hcp := hc p (by omega)
          have hL : lastI X (p + 1) = X p := rfl
          clear hc
          by_cases h2 : X p < X (p + 1)
          · have HN := Lib.hid (rising_snoc HS.out (by rw [hL]; exact h2) h1b l0)
            have d2 : decide (X (p + 1) ≤ X p) = false := by simp; omega
            rw [hL] at l0 l1
            clear hL
            go_wp2_with (go_at_call 43; refine (l1In_yes _ _ _ _ h1a h1b).mono ?_; rintro e w' ⟨rfl, rfl⟩)
            go_roundw
            case rel => exact ⟨p + 2, by omega, by go_num, HN.out, k, rfl⟩
            case measure => simp [intOf]; omega
          · have HF := Lib.hid (rising_not (n := n) hlt (fun h => h2 (by have := h.1; rw [hL] at this; exact this)))
            have d2 : decide (X (p + 1) ≤ X p) = true := by simp; omega
            rw [hL] at l0 l1
            clear hL
            go_wp2_with (go_at_call 43; refine (l1In_yes _ _ _ _ h1a h1b).mono ?_; rintro e w' ⟨rfl, rfl⟩)
            go_ret
            exact ⟨false, rfl, by simp only [Bool.false_eq_true, false_iff]; exact HF.out, k, rfl⟩
      · have HF := Lib.hid (show ¬ Rising n X from fun h => h1 ⟨(h q hlt).1, (h q hlt).2.1⟩)
        clear hc
        go_wp2_with (go_at_call 43; refine (l1In_no _ _ _ _ h1).mono ?_; rintro e w' ⟨rfl, rfl⟩)
        go_ret
        exact ⟨false, rfl, by simp only [Bool.false_eq_true, false_iff]; exact HF.out, k, rfl⟩
    · obtain rfl : q = n := by omega
      go_wp2_with fail
      go_ret
      exact ⟨true, rfl, by simp only [true_iff]; exact HS.out, k, rfl⟩

end Go.Proofs.Ytffdkfhnlgfigaa
