/- The library's search in a sorted list of ints. -/
import Derived.Test.YtffdkfhnlgfigaaMem
import Derived.Test.YtffdkfhnlgfigaaKeys
namespace Go.Proofs.Ytffdkfhnlgfigaa
open Go.RowKit

/-- How many of the first n are less than x. -/
def ltN (X : Nat → Int) (x : Int) : Nat → Nat
  | 0 => 0
  | n + 1 => ltN X x n + if X n < x then 1 else 0
theorem ltN_le (X : Nat → Int) (x : Int) (n : Nat) : ltN X x n ≤ n := by
  induction n with
  | zero => exact Nat.le_refl _
  | succ n ih => rw [ltN]; split <;> omega
theorem ltN_eq {X : Nat → Int} {x : Int} {k : Nat} : ∀ {n : Nat}, (∀ i, i < k → X i < x) → (∀ i, k ≤ i → i < n → x ≤ X i) → ltN X x n = min k n := by
  intro n
  induction n with
  | zero => intro _ _; simp [ltN]
  | succ n ih =>
    intro h1 h2
    rw [ltN, ih h1 (fun i a b => h2 i a (by omega))]
    by_cases e : n < k
    · rw [if_pos (h1 n e)]; omega
    · rw [if_neg (by have := h2 n (by omega) (by omega); omega)]; omega
theorem ltN_congr {X Y : Nat → Int} {x : Int} : ∀ {n : Nat}, (∀ i, i < n → X i = Y i) → ltN X x n = ltN Y x n := by
  intro n
  induction n with
  | zero => intro _; rfl
  | succ n ih => intro h; rw [ltN, ltN, ih (fun i hi => h i (by omega)), h n (by omega)]
/-- Sorted numbers. -/
def SrtN (n : Nat) (X : Nat → Int) : Prop := ∀ i j, i ≤ j → j < n → X i ≤ X j
theorem ltN_split {X : Nat → Int} {x : Int} {n : Nat} (hs : SrtN n X) : (∀ i, i < ltN X x n → X i < x) ∧ (∀ i, ltN X x n ≤ i → i < n → x ≤ X i) := by
  have key : ∀ m, m ≤ n → ∃ k, k ≤ m ∧ (∀ i, i < k → X i < x) ∧ (∀ i, k ≤ i → i < m → x ≤ X i) := by
    intro m
    induction m with
    | zero => intro _; exact ⟨0, Nat.le_refl _, fun i h => absurd h (by omega), fun i _ h => absurd h (by omega)⟩
    | succ m ih =>
      intro hm
      obtain ⟨k, hk, h1, h2⟩ := ih (by omega)
      by_cases e : X m < x
      · refine ⟨m + 1, Nat.le_refl _, fun i hi => ?_, fun i a b => by omega⟩
        have := hs i m (by omega) (by omega); omega
      · refine ⟨k, by omega, h1, fun i a b => ?_⟩
        by_cases e2 : i = m
        · subst e2; omega
        · exact h2 i a (by omega)
  obtain ⟨k, hk, h1, h2⟩ := key n (Nat.le_refl _)
  have e : ltN X x n = k := by rw [ltN_eq h1 h2]; omega
  rw [e]; exact ⟨h1, h2⟩

set_option maxHeartbeats 400000 in
theorem cmp_less (a b : Int) (w : World) : Calls Try.prog 109 #[.int .i64 a, .int .i64 b] w fun e w' => e = .returned (.bool (decide (a < b))) ∧ w = w' := by
  have h1 : ∀ (x : Int) (W : World), Calls Try.prog 127 #[.int .i64 x] W fun e w' => e = .returned (.bool false) ∧ W = w' := fun x W => by
    go_enter Try.func127, Try.ntmps127
    go_wp2_with fail
    go_ret
    exact ⟨ret_bool (by simp), rfl⟩
  have H := Lib.hid h1
  clear h1
  go_enter Try.func109, Try.ntmps109
  go_wp2_with fail
  refine (H.out _ _).mono ?_; rintro e w' ⟨rfl, rfl⟩
  go_wp2_with fail
  go_ret
  exact ⟨rfl, rfl⟩
theorem sl_isNaN (x : Int) (W : World) : Calls Try.prog 110 #[.int .i64 x] W fun e w' => e = .returned (.bool false) ∧ W = w' := by
  go_enter Try.func110, Try.ntmps110
  go_wp2_with fail
  go_ret
  exact ⟨ret_bool (by simp), rfl⟩

def BinIs (n : Nat) (X : Nat → Int) (x : Int) (w : World) (e : Ending) (w' : World) : Prop := ∃ b : Bool, e = .returned (.tuple #[.int .i64 (ltN X x n : Nat), .bool b]) ∧ (b = true ↔ ∃ i, i < n ∧ X i = x) ∧ w = w'
set_option maxRecDepth 100000 in
set_option maxHeartbeats 1000000 in
theorem bin_search (A : Option Addr) (n c : Nat) (X : Nat → Int) (x : Int) (w : World) (hn : n ≤ 1048576) (hr : IRow w A n X) (hs : SrtN n X) :
    Calls Try.prog 81 #[.slice A n c, .int .i64 x] w (BinIs n X x w) := by
  obtain ⟨k, hk⟩ : ∃ k, k = ltN X x n := ⟨_, rfl⟩
  have hkn : k ≤ n := by rw [hk]; exact ltN_le _ _ _
  have hsp := ltN_split (x := x) hs
  rw [← hk] at hsp
  have HK := Lib.hid hk
  have HP := Lib.hid hsp
  have HR := Lib.hid hr
  have hso := Lib.hid hs
  clear hk hsp hr hs
  go_enter Try.func81, Try.ntmps81
  go_wp2_with fail
  go_loop [7, 8] (fun i j => ∃ a b : Nat, a ≤ k ∧ k ≤ b ∧ b ≤ n ∧ i = .int .i64 a ∧ j = .int .i64 b) (fun i j => (intOf j - intOf i).toNat)
  case atStart => exact ⟨0, n, Nat.zero_le _, hkn, Nat.le_refl _, rfl, rfl⟩
  case round =>
    obtain ⟨a, b, ha, hb, hbn, rfl, rfl⟩ := hrel
    by_cases hlt : a < b
    · obtain ⟨bl, off, rfl, hbl, hc⟩ := HR.out (by omega)
      obtain ⟨h, hh⟩ : ∃ h, h = (a + b) / 2 := ⟨_, rfl⟩
      have hhi : ((a : Int) + (b : Int)) / 2 = (h : Int) := by omega
      have h1 : a ≤ h := by omega
      have h2 : h < b := by omega
      have hx := hc h (by omega)
      clear hc
      have HH := Lib.hid hh
      clear hh
      by_cases hlx : X h < x
      · have d1 : decide (X h < x) = true := by simpa using hlx
        have hk1 : h + 1 ≤ k := by
          rcases Nat.lt_or_ge h k with e | e
          · omega
          · have := HP.out.2 h e (by omega); omega
        clear hlx
        go_wp2_with fail
        refine (cmp_less _ _ _).mono ?_; rintro e w' ⟨rfl, rfl⟩
        rw [d1]
        go_wp2_with fail
        go_round
        case rel => exact ⟨h + 1, b, hk1, hb, hbn, by go_num, rfl⟩
        case measure => simp [intOf]; omega
      · have d1 : decide (X h < x) = false := by simpa using hlx
        have hk1 : k ≤ h := by
          rcases Nat.lt_or_ge h k with e | e
          · have := HP.out.1 h e; omega
          · exact e
        clear hlx
        go_wp2_with fail
        refine (cmp_less _ _ _).mono ?_; rintro e w' ⟨rfl, rfl⟩
        rw [d1]
        go_wp2_with fail
        go_round
        case rel => exact ⟨a, h, ha, hk1, by omega, rfl, rfl⟩
        case measure => simp [intOf]; omega
    · obtain rfl : a = k := by omega
      obtain rfl : b = a := by omega
      by_cases hbn2 : b < n
      · obtain ⟨bl, off, rfl, hbl, hc⟩ := HR.out (by omega)
        have hx := hc b hbn2
        clear hc
        by_cases he : X b = x
        · have d1 : (X b == x) = true := by simpa using he
          have HE := Lib.hid he
          clear he
          go_wp2_with fail
          go_ret2
          exact ⟨true, ret_int_bool (a := (b : Int)) (by rw [← HK.out]) rfl, by simp only [true_iff]; exact ⟨b, hbn2, HE.out⟩, rfl⟩
        · have d1 : (X b == x) = false := by simpa using he
          have HE := Lib.hid he
          clear he
          go_wp2_with fail
          refine (sl_isNaN _ _).mono ?_; rintro e w' ⟨rfl, rfl⟩
          go_wp2_with fail
          go_ret2
          refine ⟨false, ret_int_bool (a := (b : Int)) (by rw [← HK.out]) rfl, ?_, rfl⟩
          simp only [Bool.false_eq_true, false_iff]
          rintro ⟨i, hi, e⟩
          rcases Nat.lt_trichotomy i b with h | h | h
          · have := HP.out.1 i h; omega
          · subst h; exact HE.out e
          · have h1 := HP.out.2 b (Nat.le_refl _) hbn2
            have h2 := HE.out
            have h3 := hso.out b i (by omega) hi
            omega
      · have d1 : decide ((b : Int) < (n : Int)) = false := by simp; omega
        go_wp2_with fail
        go_ret2
        refine ⟨false, ret_int_bool (a := (b : Int)) (by rw [← HK.out]) rfl, ?_, rfl⟩
        simp only [Bool.false_eq_true, false_iff]
        rintro ⟨i, hi, e⟩
        have := HP.out.1 i (by omega); omega
end Go.Proofs.Ytffdkfhnlgfigaa
