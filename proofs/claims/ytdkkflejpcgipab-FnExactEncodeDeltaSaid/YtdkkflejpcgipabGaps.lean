/- GapsOf, FromGaps: both sides. -/
import Derived.Test.YtdkkflejpcgipabGen
import Derived.Test.YtdkkflejpcgipabObj
import Derived.Test.YtdkkflejpcgipabKeys
namespace Go.Proofs.Ytdkkflejpcgipab
open Go.RowKit

def Rising (n : Nat) (X : Nat → Int) : Prop := ∀ i, i < n → 0 ≤ X i ∧ X i ≤ 99999 ∧ (0 < i → X (i - 1) < X i)
def lastI (X : Nat → Int) (i : Nat) : Int := if i = 0 then -1 else X (i - 1)
def gapF (X : Nat → Int) (i : Nat) : Int := X i - lastI X i
theorem last_zero (X : Nat → Int) : lastI X 0 = -1 := rfl
theorem last_succ (X : Nat → Int) (i : Nat) : lastI X (i + 1) = X i := rfl
/-- A list of ints as answer, and a word whether it is one. -/
def IntsOwn (n : Nat) (X : Nat → Int) (b : Bool) (w : World) (e : Ending) (w' : World) : Prop :=
  ∃ A c, e = .returned (.tuple #[.slice A n c, .bool b]) ∧ Ow w.heap.size w'.heap.size 3 A n (intV X) w' ∧ Below w.heap.size w w'
theorem intsOwn_none (w : World) (X : Nat → Int) (e : Ending) (w' : World) (h : e = .returned (.tuple #[.slice none 0 0, .bool false])) (hb : Below w.heap.size w w') : IntsOwn 0 X false w e w' :=
  ⟨none, 0, h, ow_zero _ _ _ _ _ _, hb⟩
theorem ow_of_owned {w : World} {B n c : Nat} {A : Option Addr} {X : Nat → Int} (h : w.ownsRow B 3 1 (.slice A n c) n (vals (intV X) n)) : Ow B w.heap.size 3 A n (intV X) w := by
  rcases owned_vec h with rfl | ⟨g, rfl, hg, ho⟩
  · exact ow_zero _ _ _ _ _ _
  · exact ow_of_own ho hg (Nat.le_refl n)

def RisIs (p : Prop) (w : World) (e : Ending) (w' : World) : Prop := ∃ b : Bool, e = .returned (.bool b) ∧ (b = true ↔ p) ∧ ∃ k, w' = w.drewN k
theorem RisIs.two {f : FuncId} {args : Array Value} {w : World} {p : Prop} (h : Calls Try.prog f args w (RisIs p w)) :
    (p → Calls Try.prog f args w fun e w' => e = .returned (.bool true) ∧ Below w.heap.size w w') ∧ (¬ p → Calls Try.prog f args w fun e w' => e = .returned (.bool false) ∧ Below w.heap.size w w') := by
  constructor
  · intro hp
    refine h.mono ?_; rintro e w' ⟨b, rfl, hb, k, rfl⟩
    rw [hb.2 hp]; exact ⟨rfl, below_drewN (Below.refl _ _) _⟩
  · intro hp
    refine h.mono ?_; rintro e w' ⟨b, rfl, hb, k, rfl⟩
    rw [Bool.eq_false_iff.2 (fun e => hp (hb.1 e))]; exact ⟨rfl, below_drewN (Below.refl _ _) _⟩

set_option maxRecDepth 100000 in
set_option maxHeartbeats 1000000 in
theorem impl_gapsOf_long (A : Option Addr) (n c : Nat) (w : World) (h : 60 < n) (hn : n ≤ 1048576) :
    Calls Try.prog 34 #[.slice A n c] w (IntsOwn 0 (fun _ => 0) false w) := by
  go_enter Try.func34, Try.ntmps34
  go_wp2_with fail
  go_ret2
  exact intsOwn_none _ _ _ _ rfl (Below.refl _ _)

theorem rising_snoc {q : Nat} {X : Nat → Int} (h : Rising q X) (h0 : lastI X q < X q) (h1 : X q ≤ 99999) (hl : -1 ≤ lastI X q) : Rising (q + 1) X := fun i hi => by
  by_cases e : i = q
  · subst e
    refine ⟨by omega, h1, fun hp => ?_⟩
    unfold lastI at h0; rw [if_neg (by omega)] at h0; exact h0
  · exact h i (by omega)
theorem rising_last {q : Nat} {X : Nat → Int} (h : Rising q X) : -1 ≤ lastI X q ∧ lastI X q ≤ 99999 := by
  unfold lastI
  split
  · omega
  · have := h (q - 1) (by omega); omega
theorem rising_not {q n : Nat} {X : Nat → Int} (hq : q < n) (h : ¬ (lastI X q < X q ∧ X q ≤ 99999)) : ¬ Rising n X := fun hr => h (by
  have h1 := hr q hq
  unfold lastI
  split
  · omega
  · exact ⟨h1.2.2 (by omega), h1.2.1⟩)

set_option maxRecDepth 100000 in
set_option maxHeartbeats 1000000 in
theorem impl_gapsOf (A : Option Addr) (n c : Nat) (X : Nat → Int) (w : World) (h60 : n ≤ 60) (hr : IRow w A n X) :
    Calls Try.prog 34 #[.slice A n c] w fun e w' => (Rising n X → IntsOwn n (gapF X) true w e w') ∧ (¬ Rising n X → IntsOwn 0 (fun _ => 0) false w e w') := by
  have HR := Lib.hid hr
  clear hr
  have hmk := fun W => run_make_row' (P := Try.prog) 25 3 (.int .i64 0) 8 Try.underlying25 infoI rfl .i64 .i64 n (by omega) (by omega) W
  go_enter Try.func34, Try.ntmps34
  go_wp2_with fail
  go_loopw [5, 16] (fun l i wr => ∃ q : Nat, q ≤ n ∧ i = .int .i64 q ∧ l = .int .i64 (lastI X q) ∧ Rising q X ∧ ORow wr w.heap.size n (fun j => if j < q then gapF X j else 0) ∧ Below w.heap.size w wr) (fun _ i _ => n - (intOf i).toNat)
  case atStart => exact ⟨0, Nat.zero_le _, rfl, rfl, fun i hi => absurd hi (by omega), (ORow.made w n).congr (fun i _ => by simp), (Below.refl _ _).alloc (Nat.le_refl _) _⟩
  case round =>
    obtain ⟨q, hq, rfl, rfl, hris, ho, hb⟩ := hrel
    have HO := Lib.hid ho
    have HB := Lib.hid hb
    have HS := Lib.hid hris
    obtain ⟨l0, l1⟩ := rising_last hris
    clear ho hb hris
    by_cases hlt : q < n
    · obtain ⟨b, off, rfl, hbl, hc⟩ := (HR.out.b HB.out) (by omega)
      have hcq := hc q hlt
      have hfo := HO.out.frozen q
      have hco := HO.out.cell hlt
      clear hc
      by_cases hgood : lastI X q < X q ∧ X q ≤ 99999
      · have HN := Lib.hid (rising_snoc HS.out hgood.1 hgood.2 l0)
        obtain ⟨g1, g2⟩ := hgood
        generalize hL : lastI X q = L at *
        go_wp2_with fail
        go_roundw
        case rel => exact ⟨q + 1, by omega, by go_num, by rw [last_succ], HN.out, (HO.out.set q _).congr (fun i _ => by
          by_cases e : i = q
          · subst e; rw [if_pos rfl, if_pos (by omega)]; unfold gapF; rw [hL]
          · rw [if_neg e]
            by_cases e2 : i < q
            · rw [if_pos e2, if_pos (by omega)]
            · rw [if_neg e2, if_neg (by omega)]), below_setAt HB.out (Nat.le_refl _) _⟩
        case measure => simp [intOf]; omega
      · have HF := Lib.hid (rising_not hlt hgood)
        generalize hL : lastI X q = L at *
        by_cases g1 : X q ≤ L
        · go_wp2_with fail
          go_ret2
          exact ⟨fun h => absurd h HF.out, fun _ => intsOwn_none _ _ _ _ rfl HB.out⟩
        · have g2 : ¬ (X q ≤ 99999) := fun h => hgood ⟨by omega, h⟩
          go_wp2_with fail
          go_ret2
          exact ⟨fun h => absurd h HF.out, fun _ => intsOwn_none _ _ _ _ rfl HB.out⟩
    · obtain rfl : q = n := by omega
      go_wp2_with fail
      go_ret2
      exact ⟨fun _ => ⟨_, _, rfl, ow_of_own (m := q) (show GOwn _ _ _ _ _ from HO.out.congr (fun i hi => by rw [if_pos hi])) (Nat.le_refl _) (Nat.le_refl _), HB.out⟩, fun h => absurd HS.out h⟩

set_option maxRecDepth 100000 in
set_option maxHeartbeats 1000000 in
theorem spec_l1Rising (A : Option Addr) (n c : Nat) (X : Nat → Int) (w : World) (hn : n ≤ 1048576) (hr : IRow w A n X) :
    Calls Try.prog 57 #[.slice A n c, .int .i64 0, .int .i64 99999] w (RisIs (Rising n X) w) := by
  have HR := Lib.hid hr
  clear hr
  go_enter Try.func57, Try.ntmps57
  go_wp2_with fail
  go_loopw [11] (fun i wr => ∃ q : Nat, q ≤ n ∧ i = .int .i64 q ∧ Rising q X ∧ ∃ k, wr = w.drewN k) (fun i _ => n - (intOf i).toNat)
  case atStart => exact ⟨0, Nat.zero_le _, rfl, (fun i hi => absurd hi (by omega)), 0, rfl⟩
  case round =>
    obtain ⟨q, hq, rfl, hris, k, rfl⟩ := hrel
    have HS := Lib.hid hris
    obtain ⟨l0, l1⟩ := rising_last hris
    clear hris
    by_cases hlt : q < n
    · obtain ⟨b, off, rfl, _, hc⟩ := HR.out (by omega)
      have hcq := hc q hlt
      by_cases h1 : 0 ≤ X q ∧ X q ≤ 99999
      · obtain ⟨h1a, h1b⟩ := h1
        rcases Nat.eq_zero_or_pos q with h0 | h0
        · subst h0
          have HN := Lib.hid (rising_snoc HS.out (by unfold lastI; rw [if_pos rfl]; omega) h1b l0)
          have hc0 := hcq
          rw [Nat.add_zero] at hc0
          clear l0 l1 hc hcq
          go_wp2_with (go_at_call 51; refine (l1In_yes _ _ _ _ h1a h1b).mono ?_; rintro e w' ⟨rfl, rfl⟩)
          go_roundw
          case rel => exact ⟨1, by omega, by go_num, HN.out, k, rfl⟩
          case measure => simp [intOf]; omega
        · obtain ⟨p, rfl⟩ : ∃ p, q = p + 1 := ⟨q - 1, by omega⟩
          have hcp := hc p (by omega)
          have hL : lastI X (p + 1) = X p := rfl
          clear hc
          by_cases h2 : X p < X (p + 1)
          · have HN := Lib.hid (rising_snoc HS.out (by rw [hL]; exact h2) h1b l0)
            have d2 : decide (X (p + 1) ≤ X p) = false := by simp; omega
            rw [hL] at l0 l1
            clear hL
            go_wp2_with (go_at_call 51; refine (l1In_yes _ _ _ _ h1a h1b).mono ?_; rintro e w' ⟨rfl, rfl⟩)
            go_roundw
            case rel => exact ⟨p + 2, by omega, by go_num, HN.out, k, rfl⟩
            case measure => simp [intOf]; omega
          · have HF := Lib.hid (rising_not (n := n) hlt (fun h => h2 (by have := h.1; rw [hL] at this; exact this)))
            have d2 : decide (X (p + 1) ≤ X p) = true := by simp; omega
            rw [hL] at l0 l1
            clear hL
            go_wp2_with (go_at_call 51; refine (l1In_yes _ _ _ _ h1a h1b).mono ?_; rintro e w' ⟨rfl, rfl⟩)
            go_ret
            exact ⟨false, rfl, by simp only [Bool.false_eq_true, false_iff]; exact HF.out, k, rfl⟩
      · have HF := Lib.hid (show ¬ Rising n X from fun h => h1 ⟨(h q hlt).1, (h q hlt).2.1⟩)
        clear hc
        go_wp2_with (go_at_call 51; refine (l1In_no _ _ _ _ h1).mono ?_; rintro e w' ⟨rfl, rfl⟩)
        go_ret
        exact ⟨false, rfl, by simp only [Bool.false_eq_true, false_iff]; exact HF.out, k, rfl⟩
    · obtain rfl : q = n := by omega
      go_wp2_with fail
      go_ret
      exact ⟨true, rfl, by simp only [true_iff]; exact HS.out, k, rfl⟩

set_option maxRecDepth 100000 in
set_option maxHeartbeats 1000000 in
theorem spec_gapsOf_no (A : Option Addr) (n c : Nat) (X : Nat → Int) (w : World) (hn : n ≤ 1048576) (hr : IRow w A n X) (h : ¬ (n ≤ 60 ∧ Rising n X)) :
    Calls Try.prog 33 #[.slice A n c] w (IntsOwn 0 (fun _ => 0) false w) := by
  have HR := Lib.hid hr
  have HF := Lib.hid h
  clear hr h
  go_enter Try.func33, Try.ntmps33
  by_cases h60 : (60 : Int) < n
  · go_wp2_with fail
    go_ret2
    exact intsOwn_none _ _ _ _ rfl (Below.refl _ _)
  · have d1 : decide ((60 : Int) < n) = false := by simpa using h60
    go_wp2_with fail
    refine ((RisIs.two (spec_l1Rising A n c X _ hn HR.out)).2 (fun h => HF.out ⟨by omega, h⟩)).mono ?_; rintro e w1 ⟨rfl, hb⟩
    have HB := Lib.hid hb
    clear hb
    go_wp2_with fail
    go_ret2
    exact intsOwn_none _ _ _ _ rfl HB.out

set_option maxRecDepth 100000 in
set_option maxHeartbeats 2000000 in
theorem spec_gapsOf_yes (A : Option Addr) (n c : Nat) (X : Nat → Int) (w : World) (h60 : n ≤ 60) (hr : IRow w A n X) (h : Rising n X) :
    Calls Try.prog 33 #[.slice A n c] w (IntsOwn n (gapF X) true w) := by
  have HR := Lib.hid hr
  have HX := Lib.hid h
  clear hr h
  have d1 : decide ((60 : Int) < n) = false := by simp; omega
  go_enter Try.func33, Try.ntmps33
  go_wp2_with fail
  refine ((RisIs.two (spec_l1Rising A n c X _ (by omega) HR.out)).1 HX.out).mono ?_; rintro e w1 ⟨rfl, hb⟩
  have HB1 := Lib.hid hb
  clear hb
  go_wp2_with fail
  go_loopw [4, 5, 18] (fun op l i wr => ∃ (q : Nat) (A1 : Option Addr) (k1 : Nat), q ≤ n ∧ i = .int .i64 q ∧ op = .slice A1 q k1 ∧ l = .int .i64 (lastI X q) ∧ Hid (wr.ownsRow w.heap.size 3 1 (.slice A1 q k1) q (vals (intV (gapF X)) q)) ∧ Hid (Below w.heap.size w wr)) (fun _ _ i _ => n - (intOf i).toNat)
  case atStart => exact ⟨0, none, 0, Nat.zero_le _, rfl, rfl, rfl, Lib.hid (World.ownsRow_nil _ _ _ _), HB1⟩
  case round =>
    obtain ⟨q, A1, k1, hq, rfl, rfl, rfl, HO, HB⟩ := hrel
    have hsz := HB.out.size
    by_cases hlt : q < n
    · obtain ⟨b, off, rfl, _, hc⟩ := (HR.out.b HB.out) (by omega)
      have hcq := hc q hlt
      clear hc
      have hX := HX.out q hlt
      obtain ⟨x0, x1, _⟩ := hX
      have hl := rising_last (fun i hi => HX.out i (by omega) : Rising q X)
      obtain ⟨l0, l1⟩ := hl
      have hG : intV (gapF X) q = .int .i64 (X q - lastI X q) := rfl
      generalize hL : lastI X q = L at *
      go_wp2_with (at_builtin; refine wpList_push rfl _ _ 25 rfl w.heap.size 3 (.int .i64 0) 8 Try.underlying25 infoI rfl A1 q k1 (intV (gapF X)) (.int .i64 (X q - L)) wr rfl HO.out rfl hG rfl (by omega) (by omega) hsz ?_)
      intro A' c' w3 hown' hb3
      have HO3 := Lib.hid hown'
      have HB3 := Lib.hid (HB.out.trans hb3)
      clear hown' hb3 HO HB
      go_wp2_with fail
      go_roundw
      case rel => exact ⟨q + 1, A', c', by omega, by go_num, rfl, by rw [last_succ], HO3, HB3⟩
      case measure => simp [intOf]; omega
    · obtain rfl : q = n := by omega
      go_wp2_with fail
      go_ret2
      exact ⟨A1, k1, rfl, ow_of_owned HO.out, HB.out⟩
end Go.Proofs.Ytdkkflejpcgipab
