/- FromGaps: both sides; numbers that have codes. -/
import Derived.Test.YtdkkflejpcgipabGaps
namespace Go.Proofs.Ytdkkflejpcgipab
open Go.RowKit

def sumI (X : Nat → Int) : Nat → Int
  | 0 => -1
  | k + 1 => sumI X k + X k
def InAll (n : Nat) (X : Nat → Int) (lo hi : Int) : Prop := ∀ i, i < n → lo ≤ X i ∧ X i ≤ hi
def FromOk (n : Nat) (X : Nat → Int) : Prop := InAll n X 1 100000 ∧ sumI X n ≤ 99999
def fromF (X : Nat → Int) (i : Nat) : Int := sumI X (i + 1)
theorem sum_up {X : Nat → Int} {n : Nat} (h : InAll n X 1 100000) : ∀ k j, k + j ≤ n → sumI X k + j ≤ sumI X (k + j) ∧ sumI X (k + j) ≤ sumI X k + 100000 * j
  | _, 0, _ => by simp
  | k, j + 1, hj => by
    have h1 := sum_up h k j (by omega)
    have h2 := h (k + j) (by omega)
    rw [show k + (j + 1) = (k + j) + 1 by omega, sumI]
    omega
theorem sum_bd {X : Nat → Int} {n k : Nat} (h : InAll n X 1 100000) (hk : k ≤ n) (hn : n ≤ 60) : -1 ≤ sumI X k ∧ sumI X k ≤ 6000000 := by
  have := sum_up h 0 k (by omega)
  rw [Nat.zero_add] at this
  have e : sumI X 0 = -1 := rfl
  omega
theorem fromOk_step {X : Nat → Int} {q : Nat} (h : FromOk q X) (h1 : 1 ≤ X q) (h2 : sumI X q + X q ≤ 99999) (h0 : -1 ≤ sumI X q) : FromOk (q + 1) X :=
  ⟨fun i hi => by
    by_cases e : i = q
    · subst e; omega
    · exact h.1 i (by omega), h2⟩
theorem fromOk_not {X : Nat → Int} {q n : Nat} (hq : q < n) (h : ¬ (1 ≤ X q ∧ sumI X q + X q ≤ 99999)) : ¬ FromOk n X := fun hf => h ⟨(hf.1 q hq).1, by
  have h1 := sum_up hf.1 (q + 1) (n - (q + 1)) (by omega)
  rw [show q + 1 + (n - (q + 1)) = n by omega, sumI] at h1
  have := hf.2
  omega⟩

set_option maxRecDepth 100000 in
set_option maxHeartbeats 1000000 in
theorem impl_fromGaps_long (A : Option Addr) (n c : Nat) (w : World) (h : 60 < n) (hn : n ≤ 1048576) :
    Calls Try.prog 36 #[.slice A n c] w (IntsOwn 0 (fun _ => 0) false w) := by
  go_enter Try.func36, Try.ntmps36
  go_wp2_with fail
  go_ret2
  exact intsOwn_none _ _ _ _ rfl (Below.refl _ _)

set_option maxRecDepth 100000 in
set_option maxHeartbeats 1000000 in
theorem impl_fromGaps (A : Option Addr) (n c : Nat) (X : Nat → Int) (w : World) (h60 : n ≤ 60) (hr : IRow w A n X) :
    Calls Try.prog 36 #[.slice A n c] w fun e w' => (FromOk n X → IntsOwn n (fromF X) true w e w') ∧ (¬ FromOk n X → IntsOwn 0 (fun _ => 0) false w e w') := by
  have HR := Lib.hid hr
  clear hr
  have hmk := fun W => run_make_row' (P := Try.prog) 25 3 (.int .i64 0) 8 Try.underlying25 infoI rfl .i64 .i64 n (by omega) (by omega) W
  go_enter Try.func36, Try.ntmps36
  go_wp2_with fail
  go_loopw [5, 16] (fun l i wr => ∃ q : Nat, q ≤ n ∧ i = .int .i64 q ∧ l = .int .i64 (sumI X q) ∧ FromOk q X ∧ ORow wr w.heap.size n (fun j => if j < q then fromF X j else 0) ∧ Below w.heap.size w wr) (fun _ i _ => n - (intOf i).toNat)
  case atStart => exact ⟨0, Nat.zero_le _, rfl, rfl, ⟨fun i hi => absurd hi (by omega), by show (-1 : Int) ≤ 99999; omega⟩, (ORow.made w n).congr (fun i _ => by simp), (Below.refl _ _).alloc (Nat.le_refl _) _⟩
  case round =>
    obtain ⟨q, hq, rfl, rfl, hris, ho, hb⟩ := hrel
    have HO := Lib.hid ho
    have HB := Lib.hid hb
    have HS := Lib.hid hris
    obtain ⟨l0, _⟩ := sum_bd hris.1 (Nat.le_refl q) (by omega)
    have l1 := hris.2
    clear ho hb hris
    by_cases hlt : q < n
    · obtain ⟨b, off, rfl, hbl, hc⟩ := (HR.out.b HB.out) (by omega)
      have hcq := hc q hlt
      have hfo := HO.out.frozen q
      have hco := HO.out.cell hlt
      clear hc
      have hS1 : sumI X (q + 1) = sumI X q + X q := rfl
      by_cases hgood : 1 ≤ X q ∧ sumI X q + X q ≤ 99999
      · have HN := Lib.hid (fromOk_step HS.out hgood.1 hgood.2 l0)
        obtain ⟨g1, g2⟩ := hgood
        have HF := Lib.hid (show fromF X q = sumI X q + X q from rfl)
        have HS1 := Lib.hid hS1
        clear hS1
        generalize hL : sumI X q = L at *
        have d1 : decide (X q < 1) = false := by simp; omega
        have d2 : decide (100000 - L ≤ X q) = false := by simp; omega
        go_wp2_with fail
        go_roundw
        case rel => exact ⟨q + 1, by omega, by go_num, by rw [HS1.out], HN.out, (HO.out.set q _).congr (fun i _ => by
          by_cases e : i = q
          · subst e; rw [if_pos rfl, if_pos (by omega), HF.out]
          · rw [if_neg e]
            by_cases e2 : i < q
            · rw [if_pos e2, if_pos (by omega)]
            · rw [if_neg e2, if_neg (by omega)]), below_setAt HB.out (Nat.le_refl _) _⟩
        case measure => simp [intOf]; omega
      · have HF := Lib.hid (fromOk_not hlt hgood)
        clear hS1
        generalize hL : sumI X q = L at *
        by_cases g1 : X q < 1
        · have d1 : decide (X q < 1) = true := by simpa using g1
          go_wp2_with fail
          go_ret2
          exact ⟨fun h => absurd h HF.out, fun _ => intsOwn_none _ _ _ _ rfl HB.out⟩
        · have d1 : decide (X q < 1) = false := by simpa using g1
          have d2 : decide (100000 - L ≤ X q) = true := by simp; omega
          go_wp2_with fail
          go_ret2
          exact ⟨fun h => absurd h HF.out, fun _ => intsOwn_none _ _ _ _ rfl HB.out⟩
    · obtain rfl : q = n := by omega
      go_wp2_with fail
      go_ret2
      exact ⟨fun _ => ⟨_, _, rfl, ow_of_own (m := q) (show GOwn _ _ _ _ _ from HO.out.congr (fun i hi => by rw [if_pos hi])) (Nat.le_refl _) (Nat.le_refl _), HB.out⟩, fun h => absurd HS.out h⟩

set_option maxHeartbeats 1000000 in
theorem spec_l1AllG (A : Option Addr) (n c : Nat) (X : Nat → Int) (lo hi : Int) (w : World) (hn : n ≤ 1048576) (hr : IRow w A n X) :
    Calls Try.prog 67 #[.slice A n c, .int .i64 lo, .int .i64 hi] w (RisIs (InAll n X lo hi) w) := by
  have HR := Lib.hid hr
  clear hr
  go_enter Try.func67, Try.ntmps67
  go_wp2_with fail
  go_loop [11] (fun i => ∃ k : Nat, k ≤ n ∧ i = .int .i64 k ∧ Hid (InAll k X lo hi)) (fun i => n - (intOf i).toNat)
  case atStart => exact ⟨0, Nat.zero_le _, rfl, fun i hi => absurd hi (by omega)⟩
  case round =>
    obtain ⟨k, hk, rfl, hp⟩ := hrel
    by_cases hlt : k < n
    · obtain ⟨b1, o1, rfl, l1, hc1⟩ := HR.out (by omega)
      have hx := hc1 k hlt
      clear hc1 l1
      by_cases hin : lo ≤ X k ∧ X k ≤ hi
      · have hq : Hid (InAll (k + 1) X lo hi) := fun i hi => by
          by_cases e : i = k
          · subst e; exact hin
          · exact hp.out i (by omega)
        go_wp2_with (go_at_call 51; refine (l1In_yes _ _ _ _ hin.1 hin.2).mono ?_; rintro e w' ⟨rfl, rfl⟩)
        go_round
        case rel => exact ⟨k + 1, by omega, by go_num, hq⟩
        case measure => simp [intOf]; omega
      · have hb := Lib.hid (show ¬ (InAll n X lo hi) from fun h => hin (h k hlt))
        go_wp2_with (go_at_call 51; refine (l1In_no _ _ _ _ hin).mono ?_; rintro e w' ⟨rfl, rfl⟩)
        go_ret
        exact ⟨false, rfl, by simp only [Bool.false_eq_true, false_iff]; exact hb.out, 0, rfl⟩
    · obtain rfl : k = n := by omega
      go_wp2_with fail
      go_ret
      exact ⟨true, rfl, by simp only [true_iff]; exact hp.out, 0, rfl⟩

set_option maxHeartbeats 1000000 in
theorem spec_spCoded (A : Option Addr) (n c : Nat) (X : Nat → Int) (w : World) (hn : n ≤ 1048576) (hr : IRow w A n X) :
    Calls Try.prog 46 #[.slice A n c] w (BoolIs (n ≤ 60 ∧ InAll n X 1 100000) w) := by
  have HR := Lib.hid hr
  clear hr
  go_enter Try.func46, Try.ntmps46
  by_cases h60 : (n : Int) ≤ 60
  · have d1 : decide ((n : Int) ≤ 60) = true := by simpa using h60
    go_wp2_with fail
    refine (spec_l1AllG A n c X 1 100000 _ hn HR.out).mono ?_; rintro e w1 ⟨b, rfl, hb, k, rfl⟩
    have HB := Lib.hid hb
    clear hb
    go_wp2_with fail
    go_ret
    exact ⟨b, rfl, ⟨fun h => ⟨by omega, HB.out.1 h⟩, fun h => HB.out.2 h.2⟩, below_drewN (Below.refl _ _) _⟩
  · have d1 : decide ((n : Int) ≤ 60) = false := by simpa using h60
    go_wp2_with fail
    go_ret
    exact ⟨false, rfl, by simp only [Bool.false_eq_true, false_iff]; exact fun h => by omega, Below.refl _ _⟩

set_option maxRecDepth 100000 in
set_option maxHeartbeats 1000000 in
theorem spec_fromGaps_coded (A : Option Addr) (n c : Nat) (X : Nat → Int) (w : World) (hn : n ≤ 1048576) (hr : IRow w A n X) (h : ¬ (n ≤ 60 ∧ InAll n X 1 100000)) :
    Calls Try.prog 35 #[.slice A n c] w (IntsOwn 0 (fun _ => 0) false w) := by
  have HR := Lib.hid hr
  have HF := Lib.hid h
  clear hr h
  go_enter Try.func35, Try.ntmps35
  go_wp2_with fail
  refine ((BoolIs.two (spec_spCoded A n c X _ hn HR.out)).2 HF.out).mono ?_; rintro e w1 ⟨rfl, hb⟩
  have HB := Lib.hid hb
  clear hb
  go_wp2_with fail
  go_ret2
  exact intsOwn_none _ _ _ _ rfl HB.out

set_option maxRecDepth 100000 in
set_option maxHeartbeats 2000000 in
theorem spec_fromGaps (A : Option Addr) (n c : Nat) (X : Nat → Int) (w : World) (hr : IRow w A n X) (h60 : n ≤ 60) (h : InAll n X 1 100000) :
    Calls Try.prog 35 #[.slice A n c] w fun e w' => (FromOk n X → IntsOwn n (fromF X) true w e w') ∧ (¬ FromOk n X → IntsOwn 0 (fun _ => 0) false w e w') := by
  have HR := Lib.hid hr
  have HX := Lib.hid h
  clear hr h
  go_enter Try.func35, Try.ntmps35
  go_wp2_with fail
  refine ((BoolIs.two (spec_spCoded A n c X _ (by omega) HR.out)).1 ⟨h60, HX.out⟩).mono ?_; rintro e w1 ⟨rfl, hb⟩
  have HB1 := Lib.hid hb
  clear hb
  go_wp2_with fail
  go_loopw [4, 5, 13] (fun op l i wr => ∃ (q : Nat) (A1 : Option Addr) (k1 : Nat), q ≤ n ∧ i = .int .i64 q ∧ op = .slice A1 q k1 ∧ l = .int .i64 (sumI X q) ∧ Hid (wr.ownsRow w.heap.size 3 1 (.slice A1 q k1) q (vals (intV (fromF X)) q)) ∧ Hid (Below w.heap.size w wr)) (fun _ _ i _ => n - (intOf i).toNat)
  case atStart => exact ⟨0, none, 0, Nat.zero_le _, rfl, rfl, rfl, Lib.hid (World.ownsRow_nil _ _ _ _), HB1⟩
  case round =>
    obtain ⟨q, A1, k1, hq, rfl, rfl, rfl, HO, HB⟩ := hrel
    have hsz := HB.out.size
    obtain ⟨l0, l1⟩ := sum_bd HX.out hq h60
    by_cases hlt : q < n
    · obtain ⟨b, off, rfl, _, hc⟩ := (HR.out.b HB.out) (by omega)
      have hcq := hc q hlt
      clear hc
      obtain ⟨x0, x1⟩ := HX.out q hlt
      have hG : intV (fromF X) q = .int .i64 (sumI X q + X q) := rfl
      have HS1 := Lib.hid (show sumI X (q + 1) = sumI X q + X q from rfl)
      generalize hL : sumI X q = L at *
      go_wp2_with (at_builtin; refine wpList_push rfl _ _ 25 rfl w.heap.size 3 (.int .i64 0) 8 Try.underlying25 infoI rfl A1 q k1 (intV (fromF X)) (.int .i64 (L + X q)) wr rfl HO.out rfl hG rfl (by omega) (by omega) hsz ?_)
      intro A' c' w3 hown' hb3
      have HO3 := Lib.hid hown'
      have HB3 := Lib.hid (HB.out.trans hb3)
      clear hown' hb3 HO HB
      go_wp2_with fail
      go_roundw
      case rel => exact ⟨q + 1, A', c', by omega, by go_num, rfl, by rw [HS1.out], HO3, HB3⟩
      case measure => simp [intOf]; omega
    · obtain rfl : q = n := by omega
      by_cases hs : 100000 ≤ sumI X q
      · go_wp2_with fail
        go_ret2
        exact ⟨fun h => absurd h.2 (by omega), fun _ => intsOwn_none _ _ _ _ rfl HB.out⟩
      · go_wp2_with fail
        go_ret2
        exact ⟨fun _ => ⟨A1, k1, rfl, ow_of_owned HO.out, HB.out⟩, fun h => absurd ⟨HX.out, by omega⟩ h⟩
end Go.Proofs.Ytdkkflejpcgipab
