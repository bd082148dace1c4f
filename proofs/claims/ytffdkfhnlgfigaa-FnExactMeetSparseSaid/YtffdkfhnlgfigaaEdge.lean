/- Edges and Hypers: which are valid, both sides. -/
import Derived.Test.YtffdkfhnlgfigaaGaps
import Derived.Test.YtffdkfhnlgfigaaRowSS
import Derived.Test.YtffdkfhnlgfigaaHas
import Derived.Deep.RegionHeld3
namespace Go.Proofs.Ytffdkfhnlgfigaa
open Go.RowKit

def RisT (h : Int) (n : Nat) (X : Nat → Int) : Prop := ∀ i, i < n → 0 ≤ X i ∧ X i ≤ h ∧ (0 < i → X (i - 1) < X i)
theorem risT_snoc {h : Int} {q : Nat} {X : Nat → Int} (hr : RisT h q X) (h0 : lastI X q < X q) (h1 : X q ≤ h) (hl : -1 ≤ lastI X q) : RisT h (q + 1) X := fun i hi => by
  by_cases e : i = q
  · subst e
    refine ⟨by omega, h1, fun hp => ?_⟩
    unfold lastI at h0; rw [if_neg (by omega)] at h0; exact h0
  · exact hr i (by omega)
theorem risT_last {h : Int} {q : Nat} {X : Nat → Int} (hr : RisT h q X) : -1 ≤ lastI X q := by
  unfold lastI
  split
  · omega
  · have := (hr (q - 1) (by omega)).1; omega
theorem risT_not {h : Int} {q n : Nat} {X : Nat → Int} (hq : q < n) (hc : ¬ (lastI X q < X q ∧ X q ≤ h)) : ¬ RisT h n X := fun hr => hc ⟨by
  unfold lastI
  split
  · have := (hr q hq).1; omega
  · exact (hr q hq).2.2 (by omega), (hr q hq).2.1⟩
def EdgeOk (p : Int) (l : Nat) (X : Nat → Int) : Prop := l = 3 ∧ RisT (p - 1) l X
def HyperOk (z : Int) (n : Nat) (l : Nat → Nat) (X : Nat → Nat → Int) : Prop := 1 ≤ z ∧ z ≤ 72 ∧ n ≤ 40 ∧ ∀ i, i < n → EdgeOk z (l i) (X i)

set_option maxRecDepth 100000 in
set_option maxHeartbeats 1000000 in
theorem impl_isIncreasingBelow (A : Option Addr) (n c : Nat) (X : Nat → Int) (h : Int) (w : World) (hn : n ≤ 1048576) (hr : IRow w A n X) :
    Calls Try.prog 60 #[.slice A n c, .int .i64 (h + 1)] w (RisIs (RisT h n X) w) := by
  have HR := Lib.hid hr
  clear hr
  go_enter Try.func60, Try.ntmps60
  go_wp2_with fail
  go_loop [5, 10] (fun b i => ∃ q : Nat, q ≤ n ∧ i = .int .i64 q ∧ b = .int .i64 (lastI X q) ∧ Hid (RisT h q X)) (fun _ i => n - (intOf i).toNat)
  case atStart => exact ⟨0, Nat.zero_le _, rfl, rfl, Lib.hid (fun i hi => absurd hi (by omega))⟩
  case round =>
    obtain ⟨q, hq, rfl, rfl, HS⟩ := hrel
    by_cases hlt : q < n
    · obtain ⟨b, off, rfl, hbl, hc⟩ := HR.out (by omega)
      have hcq := hc q hlt
      clear hc
      by_cases hgood : lastI X q < X q ∧ X q ≤ h
      · have HN := Lib.hid (risT_snoc HS.out hgood.1 hgood.2 (risT_last HS.out))
        obtain ⟨g1, g2⟩ := hgood
        have HL := Lib.hid (last_succ X q)
        generalize hL : lastI X q = L at *
        have d1 : decide (X q ≤ L) = false := by simp; omega
        have d2 : decide (h + 1 ≤ X q) = false := by simp; omega
        go_wp2_with fail
        go_round
        case rel => exact ⟨q + 1, by omega, by go_num, by rw [HL.out], HN⟩
        case measure => simp [intOf]; omega
      · have HF := Lib.hid (risT_not hlt hgood)
        generalize hL : lastI X q = L at *
        by_cases g1 : X q ≤ L
        · have d1 : decide (X q ≤ L) = true := by simpa using g1
          go_wp2_with fail
          go_ret
          exact ⟨false, rfl, by simp only [Bool.false_eq_true, false_iff]; exact HF.out, 0, rfl⟩
        · have d1 : decide (X q ≤ L) = false := by simpa using g1
          have d2 : decide (h + 1 ≤ X q) = true := by simp; omega
          go_wp2_with fail
          go_ret
          exact ⟨false, rfl, by simp only [Bool.false_eq_true, false_iff]; exact HF.out, 0, rfl⟩
    · obtain rfl : q = n := by omega
      go_wp2_with fail
      go_ret
      exact ⟨true, rfl, by simp only [true_iff]; exact HS.out, 0, rfl⟩

set_option maxRecDepth 100000 in
set_option maxHeartbeats 1000000 in
theorem spec_l1RisT (A : Option Addr) (n c : Nat) (X : Nat → Int) (hh : Int) (w : World) (hn : n ≤ 1048576) (hr : IRow w A n X) :
    Calls Try.prog 53 #[.slice A n c, .int .i64 0, .int .i64 hh] w (RisIs (RisT hh n X) w) := by
  have HR := Lib.hid hr
  clear hr
  go_enter Try.func53, Try.ntmps53
  go_wp2_with fail
  go_loopw [11] (fun i wr => ∃ q : Nat, q ≤ n ∧ i = .int .i64 q ∧ RisT hh q X ∧ ∃ k, wr = w.drewN k) (fun i _ => n - (intOf i).toNat)
  case atStart => exact ⟨0, Nat.zero_le _, rfl, (fun i hi => absurd hi (by omega)), 0, rfl⟩
  case round =>
    obtain ⟨q, hq, rfl, hris, k, rfl⟩ := hrel
    have HS := Lib.hid hris
    have l0 := risT_last hris
    clear hris
    by_cases hlt : q < n
    · obtain ⟨b, off, rfl, _, hc⟩ := HR.out (by omega)
      have hcq := hc q hlt
      by_cases h1 : 0 ≤ X q ∧ X q ≤ hh
      · obtain ⟨h1a, h1b⟩ := h1
        rcases Nat.eq_zero_or_pos q with h0 | h0
        · subst h0
          have HN := Lib.hid (risT_snoc HS.out (by unfold lastI; rw [if_pos rfl]; omega) h1b l0)
          have hc0 := hcq
          rw [Nat.add_zero] at hc0
          clear l0 hc hcq
          go_wp2_with (go_at_call 43; refine (l1In_yes _ _ _ _ h1a h1b).mono ?_; rintro e w' ⟨rfl, rfl⟩)
          go_roundw
          case rel => exact ⟨1, by omega, by go_num, HN.out, k, rfl⟩
          case measure => simp [intOf]; omega
        · obtain ⟨p, rfl⟩ : ∃ p, q = p + 1 := ⟨q - 1, by omega⟩
          have hcp := hc p (by omega)
          have hL : lastI X (p + 1) = X p := rfl
          clear hc
          by_cases h2 : X p < X (p + 1)
          · have HN := Lib.hid (risT_snoc HS.out (by rw [hL]; exact h2) h1b l0)
            have d2 : decide (X (p + 1) ≤ X p) = false := by simp; omega
            rw [hL] at l0
            clear hL
            go_wp2_with (go_at_call 43; refine (l1In_yes _ _ _ _ h1a h1b).mono ?_; rintro e w' ⟨rfl, rfl⟩)
            go_roundw
            case rel => exact ⟨p + 2, by omega, by go_num, HN.out, k, rfl⟩
            case measure => simp [intOf]; omega
          · have HF := Lib.hid (risT_not (h := hh) (n := n) hlt (fun h => h2 (by have := h.1; rw [hL] at this; exact this)))
            have d2 : decide (X (p + 1) ≤ X p) = true := by simp; omega
            rw [hL] at l0
            clear hL
            go_wp2_with (go_at_call 43; refine (l1In_yes _ _ _ _ h1a h1b).mono ?_; rintro e w' ⟨rfl, rfl⟩)
            go_ret
            exact ⟨false, rfl, by simp only [Bool.false_eq_true, false_iff]; exact HF.out, k, rfl⟩
      · have HF := Lib.hid (show ¬ RisT hh n X from fun h => h1 ⟨(h q hlt).1, (h q hlt).2.1⟩)
        clear hc
        go_wp2_with (go_at_call 43; refine (l1In_no _ _ _ _ h1).mono ?_; rintro e w' ⟨rfl, rfl⟩)
        go_ret
        exact ⟨false, rfl, by simp only [Bool.false_eq_true, false_iff]; exact HF.out, k, rfl⟩
    · obtain rfl : q = n := by omega
      go_wp2_with fail
      go_ret
      exact ⟨true, rfl, by simp only [true_iff]; exact HS.out, k, rfl⟩

/-- A boxed Hyper and its rows. -/
structure LH (w : World) (b : Nat) (z : Int) (A : Option Addr) (n c : Nat) (B : Nat → Option Addr) (l d : Nat → Nat) (X : Nat → Nat → Int) (wi : World) : Prop where
  below : Below w.heap.size w wi
  row : HR wi A n B l d X
  box : Box wi b z A n c
section
variable {w wi wj : World} {b : Nat} {z : Int} {A : Option Addr} {n c : Nat} {B : Nat → Option Addr} {l d : Nat → Nat} {X : Nat → Nat → Int}
theorem LH.start (hr : HR w A n B l d X) (t : TypeId) : LH w w.heap.size z A n c B l d X (w.alloc (.cells #[.int .i64 z, .slice A n c] t)) :=
  ⟨(Below.refl _ _).alloc (Nat.le_refl _) _, hr.b ((Below.refl _ _).alloc (Nat.le_refl _) _), Box.new _ _ _ _ _ _⟩
theorem LH.step (h : LH w b z A n c B l d X wi) (hb : Below wi.heap.size wi wj) : LH w b z A n c B l d X wj :=
  ⟨h.below.trans (hb.mono h.below.size), h.row.b hb, h.box.b hb⟩
theorem LH.put {B' g o : Nat} (h : LH w b z A n c B l d X wi) (hr : HR w A n B l d X) (hw : w.heap.size ≤ B') (hb : b < B') (hg : B' ≤ g) (v : Value) : LH w b z A n c B l d X (wi.setCell ⟨g, o, none⟩ v) := by
  have h2 : Below B' wi (wi.setCell ⟨g, o, none⟩ v) := below_setAt (Below.refl _ _) hg v
  have h3 := h.below.trans (h2.mono hw)
  exact ⟨h3, hr.b h3, Nat.lt_of_lt_of_le h.box.1 h2.size, (h2.cell (p := ⟨b, 0, none⟩) hb).trans h.box.2.1, (h2.cell (p := ⟨b, 1, none⟩) hb).trans h.box.2.2⟩
theorem LH.low {B' : Nat} (h : LH w b z A n c B l d X wi) (hb : Below B' wi wj) (hr : HR w A n B l d X) (hw : w.heap.size ≤ B') (hB : b < B') : LH w b z A n c B l d X wj :=
  have h3 := h.below.trans (hb.mono hw)
  ⟨h3, hr.b h3, Nat.lt_of_lt_of_le h.box.1 hb.size, (hb.cell (p := ⟨b, 0, none⟩) hB).trans h.box.2.1, (hb.cell (p := ⟨b, 1, none⟩) hB).trans h.box.2.2⟩
theorem LH.drew (h : LH w b z A n c B l d X wi) : LH w b z A n c B l d X wi.drew := h.step (Below.drew (Below.refl _ _))
theorem LH.drewN (h : LH w b z A n c B l d X wi) (k : Nat) : LH w b z A n c B l d X (wi.drewN k) := h.step (below_drewN (Below.refl _ _) k)
end

end Go.Proofs.Ytffdkfhnlgfigaa
