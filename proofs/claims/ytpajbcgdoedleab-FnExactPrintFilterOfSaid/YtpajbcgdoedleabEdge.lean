/- Edges and Hypers: which are valid, both sides. -/
import Derived.Test.YtpajbcgdoedleabGaps
import Derived.Test.YtpajbcgdoedleabRowSS
import Derived.Test.YtpajbcgdoedleabHas
import Derived.Deep.RegionHeld3
namespace Go.Proofs.Ytpajbcgdoedleab
open Go.RowKit

def RisT (h : Int) (n : Nat) (X : Nat → Int) : Prop := ∀ i, i < n → 0 ≤ X i ∧ X i ≤ h ∧ (0 < i → X (i - 1) < X i)
theorem risT_snoc {h : Int} {q : Nat} {X : Nat → Int} (hr : RisT h q X) (h0 : lastI X q < X q) (h1 : X q ≤ h) (hl : -1 ≤ lastI X q) : RisT h (q + 1) X := fun i hi => by
  by_cases e : i = q
  · subst e
    refine ⟨by omega, h1, fun hp => ?_⟩
    unfold lastI at h0; rw [if_neg (by omega)] at h0; exact h0
  · exact hr i (by omega)
theorem risT_last {h : Int} {q : Nat} {X : Nat → Int} (hr : RisT h q X) : -1 ≤ lastI X q := by
  unfold lastI
  split
  · omega
  · have := (hr (q - 1) (by omega)).1; omega
theorem risT_not {h : Int} {q n : Nat} {X : Nat → Int} (hq : q < n) (hc : ¬ (lastI X q < X q ∧ X q ≤ h)) : ¬ RisT h n X := fun hr => hc ⟨by
  unfold lastI
  split
  · have := (hr q hq).1; omega
  · exact (hr q hq).2.2 (by omega), (hr q hq).2.1⟩
def EdgeOk (p : Int) (l : Nat) (X : Nat → Int) : Prop := l = 3 ∧ RisT (p - 1) l X
def HyperOk (z : Int) (n : Nat) (l : Nat → Nat) (X : Nat → Nat → Int) : Prop := 1 ≤ z ∧ z ≤ 72 ∧ n ≤ 40 ∧ ∀ i, i < n → EdgeOk z (l i) (X i)

set_option maxRecDepth 100000 in
set_option maxHeartbeats 1000000 in
theorem impl_isIncreasingBelow (A : Option Addr) (n c : Nat) (X : Nat → Int) (h : Int) (w : World) (hn : n ≤ 1048576) (hr : IRow w A n X) :
    Calls Try.prog 141 #[.slice A n c, .int .i64 (h + 1)] w (RisIs (RisT h n X) w) := by
  have HR := Lib.hid hr
  clear hr
  go_enter Try.func141, Try.ntmps141
  go_wp2_with fail
  go_loop [5, 10] (fun b i => ∃ q : Nat, q ≤ n ∧ i = .int .i64 q ∧ b = .int .i64 (lastI X q) ∧ Hid (RisT h q X)) (fun _ i => n - (intOf i).toNat)
  case atStart => exact ⟨0, Nat.zero_le _, rfl, rfl, Lib.hid (fun i hi => absurd hi (by omega))⟩
  case round =>
    obtain ⟨q, hq, rfl, rfl, HS⟩ := hrel
    by_cases hlt : q < n
    · obtain ⟨b, off, rfl, hbl, hc⟩ := HR.out (by omega)
      have hcq := hc q hlt
      clear hc
      by_cases hgood : lastI X q < X q ∧ X q ≤ h
      · have HN := Lib.hid (risT_snoc HS.out hgood.1 hgood.2 (risT_last HS.out))
        obtain ⟨g1, g2⟩ := hgood
        have HL := Lib.hid (last_succ X q)
        generalize hL : lastI X q = L at *
        have d1 : decide (X q ≤ L) = false := by simp; omega
        have d2 : decide (h + 1 ≤ X q) = false := by simp; omega
        go_wp2_with fail
        go_round
        case rel => exact ⟨q + 1, by omega, by go_num, by rw [HL.out], HN⟩
        case measure => simp [intOf]; omega
      · have HF := Lib.hid (risT_not hlt hgood)
        generalize hL : lastI X q = L at *
        by_cases g1 : X q ≤ L
        · have d1 : decide (X q ≤ L) = true := by simpa using g1
          go_wp2_with fail
          go_ret
          exact ⟨false, rfl, by simp only [Bool.false_eq_true, false_iff]; exact HF.out, 0, rfl⟩
        · have d1 : decide (X q ≤ L) = false := by simpa using g1
          have d2 : decide (h + 1 ≤ X q) = true := by simp; omega
          go_wp2_with fail
          go_ret
          exact ⟨false, rfl, by simp only [Bool.false_eq_true, false_iff]; exact HF.out, 0, rfl⟩
    · obtain rfl : q = n := by omega
      go_wp2_with fail
      go_ret
      exact ⟨true, rfl, by simp only [true_iff]; exact HS.out, 0, rfl⟩

set_option maxRecDepth 100000 in
set_option maxHeartbeats 1000000 in
theorem impl_isEdge (A : Option Addr) (n c : Nat) (X : Nat → Int) (p : Int) (w : World) (hn : n ≤ 1048576) (hr : IRow w A n X) :
    Calls Try.prog 135 #[.slice A n c, .int .i64 p] w (RisIs (EdgeOk p n X) w) := by
  have HR := Lib.hid hr
  clear hr
  by_cases h3 : n = 3
  · subst h3
    have HC := Lib.hid (impl_isIncreasingBelow A 3 c X (p - 1) w (by omega) HR.out)
    rw [show p - 1 + 1 = p by omega] at HC
    go_enter Try.func135, Try.ntmps135
    go_wp2_with fail
    refine HC.out.mono ?_; rintro e w1 ⟨b, rfl, hb, k, rfl⟩
    have HB := Lib.hid hb
    clear hb
    go_wp2_with fail
    go_ret
    exact ⟨b, rfl, ⟨fun h => ⟨rfl, HB.out.1 h⟩, fun h => HB.out.2 h.2⟩, k, rfl⟩
  · have d1 : ((n : Int) == 3) = false := by simp; omega
    have H3 := Lib.hid h3
    clear h3
    go_enter Try.func135, Try.ntmps135
    go_wp2_with fail
    go_ret
    exact ⟨false, rfl, by simp only [Bool.false_eq_true, false_iff]; exact fun h => H3.out h.1, 0, rfl⟩

/-- A boxed Hyper and its rows. -/
structure LH (w : World) (b : Nat) (z : Int) (A : Option Addr) (n c : Nat) (B : Nat → Option Addr) (l d : Nat → Nat) (X : Nat → Nat → Int) (wi : World) : Prop where
  below : Below w.heap.size w wi
  row : HR wi A n B l d X
  box : Box wi b z A n c
section
variable {w wi wj : World} {b : Nat} {z : Int} {A : Option Addr} {n c : Nat} {B : Nat → Option Addr} {l d : Nat → Nat} {X : Nat → Nat → Int}
theorem LH.start (hr : HR w A n B l d X) (t : TypeId) : LH w w.heap.size z A n c B l d X (w.alloc (.cells #[.int .i64 z, .slice A n c] t)) :=
  ⟨(Below.refl _ _).alloc (Nat.le_refl _) _, hr.b ((Below.refl _ _).alloc (Nat.le_refl _) _), Box.new _ _ _ _ _ _⟩
theorem LH.step (h : LH w b z A n c B l d X wi) (hb : Below wi.heap.size wi wj) : LH w b z A n c B l d X wj :=
  ⟨h.below.trans (hb.mono h.below.size), h.row.b hb, h.box.b hb⟩
theorem LH.put {B' g o : Nat} (h : LH w b z A n c B l d X wi) (hr : HR w A n B l d X) (hw : w.heap.size ≤ B') (hb : b < B') (hg : B' ≤ g) (v : Value) : LH w b z A n c B l d X (wi.setCell ⟨g, o, none⟩ v) := by
  have h2 : Below B' wi (wi.setCell ⟨g, o, none⟩ v) := below_setAt (Below.refl _ _) hg v
  have h3 := h.below.trans (h2.mono hw)
  exact ⟨h3, hr.b h3, Nat.lt_of_lt_of_le h.box.1 h2.size, (h2.cell (p := ⟨b, 0, none⟩) hb).trans h.box.2.1, (h2.cell (p := ⟨b, 1, none⟩) hb).trans h.box.2.2⟩
theorem LH.low {B' : Nat} (h : LH w b z A n c B l d X wi) (hb : Below B' wi wj) (hr : HR w A n B l d X) (hw : w.heap.size ≤ B') (hB : b < B') : LH w b z A n c B l d X wj :=
  have h3 := h.below.trans (hb.mono hw)
  ⟨h3, hr.b h3, Nat.lt_of_lt_of_le h.box.1 hb.size, (hb.cell (p := ⟨b, 0, none⟩) hB).trans h.box.2.1, (hb.cell (p := ⟨b, 1, none⟩) hB).trans h.box.2.2⟩
theorem LH.drew (h : LH w b z A n c B l d X wi) : LH w b z A n c B l d X wi.drew := h.step (Below.drew (Below.refl _ _))
theorem LH.drewN (h : LH w b z A n c B l d X wi) (k : Nat) : LH w b z A n c B l d X (wi.drewN k) := h.step (below_drewN (Below.refl _ _) k)
end

set_option maxRecDepth 100000 in
set_option maxHeartbeats 4000000 in
theorem impl_isHyper (z : Int) (A : Option Addr) (n c : Nat) (B : Nat → Option Addr) (l d : Nat → Nat) (X : Nat → Nat → Int) (w : World) (hn : n ≤ 1048576) (hl : ∀ i, i < n → l i ≤ 1048576) (hr : HR w A n B l d X) :
    Calls Try.prog 133 #[.agg #[.int .i64 z, .slice A n c]] w (BoolIs (HyperOk z n l X) w) := by
  have L0 := Lib.hid (LH.start (z := z) (c := c) hr 109)
  have HLn := Lib.hid hl
  clear hr hl
  obtain ⟨hsz, b0, b1⟩ := L0.out.box
  by_cases z1 : z < 1
  · have d1 : decide (z < 1) = true := by simpa using z1
    go_enter Try.func133, Try.ntmps133
    go_wp2_with fail
    go_ret
    exact ⟨false, rfl, by simp [HyperOk]; omega, by first | exact L0.out.below | exact below_drewN L0.out.below _⟩
  · have d1 : decide (z < 1) = false := by simpa using z1
    by_cases z2 : 72 < z
    · have d2 : decide (72 < z) = true := by simpa using z2
      go_enter Try.func133, Try.ntmps133
      go_wp2_with fail
      go_ret
      exact ⟨false, rfl, by simp [HyperOk]; omega, by first | exact L0.out.below | exact below_drewN L0.out.below _⟩
    · have d2 : decide (72 < z) = false := by simpa using z2
      by_cases z3 : 40 < n
      · have d3 : decide ((40 : Int) < n) = true := by simp; omega
        go_enter Try.func133, Try.ntmps133
        go_wp2_with fail
        go_ret
        exact ⟨false, rfl, by simp [HyperOk]; omega, by first | exact L0.out.below | exact below_drewN L0.out.below _⟩
      · have d3 : decide ((40 : Int) < n) = false := by simp; omega
        clear b0 b1
        go_enter Try.func133, Try.ntmps133
        obtain ⟨hsz, b0, b1⟩ := L0.out.box
        go_wp2_with fail
        go_loopw [22] (fun i wr => ∃ q : Nat, q ≤ n ∧ i = .int .i64 q ∧ Hid (∀ i, i < q → EdgeOk z (l i) (X i)) ∧ Hid (LH w w.heap.size z A n c B l d X wr)) (fun i _ => n - (intOf i).toNat)
        case atStart => exact ⟨0, Nat.zero_le _, rfl, Lib.hid (fun i hi => absurd hi (by omega)), L0⟩
        case round =>
          obtain ⟨q, hq, rfl, HS, HL⟩ := hrel
          clear b0 b1 hsz
          obtain ⟨hsz, b0, b1⟩ := HL.out.box
          by_cases hlt : q < n
          · obtain ⟨bk, off, rfl, hbl, hc⟩ := HL.out.row.1 (by omega)
            have hcq := hc q hlt
            unfold sliceV at hcq
            clear hc
            go_wp2_with fail
            refine (impl_isEdge (B q) (l q) (d q) (X q) z _ (HLn.out q hlt) (HL.out.row.2 q hlt)).mono ?_; rintro e w1 ⟨b, rfl, hb, k, rfl⟩
            have L1 := Lib.hid (HL.out.drewN k)
            have HB := Lib.hid hb
            clear hb
            cases b with
            | true =>
              have HS2 := Lib.hid (show ∀ i, i < q + 1 → EdgeOk z (l i) (X i) from fun i hi => by
                by_cases e : i = q
                · subst e; exact HB.out.1 rfl
                · exact HS.out i (by omega))
              go_wp2_with fail
              go_roundw
              case rel => exact ⟨q + 1, by omega, by go_num, HS2, L1⟩
              case measure => simp [intOf]; omega
            | false =>
              have HF := Lib.hid (show ¬ HyperOk z n l X from fun h => by have := HB.out.2 (h.2.2.2 q hlt); cases this)
              go_wp2_with fail
              go_ret
              exact ⟨false, rfl, by simp only [Bool.false_eq_true, false_iff]; exact HF.out, L1.out.below⟩
          · obtain rfl : q = n := by omega
            go_wp2_with fail
            go_ret
            exact ⟨true, rfl, by simp only [true_iff]; exact ⟨by omega, by omega, by omega, HS.out⟩, HL.out.below⟩

end Go.Proofs.Ytpajbcgdoedleab
