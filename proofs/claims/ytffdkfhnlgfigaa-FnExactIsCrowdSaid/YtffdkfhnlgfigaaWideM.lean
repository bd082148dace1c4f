/- cuWide of the model (for IsCrowd). -/
import Derived.Test.YtffdkfhnlgfigaaWideP
import Derived.Deep.RegionHeld3
import Derived.Deep.DeepCutAuto
namespace Go.Proofs.Ytffdkfhnlgfigaa
open Go.RowKit

theorem PRow.b {w w' : World} {A : Option Addr} {n : Nat} {G : Nat → Nat} {V : Nat → Nat → Int} (h : PRow w A n G V) (hb : Below w.heap.size w w') : PRow w' A n G V := ⟨h.1.b hb, fun j hj => (h.2 j hj).b hb⟩
theorem PRow.cells {w : World} {b off n f : Nat} {G : Nat → Nat} {V : Nat → Nat → Int} (h : PRow w (some ⟨b, off, none⟩) n G V) (hf : f < n) :
    w.cell? ⟨b, off + f, none⟩ = some (.slice (some ⟨G f, 0, none⟩) 2 2) ∧ w.cell? ⟨G f, 0, none⟩ = some (.int .i64 (V f 0)) ∧ w.cell? ⟨G f, 1, none⟩ = some (.int .i64 (V f 1)) := by
  obtain ⟨b', off', e, _, hc⟩ := h.1 (by omega)
  injection e with e; injection e with e1 e2
  subst e1 e2
  exact ⟨hc f hf, (h.2 f hf).cell (by omega), (h.2 f hf).cell (by omega)⟩
/-- The cells of the first q numbers of a list, in order. -/
structure WQ (w : World) (PA : Option Addr) (n : Nat) (G : Nat → Nat) (V : Nat → Nat → Int) (A : Option Addr) (l c : Nat) (Y : Nat → Int) (wr : World) : Prop where
  below : Below w.heap.size w wr
  pairs : PRow wr PA n G V
  row : IRow wr A l Y
  ris : RisQ Y l
  cap : l ≤ c
theorem WQ.step {w wr wj : World} {PA A A' : Option Addr} {n l c l' c' : Nat} {G : Nat → Nat} {V : Nat → Nat → Int} {Y Y' : Nat → Int} {x : Int} (h : WQ w PA n G V A l c Y wr) (hb : Below wr.heap.size wr wj) (hc : l' ≤ c') (hp : PutQ Y l x Y' l') (hr : IRow wj A' l' Y') : WQ w PA n G V A' l' c' Y' wj :=
  ⟨h.below.trans (hb.mono h.below.size), h.pairs.b hb, hr, hp.1, hc⟩
theorem WQ.drewN {w wr : World} {PA A : Option Addr} {n l c : Nat} {G : Nat → Nat} {V : Nat → Nat → Int} {Y : Nat → Int} (h : WQ w PA n G V A l c Y wr) (k : Nat) : WQ w PA n G V A l c Y (wr.drewN k) := ⟨below_drewN h.below k, h.pairs, h.row, h.ris, h.cap⟩
def WMem (V : Nat → Nat → Int) (F : Nat → Int) (q : Nat) (Y : Nat → Int) (l : Nat) : Prop := ∀ v, (∃ i, i < l ∧ Y i = v) ↔ ∃ i, i < q ∧ ∃ k, k < 2 ∧ V (F i).toNat k = v
theorem wMem_next {V : Nat → Nat → Int} {F Y Y1 Y2 : Nat → Int} {q l l1 l2 f : Nat} (h : WMem V F q Y l) (hf : F q = (f : Int)) (h1 : PutQ Y l (V f 0) Y1 l1) (h2 : PutQ Y1 l1 (V f 1) Y2 l2) : WMem V F (q + 1) Y2 l2 := fun v => by
  rw [h2.2.2 v, h1.2.2 v, h v]
  have e : (F q).toNat = f := by rw [hf]; rfl
  constructor
  · rintro (rfl | rfl | ⟨i, hi, k, hk, e2⟩)
    · exact ⟨q, by omega, 1, by omega, by rw [e]⟩
    · exact ⟨q, by omega, 0, by omega, by rw [e]⟩
    · exact ⟨i, by omega, k, hk, e2⟩
  · rintro ⟨i, hi, k, hk, e2⟩
    by_cases h : i = q
    · subst h
      rw [e] at e2
      have : k = 0 ∨ k = 1 := by omega
      rcases this with rfl | rfl
      · exact .inr (.inl e2.symm)
      · exact .inl e2.symm
    · exact .inr (.inr ⟨i, by omega, k, hk, e2⟩)
set_option maxRecDepth 100000 in
set_option maxHeartbeats 4000000 in
theorem spec_cuWide (PA : Option Addr) (n pc : Nat) (G : Nat → Nat) (V : Nat → Nat → Int) (FA : Option Addr) (m mc : Nat) (F : Nat → Int) (w : World) (hm : m ≤ 1024) (hp : PRow w PA n G V) (hf : IRow w FA m F) (hF : ∀ i, i < m → ∃ f : Nat, F i = (f : Int) ∧ f < n) :
    Calls Try.prog 85 #[.slice PA n pc, .slice FA m mc] w fun e w' => ∃ (l : Nat) (Y : Nat → Int), e = .returned (.int .i64 l) ∧ RisQ Y l ∧ WMem V F m Y l ∧ Below w.heap.size w w' := by
  have HF := Lib.hid hf
  have HFn := Lib.hid hF
  have W0 := Lib.hid (show WQ w PA n G V none 0 0 (fun _ => 0) w from ⟨Below.refl _ _, hp, fun h => absurd h (by omega), fun i j _ h => absurd h (by omega), Nat.le_refl _⟩)
  clear hp hf hF
  go_enter Try.func85, Try.ntmps85
  go_wp2_with fail
  go_loopw [5, 10] (fun v i wr => ∃ (q : Nat) (A : Option Addr) (l c : Nat) (Y : Nat → Int), q ≤ m ∧ i = .int .i64 q ∧ v = .slice A l c ∧ l ≤ 2 * q ∧ Hid (WMem V F q Y l) ∧ Hid (WQ w PA n G V A l c Y wr)) (fun _ i _ => m - (intOf i).toNat)
  case atStart => exact ⟨0, none, 0, 0, _, Nat.zero_le _, rfl, rfl, by omega, Lib.hid (fun v => ⟨fun ⟨i, hi, _⟩ => absurd hi (by omega), fun ⟨i, hi, _⟩ => absurd hi (by omega)⟩), W0⟩
  case round =>
    obtain ⟨q, A, l, c, Y, hq, rfl, rfl, hl, HM, HW⟩ := hrel
    by_cases hlt : q < m
    · obtain ⟨b, off, hFA, _, hcc⟩ := HF.out.below HW.out.below (Nat.le_refl _) (by omega)
      obtain ⟨f, hfe, hfn⟩ := HFn.out q hlt
      have hx := hcc q hlt
      rw [hfe] at hx
      obtain ⟨b2, off2, hPA, _, _⟩ := HW.out.pairs.1 (by omega)
      subst hFA hPA
      have HFE := Lib.hid hfe
      have HC := Lib.hid (fun W (h : PRow W (some ⟨b2, off2, none⟩) n G V) => PRow.cells h hfn)
      obtain ⟨y0, y1, y2⟩ := HC.out _ HW.out.pairs
      have HL1 := Lib.hid (fun W A1 (l1 : Nat) c1 Y1 (h : WQ w (some ⟨b2, off2, none⟩) n G V A1 l1 c1 Y1 W) (hl : l1 ≤ 2 * q + 1) x => spec_l1Put_any A1 l1 c1 Y1 x W (by omega) h.cap h.row h.ris)
      clear hcc hfe
      go_upto_region 5 with fail
      go_region_held3 (fun w' => w'.cell? ⟨b2, off2 + f, none⟩ = some (.slice (some ⟨G f, 0, none⟩) 2 2) ∧ w'.cell? ⟨G f, 0, none⟩ = some (.int .i64 (V f 0)) ∧ w'.cell? ⟨G f, 1, none⟩ = some (.int .i64 (V f 1)))
        (first | (go_keep; done) | with_reducible exact HC.out _ W2.out.pairs | with_reducible exact HC.out _ W1.out.pairs | exact ⟨y0, y1, y2⟩)
        (first
          | (have hz := W1; clear hz; go_at_call 78; refine (HL1.out _ _ _ _ _ W1.out (by omega) (V f 1)).mono ?_; rintro e w4 ⟨A2, l2, c2, Y2, rfl, hc2, hp2, hr2, hb2⟩; have W2 := Lib.hid (W1.out.step hb2 hc2 hp2 hr2); have P2 := Lib.hid hp2; have k2 := hp2.2.1; clear hc2 hp2 hr2 hb2)
          | (go_at_call 78; (first | refine (HL1.out _ _ _ _ _ HW.out (by omega) (V f 0)).mono ?_ | refine (HL1.out _ _ _ _ _ (HW.out.drewN 1) (by omega) (V f 0)).mono ?_); rintro e w3 ⟨A1, l1, c1, Y1, rfl, hc1, hp1, hr1, hb1'⟩; have hb1 : Below wr.heap.size wr w3 := (by first | exact hb1' | exact of_drew hb1'); have W1 := Lib.hid (HW.out.step hb1 hc1 hp1 hr1); have P1 := Lib.hid hp1; have k1 := hp1.2.1; clear hc1 hp1 hr1 hb1 hb1'))
      all_goals
        have HMn := Lib.hid (wMem_next HM.out HFE.out P1.out P2.out)
        clear y0 y1 y2
        go_wp2_with fail
        go_roundw
        case rel => exact ⟨q + 1, A2, l2, c2, Y2, by omega, by go_num, rfl, by omega, HMn, W2⟩
        case measure => simp [intOf]; omega
    · obtain rfl : q = m := by omega
      go_wp2_with fail
      go_ret
      exact ⟨l, Y, rfl, HW.out.ris, HM.out, HW.out.below⟩
end Go.Proofs.Ytffdkfhnlgfigaa
