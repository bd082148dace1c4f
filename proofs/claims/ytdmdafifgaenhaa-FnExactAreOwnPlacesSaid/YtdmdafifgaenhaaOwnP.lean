/- AreOwnPlaces: both sides. -/
import Derived.Test.YtdmdafifgaenhaaCont
import Derived.Test.YtdmdafifgaenhaaEdAt
import Derived.Deep.DeepCutAuto
namespace Go.Proofs.Ytdmdafifgaenhaa
open Go.RowKit

theorem run_slice_head (A : Option Addr) (n k u : Nat) (hu : u ≤ k) (W : World) :
    (Instr.slice 39 (.slice A n k) none (some (.int .i64 u)) none).run Try.prog W = .ok (.slice A u k) W := by
  unfold Instr.slice
  simp [go_sem, Instr.sliceBounds, Instr.sliceBound, run_underlying Try.underlying39, hu]
theorem to_IntSn {A : Option Addr} {n c : Nat} {X : Nat → Int} {w : World} (hn : n ≤ 1048576) (hr : GRow w A n (intV X)) :
    Calls Try.prog 41 #[.slice A n c] w fun e w' => ∃ A', e = .returned (.slice A' n n) ∧ Ow w.heap.size w'.heap.size 3 A' n (intV X) w' ∧ Below w.heap.size w w' :=
  (toIntS_any A n c X w hn hr).mono fun _ _ ⟨_, he, hg, ho, hb⟩ => ⟨_, he, ow_of_own (m := n) ho hg (Nat.le_refl _), hb⟩
def OwnAt (l : Nat → Nat) (X : Nat → Nat → Int) (Y : Nat → Int) (i : Nat) : Prop := (∃ j, j < l i ∧ X i j = Y i) ∧ ¬ ∃ t, t < i ∧ Y t = Y i
def OwnOk (m : Nat) (l : Nat → Nat) (X : Nat → Nat → Int) (Y : Nat → Int) : Prop := ∀ i, i < m → OwnAt l X Y i

set_option maxRecDepth 100000 in
set_option maxHeartbeats 4000000 in
theorem impl_areOwn (z : Nat) (A : Option Addr) (n c : Nat) (l : Nat → Nat) (X : Nat → Nat → Int) (EA : Option Addr) (m : Nat) (Y : Nat → Int) (w : World) (hn : n + sumL l n ≤ 1048576) (hr : HRow w A n l X) (he : IRow w EA m Y) (h : HyperOk z n l X) (hm : m = n) :
    Calls Try.prog 70 #[.agg #[.int .i64 z, .slice A n c], .slice EA m m] w fun e w' => ∃ b : Bool, e = .returned (.tuple #[.bool b, .bool true]) ∧ (b = true ↔ OwnOk m l X Y) ∧ Below w.heap.size w w' := by
  subst hm
  obtain ⟨B, d, hr⟩ := hr
  have L0 := Lib.hid (LH.start (z := (z : Int)) (c := c) hr 27)
  have HG := Lib.hid h
  have HEr := Lib.hid he
  have hn40 := h.2.2.1
  clear hr h he
  go_enter Try.func70, Try.ntmps70
  go_wp2_with fail
  refine (impl_isHyper_is z A m c l X _ true hn ⟨B, d, L0.out.row⟩ (by simp only [true_iff]; exact HG.out)).mono ?_; rintro e w1 ⟨rfl, hb⟩
  have L1 := Lib.hid (L0.out.step hb)
  clear hb L0
  obtain ⟨hsz, b0, b1⟩ := L1.out.box
  go_wp2_with fail
  go_loopw [19] (fun i wr => ∃ q : Nat, q ≤ m ∧ i = .int .i64 q ∧ Hid (OwnOk q l X Y) ∧ Hid (LH w w.heap.size z A m c B l d X wr)) (fun i _ => m - (intOf i).toNat)
  case atStart => exact ⟨0, Nat.zero_le _, rfl, Lib.hid (fun i hi => absurd hi (by omega)), L1⟩
  case round =>
    obtain ⟨q, hq, rfl, HS, HL⟩ := hrel
    clear b0 b1 hsz
    obtain ⟨hsz, b0, b1⟩ := HL.out.box
    by_cases hlt : q < m
    · have HER := Lib.hid (HEr.out.b HL.out.below)
      obtain ⟨be, oe, rfl, _, hce⟩ := HER.out (by omega)
      have hek := hce q hlt
      obtain ⟨bk, off, rfl, hbl, hc⟩ := HL.out.row.1 (by omega)
      have hcq := hc q hlt
      unfold sliceV at hcq
      have HX := Lib.hid (HL.out.row.2 q hlt)
      have hl3 : l q ≤ 1048576 := by have := HG.out.three q hlt; omega
      have HSL := Lib.hid (fun W => run_slice_head (some ⟨be, oe, none⟩) m m q (by omega) W)
      have HEq := Lib.hid (show IRow wr (some ⟨be, oe, none⟩) q Y from fun h0 => by
        obtain ⟨b', o', h1, h2, h3⟩ := HER.out (by omega)
        exact ⟨b', o', h1, h2, fun k hk => h3 k (by omega)⟩)
      clear hc hce
      go_wp2_with fail
      refine (contains_is (B q) (l q) (d q) (X q) (Y q) wr hl3 HX.out).mono ?_; rintro e w2 ⟨b, rfl, hbb, rfl⟩
      cases b with
      | false =>
        have HF := Lib.hid (show ¬ OwnOk m l X Y from fun h => by have := hbb.2 (h q hlt).1; cases this)
        clear hbb
        go_wp2_with fail
        go_ret2
        exact ⟨false, rfl, by simp only [Bool.false_eq_true, false_iff]; exact HF.out, HL.out.below⟩
      | true =>
        have H1 := Lib.hid (hbb.1 rfl)
        have hsl := HSL.out
        clear hbb
        go_wp2_with fail
        refine (contains_is (some ⟨be, oe, none⟩) q m Y (Y q) wr (by omega) HEq.out).mono ?_; rintro e w2 ⟨b, rfl, hbb, rfl⟩
        clear hsl
        cases b with
        | true =>
          have HF := Lib.hid (show ¬ OwnOk m l X Y from fun h => (h q hlt).2 (hbb.1 rfl))
          clear hbb
          go_wp2_with fail
          go_ret2
          exact ⟨false, rfl, by simp only [Bool.false_eq_true, false_iff]; exact HF.out, HL.out.below⟩
        | false =>
          have HN := Lib.hid (show OwnOk (q + 1) l X Y from fun i hi => by
            by_cases e : i = q
            · subst e; exact ⟨H1.out, fun hh => by have := hbb.2 hh; cases this⟩
            · exact HS.out i (by omega))
          clear hbb
          go_wp2_with fail
          go_roundw
          case rel => exact ⟨q + 1, by omega, by go_num, HN, HL⟩
          case measure => simp [intOf]; omega
    · obtain rfl : q = m := by omega
      go_wp2_with fail
      go_ret2
      exact ⟨true, rfl, by simp only [true_iff]; exact HS.out, HL.out.below⟩

set_option maxRecDepth 100000 in
set_option maxHeartbeats 2000000 in
theorem impl_areOwn_bad (z : Nat) (A : Option Addr) (n c : Nat) (l : Nat → Nat) (X : Nat → Nat → Int) (EA : Option Addr) (m : Nat) (w : World) (hn : n + sumL l n ≤ 1048576) (hr : HRow w A n l X) (h : HyperOk z n l X) (hm : m ≠ n) :
    Calls Try.prog 70 #[.agg #[.int .i64 z, .slice A n c], .slice EA m m] w fun e w' => e = .returned (.tuple #[.bool false, .bool true]) ∧ Below w.heap.size w w' := by
  obtain ⟨B, d, hr⟩ := hr
  have L0 := Lib.hid (LH.start (z := (z : Int)) (c := c) hr 27)
  have HG := Lib.hid h
  have d1 : ((m : Int) != (n : Int)) = true := by simp; omega
  clear hr h hm
  go_enter Try.func70, Try.ntmps70
  go_wp2_with fail
  refine (impl_isHyper_is z A n c l X _ true hn ⟨B, d, L0.out.row⟩ (by simp only [true_iff]; exact HG.out)).mono ?_; rintro e w1 ⟨rfl, hb⟩
  have L1 := Lib.hid (L0.out.step hb)
  clear hb L0
  obtain ⟨hsz, b0, b1⟩ := L1.out.box
  go_wp2_with fail
  go_ret2
  exact ⟨rfl, L1.out.below⟩


set_option maxRecDepth 100000 in
set_option maxHeartbeats 4000000 in
theorem spec_areOwn (z : Nat) (A : Option Addr) (n c : Nat) (l : Nat → Nat) (X : Nat → Nat → Int) (EA : Option Addr) (m : Nat) (Y : Nat → Int) (w : World) (hn : n + sumL l n ≤ 1048576) (hr : HRow w A n l X) (he : IRow w EA m Y) (h : HyperOk z n l X) (hm : m = n) :
    Calls Try.prog 69 #[.agg #[.int .i64 z, .slice A n c], .slice EA m m] w fun e w' => ∃ b : Bool, e = .returned (.tuple #[.bool b, .bool true]) ∧ (b = true ↔ OwnOk m l X Y) ∧ Below w.heap.size w w' := by
  subst hm
  obtain ⟨B, d, hr⟩ := hr
  have L0 := Lib.hid (LH.start (z := (z : Int)) (c := c) hr 27)
  have HG := Lib.hid h
  have HEr := Lib.hid he
  have hn40 := h.2.2.1
  clear hr h he
  go_enter Try.func69, Try.ntmps69
  go_wp2_with fail
  refine (spec_peGood_is z A m c l X _ true hn ⟨B, d, L0.out.row⟩ (by simp only [true_iff]; exact HG.out)).mono ?_; rintro e w1 ⟨rfl, hb⟩
  have L1 := Lib.hid (L0.out.step hb)
  clear hb L0
  obtain ⟨hsz, b0, b1⟩ := L1.out.box
  go_wp2_with fail
  go_loopw [19] (fun i wr => ∃ q : Nat, q ≤ m ∧ i = .int .i64 q ∧ Hid (OwnOk q l X Y) ∧ Hid (LH w w.heap.size z A m c B l d X wr)) (fun i _ => m - (intOf i).toNat)
  case atStart => exact ⟨0, Nat.zero_le _, rfl, Lib.hid (fun i hi => absurd hi (by omega)), L1⟩
  case round =>
    obtain ⟨q, hq, rfl, HS, HL⟩ := hrel
    clear b0 b1 hsz
    obtain ⟨hsz, b0, b1⟩ := HL.out.box
    by_cases hlt : q < m
    · have HER := Lib.hid (HEr.out.b HL.out.below)
      obtain ⟨be, oe, rfl, _, hce⟩ := HER.out (by omega)
      have hek := hce q hlt
      obtain ⟨bk, off, rfl, hbl, hc⟩ := HL.out.row.1 (by omega)
      have hcq := hc q hlt
      unfold sliceV at hcq
      have HX := Lib.hid (HL.out.row.2 q hlt)
      have hl3 : l q ≤ 1048576 := by have := HG.out.three q hlt; omega
      have HSL := Lib.hid (fun W => run_slice_head (some ⟨be, oe, none⟩) m m q (by omega) W)
      have HEq := Lib.hid (show IRow wr (some ⟨be, oe, none⟩) q Y from fun h0 => by
        obtain ⟨b', o', h1, h2, h3⟩ := HER.out (by omega)
        exact ⟨b', o', h1, h2, fun k hk => h3 k (by omega)⟩)
      clear hc hce
      go_wp2_with fail
      refine (spec_l1Has (B q) (l q) (d q) (X q) (Y q) wr hl3 HX.out).mono ?_; rintro e w2 ⟨b, rfl, hbb, rfl⟩
      cases b with
      | false =>
        have HF := Lib.hid (show ¬ OwnOk m l X Y from fun h => by have := hbb.2 (h q hlt).1; cases this)
        clear hbb
        go_wp2_with fail
        go_ret2
        exact ⟨false, rfl, by simp only [Bool.false_eq_true, false_iff]; exact HF.out, HL.out.below⟩
      | true =>
        have H1 := Lib.hid (hbb.1 rfl)
        have hsl := HSL.out
        clear hbb
        go_wp2_with fail
        refine (spec_l1Has (some ⟨be, oe, none⟩) q m Y (Y q) wr (by omega) HEq.out).mono ?_; rintro e w2 ⟨b, rfl, hbb, rfl⟩
        clear hsl
        cases b with
        | true =>
          have HF := Lib.hid (show ¬ OwnOk m l X Y from fun h => (h q hlt).2 (hbb.1 rfl))
          clear hbb
          go_wp2_with fail
          go_ret2
          exact ⟨false, rfl, by simp only [Bool.false_eq_true, false_iff]; exact HF.out, HL.out.below⟩
        | false =>
          have HN := Lib.hid (show OwnOk (q + 1) l X Y from fun i hi => by
            by_cases e : i = q
            · subst e; exact ⟨H1.out, fun hh => by have := hbb.2 hh; cases this⟩
            · exact HS.out i (by omega))
          clear hbb
          go_wp2_with fail
          go_roundw
          case rel => exact ⟨q + 1, by omega, by go_num, HN, HL⟩
          case measure => simp [intOf]; omega
    · obtain rfl : q = m := by omega
      go_wp2_with fail
      go_ret2
      exact ⟨true, rfl, by simp only [true_iff]; exact HS.out, HL.out.below⟩

set_option maxRecDepth 100000 in
set_option maxHeartbeats 2000000 in
theorem spec_areOwn_bad (z : Nat) (A : Option Addr) (n c : Nat) (l : Nat → Nat) (X : Nat → Nat → Int) (EA : Option Addr) (m : Nat) (w : World) (hn : n + sumL l n ≤ 1048576) (hr : HRow w A n l X) (h : HyperOk z n l X) (hm : m ≠ n) :
    Calls Try.prog 69 #[.agg #[.int .i64 z, .slice A n c], .slice EA m m] w fun e w' => e = .returned (.tuple #[.bool false, .bool true]) ∧ Below w.heap.size w w' := by
  obtain ⟨B, d, hr⟩ := hr
  have L0 := Lib.hid (LH.start (z := (z : Int)) (c := c) hr 27)
  have HG := Lib.hid h
  have d1 : ((m : Int) != (n : Int)) = true := by simp; omega
  clear hr h hm
  go_enter Try.func69, Try.ntmps69
  go_wp2_with fail
  refine (spec_peGood_is z A n c l X _ true hn ⟨B, d, L0.out.row⟩ (by simp only [true_iff]; exact HG.out)).mono ?_; rintro e w1 ⟨rfl, hb⟩
  have L1 := Lib.hid (L0.out.step hb)
  clear hb L0
  obtain ⟨hsz, b0, b1⟩ := L1.out.box
  go_wp2_with fail
  go_ret2
  exact ⟨rfl, L1.out.below⟩


set_option maxRecDepth 100000 in
set_option maxHeartbeats 2000000 in
theorem impl_areOwnPlaces_no (z : Int) (A : Option Addr) (n c : Nat) (l : Nat → Nat) (X : Nat → Nat → Int) (v : Value) (w : World) (hn : n + sumL l n ≤ 1048576) (hr : HRow w A n l X) (h : ¬ HyperOk z n l X) :
    Calls Try.prog 70 #[.agg #[.int .i64 z, .slice A n c], v] w fun e w' => e = .returned (.tuple #[.bool false, .bool false]) ∧ Below w.heap.size w w' := by
  obtain ⟨B, d, hr⟩ := hr
  have L0 := Lib.hid (LH.start (z := z) (c := c) hr 27)
  have HG := Lib.hid h
  clear hr h
  go_enter Try.func70, Try.ntmps70
  go_wp2_with fail
  refine (impl_isHyper_is z A n c l X _ false hn ⟨B, d, L0.out.row⟩ (by simp only [Bool.false_eq_true, false_iff]; exact HG.out)).mono ?_; rintro e w1 ⟨rfl, hb⟩
  have L1 := Lib.hid (L0.out.step hb)
  clear hb L0
  go_wp2_with fail
  go_ret2
  exact ⟨rfl, L1.out.below⟩

set_option maxRecDepth 100000 in
set_option maxHeartbeats 2000000 in
theorem spec_areOwnPlaces_no (z : Int) (A : Option Addr) (n c : Nat) (l : Nat → Nat) (X : Nat → Nat → Int) (v : Value) (w : World) (hn : n + sumL l n ≤ 1048576) (hr : HRow w A n l X) (h : ¬ HyperOk z n l X) :
    Calls Try.prog 69 #[.agg #[.int .i64 z, .slice A n c], v] w fun e w' => e = .returned (.tuple #[.bool false, .bool false]) ∧ Below w.heap.size w w' := by
  obtain ⟨B, d, hr⟩ := hr
  have L0 := Lib.hid (LH.start (z := z) (c := c) hr 27)
  have HG := Lib.hid h
  clear hr h
  go_enter Try.func69, Try.ntmps69
  go_wp2_with fail
  refine (spec_peGood_is z A n c l X _ false hn ⟨B, d, L0.out.row⟩ (by simp only [Bool.false_eq_true, false_iff]; exact HG.out)).mono ?_; rintro e w1 ⟨rfl, hb⟩
  have L1 := Lib.hid (L0.out.step hb)
  clear hb L0
  go_wp2_with fail
  go_ret2
  exact ⟨rfl, L1.out.below⟩


end Go.Proofs.Ytdmdafifgaenhaa
