/- OwnPlaces of both sides. -/
import Derived.Test.YtdmdafifgaenhaaPeelN
namespace Go.Proofs.Ytdmdafifgaenhaa
open Go.RowKit

set_option maxRecDepth 100000 in
set_option maxHeartbeats 4000000 in
theorem impl_ownPlaces (z : Nat) (A : Option Addr) (n c : Nat) (B : Nat → Option Addr) (l d : Nat → Nat) (X : Nat → Nat → Int) (w : World) (hn : n + sumL l n ≤ 1048576) (hr : HR w A n B l d X) (h : HyperOk z n l X) :
    Calls Try.prog 68 #[.agg #[.int .i64 z, .slice A n c]] w fun e w' => ∃ k, Goes z l X n zeroC k ∧ freL (degF l X (goneS z l X n zeroC k) n) z = [] ∧ Below w.heap.size w w' ∧
      ((leftL (goneS z l X n zeroC k) n).length = 0 → ∃ g, e = .returned (.tuple #[.slice (some ⟨g, 0, none⟩) n n, .bool true]) ∧ w.heap.size ≤ g ∧ ORow w' g n (outF (stE z l X n zeroC) (stP z l X n zeroC) k)) ∧
      (0 < (leftL (goneS z l X n zeroC k) n).length → e = .returned (.tuple #[.slice none 0 0, .bool false])) := by
  have L0 := Lib.hid (LH.start (z := (z : Int)) (c := c) hr 27)
  have HG := Lib.hid h
  have hn40 := h.2.2.1
  have hmk := fun W => run_make_row' (P := Try.prog) 39 3 (.int .i64 0) 8 Try.underlying39 infoI rfl .i64 .i64 n (by omega) (by omega) W
  clear hr h
  go_enter Try.func68, Try.ntmps68
  go_wp2_with fail
  refine (impl_peelOrder z A n c B l d X _ hn L0.out.row HG.out).mono ?_; rintro e w1 ⟨k, hgo, hf, hb, h0, h1⟩
  have HGo := Lib.hid hgo
  have HF := Lib.hid hf
  have HB := Lib.hid (L0.out.step hb).below
  have hlow0 := L0.out.below.size
  have hln := goes_len' hgo
  clear hgo hf hb
  by_cases hlt : 0 < (leftL (goneS z l X n zeroC k) n).length
  · rw [h1 hlt]
    clear h0 h1
    go_wp2_with fail
    go_ret2
    exact ⟨k, HGo.out, HF.out, HB.out, fun e => by omega, fun _ => rfl⟩
  · obtain ⟨SA, sc, rfl, ho⟩ := h0 (by omega)
    clear h1
    have hkn : k = n := by omega
    have hlow := HB.out.size
    have SR := Lib.hid (steps_row ho)
    clear ho
    have OR := Lib.hid (ORow.made w1 n)
    have BA := Lib.hid ((Below.refl w1.heap.size w1).alloc (Nat.le_refl _) (.cells (madeCells #[.int .i64 0] n) 3))
    subst hkn
    go_wp2_with fail
    go_loopw [21] (fun i wr => ∃ j : Nat, j ≤ k ∧ i = .int .i64 j ∧ Hid (ORow wr w1.heap.size k (outF (stE z l X k zeroC) (stP z l X k zeroC) j)) ∧ Hid (Below w1.heap.size w1 wr)) (fun i _ => k - (intOf i).toNat)
    case atStart => exact ⟨0, Nat.zero_le _, rfl, Lib.hid (OR.out.congr (fun p _ => rfl)), BA⟩
    case round =>
      obtain ⟨j, hj, rfl, HO, HB2⟩ := hrel
      by_cases hltj : j < k
      · obtain ⟨g, rfl, hgl, hc⟩ := (SR.out.b HB2.out) (by omega)
        obtain ⟨hc0, hc1⟩ := hc j hltj
        rw [Nat.mul_comm 2 j] at hc0 hc1
        have hE := stE_lt HGo.out hltj
        have AL := Lib.hid ((Below.refl wr.heap.size wr).alloc (Nat.le_refl _) (.cells #[.int .i64 ((stE z l X k zeroC j : Nat) : Int), .int .i64 ((stP z l X k zeroC j : Nat) : Int)] 92))
        have HO2 := Lib.hid (HO.out.b AL.out)
        have NB := Lib.hid (nbx0 wr #[.int .i64 ((stE z l X k zeroC j : Nat) : Int), .int .i64 ((stP z l X k zeroC j : Nat) : Int)] 92)
        have x0 := NB.out.cell 0 _ rfl
        have x1 := NB.out.cell 1 _ rfl
        have y0 := HO2.out.cell hE
        have y1 := HO2.out.frozen (stE z l X k zeroC j)
        have HO3 := Lib.hid ((HO2.out.set (stE z l X k zeroC j) ((stP z l X k zeroC j : Nat) : Int)).congr (Y := outF (stE z l X k zeroC) (stP z l X k zeroC) (j + 1)) (fun i _ => rfl))
        have HB3 := Lib.hid ((HB2.out.alloc HB2.out.size (.cells #[.int .i64 ((stE z l X k zeroC j : Nat) : Int), .int .i64 ((stP z l X k zeroC j : Nat) : Int)] 92)).setCell (p := ⟨w1.heap.size, stE z l X k zeroC j, none⟩) (Nat.le_refl _) (.int .i64 ((stP z l X k zeroC j : Nat) : Int)))
        clear hc
        go_wp2_with fail
        go_roundw
        case rel => exact ⟨j + 1, hltj, by go_num, HO3, HB3⟩
        case measure => simp [intOf]; omega
      · obtain rfl : j = k := by omega
        have HB4 := Lib.hid (HB.out.trans (HB2.out.mono hlow))
        go_wp2_with fail
        go_ret2
        exact ⟨j, HGo.out, HF.out, HB4.out, fun _ => ⟨_, rfl, hlow, HO.out⟩, fun e => by omega⟩

set_option maxRecDepth 100000 in
set_option maxHeartbeats 4000000 in
theorem spec_pePlaces (z : Nat) (A : Option Addr) (n c : Nat) (B : Nat → Option Addr) (l d : Nat → Nat) (X : Nat → Nat → Int) (w : World) (hn : n + sumL l n ≤ 1048576) (hr : HR w A n B l d X) (h : HyperOk z n l X) :
    Calls Try.prog 114 #[.agg #[.int .i64 z, .slice A n c]] w fun e w' => ∃ k, Goes z l X n zeroC k ∧ freL (degF l X (goneS z l X n zeroC k) n) z = [] ∧ Below w.heap.size w w' ∧
      ((leftL (goneS z l X n zeroC k) n).length = 0 → ∃ g, e = .returned (.tuple #[.slice (some ⟨g, 0, none⟩) n n, .bool true]) ∧ w.heap.size ≤ g ∧ ORow w' g n (outF (stE z l X n zeroC) (stP z l X n zeroC) k)) ∧
      (0 < (leftL (goneS z l X n zeroC k) n).length → e = .returned (.tuple #[.slice none 0 0, .bool false])) := by
  have L0 := Lib.hid (LH.start (z := (z : Int)) (c := c) hr 27)
  have HG := Lib.hid h
  have hn40 := h.2.2.1
  have hmk := fun W => run_make_row' (P := Try.prog) 39 3 (.int .i64 0) 8 Try.underlying39 infoI rfl .i64 .i64 n (by omega) (by omega) W
  clear hr h
  go_enter Try.func114, Try.ntmps114
  go_wp2_with fail
  refine (spec_pePeel z A n c B l d X _ L0.out.row HG.out).mono ?_; rintro e w1 ⟨k, SA, sc, FA, fc, rfl, hgo, hf, ho, hl, hb⟩
  have HGo := Lib.hid hgo
  have HF := Lib.hid hf
  have L1 := Lib.hid (L0.out.step hb)
  have HB := Lib.hid L1.out.below
  have hlow0 := L0.out.below.size
  have hln := goes_len' hgo
  have hlow := HB.out.size
  obtain ⟨hsz1, b0, b1⟩ := L1.out.box
  clear hgo hf hb hl
  by_cases hlt : 0 < (leftL (goneS z l X n zeroC k) n).length
  · go_wp2_with fail
    go_ret2
    exact ⟨k, HGo.out, HF.out, HB.out, fun e => by omega, fun _ => rfl⟩
  · have hkn : k = n := by omega
    have SR := Lib.hid (steps_row ho)
    clear ho
    have OR := Lib.hid (ORow.made w1 n)
    have BA := Lib.hid ((Below.refl w1.heap.size w1).alloc (Nat.le_refl _) (.cells (madeCells #[.int .i64 0] n) 3))
    subst hkn
    go_wp2_with fail
    go_loopw [23] (fun i wr => ∃ j : Nat, j ≤ k ∧ i = .int .i64 j ∧ Hid (ORow wr w1.heap.size k (outF (stE z l X k zeroC) (stP z l X k zeroC) j)) ∧ Hid (Below w1.heap.size w1 wr)) (fun i _ => k - (intOf i).toNat)
    case atStart => exact ⟨0, Nat.zero_le _, rfl, Lib.hid (OR.out.congr (fun p _ => rfl)), BA⟩
    case round =>
      obtain ⟨j, hj, rfl, HO, HB2⟩ := hrel
      by_cases hltj : j < k
      · obtain ⟨g, rfl, hgl, hc⟩ := (SR.out.b HB2.out) (by omega)
        obtain ⟨hc0, hc1⟩ := hc j hltj
        rw [Nat.mul_comm 2 j] at hc0 hc1
        have hE := stE_lt HGo.out hltj
        have AL := Lib.hid ((Below.refl wr.heap.size wr).alloc (Nat.le_refl _) (.cells #[.int .i64 ((stE z l X k zeroC j : Nat) : Int), .int .i64 ((stP z l X k zeroC j : Nat) : Int)] 92))
        have HO2 := Lib.hid (HO.out.b AL.out)
        have NB := Lib.hid (nbx0 wr #[.int .i64 ((stE z l X k zeroC j : Nat) : Int), .int .i64 ((stP z l X k zeroC j : Nat) : Int)] 92)
        have x0 := NB.out.cell 0 _ rfl
        have x1 := NB.out.cell 1 _ rfl
        have y0 := HO2.out.cell hE
        have y1 := HO2.out.frozen (stE z l X k zeroC j)
        have HO3 := Lib.hid ((HO2.out.set (stE z l X k zeroC j) ((stP z l X k zeroC j : Nat) : Int)).congr (Y := outF (stE z l X k zeroC) (stP z l X k zeroC) (j + 1)) (fun i _ => rfl))
        have HB3 := Lib.hid ((HB2.out.alloc HB2.out.size (.cells #[.int .i64 ((stE z l X k zeroC j : Nat) : Int), .int .i64 ((stP z l X k zeroC j : Nat) : Int)] 92)).setCell (p := ⟨w1.heap.size, stE z l X k zeroC j, none⟩) (Nat.le_refl _) (.int .i64 ((stP z l X k zeroC j : Nat) : Int)))
        clear hc
        go_wp2_with fail
        go_roundw
        case rel => exact ⟨j + 1, hltj, by go_num, HO3, HB3⟩
        case measure => simp [intOf]; omega
      · obtain rfl : j = k := by omega
        have HB4 := Lib.hid (HB.out.trans (HB2.out.mono hlow))
        go_wp2_with fail
        go_ret2
        exact ⟨j, HGo.out, HF.out, HB4.out, fun _ => ⟨_, rfl, hlow, HO.out⟩, fun e => by omega⟩

set_option maxRecDepth 100000 in
set_option maxHeartbeats 2000000 in
theorem spec_ownPlaces (z : Nat) (A : Option Addr) (n c : Nat) (B : Nat → Option Addr) (l d : Nat → Nat) (X : Nat → Nat → Int) (w : World) (hn : n + sumL l n ≤ 1048576) (hr : HR w A n B l d X) (h : HyperOk z n l X) :
    Calls Try.prog 67 #[.agg #[.int .i64 z, .slice A n c]] w fun e w' => ∃ k, Goes z l X n zeroC k ∧ freL (degF l X (goneS z l X n zeroC k) n) z = [] ∧ Below w.heap.size w w' ∧
      ((leftL (goneS z l X n zeroC k) n).length = 0 → ∃ g, e = .returned (.tuple #[.slice (some ⟨g, 0, none⟩) n n, .bool true]) ∧ w.heap.size ≤ g ∧ ORow w' g n (outF (stE z l X n zeroC) (stP z l X n zeroC) k)) ∧
      (0 < (leftL (goneS z l X n zeroC k) n).length → e = .returned (.tuple #[.slice none 0 0, .bool false])) := by
  have L0 := Lib.hid (LH.start (z := (z : Int)) (c := c) hr 27)
  have HG := Lib.hid h
  clear hr h
  go_enter Try.func67, Try.ntmps67
  go_wp2_with fail
  refine (spec_peGood_is z A n c l X _ true hn ⟨B, d, L0.out.row⟩ (by simp only [true_iff]; exact HG.out)).mono ?_; rintro e w1 ⟨rfl, hb⟩
  have L1 := Lib.hid (L0.out.step hb)
  clear hb L0
  obtain ⟨hsz, b0, b1⟩ := L1.out.box
  have hlow := L1.out.below.size
  go_wp2_with fail
  refine (spec_pePlaces z A n c B l d X _ hn L1.out.row HG.out).mono ?_; rintro e w2 ⟨k, hgo, hf, hb, h0, h1⟩
  have HGo := Lib.hid hgo
  have HF := Lib.hid hf
  have HB := Lib.hid (L1.out.step hb).below
  clear hgo hf hb
  by_cases hlt : 0 < (leftL (goneS z l X n zeroC k) n).length
  · rw [h1 hlt]
    clear h0 h1
    go_wp2_with fail
    go_ret2
    exact ⟨k, HGo.out, HF.out, HB.out, fun e => by omega, fun _ => rfl⟩
  · obtain ⟨g, rfl, hg, ho⟩ := h0 (by omega)
    have HO := Lib.hid ho
    clear h0 h1 ho
    go_wp2_with fail
    go_ret2
    exact ⟨k, HGo.out, HF.out, HB.out, fun _ => ⟨g, rfl, by omega, HO.out⟩, fun e => by omega⟩

set_option maxRecDepth 100000 in
set_option maxHeartbeats 2000000 in
theorem impl_peelOrder_no (z : Int) (A : Option Addr) (n c : Nat) (l : Nat → Nat) (X : Nat → Nat → Int) (w : World) (hn : n + sumL l n ≤ 1048576) (hr : HRow w A n l X) (h : ¬ HyperOk z n l X) :
    Calls Try.prog 51 #[.agg #[.int .i64 z, .slice A n c]] w fun e w' => e = .returned (.tuple #[.slice none 0 0, .bool false]) ∧ Below w.heap.size w w' := by
  obtain ⟨B, d, hr⟩ := hr
  have L0 := Lib.hid (LH.start (z := z) (c := c) hr 27)
  have HG := Lib.hid h
  clear hr h
  go_enter Try.func51, Try.ntmps51
  go_wp2_with fail
  refine (impl_isHyper_is z A n c l X _ false hn ⟨B, d, L0.out.row⟩ (by simp only [Bool.false_eq_true, false_iff]; exact HG.out)).mono ?_; rintro e w1 ⟨rfl, hb⟩
  have L1 := Lib.hid (L0.out.step hb)
  clear hb L0
  go_wp2_with fail
  go_ret2
  exact ⟨rfl, L1.out.below⟩

set_option maxRecDepth 100000 in
set_option maxHeartbeats 2000000 in
theorem impl_ownPlaces_no (z : Int) (A : Option Addr) (n c : Nat) (l : Nat → Nat) (X : Nat → Nat → Int) (w : World) (hn : n + sumL l n ≤ 1048576) (hr : HRow w A n l X) (h : ¬ HyperOk z n l X) :
    Calls Try.prog 68 #[.agg #[.int .i64 z, .slice A n c]] w fun e w' => e = .returned (.tuple #[.slice none 0 0, .bool false]) ∧ Below w.heap.size w w' := by
  obtain ⟨B, d, hr⟩ := hr
  have L0 := Lib.hid (LH.start (z := z) (c := c) hr 27)
  have HG := Lib.hid h
  clear hr h
  go_enter Try.func68, Try.ntmps68
  go_wp2_with fail
  refine (impl_peelOrder_no z A n c l X _ hn ⟨B, d, L0.out.row⟩ HG.out).mono ?_; rintro e w1 ⟨rfl, hb⟩
  have L1 := Lib.hid (L0.out.step hb)
  clear hb L0
  go_wp2_with fail
  go_ret2
  exact ⟨rfl, L1.out.below⟩

set_option maxRecDepth 100000 in
set_option maxHeartbeats 2000000 in
theorem spec_ownPlaces_no (z : Int) (A : Option Addr) (n c : Nat) (l : Nat → Nat) (X : Nat → Nat → Int) (w : World) (hn : n + sumL l n ≤ 1048576) (hr : HRow w A n l X) (h : ¬ HyperOk z n l X) :
    Calls Try.prog 67 #[.agg #[.int .i64 z, .slice A n c]] w fun e w' => e = .returned (.tuple #[.slice none 0 0, .bool false]) ∧ Below w.heap.size w w' := by
  obtain ⟨B, d, hr⟩ := hr
  have L0 := Lib.hid (LH.start (z := z) (c := c) hr 27)
  have HG := Lib.hid h
  clear hr h
  go_enter Try.func67, Try.ntmps67
  go_wp2_with fail
  refine (spec_peGood_is z A n c l X _ false hn ⟨B, d, L0.out.row⟩ (by simp only [Bool.false_eq_true, false_iff]; exact HG.out)).mono ?_; rintro e w1 ⟨rfl, hb⟩
  have L1 := Lib.hid (L0.out.step hb)
  clear hb L0
  go_wp2_with fail
  go_ret2
  exact ⟨rfl, L1.out.below⟩
end Go.Proofs.Ytdmdafifgaenhaa
