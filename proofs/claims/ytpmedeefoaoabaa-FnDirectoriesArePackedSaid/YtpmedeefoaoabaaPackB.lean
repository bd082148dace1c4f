/- PackDirectory: the model's way. -/
import Derived.Test.YtpmedeefoaoabaaPackS
import Derived.Test.YtpmedeefoaoabaaRankG
import Derived.Test.YtpmedeefoaoabaaWordsG
import Derived.Test.YtpmedeefoaoabaaSome
import Derived.Test.YtpmedeefoaoabaaLists
import Derived.Test.YtpmedeefoaoabaaDir
namespace Go.Proofs.Ytpmedeefoaoabaa
open Go.RowKit

theorem OVecB.congr {w : World} {B n : Nat} {A : Option Addr} {F G : Nat → Bool} (h : OVecB w B A n F) (e : ∀ i, i < n → F i = G i) : OVecB w B A n G := by
  rcases h with h | ⟨g, hA, hg, ho⟩
  · exact .inl h
  · exact .inr ⟨g, hA, hg, ho.congr e⟩
theorem made_bools (w : World) (n : Nat) : ORowB (w.alloc (.cells (madeCells #[.bool false] n) 4)) w.heap.size n (fun _ => false) :=
  ⟨_, Go.Deep.blk_alloc_new _ _, by simp [madeCells], fun i hi => by simp [madeCells, hi, Nat.mod_one]⟩

section
variable (z D M : Nat) (A1 : Option Addr) (n c1 : Nat) (X : Nat → Int) (A2 : Option Addr) (s c2 : Nat) (Y : Nat → Int) (A3 : Option Addr) (m c3 : Nat) (Z : Nat → Int) (w : World)
set_option maxRecDepth 100000 in
set_option maxHeartbeats 2000000 in
theorem spec_raPack (h : RkR A1 n X A2 s Y A3 m Z w) (hk : RankOk z n X s Y m Z) (hD : D = 13 * s + 6 * m) (hM : M = (D + 15) / 16) :
    Calls Try.prog 19 #[.agg #[.int .i64 z, .slice A1 n c1, .slice A2 s c2, .slice A3 m c3]] w (SomeIs D M (packA (wdR X) s s m) w) := by
  have H0 := Lib.hid h
  have L0 := Lib.hid ((RL.start (z := z) (c1 := c1) (c2 := c2) (c3 := c3) h).step ((Below.refl _ _).alloc (Nat.le_refl _) (.cells #[.int .i64 0, .slice none 0 0] 26)))
  have N0 := nbx0 (w.alloc (.cells (rkC z A1 n c1 A2 s c2 A3 m c3) 28)) #[.int .i64 0, .slice none 0 0] 26
  simp only [World.size_alloc] at N0
  have N0 := Lib.hid N0
  have HK := Lib.hid hk
  obtain ⟨z2, hz2, hz1, hnz, hsz, hmn⟩ := hk.size
  have hs64 : s ≤ 64 := by omega
  have hm256 : m ≤ 256 := by omega
  have hDZ := Lib.hid (show dirZ (z : Int) = (D : Int) by unfold dirZ; omega)
  have hD4 : D ≤ 4096 := by omega
  have hM2 : M ≤ 256 := by omega
  have HD := Lib.hid hD
  have HM := Lib.hid hM
  have zi0 : (0 : Int) ≤ (z : Int) := by omega
  have zi1 : (z : Int) ≤ 4096 := by omega
  have hmk := fun W => run_make_row' (P := Try.prog) 58 4 (.bool false) 1 Try.underlying58 infoB rfl .i64 .i64 D (by omega) (by omega) W
  clear h hk hz2 hz1 hnz hsz hmn hD hM
  obtain ⟨hs0, b0, b1, b2, b3⟩ := L0.out.cells
  go_enter Try.func19, Try.ntmps19
  go_wp2_with fail
  refine (spec_raSize (z : Int) _ zi0 zi1).mono ?_; rintro e w1 ⟨rfl, rfl⟩
  rw [hDZ.out]
  go_wp2_with fail
  have hmk0 := Lib.hid hmk
  clear hmk
  have hwz : ((w.alloc (.cells (rkC z A1 n c1 A2 s c2 A3 m c3) 28)).alloc (.cells #[.int .i64 0, .slice none 0 0] 26)).heap.size = w.heap.size + 2 := by simp
  have O3 := made_bools ((w.alloc (.cells (rkC z A1 n c1 A2 s c2 A3 m c3) 28)).alloc (.cells #[.int .i64 0, .slice none 0 0] 26)) D
  rw [hwz] at O3
  have OV3 : Hid (OVecB (((w.alloc (.cells (rkC z A1 n c1 A2 s c2 A3 m c3) 28)).alloc (.cells #[.int .i64 0, .slice none 0 0] 26)).alloc (.cells (madeCells #[.bool false] D) 4)) (w.heap.size + 2) (some ⟨w.heap.size + 2, 0, none⟩) D (fun _ => false)) := Lib.hid (.inr ⟨_, rfl, Nat.le_refl _, O3⟩)
  have L3 := Lib.hid (L0.out.step ((Below.refl _ _).alloc (Nat.le_refl _) (.cells (madeCells #[.bool false] D) 4)))
  have N3 := Lib.hid (N0.out.b ((Below.refl _ _).alloc (Nat.le_refl _) (.cells (madeCells #[.bool false] D) 4)))
  have hB : w.heap.size + 2 ≤ w.heap.size + 2 := Nat.le_refl _
  have hB3 : w.heap.size + 2 ≤ (((w.alloc (.cells (rkC z A1 n c1 A2 s c2 A3 m c3) 28)).alloc (.cells #[.int .i64 0, .slice none 0 0] 26)).alloc (.cells (madeCells #[.bool false] D) 4)).heap.size := by simp
  clear hmk0 O3 hwz b0 b1 b2 b3
  go_loopw [4, 17] (fun a i wr => ∃ k : Nat, i = .int .i64 k ∧ a = .int .i64 (13 * (k : Int)) ∧ k ≤ s ∧ Hid (OVecB wr (w.heap.size + 2) (some ⟨w.heap.size + 2, 0, none⟩) D (packA (wdR X) s k 0)) ∧ w.heap.size + 2 ≤ wr.heap.size ∧ Hid (RL w w.heap.size z A1 n c1 X A2 s c2 Y A3 m c3 Z wr) ∧ Hid (NBX (w.heap.size + 1) (w.heap.size + 1) #[.int .i64 0, .slice none 0 0] 26 wr)) (fun _ i _ => s - (intOf i).toNat)
  case atStart => exact ⟨0, rfl, rfl, Nat.zero_le _, Lib.hid (OV3.out.congr (fun p _ => (pack_zero p).symm)), hB3, L3, N3⟩
  case round =>
    obtain ⟨k, rfl, rfl, hk, OV, hBr, LR, NR⟩ := hrel
    obtain ⟨hsr, b0, b1, b2, b3⟩ := LR.out.cells
    by_cases hlt : k < s
    · obtain ⟨bY, oY, rfl, _, hcY⟩ := LR.out.rows.r2 (by omega)
      have cY := hcY k hlt
      have hyv := HK.out.2.1.2 k hlt
      have hyv : Y k = (supN (wdR X) k : Int) := hyv
      rw [hyv] at cY
      have hsn : supN (wdR X) k ≤ 4096 := by have := cntN_le (wdR X) (64 * k) 0; unfold supN; omega
      have hsf := spec_biPut (some ⟨w.heap.size + 2, 0, none⟩) D D (13 * k) 13 (supN (wdR X) k) (w.heap.size + 2) _ wr hD4 (by omega) (by have := HD.out; omega) (by omega) OV.out hBr
      rw [show ((13 * k : Nat) : Int) = 13 * (k : Int) by omega] at hsf
      have HSF := Lib.hid hsf
      clear hcY hyv hsf
      go_wp2_with fail
      refine HSF.out.mono ?_; rintro e w5 ⟨rfl, ho, hb⟩
      have L5 := Lib.hid (LR.out.low H0.out (by omega) (by omega) hb)
      have N5 := Lib.hid (NR.out.lowP (by omega) hb)
      have O5 := Lib.hid (ho.congr (fun p _ => pack_sup hlt p))
      have hB5 := hb.size
      clear hb ho b0 b1 b2 b3 cY
      go_wp2_with fail
      go_roundw
      case rel => exact ⟨k + 1, by go_num, by go_num, hlt, O5, Nat.le_trans hBr hB5, L5, N5⟩
      case measure => simp [intOf]; omega
    · obtain rfl : k = s := by omega
      go_wp2_with fail
      go_loopw [4, 31] (fun a i wr => ∃ j : Nat, i = .int .i64 j ∧ a = .int .i64 (13 * (k : Int) + 6 * (j : Int)) ∧ j ≤ m ∧ Hid (OVecB wr (w.heap.size + 2) (some ⟨w.heap.size + 2, 0, none⟩) D (packA (wdR X) k k j)) ∧ w.heap.size + 2 ≤ wr.heap.size ∧ Hid (RL w w.heap.size z A1 n c1 X A2 k c2 Y A3 m c3 Z wr) ∧ Hid (NBX (w.heap.size + 1) (w.heap.size + 1) #[.int .i64 0, .slice none 0 0] 26 wr)) (fun _ i _ => m - (intOf i).toNat)
      case atStart => exact ⟨0, rfl, by simp, Nat.zero_le _, OV, hBr, LR, NR⟩
      case round =>
        obtain ⟨j, rfl, rfl, hj, OVj, hBr3, LR3, NR3⟩ := hrel
        clear b0 b1 b2 b3
        obtain ⟨hsr3, b0, b1, b2, b3⟩ := LR3.out.cells
        by_cases hlt2 : j < m
        · obtain ⟨bZ, oZ, rfl, _, hcZ⟩ := LR3.out.rows.r3 (by omega)
          have cZ := hcZ j hlt2
          have hzv := HK.out.2.2.2 j hlt2
          have hzv : Z j = (blkN (wdR X) j : Int) := hzv
          rw [hzv] at cZ
          have hbn : blkN (wdR X) j ≤ 4096 := by have := cntN_le (wdR X) (16 * j - 64 * (j / 4)) (64 * (j / 4)); unfold blkN; omega
          have hsf := spec_biPut (some ⟨w.heap.size + 2, 0, none⟩) D D (13 * k + 6 * j) 6 (blkN (wdR X) j) (w.heap.size + 2) _ wr hD4 (by omega) (by have := HD.out; omega) (by omega) OVj.out hBr3
          rw [show ((13 * k + 6 * j : Nat) : Int) = 13 * (k : Int) + 6 * (j : Int) by omega] at hsf
          have HSF := Lib.hid hsf
          clear hcZ hzv hsf
          go_wp2_with fail
          refine HSF.out.mono ?_; rintro e w5 ⟨rfl, ho, hb⟩
          have L5 := Lib.hid (LR3.out.low H0.out (by omega) (by omega) hb)
          have N5 := Lib.hid (NR3.out.lowP (by omega) hb)
          have O5 := Lib.hid (ho.congr (fun p _ => pack_blk p))
          have hB5 := hb.size
          clear hb ho b0 b1 b2 b3 cZ
          go_wp2_with fail
          go_roundw
          case rel => exact ⟨j + 1, by go_num, by go_num, hlt2, O5, Nat.le_trans hBr3 hB5, L5, N5⟩
          case measure => simp [intOf]; omega
        · obtain rfl : j = m := by omega
          go_wp2_with fail
          refine (spec_biSome _ D _ M _ _ hD4 HM.out OVj.out.row).mono ?_; rintro e w6 ⟨g, rfl, hg, ho, hb⟩
          have L6 := Lib.hid (LR3.out.step hb)
          have N6 := Lib.hid (NR3.out.b hb)
          have O6 := Lib.hid ho
          have hg2 : w.heap.size + 2 ≤ g := Nat.le_trans hBr3 hg
          clear hb ho b0 b1 b2 b3
          have e0 := N6.out.cell 0 _ rfl
          have e1 := N6.out.cell 1 _ rfl
          have g0 := N6.out.free 0
          have g1 := N6.out.free 1
          go_wp2_with fail
          have N7 := Lib.hid ((N6.out.set 0 (.int .i64 D)).set 1 (.slice (some ⟨g, 0, none⟩) M M))
          have r0 := N7.out.cell 0 (.int .i64 D) (by simp)
          have r1 := N7.out.cell 1 (.slice (some ⟨g, 0, none⟩) M M) (by simp)
          refine bodyPost_ret (v := .agg #[.int .i64 D, .slice (some ⟨g, 0, none⟩) M M]) (by simp [results, Try.results19, go_sem, r0, r1]) rfl ?_
          have hfe : (fun p => decide (p < D) && packA (wdR X) k k j p) = packA (wdR X) k k j := by
            funext p
            by_cases c : p < D
            · simp [c]
            · rw [pack_high (by have := HD.out; omega)]; simp
          refine ⟨g, rfl, by omega, ?_, below_setAt (below_setAt L6.out.below (by omega) _) (by omega) _⟩
          rw [← hfe]
          exact (O6.out.setAt (by omega) _).setAt (by omega) _
end
end Go.Proofs.Ytpmedeefoaoabaa
