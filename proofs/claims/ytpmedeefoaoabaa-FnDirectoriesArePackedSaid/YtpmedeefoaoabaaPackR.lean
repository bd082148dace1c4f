/- PackDirectory: the code's way. -/
import Derived.Test.YtpmedeefoaoabaaPackS
import Derived.Test.YtpmedeefoaoabaaRankG
import Derived.Test.YtpmedeefoaoabaaWordsG
import Derived.Test.YtpmedeefoaoabaaPutF
import Derived.Test.YtpmedeefoaoabaaDir
namespace Go.Proofs.Ytpmedeefoaoabaa
open Go.RowKit

section
variable (z D M : Nat) (A1 : Option Addr) (n c1 : Nat) (X : Nat → Int) (A2 : Option Addr) (s c2 : Nat) (Y : Nat → Int) (A3 : Option Addr) (m c3 : Nat) (Z : Nat → Int) (w : World)
set_option maxRecDepth 100000 in
set_option maxHeartbeats 2000000 in
theorem impl_pack_yes (h : RkR A1 n X A2 s Y A3 m Z w) (hk : RankOk z n X s Y m Z) (hD : D = 13 * s + 6 * m) (hM : M = (D + 15) / 16) :
    Calls Try.prog 6 #[.agg #[.int .i64 z, .slice A1 n c1, .slice A2 s c2, .slice A3 m c3]] w (OwnIs D M (packX (wdR X) s m) true w) := by
  have H0 := Lib.hid h
  have L0 := Lib.hid ((RL.start (z := z) (c1 := c1) (c2 := c2) (c3 := c3) h).step ((Below.refl _ _).alloc (Nat.le_refl _) (.cells #[.int .i64 0, .slice none 0 0] 26)))
  have N0 := nbx0 (w.alloc (.cells (rkC z A1 n c1 A2 s c2 A3 m c3) 28)) #[.int .i64 0, .slice none 0 0] 26
  simp only [World.size_alloc] at N0
  have N0 := Lib.hid N0
  have HK := Lib.hid hk
  obtain ⟨z2, hz2, hz1, hnz, hsz, hmn⟩ := hk.size
  have hs64 : s ≤ 64 := by omega
  have hm256 : m ≤ 256 := by omega
  have hDZ := Lib.hid (show dirZ (z : Int) = (D : Int) by unfold dirZ; omega)
  have hD4 : D ≤ 4096 := by omega
  have hM2 : M ≤ 256 := by omega
  have HD := Lib.hid hD
  have HM := Lib.hid hM
  have zi0 : (0 : Int) ≤ (z : Int) := by omega
  have zi1 : (z : Int) ≤ 4096 := by omega
  clear h hk hz2 hz1 hnz hsz hmn hD hM
  obtain ⟨hs0, b0, b1, b2, b3⟩ := L0.out.cells
  go_enter Try.func6, Try.ntmps6
  go_wp2_with fail
  refine (impl_dirBits_yes (z : Int) _ zi0 zi1).mono ?_; rintro e w1 ⟨rfl, hb⟩
  rw [hDZ.out]
  have L1 := Lib.hid (L0.out.step hb)
  have N1 := Lib.hid (N0.out.b hb)
  clear hb b0 b1 b2 b3 L0 N0
  obtain ⟨hs1, b0, b1, b2, b3⟩ := L1.out.cells
  go_wp2_with fail
  refine ((BoolIs.two (impl_isRanked (z : Int) A1 n c1 X A2 s c2 Y A3 m c3 Z _ L1.out.rows)).1 HK.out).mono ?_; rintro e w2 ⟨rfl, hb⟩
  have L2 := Lib.hid (L1.out.step hb)
  have N2 := Lib.hid (N1.out.b hb)
  clear hb b0 b1 b2 b3 L1 N1
  obtain ⟨hs2, b0, b1, b2, b3⟩ := L2.out.cells
  have hB1 := N2.out.lt
  go_wp2_with fail
  refine (growWords_any D M none 0 0 (fun _ => 0) _ hD4 HM.out (Nat.zero_le _) IRow.zero).mono ?_; rintro e w3 ⟨A, rfl, ho, hb⟩
  have L3 := Lib.hid (L2.out.step hb)
  have N3 := Lib.hid (N2.out.b hb)
  have O3 := Lib.hid (ho.congr (Y := fun i => (((fun _ => 0 : Nat → Nat) i : Nat) : Int)) (fun i hi => by simp))
  have hB3 := hb.size
  clear hb ho b0 b1 b2 b3
  obtain ⟨hs3, b0, b1, b2, b3⟩ := L3.out.cells
  have hB : w.heap.size + 2 ≤ w2.heap.size := by omega
  generalize hBB : w2.heap.size = B at *
  clear hBB
  go_wp2_with fail
  go_loopw [32] (fun i wr => ∃ (k : Nat) (W1 : Nat → Nat), i = .int .i64 k ∧ k ≤ s ∧ Hid ((∀ i, i < M → W1 i < 65536) ∧ ∀ p, p < 16 * M → bitN W1 p = packA (wdR X) s k 0 p) ∧ Hid (OVec wr B A M (fun i => (W1 i : Int))) ∧ B ≤ wr.heap.size ∧ Hid (RL w w.heap.size z A1 n c1 X A2 s c2 Y A3 m c3 Z wr) ∧ Hid (NBX (w.heap.size + 1) (w.heap.size + 1) #[.int .i64 0, .slice none 0 0] 26 wr)) (fun i _ => s - (intOf i).toNat)
  case atStart => exact ⟨0, fun _ => 0, rfl, Nat.zero_le _, Lib.hid ⟨fun _ _ => by show 0 < 65536; omega, fun p _ => by rw [pack_zero]; simp [bitN]⟩, O3, hB3, L3, N3⟩
  case round =>
    obtain ⟨k, W1, rfl, hk, HW, OV, hBr, LR, NR⟩ := hrel
    clear b0 b1 b2 b3
    obtain ⟨hsr, b0, b1, b2, b3⟩ := LR.out.cells
    by_cases hlt : k < s
    · obtain ⟨bY, oY, rfl, _, hcY⟩ := LR.out.rows.r2 (by omega)
      have cY := hcY k hlt
      have hyv := HK.out.2.1.2 k hlt
      have hyv : Y k = (supN (wdR X) k : Int) := hyv
      rw [hyv] at cY
      have hsn : supN (wdR X) k ≤ 4096 := by have := cntN_le (wdR X) (64 * k) 0; unfold supN; omega
      have hsf := setField_own A M B W1 (13 * k) 13 (supN (wdR X) k) wr hM2 OV.out HW.out.1 (by have := HD.out; have := HM.out; omega) (by omega) (by omega) hBr
      rw [show ((13 * k : Nat) : Int) = 13 * (k : Int) by omega] at hsf
      have HSF := Lib.hid hsf
      clear hcY hyv hsf
      go_wp2_with fail
      refine HSF.out.mono ?_; rintro e w5 ⟨rfl, ⟨W2, hst, ho⟩, hb⟩
      have L5 := Lib.hid (LR.out.low H0.out (by omega) (by omega) hb)
      have N5 := Lib.hid (NR.out.lowP (by omega) hb)
      have O5 := Lib.hid ho
      have ST := Lib.hid hst
      have hB5 := hb.size
      clear hb ho hst b0 b1 b2 b3 cY
      go_wp2_with fail
      go_roundw
      case rel => exact ⟨k + 1, W2, by go_num, hlt, Lib.hid ⟨ST.out.1, fun p hp => (ST.out.2 p hp).trans (by rw [HW.out.2 p hp]; exact pack_sup hlt p)⟩, O5, Nat.le_trans hBr hB5, L5, N5⟩
      case measure => simp [intOf]; omega
    · obtain rfl : k = s := by omega
      go_wp2_with fail
      go_loopw [50] (fun i wr => ∃ (j : Nat) (W1 : Nat → Nat), i = .int .i64 j ∧ j ≤ m ∧ Hid ((∀ i, i < M → W1 i < 65536) ∧ ∀ p, p < 16 * M → bitN W1 p = packA (wdR X) k k j p) ∧ Hid (OVec wr B A M (fun i => (W1 i : Int))) ∧ B ≤ wr.heap.size ∧ Hid (RL w w.heap.size z A1 n c1 X A2 k c2 Y A3 m c3 Z wr) ∧ Hid (NBX (w.heap.size + 1) (w.heap.size + 1) #[.int .i64 0, .slice none 0 0] 26 wr)) (fun i _ => m - (intOf i).toNat)
      case atStart => exact ⟨0, W1, rfl, Nat.zero_le _, Lib.hid ⟨HW.out.1, fun p hp => (HW.out.2 p hp).trans (by unfold packA; by_cases c : p < 13 * k <;> simp [c] <;> omega)⟩, OV, hBr, LR, NR⟩
      case round =>
        obtain ⟨j, W3, rfl, hj, HW3, OV3, hBr3, LR3, NR3⟩ := hrel
        clear b0 b1 b2 b3
        obtain ⟨hsr3, b0, b1, b2, b3⟩ := LR3.out.cells
        by_cases hlt2 : j < m
        · obtain ⟨bZ, oZ, rfl, _, hcZ⟩ := LR3.out.rows.r3 (by omega)
          have cZ := hcZ j hlt2
          have hzv := HK.out.2.2.2 j hlt2
          have hzv : Z j = (blkN (wdR X) j : Int) := hzv
          rw [hzv] at cZ
          have hbn : blkN (wdR X) j ≤ 4096 := by have := cntN_le (wdR X) (16 * j - 64 * (j / 4)) (64 * (j / 4)); unfold blkN; omega
          have hsf := setField_own A M B W3 (13 * k + 6 * j) 6 (blkN (wdR X) j) wr hM2 OV3.out HW3.out.1 (by have := HD.out; have := HM.out; omega) (by omega) (by omega) hBr3
          rw [show ((13 * k + 6 * j : Nat) : Int) = 13 * (k : Int) + 6 * (j : Int) by omega] at hsf
          have HSF := Lib.hid hsf
          clear hcZ hzv hsf
          go_wp2_with fail
          refine HSF.out.mono ?_; rintro e w5 ⟨rfl, ⟨W2, hst, ho⟩, hb⟩
          have L5 := Lib.hid (LR3.out.low H0.out (by omega) (by omega) hb)
          have N5 := Lib.hid (NR3.out.lowP (by omega) hb)
          have O5 := Lib.hid ho
          have ST := Lib.hid hst
          have hB5 := hb.size
          clear hb ho hst b0 b1 b2 b3 cZ
          go_wp2_with fail
          go_roundw
          case rel => exact ⟨j + 1, W2, by go_num, hlt2, Lib.hid ⟨ST.out.1, fun p hp => (ST.out.2 p hp).trans (by rw [HW3.out.2 p hp]; exact pack_blk p)⟩, O5, Nat.le_trans hBr3 hB5, L5, N5⟩
          case measure => simp [intOf]; omega
        · obtain rfl : j = m := by omega
          have e0 := NR3.out.cell 0 _ rfl
          have e1 := NR3.out.cell 1 _ rfl
          have g0 := NR3.out.free 0
          have g1 := NR3.out.free 1
          go_wp2_with fail
          have N6 := Lib.hid ((NR3.out.set 0 (.int .i64 D)).set 1 (.slice A M M))
          have r0 := N6.out.cell 0 (.int .i64 D) (by simp)
          have r1 := N6.out.cell 1 (.slice A M M) (by simp)
          refine bodyPost_ret (v := .tuple #[.agg #[.int .i64 D, .slice A M M], .bool true]) (by simp [results, Try.results6, go_sem, r0, r1]) rfl ?_
          exact ⟨A, M, rfl, (((OV3.out.setAt (by omega) _).setAt (by omega) _).low (by omega)).congr (fun i hi => by show _ = ((wordsOf _ i : Nat) : Int); rw [words_eq HW3.out.1 HW3.out.2 i hi]), below_setAt (below_setAt LR3.out.below (by omega) _) (by omega) _⟩
end
end Go.Proofs.Ytpmedeefoaoabaa
