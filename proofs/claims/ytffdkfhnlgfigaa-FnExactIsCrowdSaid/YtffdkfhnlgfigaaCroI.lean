/- Crowds: the program's way. -/
import Derived.Test.YtffdkfhnlgfigaaCroM
import Derived.BigQuiet
namespace Go.Proofs.Ytffdkfhnlgfigaa
open Go.RowKit

theorem cntF_le (f : Nat → Bool) : ∀ n, cntF f n ≤ n
  | 0 => Nat.le_refl _
  | n + 1 => by have := cntF_le f n; rw [cntF]; split <;> omega
set_option maxHeartbeats 400000 in
theorem impl_setSize (x : Nat) (w : World) (hx : x < 18446744073709551616) :
    Calls Try.prog 117 #[.int .u64 x] w fun e w' => e = .returned (.int .i64 (cntF x.testBit 64 : Nat)) ∧ w = w' := by
  go_enter Try.func117, Try.ntmps117
  go_wp2_with fail
  refine (onesCountW x _ hx).mono ?_; rintro e w' ⟨rfl, rfl⟩
  go_wp2_with fail
  go_ret
  exact ⟨rfl, rfl⟩
set_option maxHeartbeats 400000 in
theorem impl_groupCrowd (FA : Option Addr) (m mc x : Nat) (w : World) (hx : x < 18446744073709551616) :
    Calls Try.prog 88 #[.agg #[.slice FA m mc, .int .u64 x]] w fun e w' => e = .returned (.bool (decide (cntF x.testBit 64 < m))) ∧ Below w.heap.size w w' := by
  have HB := Lib.hid ((Below.refl w.heap.size w).alloc (Nat.le_refl _) (.cells #[.slice FA m mc, .int .u64 x] 126))
  have N0 := nbx0 w #[.slice FA m mc, .int .u64 x] 126
  have q0 := N0.cell 0 _ rfl
  have q1 := N0.cell 1 _ rfl
  clear N0
  obtain ⟨s, hs⟩ : ∃ s, s = cntF x.testBit 64 := ⟨_, rfl⟩
  have hsl : s ≤ 64 := by rw [hs]; exact cntF_le _ _
  have HC := Lib.hid (fun W => impl_setSize x W hx)
  rw [← hs] at HC ⊢
  clear hs
  go_enter Try.func88, Try.ntmps88
  go_wp2_with fail
  go_quiet ((go_at_call 117; exact quiet_left (HC.out _)))
  go_wp2_with fail
  go_ret
  exact ⟨rfl, below_drewN HB.out _⟩
set_option maxRecDepth 100000 in
set_option maxHeartbeats 2000000 in
theorem impl_isCrowd (z P : Int) (KA : Option Addr) (n kc : Nat) (S : Nat → ByteArray) (FA : Option Addr) (m mc : Nat) (F : Nat → Int) (w : World) (hn : n ≤ 1048576) (hs : ∀ i, i < n → (S i).size ≤ maxLen) (hr : GRow w KA n (strV S)) (hm : m ≤ 1048576) (hf : IRow w FA m F) :
    Calls Try.prog 37 #[.int .i64 z, .slice KA n kc, .int .i64 P, .slice FA m mc] w (WordIs (sizeB z P && keysB S n) (CrP (celV2 z P S) n F m) w) := by
  have HR := Lib.hid hr
  have HS := Lib.hid hs
  have HF := Lib.hid hf
  clear hr hs hf
  go_enter Try.func37, Try.ntmps37
  go_wp2_with fail
  refine (impl_cellSetsOf z P KA n kc S _ hn HS.out HR.out).mono ?_; rintro e w2 ⟨hb, hor⟩
  have HB := Lib.hid hb
  have HF2 := Lib.hid (HF.out.b hb)
  clear hb
  rcases hor with ⟨hk, rfl⟩ | ⟨hk, A, c, rfl, ha⟩
  · go_wp2_with fail
    go_ret2
    exact ⟨false, by rw [hk]; rfl, by simp [hk], HB.out⟩
  · have hkb : n ≤ 40 := by simp only [Bool.and_eq_true, keysB, decide_eq_true_eq] at hk; exact hk.2.1
    have hV := Lib.hid (fun i k => celV2_bd (S := S) (z := z) (P := P) (by simp only [Bool.and_eq_true] at hk; exact hk.1) i k)
    have HC := Lib.hid (impl_isIncreasingBelow FA m mc F ((n : Int) - 1) w2 hm HF2.out)
    rw [show (n : Int) - 1 + 1 = n by omega] at HC
    generalize celV2 z P S = V at *
    have HA := Lib.hid ha
    clear ha
    go_wp2_with fail
    refine HC.out.mono ?_; rintro e w3 ⟨b, rfl, hb, k, hw3⟩
    cases b with
    | false =>
      have HX := Lib.hid (show ¬ CrP V n F m from fun h => by have := hb.2 h.1; cases this)
      have HBk := Lib.hid (show Below w.heap.size w w3 by rw [hw3]; exact below_drewN HB.out k)
      clear hb hw3
      go_wp2_with fail
      go_ret2
      exact ⟨false, by rw [hk]; rfl, by simp only [Bool.false_eq_true, false_iff]; exact fun h => HX.out h.2, HBk.out⟩
    | true =>
      have HX := Lib.hid (hb.1 rfl)
      have HBk := Lib.hid (show Below w.heap.size w w3 by rw [hw3]; exact below_drewN HB.out k)
      have HA2 := Lib.hid (show GRow w3 A n (setV V) by rw [hw3]; exact HA.out.b (below_drewN (Below.refl _ _) k))
      have HF3 := Lib.hid (show IRow w3 FA m F by rw [hw3]; exact HF2.out.b (below_drewN (Below.refl _ _) k))
      have N0 := Lib.hid (nbx0 w3 #[.slice FA m mc, .int .u64 0] 126)
      have B0 := Lib.hid ((Below.refl w3.heap.size w3).alloc (Nat.le_refl _) (.cells #[.slice FA m mc, .int .u64 0] 126))
      clear hb hw3 HC HA HF HF2
      go_wp2_with fail
      go_loopw [33] (fun i wr => ∃ q : Nat, q ≤ m ∧ i = .int .i64 q ∧ Hid (NBX w3.heap.size w3.heap.size #[.slice FA m mc, .int .u64 (orW V F q : Nat)] 126 wr) ∧ Hid (Below w3.heap.size w3 wr)) (fun i _ => m - (intOf i).toNat)
      case atStart => exact ⟨0, Nat.zero_le _, rfl, N0, B0⟩
      case round =>
        obtain ⟨q, hq, rfl, HN, HL⟩ := hrel
        have hsz := HL.out.size
        have hbl := HN.out.lt
        have q0 := HN.out.cell 0 _ rfl
        have q1 := HN.out.cell 1 _ rfl
        have hfz := HN.out.free 1
        have hol := orW_lt (F := F) hV.out q
        by_cases hlt : q < m
        · obtain ⟨f, hf1, hf2⟩ := risT_key HX.out q hlt
          obtain ⟨b, off, hFA, _, hc⟩ := HF3.out.below HL.out (Nat.le_refl _) (by omega)
          obtain ⟨b2, off2, hA2, _, hc2⟩ := HA2.out.below HL.out (Nat.le_refl _) (by omega)
          subst hFA hA2
          have hx := hc q hlt
          rw [hf1] at hx
          have hy := hc2 f hf2
          unfold setV at hy
          have HOR := Lib.hid (show bits .or .u64 ((orW V F q : Nat) : Int) ((setN (V f) 2 : Nat) : Int) = ((orW V F (q + 1) : Nat) : Int) by
            rw [u64_or_nat _ _ hol (setN_lt (fun k _ => hV.out _ k) 2 (by omega)), orW, hf1, Int.toNat_natCast])
          have HN2 := Lib.hid ((HN.out.set 1 (.int .u64 ((orW V F (q + 1) : Nat) : Int))).b (below_drewN (Below.refl _ _) 1))
          have HL2 := Lib.hid (below_drewN (below_setAt (b := w3.heap.size) (o := 1) HL.out (Nat.le_refl _) (.int .u64 ((orW V F (q + 1) : Nat) : Int))) 1)
          clear hc hc2 hf1
          go_wp2_with fail
          go_region
          go_wp2_with fail
          rw [HOR.out]
          go_roundw
          case rel => exact ⟨q + 1, by omega, by go_num, HN2, HL2⟩
          case measure => simp [intOf]; omega
        · obtain rfl : q = m := by omega
          go_wp2_with fail
          refine (impl_groupCrowd FA q mc (orW V F q) _ hol).mono ?_; rintro e w4 ⟨rfl, hb⟩
          have HE := Lib.hid ((HBk.out.trans (HL.out.mono HBk.out.size)).trans (hb.mono (by have := HBk.out.size; omega)))
          clear hb
          go_wp2_with fail
          go_ret2
          exact ⟨decide (cntF (orW V F q).testBit 64 < q), by rw [hk]; rfl, by rw [hk]; simp only [decide_eq_true_eq, true_and, CrP]; exact ⟨fun h => ⟨HX.out, h⟩, fun h => h.2⟩, HE.out⟩
end Go.Proofs.Ytffdkfhnlgfigaa
