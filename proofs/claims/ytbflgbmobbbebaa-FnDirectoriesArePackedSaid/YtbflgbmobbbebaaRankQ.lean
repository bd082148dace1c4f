/- The code's counts before a place. -/
import Derived.Test.YtbflgbmobbbebaaRankG
import Derived.Test.YtbflgbmobbbebaaSelS
import Derived.BigQuiet
namespace Go.Proofs.Ytbflgbmobbbebaa
open Go.RowKit

/-- The answer (v, b). -/
def AnsI (v : Int) (b : Bool) (w : World) (e : Ending) (w' : World) : Prop := e = .returned (.tuple #[.int .i64 v, .bool b]) ∧ Below w.heap.size w w'
theorem kind_off (a b : Int) (w : World) : (Instr.index 100 (.agg #[.int .i64 a, .int .i64 b]) (.int .i64 0)).run Try.prog w = .ok (.int .i64 a) w := by kernel_rfl
theorem kind_on (a b : Int) (w : World) : (Instr.index 100 (.agg #[.int .i64 a, .int .i64 b]) (.int .i64 1)).run Try.prog w = .ok (.int .i64 b) w := by kernel_rfl
def kindI (on : Bool) : Int := if on then 1 else 0
section
variable {z' n s m i : Nat} {X Y Z : Nat → Int}
theorem rank_parts (h : RankOk z' n X s Y m Z) (h0 : 0 < i) (h1 : i ≤ z') :
    (i - 1) / 16 / 4 < s ∧ (i - 1) / 16 < m ∧ 0 ≤ Y ((i - 1) / 16 / 4) ∧ Y ((i - 1) / 16 / 4) ≤ 4096 ∧ 0 ≤ Z ((i - 1) / 16) ∧ Z ((i - 1) / 16) ≤ 4096 ∧
      Y ((i - 1) / 16 / 4) + Z ((i - 1) / 16) + pcF (fieldN (wdR X) ((i - 1) / 16 * 16) (i - (i - 1) / 16 * 16)) = (cntN (wdR X) 0 i : Int) := by
  obtain ⟨zz, e1, e2, e3, e4, e5⟩ := h.size
  have ez : z' = zz := by omega
  subst ez
  have hs : (i - 1) / 16 / 4 < s := by omega
  have hm : (i - 1) / 16 < m := by omega
  have hy := h.2.1.2 _ hs
  have hz := h.2.2.2 _ hm
  have hb := blk_val (wdR X) ((i - 1) / 16)
  have hp := pc_field (wdR X) (i - (i - 1) / 16 * 16) (by omega) ((i - 1) / 16 * 16)
  have hc := cntN_add (wdR X) ((i - 1) / 16 * 16) (i - (i - 1) / 16 * 16) 0
  rw [Nat.zero_add, show (i - 1) / 16 * 16 + (i - (i - 1) / 16 * 16) = i by omega] at hc
  rw [show 16 * ((i - 1) / 16) = (i - 1) / 16 * 16 by omega] at hb
  have l1 := cntN_le (wdR X) (64 * ((i - 1) / 16 / 4)) 0
  have l2 := cntN_le (wdR X) (16 * ((i - 1) / 16) - 64 * ((i - 1) / 16 / 4)) (64 * ((i - 1) / 16 / 4))
  rw [hy, hz, hp]
  refine ⟨hs, hm, ?_, ?_, ?_, ?_, ?_⟩
  · unfold supI; omega
  · unfold supI; omega
  · unfold blkI; omega
  · unfold blkI; omega
  · rw [hc]; push_cast; omega
end

section
variable (z : Nat) (A1 : Option Addr) (n c1 : Nat) (X : Nat → Int) (A2 : Option Addr) (s c2 : Nat) (Y : Nat → Int) (A3 : Option Addr) (m c3 : Nat) (Z : Nat → Int) (w : World)
set_option maxRecDepth 100000 in
set_option maxHeartbeats 2000000 in
theorem impl_countsBefore (i : Nat) (h : RkR A1 n X A2 s Y A3 m Z w) (hk : RankOk z n X s Y m Z) (hi : i ≤ z) :
    Calls Try.prog 97 #[.agg #[.int .i64 z, .slice A1 n c1, .slice A2 s c2, .slice A3 m c3], .int .i64 i] w fun e w' => e = .returned (.agg #[.int .i64 (cntB (wdR X) false i), .int .i64 (cntB (wdR X) true i)]) ∧ Below w.heap.size w w' := by
  have L0 := Lib.hid ((RL.start (z := z) (c1 := c1) (c2 := c2) (c3 := c3) h).step ((Below.refl _ _).alloc (Nat.le_refl _) (.cells #[.int .i64 0, .int .i64 0] 100)))
  have N0 := nbx0 (w.alloc (.cells (rkC z A1 n c1 A2 s c2 A3 m c3) 29)) #[.int .i64 0, .int .i64 0] 100
  simp only [World.size_alloc] at N0
  have N0 := Lib.hid N0
  clear h
  have HK := Lib.hid hk
  clear hk
  obtain ⟨hs0, b0, b1, b2, b3⟩ := L0.out.cells
  by_cases h0 : i = 0
  · subst h0
    rw [cntB_zero, cntB_zero]
    go_enter Try.func97, Try.ntmps97
    have r0 := N0.out.cell 0 _ rfl
    have r1 := N0.out.cell 1 _ rfl
    go_wp2_with fail
    exact bodyPost_ret (v := .agg #[.int .i64 (0 : Nat), .int .i64 (0 : Nat)]) (by simp [results, Try.results97, go_sem, r0, r1]) rfl ⟨rfl, L0.out.below⟩
  · obtain ⟨hs, hm, y0, y1, z0, z1, hsum⟩ := rank_parts HK.out (Nat.pos_of_ne_zero h0) hi
    have f0 : ((i : Int) == 0) = false := by simp; omega
    have hz1 : z ≤ 4096 := by obtain ⟨zz, e1, e2, _⟩ := HK.out.size; omega
    have hnz : n = (z + 15) / 16 := by obtain ⟨zz, e1, e2, e3, _⟩ := HK.out.size; omega
    obtain ⟨k, hk⟩ : ∃ k : Nat, k = (i - 1) / 16 := ⟨_, rfl⟩
    rw [← hk] at hs hm y0 y1 z0 z1 hsum
    obtain ⟨q, hq⟩ : ∃ q : Nat, q = k * 16 := ⟨_, rfl⟩
    rw [← hq] at hsum
    have ek : ((i : Int) - 1) / 16 = (k : Int) := by omega
    have ei : 0 ≤ (i : Int) - 1 := by omega
    have eq16 : (k : Int) * 16 = (q : Int) := by omega
    have e41 : (k : Int) / 4 < (s : Int) := by omega
    have e42 : 0 ≤ (k : Int) / 4 := by omega
    have e43 : ((k : Int) / 4).toNat = k / 4 := by omega
    have em : (k : Int) < (m : Int) := by omega
    have HW := Lib.hid (good_row HK.out.1 L0.out.rows.r1)
    obtain ⟨bY, oY, rfl, _, hcY⟩ := L0.out.rows.r2 (by omega)
    obtain ⟨bZ, oZ, rfl, _, hcZ⟩ := L0.out.rows.r3 (by omega)
    have cY := hcY (k / 4) hs
    have cZ := hcZ k hm
    obtain ⟨T, hT⟩ : ∃ T : Nat, T = cntN (wdR X) 0 i := ⟨_, rfl⟩
    have hT1 : T ≤ i := by rw [hT]; exact cntN_le _ _ _
    have hF := fieldN_lt (wdR X) (i - q) q
    have h2p : 2 ^ (i - q) ≤ 2 ^ 16 := Nat.pow_le_pow_right (by omega) (by omega)
    have h3p : (2 : Nat) ^ 16 = 65536 := by decide
    have hF2 : fieldN (wdR X) q (i - q) ≤ 65535 := by omega
    rw [← hT] at hsum
    have hFo := impl_fieldOf A1 n c1 (wdR X) q (i - q)
    rw [show ((i - q : Nat) : Int) = (i : Int) - q by omega] at hFo
    have HFO := Lib.hid hFo
    have VF : ((cntB (wdR X) false i : Nat) : Int) = (i : Int) - T := by rw [hT]; unfold cntB; simp; omega
    have VT : ((cntB (wdR X) true i : Nat) : Int) = T := by rw [hT]; rfl
    rw [VF, VT]
    clear hF h2p h3p hT hFo VF VT
    generalize fieldN (wdR X) q (i - q) = F at *
    generalize hG : pcF F = G at *
    have HG := Lib.hid hG
    have SUM := Lib.hid hsum
    have q1 : q + (i - q) = i := by omega
    have q2 : i - q ≤ 16 := by omega
    have q3 : q + (i - q) ≤ 16 * n := by omega
    have hn2 : n ≤ 1048576 := by omega
    have HN := Lib.hid hnz
    have KQ := Lib.hid hk
    have QK := Lib.hid hq
    clear hsum hcY hcZ h0 hnz hk hq hG
    go_enter Try.func97, Try.ntmps97
    go_wp2_with fail
    simp only [ek]
    go_quiet (fail)
    go_wp2_with fail
    refine (HFO.out _ hn2 ⟨HW.out.1.b (below_drewN (Below.refl _ _) _), HW.out.2⟩ q3 (by omega)).mono ?_; rintro e w2 ⟨rfl, rfl⟩
    go_wp2_with fail
    refine (onesCount F _ (by omega)).mono ?_; rintro e w2 ⟨rfl, rfl⟩
    rw [HG.out]
    have e5 : Y (k / 4) + Z k + (G : Int) = (T : Int) := SUM.out
    go_wp2_with fail
    have N1 := Lib.hid (((N0.out.b (below_drewN (Below.refl _ _) nq)).set 0 (.int .i64 ((i : Int) - T))).set 1 (.int .i64 T))
    have r0 := N1.out.cell 0 (.int .i64 ((i : Int) - T)) (by simp)
    have r1 := N1.out.cell 1 (.int .i64 T) (by simp)
    refine bodyPost_ret (v := .agg #[.int .i64 ((i : Int) - T), .int .i64 T]) (by simp [results, Try.results97, go_sem, r0, r1]) rfl ⟨rfl, ?_⟩
    exact below_setAt (below_setAt (L0.out.below.trans ((below_drewN (Below.refl _ _) nq).mono L0.out.below.size)) (by omega) _) (by omega) _

set_option maxRecDepth 100000 in
set_option maxHeartbeats 1000000 in
theorem impl_rankOf_yes (on : Bool) (i : Nat) (h : RkR A1 n X A2 s Y A3 m Z w) (hk : RankOk z n X s Y m Z) (hi : i ≤ z) :
    Calls Try.prog 58 #[.agg #[.int .i64 z, .slice A1 n c1, .slice A2 s c2, .slice A3 m c3], .int .i64 (kindI on), .int .i64 i] w (AnsI (cntB (wdR X) on i) true w) := by
  have L0 := Lib.hid (RL.start (z := z) (c1 := c1) (c2 := c2) (c3 := c3) h)
  have HC := Lib.hid (fun w1 => impl_countsBefore z A1 n c1 X A2 s c2 Y A3 m c3 Z w1 i)
  have HK := Lib.hid hk
  have d0 : decide ((i : Int) < 0) = false := by simp
  have d1 : decide ((z : Int) < (i : Int)) = false := by simp; omega
  clear h hk
  obtain ⟨hs0, b0, b1, b2, b3⟩ := L0.out.cells
  generalize hV : cntB (wdR X) false i = V0 at *
  generalize hV1 : cntB (wdR X) true i = V1 at *
  cases on
  · show Calls Try.prog 58 #[.agg #[.int .i64 z, .slice A1 n c1, .slice A2 s c2, .slice A3 m c3], .int .i64 0, .int .i64 i] w _
    go_enter Try.func58, Try.ntmps58
    go_wp2_with fail
    refine (HC.out _ L0.out.rows HK.out hi).mono ?_; rintro e w1 ⟨rfl, hb⟩
    have L1 := Lib.hid (L0.out.step hb)
    clear hb
    have x0 := kind_off V0 V1
    go_wp2_with fail
    go_ret2
    exact ⟨by rw [hV]; rfl, L1.out.below⟩
  · show Calls Try.prog 58 #[.agg #[.int .i64 z, .slice A1 n c1, .slice A2 s c2, .slice A3 m c3], .int .i64 1, .int .i64 i] w _
    go_enter Try.func58, Try.ntmps58
    go_wp2_with fail
    refine (HC.out _ L0.out.rows HK.out hi).mono ?_; rintro e w1 ⟨rfl, hb⟩
    have L1 := Lib.hid (L0.out.step hb)
    clear hb
    have x0 := kind_on V0 V1
    go_wp2_with fail
    go_ret2
    exact ⟨by rw [hV1]; rfl, L1.out.below⟩

set_option maxRecDepth 100000 in
set_option maxHeartbeats 1000000 in
theorem impl_rankOf_no (kind i : Int) (h : RkR A1 n X A2 s Y A3 m Z w) (hi : ¬ (0 ≤ i ∧ i ≤ z)) :
    Calls Try.prog 58 #[.agg #[.int .i64 z, .slice A1 n c1, .slice A2 s c2, .slice A3 m c3], .int .i64 kind, .int .i64 i] w (AnsI 0 false w) := by
  have L0 := Lib.hid (RL.start (z := z) (c1 := c1) (c2 := c2) (c3 := c3) h)
  clear h
  obtain ⟨hs0, b0, b1, b2, b3⟩ := L0.out.cells
  by_cases h0 : i < 0
  · have d0 : decide (i < 0) = true := by simpa using h0
    go_enter Try.func58, Try.ntmps58
    go_wp2_with fail
    go_ret2
    exact ⟨rfl, L0.out.below⟩
  · have d0 : decide (i < 0) = false := by simpa using h0
    have d1 : decide ((z : Int) < i) = true := by simp; omega
    go_enter Try.func58, Try.ntmps58
    go_wp2_with fail
    go_ret2
    exact ⟨rfl, L0.out.below⟩
end
end Go.Proofs.Ytbflgbmobbbebaa
