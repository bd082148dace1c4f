/- Several texts in one: SelS, RankQ, RankK, RankA, Search, SelA, SelC, RankCalls, JoinC, RanksJoinWalk. -/
import Derived.Test.YtbflgbmobbbebaaRankS
import Derived.Test.YtbflgbmobbbebaaRankG
import Derived.BigQuiet
import Derived.Shelf.Abstract
import Derived.Deep.RegionHeld3
import Derived.Test.YtbflgbmobbbebaaJoinR
import Derived.Test.YtbflgbmobbbebaaGenJ

/- Bits of one kind: how many lie before a place, and which one is the k-th. -/
namespace Go.Proofs.Ytbflgbmobbbebaa
open Go.RowKit

/-- How many bits of a kind are among the first i. -/
def cntB (W : Nat → Nat) (on : Bool) (i : Nat) : Nat := if on then cntN W 0 i else i - cntN W 0 i
section
variable {W : Nat → Nat} {on : Bool}
theorem cntB_zero : cntB W on 0 = 0 := by cases on <;> simp [cntB, cntN]
theorem cntB_succ (i : Nat) : cntB W on (i + 1) = cntB W on i + (if bitN W i = on then 1 else 0) := by
  have h := cntN_snoc W 0 i
  have h1 := cntN_le W i 0
  rw [Nat.zero_add] at h
  cases on
  · show i + 1 - cntN W 0 (i + 1) = i - cntN W 0 i + _
    rw [h]
    cases bitN W i <;> simp <;> omega
  · show cntN W 0 (i + 1) = cntN W 0 i + _
    rw [h]
theorem cntB_le (i : Nat) : cntB W on i ≤ i := by
  have h1 := cntN_le W i 0
  cases on <;> simp [cntB] <;> omega
theorem cntB_mono {i j : Nat} (h : i ≤ j) : cntB W on i ≤ cntB W on j := by
  induction j with
  | zero => rw [show i = 0 by omega]; exact Nat.le_refl _
  | succ j ih =>
    by_cases e : i = j + 1
    · rw [e]; exact Nat.le_refl _
    · have := ih (by omega)
      rw [cntB_succ]; omega
/-- The bit i of a vector of z bits is of a kind and has k such bits before it. -/
def SelAt (W : Nat → Nat) (on : Bool) (z k i : Nat) : Prop := i < z ∧ bitN W i = on ∧ cntB W on i = k
theorem sel_lt {z k i : Nat} (h : SelAt W on z k i) : k < cntB W on z := by
  have h1 := cntB_mono (W := W) (on := on) (show i + 1 ≤ z from h.1)
  rw [cntB_succ, if_pos h.2.1, h.2.2] at h1
  omega
theorem sel_some {z k : Nat} (h : k < cntB W on z) : ∃ i, SelAt W on z k i := by
  induction z with
  | zero => rw [cntB_zero] at h; omega
  | succ z ih =>
    rw [cntB_succ] at h
    by_cases h1 : k < cntB W on z
    · obtain ⟨i, h2, h3⟩ := ih h1
      exact ⟨i, by omega, h3⟩
    · by_cases hb : bitN W z = on
      · rw [if_pos hb] at h
        exact ⟨z, by omega, hb, by omega⟩
      · rw [if_neg hb] at h
        omega
theorem sel_above {z k i j : Nat} (h : SelAt W on z k i) : k < cntB W on j ↔ i < j := by
  constructor
  · intro h1
    refine Classical.byContradiction fun h2 => ?_
    have := cntB_mono (W := W) (on := on) (show j ≤ i by omega)
    rw [h.2.2] at this
    omega
  · intro h1
    have := cntB_mono (W := W) (on := on) (show i + 1 ≤ j by omega)
    rw [cntB_succ, if_pos h.2.1, h.2.2] at this
    omega
end
end Go.Proofs.Ytbflgbmobbbebaa

/- The code's counts before a place. -/
namespace Go.Proofs.Ytbflgbmobbbebaa
open Go.RowKit

/-- The answer (v, b). -/
def AnsI (v : Int) (b : Bool) (w : World) (e : Ending) (w' : World) : Prop := e = .returned (.tuple #[.int .i64 v, .bool b]) ∧ Below w.heap.size w w'
theorem kind_off (a b : Int) (w : World) : (Instr.index 100 (.agg #[.int .i64 a, .int .i64 b]) (.int .i64 0)).run Try.prog w = .ok (.int .i64 a) w := by kernel_rfl
theorem kind_on (a b : Int) (w : World) : (Instr.index 100 (.agg #[.int .i64 a, .int .i64 b]) (.int .i64 1)).run Try.prog w = .ok (.int .i64 b) w := by kernel_rfl
def kindI (on : Bool) : Int := if on then 1 else 0
section
variable {z' n s m i : Nat} {X Y Z : Nat → Int}
theorem rank_parts (h : RankOk z' n X s Y m Z) (h0 : 0 < i) (h1 : i ≤ z') :
    (i - 1) / 16 / 4 < s ∧ (i - 1) / 16 < m ∧ 0 ≤ Y ((i - 1) / 16 / 4) ∧ Y ((i - 1) / 16 / 4) ≤ 4096 ∧ 0 ≤ Z ((i - 1) / 16) ∧ Z ((i - 1) / 16) ≤ 4096 ∧
      Y ((i - 1) / 16 / 4) + Z ((i - 1) / 16) + pcF (fieldN (wdR X) ((i - 1) / 16 * 16) (i - (i - 1) / 16 * 16)) = (cntN (wdR X) 0 i : Int) := by
  obtain ⟨zz, e1, e2, e3, e4, e5⟩ := h.size
  have ez : z' = zz := by omega
  subst ez
  have hs : (i - 1) / 16 / 4 < s := by omega
  have hm : (i - 1) / 16 < m := by omega
  have hy := h.2.1.2 _ hs
  have hz := h.2.2.2 _ hm
  have hb := blk_val (wdR X) ((i - 1) / 16)
  have hp := pc_field (wdR X) (i - (i - 1) / 16 * 16) (by omega) ((i - 1) / 16 * 16)
  have hc := cntN_add (wdR X) ((i - 1) / 16 * 16) (i - (i - 1) / 16 * 16) 0
  rw [Nat.zero_add, show (i - 1) / 16 * 16 + (i - (i - 1) / 16 * 16) = i by omega] at hc
  rw [show 16 * ((i - 1) / 16) = (i - 1) / 16 * 16 by omega] at hb
  have l1 := cntN_le (wdR X) (64 * ((i - 1) / 16 / 4)) 0
  have l2 := cntN_le (wdR X) (16 * ((i - 1) / 16) - 64 * ((i - 1) / 16 / 4)) (64 * ((i - 1) / 16 / 4))
  rw [hy, hz, hp]
  refine ⟨hs, hm, ?_, ?_, ?_, ?_, ?_⟩
  · unfold supI; omega
  · unfold supI; omega
  · unfold blkI; omega
  · unfold blkI; omega
  · rw [hc]; push_cast; omega
end

section
variable (z : Nat) (A1 : Option Addr) (n c1 : Nat) (X : Nat → Int) (A2 : Option Addr) (s c2 : Nat) (Y : Nat → Int) (A3 : Option Addr) (m c3 : Nat) (Z : Nat → Int) (w : World)
set_option maxRecDepth 100000 in
set_option maxHeartbeats 2000000 in
theorem impl_countsBefore (i : Nat) (h : RkR A1 n X A2 s Y A3 m Z w) (hk : RankOk z n X s Y m Z) (hi : i ≤ z) :
    Calls Try.prog 97 #[.agg #[.int .i64 z, .slice A1 n c1, .slice A2 s c2, .slice A3 m c3], .int .i64 i] w fun e w' => e = .returned (.agg #[.int .i64 (cntB (wdR X) false i), .int .i64 (cntB (wdR X) true i)]) ∧ Below w.heap.size w w' := by
  have L0 := Lib.hid ((RL.start (z := z) (c1 := c1) (c2 := c2) (c3 := c3) h).step ((Below.refl _ _).alloc (Nat.le_refl _) (.cells #[.int .i64 0, .int .i64 0] 100)))
  have N0 := nbx0 (w.alloc (.cells (rkC z A1 n c1 A2 s c2 A3 m c3) 29)) #[.int .i64 0, .int .i64 0] 100
  simp only [World.size_alloc] at N0
  have N0 := Lib.hid N0
  clear h
  have HK := Lib.hid hk
  clear hk
  obtain ⟨hs0, b0, b1, b2, b3⟩ := L0.out.cells
  by_cases h0 : i = 0
  · subst h0
    rw [cntB_zero, cntB_zero]
    go_enter Try.func97, Try.ntmps97
    have r0 := N0.out.cell 0 _ rfl
    have r1 := N0.out.cell 1 _ rfl
    go_wp2_with fail
    exact bodyPost_ret (v := .agg #[.int .i64 (0 : Nat), .int .i64 (0 : Nat)]) (by simp [results, Try.results97, go_sem, r0, r1]) rfl ⟨rfl, L0.out.below⟩
  · obtain ⟨hs, hm, y0, y1, z0, z1, hsum⟩ := rank_parts HK.out (Nat.pos_of_ne_zero h0) hi
    have f0 : ((i : Int) == 0) = false := by simp; omega
    have hz1 : z ≤ 4096 := by obtain ⟨zz, e1, e2, _⟩ := HK.out.size; omega
    have hnz : n = (z + 15) / 16 := by obtain ⟨zz, e1, e2, e3, _⟩ := HK.out.size; omega
    obtain ⟨k, hk⟩ : ∃ k : Nat, k = (i - 1) / 16 := ⟨_, rfl⟩
    rw [← hk] at hs hm y0 y1 z0 z1 hsum
    obtain ⟨q, hq⟩ : ∃ q : Nat, q = k * 16 := ⟨_, rfl⟩
    rw [← hq] at hsum
    have ek : ((i : Int) - 1) / 16 = (k : Int) := by omega
    have ei : 0 ≤ (i : Int) - 1 := by omega
    have eq16 : (k : Int) * 16 = (q : Int) := by omega
    have e41 : (k : Int) / 4 < (s : Int) := by omega
    have e42 : 0 ≤ (k : Int) / 4 := by omega
    have e43 : ((k : Int) / 4).toNat = k / 4 := by omega
    have em : (k : Int) < (m : Int) := by omega
    have HW := Lib.hid (good_row HK.out.1 L0.out.rows.r1)
    obtain ⟨bY, oY, rfl, _, hcY⟩ := L0.out.rows.r2 (by omega)
    obtain ⟨bZ, oZ, rfl, _, hcZ⟩ := L0.out.rows.r3 (by omega)
    have cY := hcY (k / 4) hs
    have cZ := hcZ k hm
    obtain ⟨T, hT⟩ : ∃ T : Nat, T = cntN (wdR X) 0 i := ⟨_, rfl⟩
    have hT1 : T ≤ i := by rw [hT]; exact cntN_le _ _ _
    have hF := fieldN_lt (wdR X) (i - q) q
    have h2p : 2 ^ (i - q) ≤ 2 ^ 16 := Nat.pow_le_pow_right (by omega) (by omega)
    have h3p : (2 : Nat) ^ 16 = 65536 := by decide
    have hF2 : fieldN (wdR X) q (i - q) ≤ 65535 := by omega
    rw [← hT] at hsum
    have hFo := impl_fieldOf A1 n c1 (wdR X) q (i - q)
    rw [show ((i - q : Nat) : Int) = (i : Int) - q by omega] at hFo
    have HFO := Lib.hid hFo
    have VF : ((cntB (wdR X) false i : Nat) : Int) = (i : Int) - T := by rw [hT]; unfold cntB; simp; omega
    have VT : ((cntB (wdR X) true i : Nat) : Int) = T := by rw [hT]; rfl
    rw [VF, VT]
    clear hF h2p h3p hT hFo VF VT
    generalize fieldN (wdR X) q (i - q) = F at *
    generalize hG : pcF F = G at *
    have HG := Lib.hid hG
    have SUM := Lib.hid hsum
    have q1 : q + (i - q) = i := by omega
    have q2 : i - q ≤ 16 := by omega
    have q3 : q + (i - q) ≤ 16 * n := by omega
    have hn2 : n ≤ 1048576 := by omega
    have HN := Lib.hid hnz
    have KQ := Lib.hid hk
    have QK := Lib.hid hq
    clear hsum hcY hcZ h0 hnz hk hq hG
    go_enter Try.func97, Try.ntmps97
    go_wp2_with fail
    simp only [ek]
    go_quiet (fail)
    go_wp2_with fail
    refine (HFO.out _ hn2 ⟨HW.out.1.b (below_drewN (Below.refl _ _) _), HW.out.2⟩ q3 (by omega)).mono ?_; rintro e w2 ⟨rfl, rfl⟩
    go_wp2_with fail
    refine (onesCount F _ (by omega)).mono ?_; rintro e w2 ⟨rfl, rfl⟩
    rw [HG.out]
    have e5 : Y (k / 4) + Z k + (G : Int) = (T : Int) := SUM.out
    go_wp2_with fail
    have N1 := Lib.hid (((N0.out.b (below_drewN (Below.refl _ _) nq)).set 0 (.int .i64 ((i : Int) - T))).set 1 (.int .i64 T))
    have r0 := N1.out.cell 0 (.int .i64 ((i : Int) - T)) (by simp)
    have r1 := N1.out.cell 1 (.int .i64 T) (by simp)
    refine bodyPost_ret (v := .agg #[.int .i64 ((i : Int) - T), .int .i64 T]) (by simp [results, Try.results97, go_sem, r0, r1]) rfl ⟨rfl, ?_⟩
    exact below_setAt (below_setAt (L0.out.below.trans ((below_drewN (Below.refl _ _) nq).mono L0.out.below.size)) (by omega) _) (by omega) _

set_option maxRecDepth 100000 in
set_option maxHeartbeats 1000000 in
theorem impl_rankOf_yes (on : Bool) (i : Nat) (h : RkR A1 n X A2 s Y A3 m Z w) (hk : RankOk z n X s Y m Z) (hi : i ≤ z) :
    Calls Try.prog 58 #[.agg #[.int .i64 z, .slice A1 n c1, .slice A2 s c2, .slice A3 m c3], .int .i64 (kindI on), .int .i64 i] w (AnsI (cntB (wdR X) on i) true w) := by
  have L0 := Lib.hid (RL.start (z := z) (c1 := c1) (c2 := c2) (c3 := c3) h)
  have HC := Lib.hid (fun w1 => impl_countsBefore z A1 n c1 X A2 s c2 Y A3 m c3 Z w1 i)
  have HK := Lib.hid hk
  have d0 : decide ((i : Int) < 0) = false := by simp
  have d1 : decide ((z : Int) < (i : Int)) = false := by simp; omega
  clear h hk
  obtain ⟨hs0, b0, b1, b2, b3⟩ := L0.out.cells
  generalize hV : cntB (wdR X) false i = V0 at *
  generalize hV1 : cntB (wdR X) true i = V1 at *
  cases on
  · show Calls Try.prog 58 #[.agg #[.int .i64 z, .slice A1 n c1, .slice A2 s c2, .slice A3 m c3], .int .i64 0, .int .i64 i] w _
    go_enter Try.func58, Try.ntmps58
    go_wp2_with fail
    refine (HC.out _ L0.out.rows HK.out hi).mono ?_; rintro e w1 ⟨rfl, hb⟩
    have L1 := Lib.hid (L0.out.step hb)
    clear hb
    have x0 := kind_off V0 V1
    go_wp2_with fail
    go_ret2
    exact ⟨by rw [hV]; rfl, L1.out.below⟩
  · show Calls Try.prog 58 #[.agg #[.int .i64 z, .slice A1 n c1, .slice A2 s c2, .slice A3 m c3], .int .i64 1, .int .i64 i] w _
    go_enter Try.func58, Try.ntmps58
    go_wp2_with fail
    refine (HC.out _ L0.out.rows HK.out hi).mono ?_; rintro e w1 ⟨rfl, hb⟩
    have L1 := Lib.hid (L0.out.step hb)
    clear hb
    have x0 := kind_on V0 V1
    go_wp2_with fail
    go_ret2
    exact ⟨by rw [hV1]; rfl, L1.out.below⟩

set_option maxRecDepth 100000 in
set_option maxHeartbeats 1000000 in
theorem impl_rankOf_no (kind i : Int) (h : RkR A1 n X A2 s Y A3 m Z w) (hi : ¬ (0 ≤ i ∧ i ≤ z)) :
    Calls Try.prog 58 #[.agg #[.int .i64 z, .slice A1 n c1, .slice A2 s c2, .slice A3 m c3], .int .i64 kind, .int .i64 i] w (AnsI 0 false w) := by
  have L0 := Lib.hid (RL.start (z := z) (c1 := c1) (c2 := c2) (c3 := c3) h)
  clear h
  obtain ⟨hs0, b0, b1, b2, b3⟩ := L0.out.cells
  by_cases h0 : i < 0
  · have d0 : decide (i < 0) = true := by simpa using h0
    go_enter Try.func58, Try.ntmps58
    go_wp2_with fail
    go_ret2
    exact ⟨rfl, L0.out.below⟩
  · have d0 : decide (i < 0) = false := by simpa using h0
    have d1 : decide ((z : Int) < i) = true := by simp; omega
    go_enter Try.func58, Try.ntmps58
    go_wp2_with fail
    go_ret2
    exact ⟨rfl, L0.out.below⟩
end
end Go.Proofs.Ytbflgbmobbbebaa

/- askRanked: the valid Ranked is asked. -/
namespace Go.Proofs.Ytbflgbmobbbebaa
open Go.RowKit

section
variable (z : Int) (A1 : Option Addr) (n c1 : Nat) (X : Nat → Int) (A2 : Option Addr) (s c2 : Nat) (Y : Nat → Int) (A3 : Option Addr) (m c3 : Nat) (Z : Nat → Int) (w : World)
set_option maxRecDepth 100000 in
set_option maxHeartbeats 1000000 in
theorem impl_ask_yes (K : Nat) (eg : ∀ args w, (callFunc K args).run Try.prog w = .ok (.enter K args) w) (kind i v : Int) (b : Bool) (h : RkR A1 n X A2 s Y A3 m Z w) (hk : RankOk z n X s Y m Z)
    (hq : ∀ w1, RkR A1 n X A2 s Y A3 m Z w1 → Calls Try.prog K #[.agg #[.int .i64 z, .slice A1 n c1, .slice A2 s c2, .slice A3 m c3], .int .i64 kind, .int .i64 i] w1 (AnsI v b w1)) :
    Calls Try.prog 57 #[.agg #[.int .i64 z, .slice A1 n c1, .slice A2 s c2, .slice A3 m c3], .func (.func K) #[] #[], .int .i64 kind, .int .i64 i] w (AnsI v b w) := by
  have L0 := Lib.hid (RL.start (z := z) (c1 := c1) (c2 := c2) (c3 := c3) h)
  have HK := Lib.hid hk
  have HQ := Lib.hid hq
  clear h hk hq
  obtain ⟨hs0, b0, b1, b2, b3⟩ := L0.out.cells
  go_enter Try.func57, Try.ntmps57
  go_wp2_with fail
  refine ((BoolIs.two (impl_isRanked z A1 n c1 X A2 s c2 Y A3 m c3 Z _ L0.out.rows)).1 HK.out).mono ?_; rintro e w1 ⟨rfl, hb⟩
  have L1 := Lib.hid (L0.out.step hb)
  clear hb b0 b1 b2 b3
  obtain ⟨hs1, b0, b1, b2, b3⟩ := L1.out.cells
  go_wp2_with (go_at_fn K; refine (HQ.out _ L1.out.rows).mono ?_; rintro e w2 ⟨rfl, hb⟩; have L2 := Lib.hid (L1.out.step hb); clear hb)
  go_ret2
  exact ⟨rfl, L2.out.below⟩

set_option maxRecDepth 100000 in
set_option maxHeartbeats 1000000 in
theorem impl_ask_no (fv : Value) (kind i : Int) (h : RkR A1 n X A2 s Y A3 m Z w) (hk : ¬ RankOk z n X s Y m Z) :
    Calls Try.prog 57 #[.agg #[.int .i64 z, .slice A1 n c1, .slice A2 s c2, .slice A3 m c3], fv, .int .i64 kind, .int .i64 i] w (AnsI 0 false w) := by
  have L0 := Lib.hid (RL.start (z := z) (c1 := c1) (c2 := c2) (c3 := c3) h)
  have HK := Lib.hid hk
  clear h hk
  obtain ⟨hs0, b0, b1, b2, b3⟩ := L0.out.cells
  go_enter Try.func57, Try.ntmps57
  go_wp2_with fail
  refine ((BoolIs.two (impl_isRanked z A1 n c1 X A2 s c2 Y A3 m c3 Z _ L0.out.rows)).2 HK.out).mono ?_; rintro e w1 ⟨rfl, hb⟩
  have L1 := Lib.hid (L0.out.step hb)
  clear hb
  go_wp2_with fail
  go_ret2
  exact ⟨rfl, L1.out.below⟩
end
end Go.Proofs.Ytbflgbmobbbebaa

/- The queries of a Ranked in the code: asked of a valid one. -/
namespace Go.Proofs.Ytbflgbmobbbebaa
open Go.RowKit

section
variable (z : Int) (A1 : Option Addr) (n c1 : Nat) (X : Nat → Int) (A2 : Option Addr) (s c2 : Nat) (Y : Nat → Int) (A3 : Option Addr) (m c3 : Nat) (Z : Nat → Int) (w : World)

set_option maxRecDepth 100000 in
set_option maxHeartbeats 1000000 in
theorem impl_Rank1_asked (i v : Int) (b : Bool) (h : RkR A1 n X A2 s Y A3 m Z w) (hk : RankOk z n X s Y m Z)
    (hq : ∀ w1, RkR A1 n X A2 s Y A3 m Z w1 → Calls Try.prog 58 #[.agg #[.int .i64 z, .slice A1 n c1, .slice A2 s c2, .slice A3 m c3], .int .i64 1, .int .i64 i] w1 (AnsI v b w1)) :
    Calls Try.prog 15 #[.agg #[.int .i64 z, .slice A1 n c1, .slice A2 s c2, .slice A3 m c3], .int .i64 i] w (AnsI v b w) := by
  have L0 := Lib.hid (RL.start (z := z) (c1 := c1) (c2 := c2) (c3 := c3) h)
  have HK := Lib.hid hk
  have HQ := Lib.hid hq
  clear h hk hq
  obtain ⟨hs0, b0, b1, b2, b3⟩ := L0.out.cells
  go_enter Try.func15, Try.ntmps15
  go_wp2_with fail
  refine (impl_ask_yes z A1 n c1 X A2 s c2 Y A3 m c3 Z _ 58 (enters_of Try.func58 (by kernel_rfl) rfl) 1 i v b L0.out.rows HK.out HQ.out).mono ?_; rintro e w1 ⟨rfl, hb⟩
  have L1 := Lib.hid (L0.out.step hb)
  clear hb
  go_wp2_with fail
  go_ret2
  exact ⟨rfl, L1.out.below⟩

set_option maxRecDepth 100000 in
set_option maxHeartbeats 1000000 in
theorem impl_Rank1_bad (i : Int) (h : RkR A1 n X A2 s Y A3 m Z w) (hk : ¬ RankOk z n X s Y m Z) :
    Calls Try.prog 15 #[.agg #[.int .i64 z, .slice A1 n c1, .slice A2 s c2, .slice A3 m c3], .int .i64 i] w (AnsI 0 false w) := by
  have L0 := Lib.hid (RL.start (z := z) (c1 := c1) (c2 := c2) (c3 := c3) h)
  have HK := Lib.hid hk
  clear h hk
  obtain ⟨hs0, b0, b1, b2, b3⟩ := L0.out.cells
  go_enter Try.func15, Try.ntmps15
  go_wp2_with fail
  refine (impl_ask_no z A1 n c1 X A2 s c2 Y A3 m c3 Z _ _ 1 i L0.out.rows HK.out).mono ?_; rintro e w1 ⟨rfl, hb⟩
  have L1 := Lib.hid (L0.out.step hb)
  clear hb
  go_wp2_with fail
  go_ret2
  exact ⟨rfl, L1.out.below⟩

set_option maxRecDepth 100000 in
set_option maxHeartbeats 1000000 in
theorem impl_Rank0_asked (i v : Int) (b : Bool) (h : RkR A1 n X A2 s Y A3 m Z w) (hk : RankOk z n X s Y m Z)
    (hq : ∀ w1, RkR A1 n X A2 s Y A3 m Z w1 → Calls Try.prog 58 #[.agg #[.int .i64 z, .slice A1 n c1, .slice A2 s c2, .slice A3 m c3], .int .i64 0, .int .i64 i] w1 (AnsI v b w1)) :
    Calls Try.prog 16 #[.agg #[.int .i64 z, .slice A1 n c1, .slice A2 s c2, .slice A3 m c3], .int .i64 i] w (AnsI v b w) := by
  have L0 := Lib.hid (RL.start (z := z) (c1 := c1) (c2 := c2) (c3 := c3) h)
  have HK := Lib.hid hk
  have HQ := Lib.hid hq
  clear h hk hq
  obtain ⟨hs0, b0, b1, b2, b3⟩ := L0.out.cells
  go_enter Try.func16, Try.ntmps16
  go_wp2_with fail
  refine (impl_ask_yes z A1 n c1 X A2 s c2 Y A3 m c3 Z _ 58 (enters_of Try.func58 (by kernel_rfl) rfl) 0 i v b L0.out.rows HK.out HQ.out).mono ?_; rintro e w1 ⟨rfl, hb⟩
  have L1 := Lib.hid (L0.out.step hb)
  clear hb
  go_wp2_with fail
  go_ret2
  exact ⟨rfl, L1.out.below⟩

set_option maxRecDepth 100000 in
set_option maxHeartbeats 1000000 in
theorem impl_Rank0_bad (i : Int) (h : RkR A1 n X A2 s Y A3 m Z w) (hk : ¬ RankOk z n X s Y m Z) :
    Calls Try.prog 16 #[.agg #[.int .i64 z, .slice A1 n c1, .slice A2 s c2, .slice A3 m c3], .int .i64 i] w (AnsI 0 false w) := by
  have L0 := Lib.hid (RL.start (z := z) (c1 := c1) (c2 := c2) (c3 := c3) h)
  have HK := Lib.hid hk
  clear h hk
  obtain ⟨hs0, b0, b1, b2, b3⟩ := L0.out.cells
  go_enter Try.func16, Try.ntmps16
  go_wp2_with fail
  refine (impl_ask_no z A1 n c1 X A2 s c2 Y A3 m c3 Z _ _ 0 i L0.out.rows HK.out).mono ?_; rintro e w1 ⟨rfl, hb⟩
  have L1 := Lib.hid (L0.out.step hb)
  clear hb
  go_wp2_with fail
  go_ret2
  exact ⟨rfl, L1.out.below⟩

set_option maxRecDepth 100000 in
set_option maxHeartbeats 1000000 in
theorem impl_Select1_asked (i v : Int) (b : Bool) (h : RkR A1 n X A2 s Y A3 m Z w) (hk : RankOk z n X s Y m Z)
    (hq : ∀ w1, RkR A1 n X A2 s Y A3 m Z w1 → Calls Try.prog 59 #[.agg #[.int .i64 z, .slice A1 n c1, .slice A2 s c2, .slice A3 m c3], .int .i64 1, .int .i64 i] w1 (AnsI v b w1)) :
    Calls Try.prog 17 #[.agg #[.int .i64 z, .slice A1 n c1, .slice A2 s c2, .slice A3 m c3], .int .i64 i] w (AnsI v b w) := by
  have L0 := Lib.hid (RL.start (z := z) (c1 := c1) (c2 := c2) (c3 := c3) h)
  have HK := Lib.hid hk
  have HQ := Lib.hid hq
  clear h hk hq
  obtain ⟨hs0, b0, b1, b2, b3⟩ := L0.out.cells
  go_enter Try.func17, Try.ntmps17
  go_wp2_with fail
  refine (impl_ask_yes z A1 n c1 X A2 s c2 Y A3 m c3 Z _ 59 (enters_of Try.func59 (by kernel_rfl) rfl) 1 i v b L0.out.rows HK.out HQ.out).mono ?_; rintro e w1 ⟨rfl, hb⟩
  have L1 := Lib.hid (L0.out.step hb)
  clear hb
  go_wp2_with fail
  go_ret2
  exact ⟨rfl, L1.out.below⟩

set_option maxRecDepth 100000 in
set_option maxHeartbeats 1000000 in
theorem impl_Select1_bad (i : Int) (h : RkR A1 n X A2 s Y A3 m Z w) (hk : ¬ RankOk z n X s Y m Z) :
    Calls Try.prog 17 #[.agg #[.int .i64 z, .slice A1 n c1, .slice A2 s c2, .slice A3 m c3], .int .i64 i] w (AnsI 0 false w) := by
  have L0 := Lib.hid (RL.start (z := z) (c1 := c1) (c2 := c2) (c3 := c3) h)
  have HK := Lib.hid hk
  clear h hk
  obtain ⟨hs0, b0, b1, b2, b3⟩ := L0.out.cells
  go_enter Try.func17, Try.ntmps17
  go_wp2_with fail
  refine (impl_ask_no z A1 n c1 X A2 s c2 Y A3 m c3 Z _ _ 1 i L0.out.rows HK.out).mono ?_; rintro e w1 ⟨rfl, hb⟩
  have L1 := Lib.hid (L0.out.step hb)
  clear hb
  go_wp2_with fail
  go_ret2
  exact ⟨rfl, L1.out.below⟩

set_option maxRecDepth 100000 in
set_option maxHeartbeats 1000000 in
theorem impl_Select0_asked (i v : Int) (b : Bool) (h : RkR A1 n X A2 s Y A3 m Z w) (hk : RankOk z n X s Y m Z)
    (hq : ∀ w1, RkR A1 n X A2 s Y A3 m Z w1 → Calls Try.prog 59 #[.agg #[.int .i64 z, .slice A1 n c1, .slice A2 s c2, .slice A3 m c3], .int .i64 0, .int .i64 i] w1 (AnsI v b w1)) :
    Calls Try.prog 18 #[.agg #[.int .i64 z, .slice A1 n c1, .slice A2 s c2, .slice A3 m c3], .int .i64 i] w (AnsI v b w) := by
  have L0 := Lib.hid (RL.start (z := z) (c1 := c1) (c2 := c2) (c3 := c3) h)
  have HK := Lib.hid hk
  have HQ := Lib.hid hq
  clear h hk hq
  obtain ⟨hs0, b0, b1, b2, b3⟩ := L0.out.cells
  go_enter Try.func18, Try.ntmps18
  go_wp2_with fail
  refine (impl_ask_yes z A1 n c1 X A2 s c2 Y A3 m c3 Z _ 59 (enters_of Try.func59 (by kernel_rfl) rfl) 0 i v b L0.out.rows HK.out HQ.out).mono ?_; rintro e w1 ⟨rfl, hb⟩
  have L1 := Lib.hid (L0.out.step hb)
  clear hb
  go_wp2_with fail
  go_ret2
  exact ⟨rfl, L1.out.below⟩

set_option maxRecDepth 100000 in
set_option maxHeartbeats 1000000 in
theorem impl_Select0_bad (i : Int) (h : RkR A1 n X A2 s Y A3 m Z w) (hk : ¬ RankOk z n X s Y m Z) :
    Calls Try.prog 18 #[.agg #[.int .i64 z, .slice A1 n c1, .slice A2 s c2, .slice A3 m c3], .int .i64 i] w (AnsI 0 false w) := by
  have L0 := Lib.hid (RL.start (z := z) (c1 := c1) (c2 := c2) (c3 := c3) h)
  have HK := Lib.hid hk
  clear h hk
  obtain ⟨hs0, b0, b1, b2, b3⟩ := L0.out.cells
  go_enter Try.func18, Try.ntmps18
  go_wp2_with fail
  refine (impl_ask_no z A1 n c1 X A2 s c2 Y A3 m c3 Z _ _ 0 i L0.out.rows HK.out).mono ?_; rintro e w1 ⟨rfl, hb⟩
  have L1 := Lib.hid (L0.out.step hb)
  clear hb
  go_wp2_with fail
  go_ret2
  exact ⟨rfl, L1.out.below⟩

set_option maxRecDepth 100000 in
set_option maxHeartbeats 1000000 in
theorem impl_NextOne_asked (i v : Int) (b : Bool) (h : RkR A1 n X A2 s Y A3 m Z w) (hk : RankOk z n X s Y m Z)
    (hq : ∀ w1, RkR A1 n X A2 s Y A3 m Z w1 → Calls Try.prog 62 #[.agg #[.int .i64 z, .slice A1 n c1, .slice A2 s c2, .slice A3 m c3], .int .i64 1, .int .i64 i] w1 (AnsI v b w1)) :
    Calls Try.prog 21 #[.agg #[.int .i64 z, .slice A1 n c1, .slice A2 s c2, .slice A3 m c3], .int .i64 i] w (AnsI v b w) := by
  have L0 := Lib.hid (RL.start (z := z) (c1 := c1) (c2 := c2) (c3 := c3) h)
  have HK := Lib.hid hk
  have HQ := Lib.hid hq
  clear h hk hq
  obtain ⟨hs0, b0, b1, b2, b3⟩ := L0.out.cells
  go_enter Try.func21, Try.ntmps21
  go_wp2_with fail
  refine (impl_ask_yes z A1 n c1 X A2 s c2 Y A3 m c3 Z _ 62 (enters_of Try.func62 (by kernel_rfl) rfl) 1 i v b L0.out.rows HK.out HQ.out).mono ?_; rintro e w1 ⟨rfl, hb⟩
  have L1 := Lib.hid (L0.out.step hb)
  clear hb
  go_wp2_with fail
  go_ret2
  exact ⟨rfl, L1.out.below⟩

set_option maxRecDepth 100000 in
set_option maxHeartbeats 1000000 in
theorem impl_NextOne_bad (i : Int) (h : RkR A1 n X A2 s Y A3 m Z w) (hk : ¬ RankOk z n X s Y m Z) :
    Calls Try.prog 21 #[.agg #[.int .i64 z, .slice A1 n c1, .slice A2 s c2, .slice A3 m c3], .int .i64 i] w (AnsI 0 false w) := by
  have L0 := Lib.hid (RL.start (z := z) (c1 := c1) (c2 := c2) (c3 := c3) h)
  have HK := Lib.hid hk
  clear h hk
  obtain ⟨hs0, b0, b1, b2, b3⟩ := L0.out.cells
  go_enter Try.func21, Try.ntmps21
  go_wp2_with fail
  refine (impl_ask_no z A1 n c1 X A2 s c2 Y A3 m c3 Z _ _ 1 i L0.out.rows HK.out).mono ?_; rintro e w1 ⟨rfl, hb⟩
  have L1 := Lib.hid (L0.out.step hb)
  clear hb
  go_wp2_with fail
  go_ret2
  exact ⟨rfl, L1.out.below⟩

set_option maxRecDepth 100000 in
set_option maxHeartbeats 1000000 in
theorem impl_LastOne_asked (i v : Int) (b : Bool) (h : RkR A1 n X A2 s Y A3 m Z w) (hk : RankOk z n X s Y m Z)
    (hq : ∀ w1, RkR A1 n X A2 s Y A3 m Z w1 → Calls Try.prog 65 #[.agg #[.int .i64 z, .slice A1 n c1, .slice A2 s c2, .slice A3 m c3], .int .i64 1, .int .i64 i] w1 (AnsI v b w1)) :
    Calls Try.prog 23 #[.agg #[.int .i64 z, .slice A1 n c1, .slice A2 s c2, .slice A3 m c3], .int .i64 i] w (AnsI v b w) := by
  have L0 := Lib.hid (RL.start (z := z) (c1 := c1) (c2 := c2) (c3 := c3) h)
  have HK := Lib.hid hk
  have HQ := Lib.hid hq
  clear h hk hq
  obtain ⟨hs0, b0, b1, b2, b3⟩ := L0.out.cells
  go_enter Try.func23, Try.ntmps23
  go_wp2_with fail
  refine (impl_ask_yes z A1 n c1 X A2 s c2 Y A3 m c3 Z _ 65 (enters_of Try.func65 (by kernel_rfl) rfl) 1 i v b L0.out.rows HK.out HQ.out).mono ?_; rintro e w1 ⟨rfl, hb⟩
  have L1 := Lib.hid (L0.out.step hb)
  clear hb
  go_wp2_with fail
  go_ret2
  exact ⟨rfl, L1.out.below⟩

set_option maxRecDepth 100000 in
set_option maxHeartbeats 1000000 in
theorem impl_LastOne_bad (i : Int) (h : RkR A1 n X A2 s Y A3 m Z w) (hk : ¬ RankOk z n X s Y m Z) :
    Calls Try.prog 23 #[.agg #[.int .i64 z, .slice A1 n c1, .slice A2 s c2, .slice A3 m c3], .int .i64 i] w (AnsI 0 false w) := by
  have L0 := Lib.hid (RL.start (z := z) (c1 := c1) (c2 := c2) (c3 := c3) h)
  have HK := Lib.hid hk
  clear h hk
  obtain ⟨hs0, b0, b1, b2, b3⟩ := L0.out.cells
  go_enter Try.func23, Try.ntmps23
  go_wp2_with fail
  refine (impl_ask_no z A1 n c1 X A2 s c2 Y A3 m c3 Z _ _ 1 i L0.out.rows HK.out).mono ?_; rintro e w1 ⟨rfl, hb⟩
  have L1 := Lib.hid (L0.out.step hb)
  clear hb
  go_wp2_with fail
  go_ret2
  exact ⟨rfl, L1.out.below⟩

set_option maxRecDepth 100000 in
set_option maxHeartbeats 1000000 in
theorem impl_OnesOf_asked (v : Int) (b : Bool) (h : RkR A1 n X A2 s Y A3 m Z w) (hk : RankOk z n X s Y m Z)
    (hq : ∀ w1, RkR A1 n X A2 s Y A3 m Z w1 → Calls Try.prog 58 #[.agg #[.int .i64 z, .slice A1 n c1, .slice A2 s c2, .slice A3 m c3], .int .i64 1, .int .i64 z] w1 (AnsI v b w1)) :
    Calls Try.prog 19 #[.agg #[.int .i64 z, .slice A1 n c1, .slice A2 s c2, .slice A3 m c3]] w (AnsI v b w) := by
  have L0 := Lib.hid (RL.start (z := z) (c1 := c1) (c2 := c2) (c3 := c3) h)
  have HK := Lib.hid hk
  have HQ := Lib.hid hq
  clear h hk hq
  obtain ⟨hs0, b0, b1, b2, b3⟩ := L0.out.cells
  go_enter Try.func19, Try.ntmps19
  go_wp2_with fail
  refine (impl_ask_yes z A1 n c1 X A2 s c2 Y A3 m c3 Z _ 58 (enters_of Try.func58 (by kernel_rfl) rfl) 1 z v b L0.out.rows HK.out HQ.out).mono ?_; rintro e w1 ⟨rfl, hb⟩
  have L1 := Lib.hid (L0.out.step hb)
  clear hb
  go_wp2_with fail
  go_ret2
  exact ⟨rfl, L1.out.below⟩

set_option maxRecDepth 100000 in
set_option maxHeartbeats 1000000 in
theorem impl_OnesOf_bad (h : RkR A1 n X A2 s Y A3 m Z w) (hk : ¬ RankOk z n X s Y m Z) :
    Calls Try.prog 19 #[.agg #[.int .i64 z, .slice A1 n c1, .slice A2 s c2, .slice A3 m c3]] w (AnsI 0 false w) := by
  have L0 := Lib.hid (RL.start (z := z) (c1 := c1) (c2 := c2) (c3 := c3) h)
  have HK := Lib.hid hk
  clear h hk
  obtain ⟨hs0, b0, b1, b2, b3⟩ := L0.out.cells
  go_enter Try.func19, Try.ntmps19
  go_wp2_with fail
  refine (impl_ask_no z A1 n c1 X A2 s c2 Y A3 m c3 Z _ _ 1 z L0.out.rows HK.out).mono ?_; rintro e w1 ⟨rfl, hb⟩
  have L1 := Lib.hid (L0.out.step hb)
  clear hb
  go_wp2_with fail
  go_ret2
  exact ⟨rfl, L1.out.below⟩
end
end Go.Proofs.Ytbflgbmobbbebaa

/- sort.Search with a closure that keeps a fact on the world. -/
namespace Go.Proofs.Ytbflgbmobbbebaa
open Go.RowKit

set_option maxRecDepth 100000 in
set_option maxHeartbeats 1000000 in
theorem search_any (g : Nat) (eg : ∀ args w, (callFunc g args).run Try.prog w = .ok (.enter g args) w) (cb : Array Value) (n : Nat) (p : Nat → Bool) (I : World → Prop) (w : World) (hn : n ≤ 1048576) (hI : I w)
    (hf : ∀ (i : Nat) (W : World), i < n → I W → Calls Try.prog g (#[.int .i64 i] ++ cb) W fun e W' => e = .returned (.bool (p i)) ∧ I W')
    (hmono : ∀ a b, a ≤ b → b < n → p a = true → p b = true) :
    Calls Try.prog 98 #[.int .i64 n, .func (.func g) #[] cb] w fun e W' => ∃ r : Nat, e = .returned (.int .i64 r) ∧ r ≤ n ∧ (∀ t, t < r → p t = false) ∧ (∀ t, r ≤ t → t < n → p t = true) ∧ I W' := by
  have HI := Lib.hid hI
  have HF := Lib.hid hf
  have M := Lib.hid hmono
  clear hI hf hmono
  go_enter Try.func98, Try.ntmps98
  go_wp2_with fail
  go_loopw [5, 6] (fun s5 s6 wr => ∃ lo hi : Nat, s5 = .int .i64 lo ∧ s6 = .int .i64 hi ∧ lo ≤ hi ∧ hi ≤ n ∧ Hid ((∀ t, t < lo → p t = false) ∧ (∀ t, hi ≤ t → t < n → p t = true) ∧ I wr)) (fun s5 s6 _ => (intOf s6).toNat - (intOf s5).toNat)
  case atStart => exact ⟨0, n, rfl, rfl, Nat.zero_le _, Nat.le_refl _, Lib.hid ⟨fun t ht => absurd ht (Nat.not_lt_zero _), fun t h1 h2 => by omega, HI.out⟩⟩
  case round =>
    obtain ⟨lo, hi, rfl, rfl, hlh, hin, R⟩ := hrel
    by_cases hlt : lo < hi
    · obtain ⟨q, hq⟩ : ∃ q : Nat, q = (lo + hi) / 2 := ⟨_, rfl⟩
      have hc := HF.out q wr (by omega) R.out.2.2
      rw [show (q : Int) = ((lo : Int) + (hi : Int)) / 2 by omega] at hc
      have HQ := Lib.hid hq
      clear hq
      cases hp : p q <;> rw [hp] at hc
      · have HP := Lib.hid hp
        clear hp
        go_wp2_with (go_at_fn g; refine hc.mono ?_; rintro e w' ⟨rfl, hI2⟩; have I2 := Lib.hid hI2; clear hI2)
        go_roundw
        case measure => simp [intOf]; omega
        case rel => exact ⟨q + 1, hi, by rw [HQ.out]; go_num, rfl, by have := HQ.out; omega, hin, Lib.hid ⟨fun t ht => (by
            cases h : p t with
            | false => rfl
            | true => have := M.out t q (by omega) (by have := HQ.out; omega) h; rw [HP.out] at this; cases this), R.out.2.1, I2.out⟩⟩
      · have HP := Lib.hid hp
        clear hp
        go_wp2_with (go_at_fn g; refine hc.mono ?_; rintro e w' ⟨rfl, hI2⟩; have I2 := Lib.hid hI2; clear hI2)
        go_roundw
        case measure => simp [intOf]; omega
        case rel => exact ⟨lo, q, rfl, by rw [HQ.out]; go_num, by have := HQ.out; omega, by have := HQ.out; omega, Lib.hid ⟨R.out.1, fun t ht htn => M.out q t ht htn HP.out, I2.out⟩⟩
    · obtain rfl : hi = lo := by omega
      go_wp2_with fail
      go_ret
      exact ⟨hi, rfl, hin, R.out.1, R.out.2.1, R.out.2.2⟩
end Go.Proofs.Ytbflgbmobbbebaa

/- selectOf: the code's search. -/
namespace Go.Proofs.Ytbflgbmobbbebaa
open Go.RowKit

/-- The boxes of selectOf: the Ranked at b, the kind, the number. -/
structure SB (w : World) (b : Nat) (z : Int) (A1 : Option Addr) (n c1 : Nat) (X : Nat → Int) (A2 : Option Addr) (s c2 : Nat) (Y : Nat → Int) (A3 : Option Addr) (m c3 : Nat) (Z : Nat → Int) (kind k : Int) (wi : World) : Prop where
  rl : RL w b z A1 n c1 X A2 s c2 Y A3 m c3 Z wi
  kb : NBX (b + 1) (b + 1) #[.int .i64 kind] 3 wi
  nb : NBX (b + 2) (b + 2) #[.int .i64 k] 3 wi
section
variable {z : Int} {A1 A2 A3 : Option Addr} {n c1 s c2 m c3 q : Nat} {X Y Z : Nat → Int} {kind k : Int} {w wi wj : World}
theorem SB.step (h : SB w q z A1 n c1 X A2 s c2 Y A3 m c3 Z kind k wi) (hb : Below wi.heap.size wi wj) : SB w q z A1 n c1 X A2 s c2 Y A3 m c3 Z kind k wj := ⟨h.rl.step hb, h.kb.b hb, h.nb.b hb⟩
theorem SB.drew (h : SB w q z A1 n c1 X A2 s c2 Y A3 m c3 Z kind k wi) : SB w q z A1 n c1 X A2 s c2 Y A3 m c3 Z kind k wi.drew := h.step (Below.drew (Below.refl _ _))
theorem SB.start (h : RkR A1 n X A2 s Y A3 m Z w) : SB w w.heap.size z A1 n c1 X A2 s c2 Y A3 m c3 Z kind k (((w.alloc (.cells (rkC z A1 n c1 A2 s c2 A3 m c3) 29)).alloc (.cells #[.int .i64 kind] 3)).alloc (.cells #[.int .i64 k] 3)) := by
  have e1 : (w.alloc (.cells (rkC z A1 n c1 A2 s c2 A3 m c3) 29)).heap.size = w.heap.size + 1 := by simp
  have e2 : ((w.alloc (.cells (rkC z A1 n c1 A2 s c2 A3 m c3) 29)).alloc (.cells #[.int .i64 kind] 3)).heap.size = w.heap.size + 2 := by simp
  have h1 := nbx0 (w.alloc (.cells (rkC z A1 n c1 A2 s c2 A3 m c3) 29)) #[.int .i64 kind] 3
  have h2 := nbx0 ((w.alloc (.cells (rkC z A1 n c1 A2 s c2 A3 m c3) 29)).alloc (.cells #[.int .i64 kind] 3)) #[.int .i64 k] 3
  rw [e1] at h1
  rw [e2] at h2
  exact ⟨((RL.start h).step ((Below.refl _ _).alloc (Nat.le_refl _) _)).step ((Below.refl _ _).alloc (Nat.le_refl _) _), h1.b ((Below.refl _ _).alloc (Nat.le_refl _) _), h2⟩
theorem SB.cells (h : SB w q z A1 n c1 X A2 s c2 Y A3 m c3 Z kind k wi) : q + 2 < wi.heap.size ∧ wi.cell? ⟨q, 0, none⟩ = some (.int .i64 z) ∧ wi.cell? ⟨q, 1, none⟩ = some (.slice A1 n c1) ∧ wi.cell? ⟨q, 2, none⟩ = some (.slice A2 s c2) ∧ wi.cell? ⟨q, 3, none⟩ = some (.slice A3 m c3) ∧
    wi.cell? ⟨q + 1, 0, none⟩ = some (.int .i64 kind) ∧ wi.cell? ⟨q + 2, 0, none⟩ = some (.int .i64 k) :=
  ⟨h.nb.lt, h.rl.cells.2.1, h.rl.cells.2.2.1, h.rl.cells.2.2.2.1, h.rl.cells.2.2.2.2, h.kb.cell 0 _ rfl, h.nb.cell 0 _ rfl⟩
end

section
variable (z : Nat) (A1 : Option Addr) (n c1 : Nat) (X : Nat → Int) (A2 : Option Addr) (s c2 : Nat) (Y : Nat → Int) (A3 : Option Addr) (m c3 : Nat) (Z : Nat → Int) (w : World)
set_option maxRecDepth 100000 in
set_option maxHeartbeats 2000000 in
theorem sel_closure_off (k : Int) (q i : Nat) (W : World) (hk : RankOk z n X s Y m Z) (hi : i < z) (h : SB w q z A1 n c1 X A2 s c2 Y A3 m c3 Z 0 k W) :
    Calls Try.prog 99 #[.int .i64 i, .pointer (some ⟨q, 0, none⟩), .pointer (some ⟨q + 1, 0, none⟩), .pointer (some ⟨q + 2, 0, none⟩)] W fun e W' => e = .returned (.bool (decide (k < ((cntB (wdR X) false (i + 1) : Nat) : Int)))) ∧ SB w q z A1 n c1 X A2 s c2 Y A3 m c3 Z 0 k W' := by
  have B0 := Lib.hid h
  have HC := Lib.hid (fun w1 => impl_countsBefore z A1 n c1 X A2 s c2 Y A3 m c3 Z w1 (i + 1))
  have HK := Lib.hid hk
  have hi1 : i + 1 ≤ z := hi
  have hz1 : (i : Int) + 1 ≤ 4096 := by obtain ⟨z', e1, e2, _⟩ := hk.size; omega
  have EW := Lib.hid (show IntKind.i64.wrap ((i : Int) + 1) = ((i + 1 : Nat) : Int) by rw [IntWalk.i64_in _ (by omega)]; omega)
  clear h hk
  obtain ⟨hs0, b0, b1, b2, b3, b4, b5⟩ := B0.out.cells
  generalize cntB (wdR X) false (i + 1) = V0 at *
  generalize cntB (wdR X) true (i + 1) = V1 at *
  have x0 := kind_off V0 V1
  go_enter Try.func99, Try.ntmps99
  go_wp2_with fail
  go_region_held3 (fun w' => w'.cell? ⟨q, 0, none⟩ = some (.int .i64 z) ∧ w'.cell? ⟨q, 1, none⟩ = some (.slice A1 n c1) ∧ w'.cell? ⟨q, 2, none⟩ = some (.slice A2 s c2) ∧ w'.cell? ⟨q, 3, none⟩ = some (.slice A3 m c3) ∧ w'.cell? ⟨q + 1, 0, none⟩ = some (.int .i64 0) ∧ w'.cell? ⟨q + 2, 0, none⟩ = some (.int .i64 k))
    (first | (go_keep; done) | exact (B0.out.step hq1).cells.2)
    (first
      | (rw [EW.out]; go_at_call 97; (first | refine (HC.out _ B0.out.rl.rows HK.out hi1).mono ?_ | refine (HC.out _ B0.out.drew.rl.rows HK.out hi1).mono ?_); rintro e w1 ⟨rfl, hq1'⟩; have hq1 := of_drew hq1'; clear hq1'))
  have B1 := Lib.hid (B0.out.step hq1)
  clear hq1 b0 b1 b2 b3 b4 b5
  go_wp2_with fail
  go_ret
  exact ⟨rfl, B1.out⟩

set_option maxRecDepth 100000 in
set_option maxHeartbeats 2000000 in
theorem sel_closure_on (k : Int) (q i : Nat) (W : World) (hk : RankOk z n X s Y m Z) (hi : i < z) (h : SB w q z A1 n c1 X A2 s c2 Y A3 m c3 Z 1 k W) :
    Calls Try.prog 99 #[.int .i64 i, .pointer (some ⟨q, 0, none⟩), .pointer (some ⟨q + 1, 0, none⟩), .pointer (some ⟨q + 2, 0, none⟩)] W fun e W' => e = .returned (.bool (decide (k < ((cntB (wdR X) true (i + 1) : Nat) : Int)))) ∧ SB w q z A1 n c1 X A2 s c2 Y A3 m c3 Z 1 k W' := by
  have B0 := Lib.hid h
  have HC := Lib.hid (fun w1 => impl_countsBefore z A1 n c1 X A2 s c2 Y A3 m c3 Z w1 (i + 1))
  have HK := Lib.hid hk
  have hi1 : i + 1 ≤ z := hi
  have hz1 : (i : Int) + 1 ≤ 4096 := by obtain ⟨z', e1, e2, _⟩ := hk.size; omega
  have EW := Lib.hid (show IntKind.i64.wrap ((i : Int) + 1) = ((i + 1 : Nat) : Int) by rw [IntWalk.i64_in _ (by omega)]; omega)
  clear h hk
  obtain ⟨hs0, b0, b1, b2, b3, b4, b5⟩ := B0.out.cells
  generalize cntB (wdR X) false (i + 1) = V0 at *
  generalize cntB (wdR X) true (i + 1) = V1 at *
  have x0 := kind_on V0 V1
  go_enter Try.func99, Try.ntmps99
  go_wp2_with fail
  go_region_held3 (fun w' => w'.cell? ⟨q, 0, none⟩ = some (.int .i64 z) ∧ w'.cell? ⟨q, 1, none⟩ = some (.slice A1 n c1) ∧ w'.cell? ⟨q, 2, none⟩ = some (.slice A2 s c2) ∧ w'.cell? ⟨q, 3, none⟩ = some (.slice A3 m c3) ∧ w'.cell? ⟨q + 1, 0, none⟩ = some (.int .i64 1) ∧ w'.cell? ⟨q + 2, 0, none⟩ = some (.int .i64 k))
    (first | (go_keep; done) | exact (B0.out.step hq1).cells.2)
    (first
      | (rw [EW.out]; go_at_call 97; (first | refine (HC.out _ B0.out.rl.rows HK.out hi1).mono ?_ | refine (HC.out _ B0.out.drew.rl.rows HK.out hi1).mono ?_); rintro e w1 ⟨rfl, hq1'⟩; have hq1 := of_drew hq1'; clear hq1'))
  have B1 := Lib.hid (B0.out.step hq1)
  clear hq1 b0 b1 b2 b3 b4 b5
  go_wp2_with fail
  go_ret
  exact ⟨rfl, B1.out⟩

end
end Go.Proofs.Ytbflgbmobbbebaa

/- selectOf: what the code answers. -/
namespace Go.Proofs.Ytbflgbmobbbebaa
open Go.RowKit

section
variable (z : Nat) (A1 : Option Addr) (n c1 : Nat) (X : Nat → Int) (A2 : Option Addr) (s c2 : Nat) (Y : Nat → Int) (A3 : Option Addr) (m c3 : Nat) (Z : Nat → Int) (w : World)

set_option maxRecDepth 100000 in
set_option maxHeartbeats 2000000 in
theorem impl_select_off_yes (k i : Nat) (h : RkR A1 n X A2 s Y A3 m Z w) (hk : RankOk z n X s Y m Z) (hi : SelAt (wdR X) false z k i) :
    Calls Try.prog 59 #[.agg #[.int .i64 z, .slice A1 n c1, .slice A2 s c2, .slice A3 m c3], .int .i64 0, .int .i64 k] w (AnsI i true w) := by
  have B0 := Lib.hid (SB.start (z := z) (c1 := c1) (c2 := c2) (c3 := c3) (kind := 0) (k := k) h)
  have HC := Lib.hid (fun w1 => impl_countsBefore z A1 n c1 X A2 s c2 Y A3 m c3 Z w1 z)
  have HK := Lib.hid hk
  have hz1 : z ≤ 1048576 := by obtain ⟨z', e1, e2, _⟩ := hk.size; omega
  have HI := Lib.hid hi
  have HP := Lib.hid (fun j => sel_above (j := j) hi)
  have hlt := sel_lt hi
  clear hi
  clear h hk
  obtain ⟨hs0, b0, b1, b2, b3, b4, b5⟩ := B0.out.cells
  generalize cntB (wdR X) false z = V0 at *
  generalize cntB (wdR X) true z = V1 at *
  have x0 := kind_off V0 V1
  have d0 : decide ((k : Int) < 0) = false := by simp
  have d1 : decide ((V0 : Int) ≤ (k : Int)) = false := by simp; omega
  go_enter Try.func59, Try.ntmps59
  go_wp2_with fail
  go_region_held3 (fun w' => w'.cell? ⟨w.heap.size, 0, none⟩ = some (.int .i64 z) ∧ w'.cell? ⟨w.heap.size, 1, none⟩ = some (.slice A1 n c1) ∧ w'.cell? ⟨w.heap.size, 2, none⟩ = some (.slice A2 s c2) ∧ w'.cell? ⟨w.heap.size, 3, none⟩ = some (.slice A3 m c3) ∧ w'.cell? ⟨w.heap.size + 1, 0, none⟩ = some (.int .i64 0) ∧ w'.cell? ⟨w.heap.size + 2, 0, none⟩ = some (.int .i64 k))
    (first | (go_keep; done) | exact (B0.out.step hq1).cells.2)
    (first
      | (go_at_call 97; (first | refine (HC.out _ B0.out.rl.rows HK.out (Nat.le_refl _)).mono ?_ | refine (HC.out _ B0.out.drew.rl.rows HK.out (Nat.le_refl _)).mono ?_); rintro e w1 ⟨rfl, hq1'⟩; have hq1 := of_drew hq1'; clear hq1'))
  have B1 := Lib.hid (B0.out.step hq1)
  clear hq1 b0 b1 b2 b3 b4 b5
  obtain ⟨hs1, b0, b1, b2, b3, b4, b5⟩ := B1.out.cells
  go_wp2_with fail
  refine (search_any 99 (enters_of Try.func99 (by kernel_rfl) rfl) #[.pointer (some ⟨w.heap.size, 0, none⟩), .pointer (some ⟨w.heap.size + 1, 0, none⟩), .pointer (some ⟨w.heap.size + 2, 0, none⟩)] z (fun t => decide ((k : Int) < ((cntB (wdR X) false (t + 1) : Nat) : Int))) (fun W => SB w w.heap.size z A1 n c1 X A2 s c2 Y A3 m c3 Z 0 k W) _ hz1 B1.out
    (fun i W hi hW => sel_closure_off z A1 n c1 X A2 s c2 Y A3 m c3 Z w k w.heap.size i W HK.out hi hW)
    (fun a b hab hb hp => by have := cntB_mono (W := wdR X) (on := false) (show a + 1 ≤ b + 1 by omega); simp only [decide_eq_true_eq] at hp ⊢; omega)).mono ?_; rintro e w2 ⟨r, rfl, hr1, hr2, hr3, hB2⟩
  have B2 := Lib.hid hB2
  have hri : r = i := by
    have h1 := HP.out (r + 1)
    have h2 := HP.out (i + 1)
    have h3 := hr2 i
    have h4 := hr3 r (Nat.le_refl _)
    have h5 := HI.out.1
    simp only [decide_eq_false_iff_not, decide_eq_true_eq] at h3 h4
    omega
  clear hB2 hr1 hr2 hr3
  subst hri
  go_wp2_with fail
  go_ret2
  exact ⟨rfl, B2.out.rl.below⟩

set_option maxRecDepth 100000 in
set_option maxHeartbeats 2000000 in
theorem impl_select_off_no (k : Int) (h : RkR A1 n X A2 s Y A3 m Z w) (hk : RankOk z n X s Y m Z) (hi : ¬ (0 ≤ k ∧ k < (cntB (wdR X) false z : Nat))) :
    Calls Try.prog 59 #[.agg #[.int .i64 z, .slice A1 n c1, .slice A2 s c2, .slice A3 m c3], .int .i64 0, .int .i64 k] w (AnsI 0 false w) := by
  have B0 := Lib.hid (SB.start (z := z) (c1 := c1) (c2 := c2) (c3 := c3) (kind := 0) (k := k) h)
  have HC := Lib.hid (fun w1 => impl_countsBefore z A1 n c1 X A2 s c2 Y A3 m c3 Z w1 z)
  have HK := Lib.hid hk
  have hz1 : z ≤ 1048576 := by obtain ⟨z', e1, e2, _⟩ := hk.size; omega
  clear h hk
  obtain ⟨hs0, b0, b1, b2, b3, b4, b5⟩ := B0.out.cells
  generalize cntB (wdR X) false z = V0 at *
  generalize cntB (wdR X) true z = V1 at *
  have x0 := kind_off V0 V1
  by_cases h0 : k < 0
  · have d0 : decide (k < 0) = true := by simpa using h0
    go_enter Try.func59, Try.ntmps59
    go_wp2_with fail
    go_quiet (fail)
    go_wp2_with fail
    go_ret2
    exact ⟨rfl, B0.out.rl.below.trans ((below_drewN (Below.refl _ _) _).mono B0.out.rl.below.size)⟩
  have d0 : decide (k < 0) = false := by simpa using h0
  have d1 : decide ((V0 : Int) ≤ k) = true := by simp; omega
  go_enter Try.func59, Try.ntmps59
  go_wp2_with fail
  go_region_held3 (fun w' => w'.cell? ⟨w.heap.size, 0, none⟩ = some (.int .i64 z) ∧ w'.cell? ⟨w.heap.size, 1, none⟩ = some (.slice A1 n c1) ∧ w'.cell? ⟨w.heap.size, 2, none⟩ = some (.slice A2 s c2) ∧ w'.cell? ⟨w.heap.size, 3, none⟩ = some (.slice A3 m c3) ∧ w'.cell? ⟨w.heap.size + 1, 0, none⟩ = some (.int .i64 0) ∧ w'.cell? ⟨w.heap.size + 2, 0, none⟩ = some (.int .i64 k))
    (first | (go_keep; done) | exact (B0.out.step hq1).cells.2)
    (first
      | (go_at_call 97; (first | refine (HC.out _ B0.out.rl.rows HK.out (Nat.le_refl _)).mono ?_ | refine (HC.out _ B0.out.drew.rl.rows HK.out (Nat.le_refl _)).mono ?_); rintro e w1 ⟨rfl, hq1'⟩; have hq1 := of_drew hq1'; clear hq1'))
  have B1 := Lib.hid (B0.out.step hq1)
  clear hq1 b0 b1 b2 b3 b4 b5
  obtain ⟨hs1, b0, b1, b2, b3, b4, b5⟩ := B1.out.cells
  go_wp2_with fail
  go_ret2
  exact ⟨rfl, B1.out.rl.below⟩

set_option maxRecDepth 100000 in
set_option maxHeartbeats 2000000 in
theorem impl_select_on_yes (k i : Nat) (h : RkR A1 n X A2 s Y A3 m Z w) (hk : RankOk z n X s Y m Z) (hi : SelAt (wdR X) true z k i) :
    Calls Try.prog 59 #[.agg #[.int .i64 z, .slice A1 n c1, .slice A2 s c2, .slice A3 m c3], .int .i64 1, .int .i64 k] w (AnsI i true w) := by
  have B0 := Lib.hid (SB.start (z := z) (c1 := c1) (c2 := c2) (c3 := c3) (kind := 1) (k := k) h)
  have HC := Lib.hid (fun w1 => impl_countsBefore z A1 n c1 X A2 s c2 Y A3 m c3 Z w1 z)
  have HK := Lib.hid hk
  have hz1 : z ≤ 1048576 := by obtain ⟨z', e1, e2, _⟩ := hk.size; omega
  have HI := Lib.hid hi
  have HP := Lib.hid (fun j => sel_above (j := j) hi)
  have hlt := sel_lt hi
  clear hi
  clear h hk
  obtain ⟨hs0, b0, b1, b2, b3, b4, b5⟩ := B0.out.cells
  generalize cntB (wdR X) false z = V0 at *
  generalize cntB (wdR X) true z = V1 at *
  have x0 := kind_on V0 V1
  have d0 : decide ((k : Int) < 0) = false := by simp
  have d1 : decide ((V1 : Int) ≤ (k : Int)) = false := by simp; omega
  go_enter Try.func59, Try.ntmps59
  go_wp2_with fail
  go_region_held3 (fun w' => w'.cell? ⟨w.heap.size, 0, none⟩ = some (.int .i64 z) ∧ w'.cell? ⟨w.heap.size, 1, none⟩ = some (.slice A1 n c1) ∧ w'.cell? ⟨w.heap.size, 2, none⟩ = some (.slice A2 s c2) ∧ w'.cell? ⟨w.heap.size, 3, none⟩ = some (.slice A3 m c3) ∧ w'.cell? ⟨w.heap.size + 1, 0, none⟩ = some (.int .i64 1) ∧ w'.cell? ⟨w.heap.size + 2, 0, none⟩ = some (.int .i64 k))
    (first | (go_keep; done) | exact (B0.out.step hq1).cells.2)
    (first
      | (go_at_call 97; (first | refine (HC.out _ B0.out.rl.rows HK.out (Nat.le_refl _)).mono ?_ | refine (HC.out _ B0.out.drew.rl.rows HK.out (Nat.le_refl _)).mono ?_); rintro e w1 ⟨rfl, hq1'⟩; have hq1 := of_drew hq1'; clear hq1'))
  have B1 := Lib.hid (B0.out.step hq1)
  clear hq1 b0 b1 b2 b3 b4 b5
  obtain ⟨hs1, b0, b1, b2, b3, b4, b5⟩ := B1.out.cells
  go_wp2_with fail
  refine (search_any 99 (enters_of Try.func99 (by kernel_rfl) rfl) #[.pointer (some ⟨w.heap.size, 0, none⟩), .pointer (some ⟨w.heap.size + 1, 0, none⟩), .pointer (some ⟨w.heap.size + 2, 0, none⟩)] z (fun t => decide ((k : Int) < ((cntB (wdR X) true (t + 1) : Nat) : Int))) (fun W => SB w w.heap.size z A1 n c1 X A2 s c2 Y A3 m c3 Z 1 k W) _ hz1 B1.out
    (fun i W hi hW => sel_closure_on z A1 n c1 X A2 s c2 Y A3 m c3 Z w k w.heap.size i W HK.out hi hW)
    (fun a b hab hb hp => by have := cntB_mono (W := wdR X) (on := true) (show a + 1 ≤ b + 1 by omega); simp only [decide_eq_true_eq] at hp ⊢; omega)).mono ?_; rintro e w2 ⟨r, rfl, hr1, hr2, hr3, hB2⟩
  have B2 := Lib.hid hB2
  have hri : r = i := by
    have h1 := HP.out (r + 1)
    have h2 := HP.out (i + 1)
    have h3 := hr2 i
    have h4 := hr3 r (Nat.le_refl _)
    have h5 := HI.out.1
    simp only [decide_eq_false_iff_not, decide_eq_true_eq] at h3 h4
    omega
  clear hB2 hr1 hr2 hr3
  subst hri
  go_wp2_with fail
  go_ret2
  exact ⟨rfl, B2.out.rl.below⟩

set_option maxRecDepth 100000 in
set_option maxHeartbeats 2000000 in
theorem impl_select_on_no (k : Int) (h : RkR A1 n X A2 s Y A3 m Z w) (hk : RankOk z n X s Y m Z) (hi : ¬ (0 ≤ k ∧ k < (cntB (wdR X) true z : Nat))) :
    Calls Try.prog 59 #[.agg #[.int .i64 z, .slice A1 n c1, .slice A2 s c2, .slice A3 m c3], .int .i64 1, .int .i64 k] w (AnsI 0 false w) := by
  have B0 := Lib.hid (SB.start (z := z) (c1 := c1) (c2 := c2) (c3 := c3) (kind := 1) (k := k) h)
  have HC := Lib.hid (fun w1 => impl_countsBefore z A1 n c1 X A2 s c2 Y A3 m c3 Z w1 z)
  have HK := Lib.hid hk
  have hz1 : z ≤ 1048576 := by obtain ⟨z', e1, e2, _⟩ := hk.size; omega
  clear h hk
  obtain ⟨hs0, b0, b1, b2, b3, b4, b5⟩ := B0.out.cells
  generalize cntB (wdR X) false z = V0 at *
  generalize cntB (wdR X) true z = V1 at *
  have x0 := kind_on V0 V1
  by_cases h0 : k < 0
  · have d0 : decide (k < 0) = true := by simpa using h0
    go_enter Try.func59, Try.ntmps59
    go_wp2_with fail
    go_quiet (fail)
    go_wp2_with fail
    go_ret2
    exact ⟨rfl, B0.out.rl.below.trans ((below_drewN (Below.refl _ _) _).mono B0.out.rl.below.size)⟩
  have d0 : decide (k < 0) = false := by simpa using h0
  have d1 : decide ((V1 : Int) ≤ k) = true := by simp; omega
  go_enter Try.func59, Try.ntmps59
  go_wp2_with fail
  go_region_held3 (fun w' => w'.cell? ⟨w.heap.size, 0, none⟩ = some (.int .i64 z) ∧ w'.cell? ⟨w.heap.size, 1, none⟩ = some (.slice A1 n c1) ∧ w'.cell? ⟨w.heap.size, 2, none⟩ = some (.slice A2 s c2) ∧ w'.cell? ⟨w.heap.size, 3, none⟩ = some (.slice A3 m c3) ∧ w'.cell? ⟨w.heap.size + 1, 0, none⟩ = some (.int .i64 1) ∧ w'.cell? ⟨w.heap.size + 2, 0, none⟩ = some (.int .i64 k))
    (first | (go_keep; done) | exact (B0.out.step hq1).cells.2)
    (first
      | (go_at_call 97; (first | refine (HC.out _ B0.out.rl.rows HK.out (Nat.le_refl _)).mono ?_ | refine (HC.out _ B0.out.drew.rl.rows HK.out (Nat.le_refl _)).mono ?_); rintro e w1 ⟨rfl, hq1'⟩; have hq1 := of_drew hq1'; clear hq1'))
  have B1 := Lib.hid (B0.out.step hq1)
  clear hq1 b0 b1 b2 b3 b4 b5
  obtain ⟨hs1, b0, b1, b2, b3, b4, b5⟩ := B1.out.cells
  go_wp2_with fail
  go_ret2
  exact ⟨rfl, B1.out.rl.below⟩
end
end Go.Proofs.Ytbflgbmobbbebaa

/- What the code answers on a valid Ranked, call by call. -/
namespace Go.Proofs.Ytbflgbmobbbebaa
open Go.RowKit

theorem cntB_sum (W : Nat → Nat) (i : Nat) : cntB W true i + cntB W false i = i := by
  have := cntN_le W i 0
  simp only [cntB, if_true, Bool.false_eq_true, if_false]; omega
section
variable {z : Nat} {A1 A2 A3 : Option Addr} {n c1 s c2 m c3 : Nat} {X Y Z : Nat → Int} {w : World}
theorem rank1_call {i : Nat} (h : RkR A1 n X A2 s Y A3 m Z w) (hk : RankOk z n X s Y m Z) (hi : i ≤ z) :
    Calls Try.prog 15 #[.agg #[.int .i64 z, .slice A1 n c1, .slice A2 s c2, .slice A3 m c3], .int .i64 i] w (AnsI (cntB (wdR X) true i : Nat) true w) :=
  impl_Rank1_asked z _ n _ X _ s _ Y _ m _ Z _ i _ true h hk fun w1 hr => impl_rankOf_yes z _ n _ X _ s _ Y _ m _ Z w1 true i hr hk hi
theorem rank0_call {i : Nat} (h : RkR A1 n X A2 s Y A3 m Z w) (hk : RankOk z n X s Y m Z) (hi : i ≤ z) :
    Calls Try.prog 16 #[.agg #[.int .i64 z, .slice A1 n c1, .slice A2 s c2, .slice A3 m c3], .int .i64 i] w (AnsI (cntB (wdR X) false i : Nat) true w) :=
  impl_Rank0_asked z _ n _ X _ s _ Y _ m _ Z _ i _ true h hk fun w1 hr => impl_rankOf_yes z _ n _ X _ s _ Y _ m _ Z w1 false i hr hk hi
theorem sel1_call {k i : Nat} (h : RkR A1 n X A2 s Y A3 m Z w) (hk : RankOk z n X s Y m Z) (hi : SelAt (wdR X) true z k i) :
    Calls Try.prog 17 #[.agg #[.int .i64 z, .slice A1 n c1, .slice A2 s c2, .slice A3 m c3], .int .i64 k] w (AnsI i true w) :=
  impl_Select1_asked z _ n _ X _ s _ Y _ m _ Z _ k _ true h hk fun w1 hr => impl_select_on_yes z _ n _ X _ s _ Y _ m _ Z w1 k i hr hk hi
theorem sel0_call {k i : Nat} (h : RkR A1 n X A2 s Y A3 m Z w) (hk : RankOk z n X s Y m Z) (hi : SelAt (wdR X) false z k i) :
    Calls Try.prog 18 #[.agg #[.int .i64 z, .slice A1 n c1, .slice A2 s c2, .slice A3 m c3], .int .i64 k] w (AnsI i true w) :=
  impl_Select0_asked z _ n _ X _ s _ Y _ m _ Z _ k _ true h hk fun w1 hr => impl_select_off_yes z _ n _ X _ s _ Y _ m _ Z w1 k i hr hk hi
theorem sel1_none {k : Int} (h : RkR A1 n X A2 s Y A3 m Z w) (hk : RankOk z n X s Y m Z) (hi : ¬ (0 ≤ k ∧ k < (cntB (wdR X) true z : Nat))) :
    Calls Try.prog 17 #[.agg #[.int .i64 z, .slice A1 n c1, .slice A2 s c2, .slice A3 m c3], .int .i64 k] w (AnsI 0 false w) :=
  impl_Select1_asked z _ n _ X _ s _ Y _ m _ Z _ k 0 false h hk fun w1 hr => impl_select_on_no z _ n _ X _ s _ Y _ m _ Z w1 k hr hk hi
theorem sel0_none {k : Int} (h : RkR A1 n X A2 s Y A3 m Z w) (hk : RankOk z n X s Y m Z) (hi : ¬ (0 ≤ k ∧ k < (cntB (wdR X) false z : Nat))) :
    Calls Try.prog 18 #[.agg #[.int .i64 z, .slice A1 n c1, .slice A2 s c2, .slice A3 m c3], .int .i64 k] w (AnsI 0 false w) :=
  impl_Select0_asked z _ n _ X _ s _ Y _ m _ Z _ k 0 false h hk fun w1 hr => impl_select_off_no z _ n _ X _ s _ Y _ m _ Z w1 k hr hk hi
/-- Some answer. -/
theorem sel1_some {k : Nat} (h : RkR A1 n X A2 s Y A3 m Z w) (hk : RankOk z n X s Y m Z) :
    ∃ (v : Int) (b : Bool), Calls Try.prog 17 #[.agg #[.int .i64 z, .slice A1 n c1, .slice A2 s c2, .slice A3 m c3], .int .i64 k] w (AnsI v b w) := by
  by_cases hi : k < cntB (wdR X) true z
  · obtain ⟨i, hs⟩ := sel_some hi
    exact ⟨i, true, sel1_call h hk hs⟩
  · exact ⟨0, false, sel1_none h hk (by omega)⟩
theorem ones_call (h : RkR A1 n X A2 s Y A3 m Z w) (hk : RankOk z n X s Y m Z) :
    Calls Try.prog 19 #[.agg #[.int .i64 z, .slice A1 n c1, .slice A2 s c2, .slice A3 m c3]] w (AnsI (cntB (wdR X) true z : Nat) true w) :=
  impl_OnesOf_asked z _ n _ X _ s _ Y _ m _ Z _ _ true h hk fun w1 hr => impl_rankOf_yes z _ n _ X _ s _ Y _ m _ Z w1 true z hr hk (Nat.le_refl _)
end
end Go.Proofs.Ytbflgbmobbbebaa

/- Counts in a joined vector. -/
namespace Go.Proofs.Ytbflgbmobbbebaa
open Go.RowKit

section
variable {X X' : Nat → Int} {z y : Nat}
theorem joinX_bit (p : Nat) : bitN (wdR (joinX X X' z y)) p = joinF X X' z y p := bit_wordsI _ _
theorem cnt_low {j : Nat} (hj : j ≤ z) : cntB (wdR (joinX X X' z y)) true j = cntB (wdR X) true j := by
  induction j with
  | zero => rw [cntB_zero, cntB_zero]
  | succ j ih =>
    rw [cntB_succ, cntB_succ, ih (by omega), joinX_bit]
    unfold joinF
    simp only [show j < z + y by omega, show j < z by omega, decide_true, Bool.true_and, if_true]
theorem cnt_joined {i : Nat} (hi : i ≤ y) : cntB (wdR (joinX X X' z y)) true (z + i) = cntB (wdR X) true z + cntB (wdR X') true i := by
  induction i with
  | zero => rw [Nat.add_zero, cnt_low (Nat.le_refl _), cntB_zero, Nat.add_zero]
  | succ i ih =>
    rw [← Nat.add_assoc, cntB_succ, ih (by omega), cntB_succ, joinX_bit]
    unfold joinF
    simp only [show z + i < z + y by omega, show ¬ z + i < z by omega, decide_true, Bool.true_and, if_false]
    rw [show z + i - z = i by omega, Nat.add_assoc]
end
end Go.Proofs.Ytbflgbmobbbebaa

/- The law FnRanksJoin, walked. -/
namespace Go.Proofs.Ytbflgbmobbbebaa
open Go.RowKit

section
variable {z y : Int} {A1 A2 A3 B1 B2 B3 : Option Addr} {a d1 s d2 p d3 a' e1 s' e2 p' e3 : Nat} {X Y Z X' Y' Z' : Nat → Int} {w : World}
theorem impl_join_bad (h1 : RkR A1 a X A2 s Y A3 p Z w) (h2 : RkR B1 a' X' B2 s' Y' B3 p' Z' w) (hno : ¬ (RankOk z a X s Y p Z ∧ RankOk y a' X' s' Y' p' Z' ∧ z + y ≤ 4096)) :
    Calls Try.prog 25 #[.agg #[.int .i64 z, .slice A1 a d1, .slice A2 s d2, .slice A3 p d3], .agg #[.int .i64 y, .slice B1 a' e1, .slice B2 s' e2, .slice B3 p' e3]] w (RkOwn 0 0 (fun _ => 0) 0 (fun _ => 0) 0 (fun _ => 0) false w) := by
  by_cases k1 : RankOk z a X s Y p Z
  · by_cases k2 : RankOk y a' X' s' Y' p' Z'
    · exact impl_joinR_sum z y A1 a d1 X A2 s d2 Y A3 p d3 Z B1 a' e1 X' B2 s' e2 Y' B3 p' e3 Z' w h1 h2 k1 k2 (fun h => hno ⟨k1, k2, h⟩)
    · exact impl_joinR_snd z y A1 a d1 X A2 s d2 Y A3 p d3 Z B1 a' e1 X' B2 s' e2 Y' B3 p' e3 Z' w h1 h2 k1 k2
  · exact impl_joinR_fst z y A1 a d1 X A2 s d2 Y A3 p d3 Z B1 a' e1 X' B2 s' e2 Y' B3 p' e3 Z' w h1 h2 k1
theorem spec_join_bad (h1 : RkR A1 a X A2 s Y A3 p Z w) (h2 : RkR B1 a' X' B2 s' Y' B3 p' Z' w) (hno : ¬ (RankOk z a X s Y p Z ∧ RankOk y a' X' s' Y' p' Z' ∧ z + y ≤ 4096)) :
    Calls Try.prog 26 #[.agg #[.int .i64 z, .slice A1 a d1, .slice A2 s d2, .slice A3 p d3], .agg #[.int .i64 y, .slice B1 a' e1, .slice B2 s' e2, .slice B3 p' e3]] w (RkVec 0 0 (fun _ => 0) 0 (fun _ => 0) 0 (fun _ => 0) false w) := by
  by_cases k1 : RankOk z a X s Y p Z
  · by_cases k2 : RankOk y a' X' s' Y' p' Z'
    · exact spec_joinR_sum z y A1 a d1 X A2 s d2 Y A3 p d3 Z B1 a' e1 X' B2 s' e2 Y' B3 p' e3 Z' w h1 h2 k1 k2 (fun h => hno ⟨k1, k2, h⟩)
    · exact spec_joinR_snd z y A1 a d1 X A2 s d2 Y A3 p d3 Z B1 a' e1 X' B2 s' e2 Y' B3 p' e3 Z' w h1 h2 k1 k2
  · exact spec_joinR_fst z y A1 a d1 X A2 s d2 Y A3 p d3 Z B1 a' e1 X' B2 s' e2 Y' B3 p' e3 Z' w h1 h2 k1
end
theorem below_then2 {w w1 : World} (hb : Below w.heap.size w w1) (o : Obj) : Below w.heap.size w (w1.alloc o) := hb.trans (((Below.refl _ _).alloc (Nat.le_refl _) o).mono hb.size)
theorem zero_rows {w : World} {A1 A2 A3 : Option Addr} {X Y Z : Nat → Int} : RkR A1 0 X A2 0 Y A3 0 Z w := ⟨by omega, by omega, by omega, IRow.zero, IRow.zero, IRow.zero⟩

set_option maxRecDepth 100000 in
set_option maxHeartbeats 8000000 in
theorem walk_FnRanksJoin (w : World) (A : Option Addr) (n c : Nat) (D : Nat → Int) (hn : n ≤ maxLen) (hr : URow w A n D) (B : Option Addr) (m d : Nat) (E : Nat → Int) (hm : m ≤ maxLen) (_hs : URow w B m E) :
    Calls Try.prog 5 #[.slice A n c, .slice B m d] w fun e w' => e = .returned (.bool true) ∧ Below w.heap.size w w' := by
  have HR := Lib.hid hr
  clear hr
  by_cases hbig : n + m ≤ 1048576
  rotate_left
  · have hb : (!decide (n + m ≤ 1048576)) = true := by simp; omega
    go_enter Try.func5, Try.ntmps5
    go_wp2_with fail
    refine (big_is A B n c m d w hn hm).mono ?_; rintro e w' ⟨rfl, rfl⟩
    rw [hb]
    go_wp2_with fail
    go_ret
    exact ⟨rfl, Below.refl _ _⟩
  have hb : (!decide (n + m ≤ 1048576)) = false := by simp; omega
  go_enter Try.func5, Try.ntmps5
  go_wp2_with fail
  refine (big_is A B n c m d w hn hm).mono ?_; rintro e w' ⟨rfl, rfl⟩
  rw [hb]
  clear hb
  go_wp2_with fail
  refine (draw_joinRanked A n c D w (by omega) HR.out.1 HR.out.2).mono ?_; rintro e w1 ⟨z, A1, a, d1, X, A2, s, d2, Y, A3, p, d3, Z, y, B1, a', e1, X', B2, s', e2, Y', B3, p', e3, Z', rfl, hx, hy, hb⟩
  have zb := hx.2.1
  have yb := hy.2.1
  have F1 := Lib.hid (below_then2 (below_then2 hb (.cells (rkC z A1 a d1 A2 s d2 A3 p d3) 29)) (.cells (rkC y B1 a' e1 B2 s' e2 B3 p' e3) 29))
  have V1 := Lib.hid ((BR.start (z := z) (c1 := d1) (c2 := d2) (c3 := d3) (rkr_in hx)).al (.cells (rkC y B1 a' e1 B2 s' e2 B3 p' e3) 29))
  have hbr := BR.start (z := y) (c1 := e1) (c2 := e2) (c3 := e3) ((rkr_in hy).al (.cells (rkC z A1 a d1 A2 s d2 A3 p d3) 29))
  simp only [World.size_alloc] at hbr
  have U1 := Lib.hid hbr
  clear hb hx hy hbr
  obtain ⟨r0, r1, r2, r3⟩ := V1.out.cells
  obtain ⟨u0, u1, u2, u3⟩ := U1.out.cells
  by_cases hk : RankOk z a X s Y p Z ∧ RankOk y a' X' s' Y' p' Z' ∧ z + y ≤ 4096
  rotate_left
  · have HK := Lib.hid hk
    clear hk
    go_wp2_with fail
    refine (impl_join_bad V1.out.rows U1.out.rows HK.out).mono ?_; rintro e w2 ⟨D1, f1, D2, f2, D3, f3, rfl, _, _, _, _, _, _, hb⟩
    have F2 := Lib.hid (below_then2 (F1.out.trans (hb.mono F1.out.size)) (.cells (rkC 0 D1 0 f1 D2 0 f2 D3 0 f3) 29))
    have V2 := Lib.hid ((V1.out.step hb).al (.cells (rkC 0 D1 0 f1 D2 0 f2 D3 0 f3) 29))
    have U2 := Lib.hid ((U1.out.step hb).al (.cells (rkC 0 D1 0 f1 D2 0 f2 D3 0 f3) 29))
    have K2 := Lib.hid (BR.start (wi := w2) (z := 0) (c1 := f1) (c2 := f2) (c3 := f3) (zero_rows (A1 := D1) (A2 := D2) (A3 := D3) (X := (fun _ => 0)) (Y := (fun _ => 0)) (Z := (fun _ => 0))))
    clear hb r0 r1 r2 r3 u0 u1 u2 u3
    obtain ⟨r0, r1, r2, r3⟩ := V2.out.cells
    obtain ⟨u0, u1, u2, u3⟩ := U2.out.cells
    go_wp2_with fail
    refine (spec_join_bad V2.out.rows U2.out.rows HK.out).mono ?_; rintro e w3 ⟨E1, g1, E2, g2, E3, g3, rfl, _, _, _, hb⟩
    have F3 := Lib.hid (below_then2 (F2.out.trans (hb.mono F2.out.size)) (.cells (rkC 0 E1 0 g1 E2 0 g2 E3 0 g3) 29))
    have K3 := Lib.hid ((K2.out.step hb).al (.cells (rkC 0 E1 0 g1 E2 0 g2 E3 0 g3) 29))
    have W3 := Lib.hid (BR.start (wi := w3) (z := 0) (c1 := g1) (c2 := g2) (c3 := g3) (zero_rows (A1 := E1) (A2 := E2) (A3 := E3) (X := (fun _ => 0)) (Y := (fun _ => 0)) (Z := (fun _ => 0))))
    clear hb r0 r1 r2 r3 u0 u1 u2 u3
    obtain ⟨r0, r1, r2, r3⟩ := K3.out.cells
    obtain ⟨u0, u1, u2, u3⟩ := W3.out.cells
    go_wp2_with fail
    refine (pSameR_yes K3.out.rows W3.out.rows).mono ?_; rintro e w4 ⟨rfl, hb⟩
    have F4 := Lib.hid (F3.out.trans (hb.mono F3.out.size))
    clear hb
    go_wp2_with fail
    go_ret
    exact ⟨rfl, F4.out⟩
  obtain ⟨k1, k2, hzy⟩ := hk
  have K1 := Lib.hid k1
  have K2 := Lib.hid k2
  obtain ⟨z, rfl, hz1, hz2⟩ := k1.size
  obtain ⟨y, rfl, hy1, hy2⟩ := k2.size
  clear k1 k2 hz2 hy2
  have hzy' : z + y ≤ 4096 := by omega
  obtain ⟨N, hN⟩ : ∃ N : Nat, N = z + y := ⟨_, rfl⟩
  obtain ⟨M, hM⟩ : ∃ M : Nat, M = (N + 15) / 16 := ⟨_, rfl⟩
  obtain ⟨S, hS⟩ : ∃ S : Nat, S = (N + 63) / 64 := ⟨_, rfl⟩
  have hM2 : M ≤ 1048576 := by omega
  have hS2 : S ≤ 1048576 := by omega
  have JG := Lib.hid (show RankOk N M (joinX X X' z y) S (supI (wdR (joinX X X' z y))) M (blkI (wdR (joinX X X' z y))) from ⟨by rw [hM, hN]; exact joinX_good hzy', ⟨by omega, fun _ _ => rfl⟩, by omega, fun _ _ => rfl⟩)
  have HI := Lib.hid (fun w1 h1 h2 => impl_joinR_yes z y A1 a d1 X A2 s d2 Y A3 p d3 Z B1 a' e1 X' B2 s' e2 Y' B3 p' e3 Z' w1 h1 h2 K1.out K2.out hzy')
  have HSP := Lib.hid (fun w1 h1 h2 => spec_joinR_yes z y A1 a d1 X A2 s d2 Y A3 p d3 Z B1 a' e1 X' B2 s' e2 Y' B3 p' e3 Z' w1 h1 h2 K1.out K2.out hzy')
  have CJ := Lib.hid (fun i (hi : i ≤ y) => cnt_joined (X := X) (X' := X') (z := z) hi)
  rw [← hN, ← hM, ← hS] at HI HSP
  have HN := Lib.hid hN
  generalize joinX X X' z y = J at *
  clear hN hM hS
  go_wp2_with fail
  refine (HI.out _ V1.out.rows U1.out.rows).mono ?_; rintro e w2 ⟨D1, f1, D2, f2, D3, f3, rfl, o1, o2, o3, _, _, _, hb⟩
  have F2 := Lib.hid (below_then2 (F1.out.trans (hb.mono F1.out.size)) (.cells (rkC N D1 M f1 D2 S f2 D3 M f3) 29))
  have V2 := Lib.hid ((V1.out.step hb).al (.cells (rkC N D1 M f1 D2 S f2 D3 M f3) 29))
  have U2 := Lib.hid ((U1.out.step hb).al (.cells (rkC N D1 M f1 D2 S f2 D3 M f3) 29))
  have T2 := Lib.hid (BR.start (z := N) (c1 := f1) (c2 := f2) (c3 := f3) (show RkR D1 M J D2 S (supI (wdR J)) D3 M (blkI (wdR J)) w2 from ⟨hM2, hS2, hM2, irow (o1.rd.row (Nat.le_refl _)), irow (o2.rd.row (Nat.le_refl _)), irow (o3.rd.row (Nat.le_refl _))⟩))
  clear hb o1 o2 o3 r0 r1 r2 r3 u0 u1 u2 u3 V1 U1
  obtain ⟨r0, r1, r2, r3⟩ := V2.out.cells
  obtain ⟨u0, u1, u2, u3⟩ := U2.out.cells
  go_wp2_with fail
  refine (HSP.out _ V2.out.rows U2.out.rows).mono ?_; rintro e w3 ⟨E1, g1, E2, g2, E3, g3, rfl, o1, o2, o3, hb⟩
  have F3 := Lib.hid (below_then2 (F2.out.trans (hb.mono F2.out.size)) (.cells (rkC N E1 M g1 E2 S g2 E3 M g3) 29))
  have V3 := Lib.hid ((V2.out.step hb).al (.cells (rkC N E1 M g1 E2 S g2 E3 M g3) 29))
  have U3 := Lib.hid ((U2.out.step hb).al (.cells (rkC N E1 M g1 E2 S g2 E3 M g3) 29))
  have T3 := Lib.hid ((T2.out.step hb).al (.cells (rkC N E1 M g1 E2 S g2 E3 M g3) 29))
  have R3 := Lib.hid (BR.start (z := N) (c1 := g1) (c2 := g2) (c3 := g3) (show RkR E1 M J E2 S (supI (wdR J)) E3 M (blkI (wdR J)) w3 from ⟨hM2, hS2, hM2, irow (o1.rd.row (Nat.le_refl _)), irow (o2.rd.row (Nat.le_refl _)), irow (o3.rd.row (Nat.le_refl _))⟩))
  clear hb o1 o2 o3 r0 r1 r2 r3 u0 u1 u2 u3 V2 U2 T2
  obtain ⟨t0, t1, t2, t3⟩ := T3.out.cells
  obtain ⟨q0, q1, q2, q3⟩ := R3.out.cells
  go_wp2_with fail
  refine (pSameR_yes T3.out.rows R3.out.rows).mono ?_; rintro e w4 ⟨rfl, hb⟩
  have F4 := Lib.hid (F3.out.trans (hb.mono F3.out.size))
  have V4 := Lib.hid (V3.out.step hb)
  have U4 := Lib.hid (U3.out.step hb)
  have T4 := Lib.hid (T3.out.step hb)
  clear hb t0 t1 t2 t3 q0 q1 q2 q3 V3 U3 T3 R3
  obtain ⟨r0, r1, r2, r3⟩ := V4.out.cells
  obtain ⟨t0, t1, t2, t3⟩ := T4.out.cells
  by_cases h500 : (500 : Int) < (N : Int)
  · have dz : decide ((500 : Int) < (N : Int)) = true := by simpa using h500
    go_wp2_with fail
    go_ret
    exact ⟨rfl, F4.out⟩
  have dz : decide ((500 : Int) < (N : Int)) = false := by simpa using h500
  generalize hC : cntB (wdR X) true z = C at *
  have HC := Lib.hid hC
  have hCz : C ≤ z := by rw [← hC]; exact cntB_le _
  clear hC
  go_wp2_with fail
  refine (ones_call V4.out.rows K1.out).mono ?_; rintro e w5 ⟨rfl, hb⟩
  rw [HC.out]
  have F5 := Lib.hid (F4.out.trans (hb.mono F4.out.size))
  have V5 := Lib.hid (V4.out.step hb)
  have U5 := Lib.hid (U4.out.step hb)
  have T5 := Lib.hid (T4.out.step hb)
  clear hb r0 r1 r2 r3 t0 t1 t2 t3 V4 U4 T4
  obtain ⟨t0, t1, t2, t3⟩ := T5.out.cells
  go_wp2_with fail
  refine ((BoolIs.two (impl_isRanked (N : Int) D1 M f1 J D2 S f2 (supI (wdR J)) D3 M f3 (blkI (wdR J)) _ T5.out.rows)).1 JG.out).mono ?_; rintro e w6 ⟨rfl, hb⟩
  have F6 := Lib.hid (F5.out.trans (hb.mono F5.out.size))
  have V6 := Lib.hid (V5.out.step hb)
  have U6 := Lib.hid (U5.out.step hb)
  have T6 := Lib.hid (T5.out.step hb)
  clear hb t0 t1 t2 t3 V5 U5 T5
  go_wp2_with fail
  go_loopw [13] (fun i wr => ∃ k : Nat, k ≤ y + 1 ∧ i = .int .i64 k ∧ Hid (Below w.heap.size w wr) ∧ Hid (BR w1.heap.size z A1 a d1 X A2 s d2 Y A3 p d3 Z wr) ∧ Hid (BR (w1.heap.size + 1) y B1 a' e1 X' B2 s' e2 Y' B3 p' e3 Z' wr) ∧ Hid (BR w2.heap.size N D1 M f1 J D2 S f2 (supI (wdR J)) D3 M f3 (blkI (wdR J)) wr)) (fun i _ => (y + 1) - (intOf i).toNat)
  case atStart => exact ⟨0, by omega, rfl, F6, V6, U6, T6⟩
  case round =>
    obtain ⟨k, hk, rfl, F7, V7, U7, T7⟩ := hrel
    obtain ⟨r0, r1, r2, r3⟩ := V7.out.cells
    obtain ⟨u0, u1, u2, u3⟩ := U7.out.cells
    obtain ⟨t0, t1, t2, t3⟩ := T7.out.cells
    by_cases hlt : k ≤ y
    · have hleq : decide ((k : Int) ≤ (y : Int)) = true := by simp; omega
      have hcj := CJ.out k hlt
      generalize hv : cntB (wdR X') true k = V at *
      have HV := Lib.hid hv
      have HJ := Lib.hid hcj
      have hVk : V ≤ k := by rw [← hv]; exact cntB_le _
      have hzk : z + k ≤ N := by have := HN.out; omega
      clear hv hcj
      go_wp2_with fail
      refine (rank1_call (i := k) U7.out.rows K2.out hlt).mono ?_; rintro e w8 ⟨rfl, hb⟩
      rw [HV.out]
      have F8 := Lib.hid (F7.out.trans (hb.mono F7.out.size))
      have V8 := Lib.hid (V7.out.step hb)
      have U8 := Lib.hid (U7.out.step hb)
      have T8 := Lib.hid (T7.out.step hb)
      clear hb r0 r1 r2 r3 u0 u1 u2 u3 t0 t1 t2 t3
      obtain ⟨r0, r1, r2, r3⟩ := V8.out.cells
      obtain ⟨u0, u1, u2, u3⟩ := U8.out.cells
      obtain ⟨t0, t1, t2, t3⟩ := T8.out.cells
      have hrc := rank1_call (c1 := f1) (c2 := f2) (c3 := f3) (i := z + k) T8.out.rows JG.out hzk
      rw [HJ.out, show ((z + k : Nat) : Int) = (z : Int) + (k : Int) by omega, show ((C + V : Nat) : Int) = (C : Int) + (V : Int) by omega] at hrc
      have HRC := Lib.hid hrc
      clear hrc
      go_wp2_with fail
      refine HRC.out.mono ?_; rintro e w9 ⟨rfl, hb⟩
      have F9 := Lib.hid (F8.out.trans (hb.mono F8.out.size))
      have V9 := Lib.hid (V8.out.step hb)
      have U9 := Lib.hid (U8.out.step hb)
      have T9 := Lib.hid (T8.out.step hb)
      clear hb r0 r1 r2 r3 u0 u1 u2 u3 t0 t1 t2 t3
      go_wp2_with fail
      go_roundw
      case rel => exact ⟨k + 1, by omega, by go_num, F9, V9, U9, T9⟩
      case measure => simp [intOf]; omega
    · have hleq : decide ((k : Int) ≤ (y : Int)) = false := by simp; omega
      go_wp2_with fail
      go_ret
      exact ⟨rfl, F7.out⟩
end Go.Proofs.Ytbflgbmobbbebaa
