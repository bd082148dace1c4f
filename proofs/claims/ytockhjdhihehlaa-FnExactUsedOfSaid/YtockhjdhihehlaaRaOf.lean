/- The model's directories of a vector. -/
import Derived.Test.YtockhjdhihehlaaRankS
import Derived.Test.YtockhjdhihehlaaAppTwo
import Derived.Test.YtockhjdhihehlaaOwnB
import Derived.Test.YtockhjdhihehlaaObjTch
import Derived.Deep.DeepCutAuto
namespace Go.Proofs.Ytockhjdhihehlaa
open Go.RowKit

/-- What the loop of raOf keeps while q blocks of 16 bits are counted. -/
structure RO (w w1 : World) (z : Nat) (A1 : Option Addr) (n c1 : Nat) (W : Nat → Nat) (q s2 : Nat) (A2 : Option Addr) (c2 : Nat) (A3 : Option Addr) (c3 : Nat) (wr : World) : Prop where
  below : Below w1.heap.size w1 wr
  box : NBX w1.heap.size w1.heap.size #[.int .i64 z, .slice A1 n c1, .slice A2 s2 c2, .slice A3 q c3] 60 wr
  sup : wr.ownsRow (w1.heap.size + 1) 3 1 (.slice A2 s2 c2) s2 (vals (intV (supI W)) s2)
  blk : wr.ownsRow (w1.heap.size + 1) 3 1 (.slice A3 q c3) q (vals (intV (blkI W)) q)
  apart : ∀ g, ob A2 s2 c2 = some g → ob A3 q c3 ≠ some g

theorem i64_in_ (x : Int) (h0 : 0 ≤ x) (h1 : x ≤ 9000) : IntKind.i64.wrap x = x := by rw [IntKind.wrap_i64]; omega
section
variable {w w1 wr w' : World} {z n c1 q s2 c2 c3 : Nat} {A1 A2 A3 : Option Addr} {W : Nat → Nat}
theorem RO.b (h : RO w w1 z A1 n c1 W q s2 A2 c2 A3 c3 wr) (hb : Below wr.heap.size wr w') : RO w w1 z A1 n c1 W q s2 A2 c2 A3 c3 w' :=
  ⟨h.below.trans (hb.mono h.below.size), h.box.b hb, owned_b h.sup hb, owned_b h.blk hb, h.apart⟩
theorem RO.al (h : RO w w1 z A1 n c1 W q s2 A2 c2 A3 c3 wr) (o : Obj) : RO w w1 z A1 n c1 W q s2 A2 c2 A3 c3 (wr.alloc o) := h.b ((Below.refl _ _).alloc (Nat.le_refl _) o)
theorem RO.hs (h : RO w w1 z A1 n c1 W q s2 A2 c2 A3 c3 wr) : w1.heap.size + 1 ≤ wr.heap.size := h.box.lt
theorem RO.boxS (h : RO w w1 z A1 n c1 W q s2 A2 c2 A3 c3 wr) (hg : wr.grownBy w' (ob A2 s2 c2)) : NBX w1.heap.size w1.heap.size #[.int .i64 z, .slice A1 n c1, .slice A2 s2 c2, .slice A3 q c3] 60 w' := nbx_grown h.box h.sup hg (by omega)
theorem RO.boxB (h : RO w w1 z A1 n c1 W q s2 A2 c2 A3 c3 wr) (hg : wr.grownBy w' (ob A3 q c3)) : NBX w1.heap.size w1.heap.size #[.int .i64 z, .slice A1 n c1, .slice A2 s2 c2, .slice A3 q c3] 60 w' := nbx_grown h.box h.blk hg (by omega)
theorem RO.pushS {A' : Option Addr} {c' : Nat} (h : RO w w1 z A1 n c1 W q s2 A2 c2 A3 c3 wr) (ho : w'.ownsRow (w1.heap.size + 1) 3 1 (.slice A' (s2 + 1) c') (s2 + 1) (vals (intV (supI W)) (s2 + 1))) (hg : wr.grownBy w' (ob A2 s2 c2)) (hf : ∀ g, ob A' (s2 + 1) c' = some g → ob A2 s2 c2 = some g ∨ wr.heap.size ≤ g) :
    RO w w1 z A1 n c1 W q (s2 + 1) A' c' A3 c3 (w'.setCell ⟨w1.heap.size, 2, none⟩ (.slice A' (s2 + 1) c')) := by
  obtain ⟨h1, h2⟩ := two_rows h.sup h.blk h.apart hg hf
  refine ⟨below_setAt (h.below.trans ((below_own h.sup hg h.hs).mono (by omega))) (Nat.le_refl _) _, (nbx_grown h.box h.sup hg (by omega)).set 2 _, own_set ho (by omega) _, own_set h1 (by omega) _, h2⟩
theorem RO.pushB {A' : Option Addr} {c' : Nat} (h : RO w w1 z A1 n c1 W q s2 A2 c2 A3 c3 wr) (ho : w'.ownsRow (w1.heap.size + 1) 3 1 (.slice A' (q + 1) c') (q + 1) (vals (intV (blkI W)) (q + 1))) (hg : wr.grownBy w' (ob A3 q c3)) (hf : ∀ g, ob A' (q + 1) c' = some g → ob A3 q c3 = some g ∨ wr.heap.size ≤ g) :
    RO w w1 z A1 n c1 W (q + 1) s2 A2 c2 A' c' (w'.setCell ⟨w1.heap.size, 3, none⟩ (.slice A' (q + 1) c')) := by
  obtain ⟨h1, h2⟩ := two_rows h.blk h.sup (fun g hg hA => h.apart g hA hg) hg hf
  refine ⟨below_setAt (h.below.trans ((below_own h.blk hg h.hs).mono (by omega))) (Nat.le_refl _) _, (nbx_grown h.box h.blk hg (by omega)).set 3 _, own_set h1 (by omega) _, own_set ho (by omega) _, fun g hg hA => h2 g hA hg⟩
end

set_option maxRecDepth 100000 in
set_option maxHeartbeats 4000000 in
theorem spec_raOf (z s : Nat) (A : Option Addr) (n c : Nat) (X : Nat → Int) (w : World) (hn : n ≤ 4096) (hr : IRow w A n X) (hg : Good z n X) (hs : s = (z + 63) / 64) :
    Calls Try.prog 53 #[.agg #[.int .i64 z, .slice A n c]] w fun e w' => ∃ A1 c1 A2 c2 A3 c3, e = .returned (.agg #[.int .i64 z, .slice A1 n c1, .slice A2 s c2, .slice A3 n c3]) ∧ GVec w' w.heap.size 3 A1 n (intV X) ∧ GVec w' w.heap.size 3 A2 s (intV (supI (wdR X))) ∧ GVec w' w.heap.size 3 A3 n (intV (blkI (wdR X))) ∧ Below w.heap.size w w' := by
  have L0 := Lib.hid ((LS.start (z := (z : Int)) (c := c) hr 58).step ((Below.refl _ _).alloc (Nat.le_refl _) (.cells #[.int .i64 0, .slice none 0 0, .slice none 0 0, .slice none 0 0] 60)))
  have nr := nbx0 (w.alloc (.cells #[.int .i64 z, .slice A n c] 58)) #[.int .i64 0, .slice none 0 0, .slice none 0 0, .slice none 0 0] 60
  simp only [World.size_alloc] at nr
  have NR := Lib.hid nr
  have HG := Lib.hid hg
  have HR := Lib.hid hr
  have HS := Lib.hid hs
  have hnz : n = (z + 15) / 16 := by have := hg.2.2.1; omega
  have HNZ := Lib.hid hnz
  have hz1 : z ≤ 4096 := by have := hg.2.1; omega
  clear hr hg hs hnz nr
  go_enter Try.func53, Try.ntmps53
  go_wp2_with fail
  refine (spec_biOwn z A n c X _ hn L0.out.row).mono ?_; rintro e w1 ⟨A1, c1, rfl, ho1, hb⟩
  have L1 := Lib.hid (L0.out.step hb)
  have NR1 := Lib.hid (NR.out.b hb)
  have O1 := Lib.hid ho1
  have hs1 := hb.size
  simp only [World.size_alloc] at hs1
  clear ho1 hb L0 NR
  go_wp2_with fail
  have RO1 := Lib.hid (show RO w w1 z A1 n c1 (wdR X) 0 0 none 0 none 0 (w1.alloc (.cells #[.int .i64 z, .slice A1 n c1, .slice none 0 0, .slice none 0 0] 60)) from
    ⟨(Below.refl _ _).alloc (Nat.le_refl _) _, nbx0 _ _ _, World.ownsRow_nil _ _ _ _, World.ownsRow_nil _ _ _ _, fun g h => by cases h⟩)
  go_loopw [4] (fun i wr => ∃ (u q s2 c2 c3 : Nat) (A2 A3 : Option Addr), i = .int .i64 u ∧ u = 16 * q ∧ q ≤ n ∧ s2 = (q + 3) / 4 ∧ RO w w1 z A1 n c1 (wdR X) q s2 A2 c2 A3 c3 wr) (fun i _ => 16 * n - (intOf i).toNat)
  case atStart => exact ⟨0, 0, 0, 0, 0, none, none, rfl, rfl, Nat.zero_le _, rfl, RO1.out⟩
  case round =>
    obtain ⟨u, q, s2, c2, c3, A2, A3, rfl, hu, hq, hs2, hro⟩ := hrel
    have R3 := Lib.hid hro
    have L3 := Lib.hid (L1.out.step hro.below)
    obtain ⟨hs3, b0, b1⟩ := L3.out.box
    clear hro RO1
    have hu1 : u ≤ 16 * n := by omega
    have hu2 : u ≤ 4096 := by have := HNZ.out; omega
    by_cases hlt : u < z
    · have hqn : q < n := by have := HNZ.out; omega
      have hnn : q ≤ 65536 := by omega
      have hns : s2 ≤ 65536 := by omega
      have hn8 : n ≤ 1048576 := by omega
      obtain ⟨v, hv⟩ : ∃ v : Nat, v = u / 64 * 64 := ⟨_, rfl⟩
      have hv1 : v = 64 * (q / 4) := by omega
      have HV := Lib.hid hv
      have HU := Lib.hid hu
      have HS2 := Lib.hid hs2
      have EV := Lib.hid (show IntKind.i64.wrap (IntKind.i64.wrap ((u : Int) / 64) * 64) = (v : Int) by rw [i64_in_ ((u : Int) / 64) (by omega) (by omega), i64_in_ _ (by omega) (by omega)]; omega)
      have hvu : v ≤ u := by omega
      have HFB := Lib.hid (show intV (blkI (wdR X)) q = .int .i64 (cntN (wdR X) v (u - v) : Nat) by unfold intV blkI; rw [← hv1, ← hu])
      by_cases h4 : q % 4 = 0
      · have e4 : ((u : Int) % 64 == 0) = true := by simp; omega
        have k2 := R3.out.box.cell 2 _ rfl
        have f2 := R3.out.box.free 2
        have L3D := Lib.hid (L3.out.step (Below.drew (Below.refl _ _)))
        have HFV := Lib.hid (show intV (supI (wdR X)) s2 = .int .i64 (cntN (wdR X) 0 u : Nat) by unfold intV supI; rw [show 64 * s2 = u by omega])
        clear hu hs2 hv hv1
        go_upto_region 6 with fail
        go_cut [] from 17 to 24 (fun wx => ∃ (A' : Option Addr) (c' : Nat), RO w w1 z A1 n c1 (wdR X) q (s2 + 1) A' c' A3 c3 wx)
        case first =>
          go_region_law (first
            | (have hz := R5; clear hz; refine step_push rfl (.tmp 18) (.tmp 22) rfl rfl rfl R5.out.sup CY.out HFV.out rfl ?_ ?_ ?_; exact hns; exact R5.out.hs; intro A' c' w5 ho5 hg5 hf5; have NB5 := Lib.hid (R5.out.boxS hg5); have g2 := NB5.out.cell 2 _ rfl; have h2 := NB5.out.free 2; have R6 := Lib.hid (R5.out.pushS ho5 hg5 hf5); clear ho5 hg5 hf5)
            | (go_simp; go_at_call 74; (first | refine (spec_biCount z A n c (wdR X) 0 u _ (by omega) (good_row HG.out L3.out.row) (Nat.zero_le _) hu1 hu2).mono ?_ | refine (spec_biCount z A n c (wdR X) 0 u _ (by omega) (good_row HG.out L3D.out.row) (Nat.zero_le _) hu1 hu2).mono ?_); rintro e w4 ⟨rfl, hb'⟩; have hb := of_drew hb'; have R4 := Lib.hid (R3.out.b hb); have L4 := Lib.hid (L3.out.step hb); obtain ⟨hs4, b4, b5⟩ := L4.out.box; have k4 := R4.out.box.cell 2 _ rfl; have R5 := Lib.hid (R4.out.al (.cells #[.int .i64 (cntN (wdR X) 0 u)] 3)); have k5 := R5.out.box.cell 2 _ rfl; have CY := Lib.hid ((boxed w4 #[.int .i64 (cntN (wdR X) 0 u)] 3).now 0 _ rfl); clear hb hb'))
          all_goals go_wp2_with fail
          all_goals go_meet
          all_goals exact ⟨_, _, R6.out⟩
        case rest =>
        obtain ⟨A', c', hcr⟩ := hcut
        have R7 := Lib.hid hcr
        have L7 := Lib.hid (L1.out.step R7.out.below)
        have L7D := Lib.hid (L7.out.step (Below.drew (Below.refl _ _)))
        obtain ⟨hs7, m0, m1⟩ := L7.out.box
        have k3 := R7.out.box.cell 3 _ rfl
        have f3 := R7.out.box.free 3
        go_upto_region 7 with fail
        go_region_law (first
          | (have hz := R9; clear hz; refine step_push rfl (.tmp 26) (.tmp 33) rfl rfl rfl R9.out.blk CY.out HFB.out rfl ?_ ?_ ?_; exact hnn; exact R9.out.hs; intro A' c' w5 ho5 hg5 hf5; have NB5 := Lib.hid (R9.out.boxB hg5); have g3 := NB5.out.cell 3 _ rfl; have h3 := NB5.out.free 3; have R10 := Lib.hid (R9.out.pushB ho5 hg5 hf5); clear ho5 hg5 hf5)
          | (go_simp; rw [EV.out]; go_at_call 74; (first | refine (spec_biCount z A n c (wdR X) v u _ hn8 (good_row HG.out L7.out.row) hvu hu1 hu2).mono ?_ | refine (spec_biCount z A n c (wdR X) v u _ hn8 (good_row HG.out L7D.out.row) hvu hu1 hu2).mono ?_); rintro e w4 ⟨rfl, hb'⟩; have hb := of_drew hb'; have R8 := Lib.hid (R7.out.b hb); have L8 := Lib.hid (L7.out.step hb); obtain ⟨hs8, b4, b5⟩ := L8.out.box; have k4 := R8.out.box.cell 3 _ rfl; have R9 := Lib.hid (R8.out.al (.cells #[.int .i64 (cntN (wdR X) v (u - v))] 3)); have k5 := R9.out.box.cell 3 _ rfl; have CY := Lib.hid ((boxed w4 #[.int .i64 (cntN (wdR X) v (u - v))] 3).now 0 _ rfl); clear hb hb'))
        all_goals (go_wp2_with fail; go_roundw)
        all_goals first | (case measure => (have hqz := HNZ.out; simp [intOf]; omega)) | (case rel => exact ⟨u + 16, q + 1, s2 + 1, _, _, _, _, by go_num, by have := HU.out; omega, by omega, by have := HS2.out; omega, R10.out⟩)
      · have e4 : ((u : Int) % 64 == 0) = false := by simp; omega
        clear hu hs2 hv hv1
        have R7 := Lib.hid R3.out
        have L7 := Lib.hid (L1.out.step R7.out.below)
        have L7D := Lib.hid (L7.out.step (Below.drew (Below.refl _ _)))
        obtain ⟨hs7, m0, m1⟩ := L7.out.box
        have k3 := R7.out.box.cell 3 _ rfl
        have f3 := R7.out.box.free 3
        go_upto_region 7 with fail
        go_region_law (first
          | (have hz := R9; clear hz; refine step_push rfl (.tmp 26) (.tmp 33) rfl rfl rfl R9.out.blk CY.out HFB.out rfl ?_ ?_ ?_; exact hnn; exact R9.out.hs; intro A' c' w5 ho5 hg5 hf5; have NB5 := Lib.hid (R9.out.boxB hg5); have g3 := NB5.out.cell 3 _ rfl; have h3 := NB5.out.free 3; have R10 := Lib.hid (R9.out.pushB ho5 hg5 hf5); clear ho5 hg5 hf5)
          | (go_simp; rw [EV.out]; go_at_call 74; (first | refine (spec_biCount z A n c (wdR X) v u _ hn8 (good_row HG.out L7.out.row) hvu hu1 hu2).mono ?_ | refine (spec_biCount z A n c (wdR X) v u _ hn8 (good_row HG.out L7D.out.row) hvu hu1 hu2).mono ?_); rintro e w4 ⟨rfl, hb'⟩; have hb := of_drew hb'; have R8 := Lib.hid (R7.out.b hb); have L8 := Lib.hid (L7.out.step hb); obtain ⟨hs8, b4, b5⟩ := L8.out.box; have k4 := R8.out.box.cell 3 _ rfl; have R9 := Lib.hid (R8.out.al (.cells #[.int .i64 (cntN (wdR X) v (u - v))] 3)); have k5 := R9.out.box.cell 3 _ rfl; have CY := Lib.hid ((boxed w4 #[.int .i64 (cntN (wdR X) v (u - v))] 3).now 0 _ rfl); clear hb hb'))
        all_goals (go_wp2_with fail; go_roundw)
        all_goals first | (case measure => (have hqz := HNZ.out; simp [intOf]; omega)) | (case rel => exact ⟨u + 16, q + 1, s2, _, _, _, _, by go_num, by have := HU.out; omega, by omega, by have := HS2.out; omega, R10.out⟩)
    · have hqn : q = n := by have := HNZ.out; omega
      subst hqn
      have hss : s2 = s := by have := HS.out; have := HNZ.out; omega
      subst hss
      have k0 := R3.out.box.cell 0 _ rfl
      have k1 := R3.out.box.cell 1 _ rfl
      have k2 := R3.out.box.cell 2 _ rfl
      have k3 := R3.out.box.cell 3 _ rfl
      have NR3 := Lib.hid (NR1.out.b R3.out.below)
      have g0 := NR3.out.free 0
      have g1 := NR3.out.free 1
      have g2 := NR3.out.free 2
      have g3 := NR3.out.free 3
      have r0 := NR3.out.cell 0 _ rfl
      have r1 := NR3.out.cell 1 _ rfl
      have r2 := NR3.out.cell 2 _ rfl
      have r3 := NR3.out.cell 3 _ rfl
      clear hu hs2
      go_wp2_with fail
      refine bodyPost_ret (v := .agg #[.int .i64 z, .slice A1 q c1, .slice A2 s2 c2, .slice A3 q c3]) (by simp [results, Try.results53, go_sem, r0, r1, r2, r3]) rfl ?_
      have P0 := gvec_below O1.out R3.out.below (gvec_lt O1.out)
      have P2 := R3.out.sup
      have P3 := R3.out.blk
      refine ⟨A1, c1, A2, c2, A3, c3, rfl, ?_, ?_, ?_, ?_⟩
      · exact gvec_low (gvec_set (gvec_set (gvec_set (gvec_set (gvec_low P0 (B' := w.heap.size + 2) (by simp)) (by omega) _) (by omega) _) (by omega) _) (by omega) _) (by omega)
      · exact gvec_low (owned_vec (own_set (own_set (own_set (own_set P2 (by omega) _) (by omega) _) (by omega) _) (by omega) _)) (by omega)
      · exact gvec_low (owned_vec (own_set (own_set (own_set (own_set P3 (by omega) _) (by omega) _) (by omega) _) (by omega) _)) (by omega)
      · exact below_setAt (below_setAt (below_setAt (below_setAt L3.out.below (by omega) _) (by omega) _) (by omega) _) (by omega) _
end Go.Proofs.Ytockhjdhihehlaa
