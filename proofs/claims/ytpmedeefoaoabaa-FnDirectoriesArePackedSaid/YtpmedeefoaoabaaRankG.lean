/- Which Ranked is valid: both sides. -/
import Derived.Test.YtpmedeefoaoabaaRankL
import Derived.Test.YtpmedeefoaoabaaRaOf
namespace Go.Proofs.Ytpmedeefoaoabaa
open Go.RowKit

section
variable {z : Int} {n s m : Nat} {X Y Z : Nat → Int}
theorem RankOk.size (h : RankOk z n X s Y m Z) : ∃ z' : Nat, z = z' ∧ z' ≤ 4096 ∧ n = (z' + 15) / 16 ∧ s = (z' + 63) / 64 ∧ m = n := by
  obtain ⟨⟨h0, h1, h2, _⟩, ⟨h3, _⟩, h4, _⟩ := h
  exact ⟨z.toNat, by omega, by omega, by omega, by omega, by omega⟩
theorem rankOk_same {z' : Nat} (hz : z = z') (hg : Good z n X) : SameI s Y ((z' + 63) / 64) (supI (wdR X)) → SameI m Z n (blkI (wdR X)) → RankOk z n X s Y m Z := fun h1 h2 =>
  ⟨hg, ⟨by have := h1.1; omega, h1.2⟩, by have := h2.1; have := hg.2.2.1; omega, h2.2⟩
theorem rankOk_not1 {z' : Nat} (hz : z = z') (h1 : ¬ SameI s Y ((z' + 63) / 64) (supI (wdR X))) : ¬ RankOk z n X s Y m Z := fun h => h1 ⟨by have := h.2.1.1; omega, h.2.1.2⟩
theorem rankOk_not2 (hg : Good z n X) (h1 : ¬ SameI m Z n (blkI (wdR X))) : ¬ RankOk z n X s Y m Z := fun h => h1 ⟨by have := h.2.2.1; have := hg.2.2.1; omega, h.2.2.2⟩
end

section
variable (z : Int) (A1 : Option Addr) (n c1 : Nat) (X : Nat → Int) (A2 : Option Addr) (s c2 : Nat) (Y : Nat → Int) (A3 : Option Addr) (m c3 : Nat) (Z : Nat → Int) (w : World)
set_option maxRecDepth 100000 in
set_option maxHeartbeats 2000000 in
theorem impl_isRanked (h : RkR A1 n X A2 s Y A3 m Z w) :
    Calls Try.prog 15 #[.agg #[.int .i64 z, .slice A1 n c1, .slice A2 s c2, .slice A3 m c3]] w (BoolIs (RankOk z n X s Y m Z) w) := by
  have L0 := Lib.hid (RL.start (z := z) (c1 := c1) (c2 := c2) (c3 := c3) h)
  have hk1 := h.n1
  have hk2 := h.n2
  have hk3 := h.n3
  clear h
  obtain ⟨hs0, b0, b1, b2, b3⟩ := L0.out.cells
  by_cases hg : Good z n X
  · have HG := Lib.hid hg
    obtain ⟨z', hz⟩ : ∃ z' : Nat, z = z' := ⟨z.toNat, by have := hg.1; omega⟩
    have hz1 : z' ≤ 4096 := by have := hg.2.1; omega
    subst hz
    have HNZ := Lib.hid (show n = (z' + 15) / 16 by have := hg.2.2.1; omega)
    have hn2 : n ≤ 256 := by have := HNZ.out; omega
    obtain ⟨sw, hsw⟩ : ∃ sw : Nat, sw = (z' + 63) / 64 := ⟨_, rfl⟩
    have HSW := Lib.hid hsw
    have hsw2 : sw ≤ 1048576 := by omega
    clear hg hsw
    go_enter Try.func15, Try.ntmps15
    go_wp2_with fail
    refine (isBits_yes hk1 L0.out.rows.r1 HG.out).mono ?_; rintro e w1 ⟨rfl, hb⟩
    have L1 := Lib.hid (L0.out.step hb)
    clear hb b0 b1 b2 b3
    obtain ⟨hs1, b0, b1, b2, b3⟩ := L1.out.cells
    go_wp2_with fail
    refine (impl_directoryOf z' sw A1 n c1 X _ hk1 L1.out.rows.r1 HG.out HSW.out).mono ?_; rintro e w2 ⟨g, h, rfl, hg1, hh1, hgh, o1, o2, hb⟩
    have L2 := Lib.hid (L1.out.step hb)
    have O1 := Lib.hid o1
    have O2 := Lib.hid o2
    clear hb b0 b1 b2 b3 o1 o2
    obtain ⟨hs2, b0, b1, b2, b3⟩ := L2.out.cells
    go_wp2_with fail
    by_cases e1 : SameI s Y sw (supI (wdR X))
    · have E1 := Lib.hid e1
      clear e1
      refine ((BoolIs.two (slices_equal A2 (some ⟨g, 0, none⟩) s c2 sw sw Y (supI (wdR X)) _ hk2 hsw2 L2.out.rows.r2 O1.out.row)).1 E1.out).mono ?_; rintro e w3 ⟨rfl, hb⟩
      have L3 := Lib.hid (L2.out.step hb)
      have O3 := Lib.hid (O2.out.b hb)
      clear hb b0 b1 b2 b3
      obtain ⟨hs3, b0, b1, b2, b3⟩ := L3.out.cells
      go_wp2_with fail
      refine (slices_equal A3 (some ⟨h, 0, none⟩) m c3 n n Z (blkI (wdR X)) _ hk3 hk1 L3.out.rows.r3 O3.out.row).mono ?_; rintro e w4 ⟨b, rfl, hbi, hb⟩
      have BI := Lib.hid hbi
      have L4 := Lib.hid (L3.out.step hb)
      clear hb hbi
      go_wp2_with fail
      go_ret
      exact ⟨b, rfl, BI.out.trans ⟨fun h2 => rankOk_same rfl HG.out (HSW.out ▸ E1.out) h2, fun h2 => Classical.byContradiction fun h3 => rankOk_not2 HG.out h3 h2⟩, L4.out.below⟩
    · have E1 := Lib.hid e1
      clear e1
      refine ((BoolIs.two (slices_equal A2 (some ⟨g, 0, none⟩) s c2 sw sw Y (supI (wdR X)) _ hk2 hsw2 L2.out.rows.r2 O1.out.row)).2 E1.out).mono ?_; rintro e w3 ⟨rfl, hb⟩
      have L3 := Lib.hid (L2.out.step hb)
      go_wp2_with fail
      go_ret
      exact ⟨false, rfl, by simp only [Bool.false_eq_true, false_iff]; exact rankOk_not1 rfl (HSW.out ▸ E1.out), L3.out.below⟩
  · have HG := Lib.hid hg
    clear hg
    go_enter Try.func15, Try.ntmps15
    go_wp2_with fail
    refine (isBits_no hk1 L0.out.rows.r1 HG.out).mono ?_; rintro e w1 ⟨rfl, hb⟩
    have L1 := Lib.hid (L0.out.step hb)
    go_wp2_with fail
    go_ret
    exact ⟨false, rfl, by simp only [Bool.false_eq_true, false_iff]; exact fun h => HG.out h.1, L1.out.below⟩

set_option maxRecDepth 100000 in
set_option maxHeartbeats 2000000 in
theorem spec_raGood (h : RkR A1 n X A2 s Y A3 m Z w) :
    Calls Try.prog 18 #[.agg #[.int .i64 z, .slice A1 n c1, .slice A2 s c2, .slice A3 m c3]] w (BoolIs (RankOk z n X s Y m Z) w) := by
  have L0 := Lib.hid (RL.start (z := z) (c1 := c1) (c2 := c2) (c3 := c3) h)
  have hk1 := h.n1
  have hk2 := h.n2
  have hk3 := h.n3
  clear h
  obtain ⟨hs0, b0, b1, b2, b3⟩ := L0.out.cells
  by_cases hg : Good z n X
  · have HG := Lib.hid hg
    obtain ⟨z', hz⟩ : ∃ z' : Nat, z = z' := ⟨z.toNat, by have := hg.1; omega⟩
    have hz1 : z' ≤ 4096 := by have := hg.2.1; omega
    subst hz
    have HNZ := Lib.hid (show n = (z' + 15) / 16 by have := hg.2.2.1; omega)
    have hn2 : n ≤ 256 := by have := HNZ.out; omega
    have hn3 : n ≤ 4096 := by omega
    obtain ⟨sw, hsw⟩ : ∃ sw : Nat, sw = (z' + 63) / 64 := ⟨_, rfl⟩
    have HSW := Lib.hid hsw
    have hsw2 : sw ≤ 1048576 := by omega
    clear hg hsw
    go_enter Try.func18, Try.ntmps18
    go_wp2_with fail
    refine (biGood_yes hk1 L0.out.rows.r1 HG.out).mono ?_; rintro e w1 ⟨rfl, hb⟩
    have L1 := Lib.hid (L0.out.step hb)
    clear hb b0 b1 b2 b3
    obtain ⟨hs1, b0, b1, b2, b3⟩ := L1.out.cells
    go_wp2_with fail
    refine (spec_raOf z' sw A1 n c1 X _ hn3 L1.out.rows.r1 HG.out HSW.out).mono ?_; rintro e w2 ⟨D1, d1, D2, d2, D3, d3, rfl, o1, o2, o3, hb⟩
    have L2 := Lib.hid ((L1.out.step hb).step ((Below.refl _ _).alloc (Nat.le_refl _) (.cells (rkC z' D1 n d1 D2 sw d2 D3 n d3) 28)))
    have HB2 := Lib.hid ((Below.refl w2.heap.size w2).alloc (Nat.le_refl _) (.cells (rkC z' D1 n d1 D2 sw d2 D3 n d3) 28))
    have O2 := Lib.hid (IRow.b (irow o2.row) HB2.out)
    have O3 := Lib.hid (IRow.b (irow o3.row) HB2.out)
    have N2 := Lib.hid (nbx0 w2 (rkC z' D1 n d1 D2 sw d2 D3 n d3) 28)
    clear hb b0 b1 b2 b3 o1 o2 o3
    obtain ⟨hs2, b0, b1, b2, b3⟩ := L2.out.cells
    have e1 := N2.out.cell 1 _ rfl
    have e2 := N2.out.cell 2 _ rfl
    have e3 := N2.out.cell 3 _ rfl
    go_wp2_with fail
    by_cases e1' : SameI s Y sw (supI (wdR X))
    · have E1 := Lib.hid e1'
      clear e1'
      refine ((BoolIs.two (spec_l1Same A2 D2 s c2 sw d2 Y (supI (wdR X)) _ hk2 hsw2 L2.out.rows.r2 O2.out)).1 E1.out).mono ?_; rintro e w3 ⟨rfl, hb⟩
      have L3 := Lib.hid (L2.out.step hb)
      have O4 := Lib.hid (O3.out.b hb)
      have N3 := Lib.hid (N2.out.b hb)
      clear hb b0 b1 b2 b3 e1 e2 e3
      obtain ⟨hs3, b0, b1, b2, b3⟩ := L3.out.cells
      have e1 := N3.out.cell 1 _ rfl
      have e2 := N3.out.cell 2 _ rfl
      have e3 := N3.out.cell 3 _ rfl
      go_wp2_with fail
      refine (spec_l1Same A3 D3 m c3 n d3 Z (blkI (wdR X)) _ hk3 hk1 L3.out.rows.r3 O4.out).mono ?_; rintro e w4 ⟨b, rfl, hbi, hb⟩
      have BI := Lib.hid hbi
      have L4 := Lib.hid (L3.out.step hb)
      clear hb hbi
      go_wp2_with fail
      go_ret
      exact ⟨b, rfl, BI.out.trans ⟨fun h2 => rankOk_same rfl HG.out (HSW.out ▸ E1.out) h2, fun h2 => Classical.byContradiction fun h3 => rankOk_not2 HG.out h3 h2⟩, L4.out.below⟩
    · have E1 := Lib.hid e1'
      clear e1'
      refine ((BoolIs.two (spec_l1Same A2 D2 s c2 sw d2 Y (supI (wdR X)) _ hk2 hsw2 L2.out.rows.r2 O2.out)).2 E1.out).mono ?_; rintro e w3 ⟨rfl, hb⟩
      have L3 := Lib.hid (L2.out.step hb)
      go_wp2_with fail
      go_ret
      exact ⟨false, rfl, by simp only [Bool.false_eq_true, false_iff]; exact rankOk_not1 rfl (HSW.out ▸ E1.out), L3.out.below⟩
  · have HG := Lib.hid hg
    clear hg
    go_enter Try.func18, Try.ntmps18
    go_wp2_with fail
    refine (biGood_no hk1 L0.out.rows.r1 HG.out).mono ?_; rintro e w1 ⟨rfl, hb⟩
    have L1 := Lib.hid (L0.out.step hb)
    go_wp2_with fail
    go_ret
    exact ⟨false, rfl, by simp only [Bool.false_eq_true, false_iff]; exact fun h => HG.out h.1, L1.out.below⟩

end
theorem rkr_of {A1 A2 A3 : Option Addr} {n s m : Nat} {X Y Z : Nat → Int} {w : World} (h : n + s + m ≤ 1048576) (g1 : GRow w A1 n (intV X)) (g2 : GRow w A2 s (intV Y)) (g3 : GRow w A3 m (intV Z)) : RkR A1 n X A2 s Y A3 m Z w :=
  ⟨by omega, by omega, by omega, irow g1, irow g2, irow g3⟩
end Go.Proofs.Ytpmedeefoaoabaa
