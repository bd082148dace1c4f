/- PackDirectory: both sides whole. -/
import Derived.Test.YtdkkflejpcgipabPackR
import Derived.Test.YtdkkflejpcgipabPackB
import Derived.Test.YtdkkflejpcgipabRankQ
namespace Go.Proofs.Ytdkkflejpcgipab
open Go.RowKit

section
variable (z : Int) (A1 : Option Addr) (n c1 : Nat) (X : Nat → Int) (A2 : Option Addr) (s c2 : Nat) (Y : Nat → Int) (A3 : Option Addr) (m c3 : Nat) (Z : Nat → Int) (w : World)
set_option maxRecDepth 100000 in
set_option maxHeartbeats 1000000 in
theorem impl_pack_no (h : RkR A1 n X A2 s Y A3 m Z w) (hk : ¬ RankOk z n X s Y m Z) :
    Calls Try.prog 62 #[.agg #[.int .i64 z, .slice A1 n c1, .slice A2 s c2, .slice A3 m c3]] w (OwnIs 0 0 (fun _ => 0) false w) := by
  have L0 := Lib.hid ((RL.start (z := z) (c1 := c1) (c2 := c2) (c3 := c3) h).step ((Below.refl _ _).alloc (Nat.le_refl _) (.cells #[.int .i64 0, .slice none 0 0] 27)))
  have N0 := nbx0 (w.alloc (.cells (rkC z A1 n c1 A2 s c2 A3 m c3) 44)) #[.int .i64 0, .slice none 0 0] 27
  simp only [World.size_alloc] at N0
  have N0 := Lib.hid N0
  have HK := Lib.hid hk
  clear h hk
  obtain ⟨hs0, b0, b1, b2, b3⟩ := L0.out.cells
  by_cases hz : 0 ≤ z ∧ z ≤ 4096
  · obtain ⟨zi0, zi1⟩ := hz
    generalize hdz : dirZ z = dz
    have HDZ := Lib.hid hdz
    clear hdz
    go_enter Try.func62, Try.ntmps62
    go_wp2_with fail
    refine (impl_dirBits_yes z _ zi0 zi1).mono ?_; rintro e w1 ⟨rfl, hb⟩
    rw [HDZ.out]
    have L1 := Lib.hid (L0.out.step hb)
    have N1 := Lib.hid (N0.out.b hb)
    clear hb b0 b1 b2 b3 L0 N0
    obtain ⟨hs1, b0, b1, b2, b3⟩ := L1.out.cells
    go_wp2_with fail
    refine ((BoolIs.two (impl_isRanked z A1 n c1 X A2 s c2 Y A3 m c3 Z _ L1.out.rows)).2 HK.out).mono ?_; rintro e w2 ⟨rfl, hb⟩
    have L2 := Lib.hid (L1.out.step hb)
    have N2 := Lib.hid (N1.out.b hb)
    clear hb b0 b1 b2 b3 L1 N1
    have e0 := N2.out.cell 0 _ rfl
    have e1 := N2.out.cell 1 _ rfl
    have g0 := N2.out.free 0
    have g1 := N2.out.free 1
    go_wp2_with fail
    refine bodyPost_ret (v := .tuple #[.agg #[.int .i64 0, .slice none 0 0], .bool false]) (by simp [results, Try.results62, go_sem, e0, e1]) rfl ?_
    exact ⟨none, 0, rfl, .inl ⟨rfl, rfl⟩, by first | exact L2.out.below | exact below_setAt (below_setAt L2.out.below (by omega) _) (by omega) _⟩
  · have e0 := N0.out.cell 0 _ rfl
    have e1 := N0.out.cell 1 _ rfl
    have g0 := N0.out.free 0
    have g1 := N0.out.free 1
    go_enter Try.func62, Try.ntmps62
    go_wp2_with fail
    refine (impl_dirBits_no z _ hz).mono ?_; rintro e w1 ⟨rfl, hb⟩
    have L1 := Lib.hid (L0.out.step hb)
    have N1 := Lib.hid (N0.out.b hb)
    clear hb b0 b1 b2 b3 e0 e1 g0 g1
    have e0 := N1.out.cell 0 _ rfl
    have e1 := N1.out.cell 1 _ rfl
    have g0 := N1.out.free 0
    have g1 := N1.out.free 1
    go_wp2_with fail
    refine bodyPost_ret (v := .tuple #[.agg #[.int .i64 0, .slice none 0 0], .bool false]) (by simp [results, Try.results62, go_sem, e0, e1]) rfl ?_
    exact ⟨none, 0, rfl, .inl ⟨rfl, rfl⟩, by first | exact L1.out.below | exact below_setAt (below_setAt L1.out.below (by omega) _) (by omega) _⟩

end
end Go.Proofs.Ytdkkflejpcgipab
