/- Directories: the laws' test whether two are the same; vectors that a law draws. -/
import Derived.Test.YtpmedeefoaoabaaVecGen
import Derived.Test.YtpmedeefoaoabaaRankL
namespace Go.Proofs.Ytpmedeefoaoabaa
open Go.RowKit

set_option maxHeartbeats 400000 in
theorem pSameR_yes {z : Int} {A1 A2 A3 B1 B2 B3 : Option Addr} {n c1 s c2 m c3 d1 d2 d3 : Nat} {X Y Z : Nat → Int} {w : World} (h1 : RkR A1 n X A2 s Y A3 m Z w) (h2 : RkR B1 n X B2 s Y B3 m Z w) :
    Calls Try.prog 11 #[.agg #[.int .i64 z, .slice A1 n c1, .slice A2 s c2, .slice A3 m c3], .agg #[.int .i64 z, .slice B1 n d1, .slice B2 s d2, .slice B3 m d3]] w (SameRow w true) := by
  have hB := ((Below.refl w.heap.size w).alloc (Nat.le_refl _) (.cells (rkC z A1 n c1 A2 s c2 A3 m c3) 28)).alloc (by simp) (.cells (rkC z B1 n d1 B2 s d2 B3 m d3) 28)
  have H1 := Lib.hid (h1.b hB)
  have H2 := Lib.hid (h2.b hB)
  have N1 := Lib.hid ((nbx0 w (rkC z A1 n c1 A2 s c2 A3 m c3) 28).b ((Below.refl _ _).alloc (Nat.le_refl _) (.cells (rkC z B1 n d1 B2 s d2 B3 m d3) 28)))
  have k2 := nbx0 (w.alloc (.cells (rkC z A1 n c1 A2 s c2 A3 m c3) 28)) (rkC z B1 n d1 B2 s d2 B3 m d3) 28
  simp only [World.size_alloc] at k2
  have N2 := Lib.hid k2
  have HB := Lib.hid hB
  clear h1 h2 hB k2
  have b0 := N1.out.cell 0 _ rfl
  have b1 := N1.out.cell 1 _ rfl
  have b2 := N1.out.cell 2 _ rfl
  have b3 := N1.out.cell 3 _ rfl
  have e0 := N2.out.cell 0 _ rfl
  have e1 := N2.out.cell 1 _ rfl
  have e2 := N2.out.cell 2 _ rfl
  have e3 := N2.out.cell 3 _ rfl
  go_enter Try.func11, Try.ntmps11
  go_wp2_with fail
  refine (pSame_yes H1.out.n1 (grow_of H1.out.r1) (grow_of H2.out.r1)).mono ?_; rintro e w1 ⟨rfl, hb⟩
  have P1 := Lib.hid (H1.out.b hb)
  have P2 := Lib.hid (H2.out.b hb)
  have M1 := Lib.hid (N1.out.b hb)
  have M2 := Lib.hid (N2.out.b hb)
  have B1 := Lib.hid (HB.out.trans (hb.mono HB.out.size))
  clear hb b0 b1 b2 b3 e0 e1 e2 e3
  have b2 := M1.out.cell 2 _ rfl
  have b3 := M1.out.cell 3 _ rfl
  have e2 := M2.out.cell 2 _ rfl
  have e3 := M2.out.cell 3 _ rfl
  go_wp2_with fail
  refine (pSameInts_yes P1.out.n2 (grow_of P1.out.r2) (grow_of P2.out.r2)).mono ?_; rintro e w2 ⟨rfl, hb⟩
  have Q1 := Lib.hid (P1.out.b hb)
  have Q2 := Lib.hid (P2.out.b hb)
  have K1 := Lib.hid (M1.out.b hb)
  have K2 := Lib.hid (M2.out.b hb)
  have C1 := Lib.hid (B1.out.trans (hb.mono B1.out.size))
  clear hb b2 b3 e2 e3
  have b3 := K1.out.cell 3 _ rfl
  have e3 := K2.out.cell 3 _ rfl
  go_wp2_with fail
  refine (pSameInts_yes Q1.out.n3 (grow_of Q1.out.r3) (grow_of Q2.out.r3)).mono ?_; rintro e w3 ⟨rfl, hb⟩
  have D1 := Lib.hid (C1.out.trans (hb.mono C1.out.size))
  go_wp2_with fail
  go_ret
  exact ⟨rfl, D1.out⟩

end Go.Proofs.Ytpmedeefoaoabaa
