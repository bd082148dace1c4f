/- Several texts in one: EqB, PackC, ObjRank, BuildR, UnpackR, PutB, PackCalls, GenU, DirectoriesArePackedWalk. -/
import Derived.Test.YtpmedeefoaoabaaSameI
import Derived.Test.YtpmedeefoaoabaaPackR
import Derived.Test.YtpmedeefoaoabaaPackB
import Derived.Test.YtpmedeefoaoabaaRankQ
import Derived.Test.YtpmedeefoaoabaaObjTch
import Derived.Test.YtpmedeefoaoabaaRankG
import Derived.Test.YtpmedeefoaoabaaGrow
import Derived.Deep.DeepCutAuto
import Derived.Deep.RegionHeld3
import Derived.Test.YtpmedeefoaoabaaPutF
import Derived.Test.YtpmedeefoaoabaaGenD

/- Two bit vectors compared, the program's way. -/
namespace Go.Proofs.Ytpmedeefoaoabaa
open Go.RowKit

set_option maxRecDepth 100000 in
set_option maxHeartbeats 1000000 in
theorem eqBits_impl (z y : Int) (A B : Option Addr) (n c m d : Nat) (X Y : Nat → Int) (w : World) (hn : n ≤ 1048576) (hm : m ≤ 1048576) (hx : IRow w A n X) (hy : IRow w B m Y) :
    Calls Try.prog 24 #[.agg #[.int .i64 z, .slice A n c], .agg #[.int .i64 y, .slice B m d]] w (BoolIs (z = y ∧ SameI n X m Y) w) := by
  have HB := Lib.hid (((Below.refl w.heap.size w).alloc (Nat.le_refl _) (.cells #[.int .i64 z, .slice A n c] 26)).alloc (by simp) (.cells #[.int .i64 y, .slice B m d] 26))
  have HX := Lib.hid (hx.b HB.out)
  have HY := Lib.hid (hy.b HB.out)
  clear hx hy
  by_cases e : z = y
  · have d1 : (z == y) = true := by simpa using e
    have HE := Lib.hid e
    clear e
    go_enter Try.func24, Try.ntmps24
    go_wp2_with fail
    refine (slices_equal A B n c m d X Y _ hn hm HX.out HY.out).mono ?_; rintro e w1 ⟨b, rfl, hb, hbl⟩
    have HS := Lib.hid hb
    have HL := Lib.hid (HB.out.trans (hbl.mono (by simp; omega)))
    clear hb hbl
    go_wp2_with fail
    go_ret
    exact ⟨b, rfl, by rw [HS.out]; exact ⟨fun h => ⟨HE.out, h⟩, fun h => h.2⟩, HL.out⟩
  · have d1 : (z == y) = false := by simpa using e
    have HE := Lib.hid e
    clear e
    go_enter Try.func24, Try.ntmps24
    go_wp2_with fail
    go_ret
    exact ⟨false, rfl, by simp only [Bool.false_eq_true, false_iff]; exact fun h => HE.out h.1, HB.out⟩
end Go.Proofs.Ytpmedeefoaoabaa

/- PackDirectory: both sides whole. -/
namespace Go.Proofs.Ytpmedeefoaoabaa
open Go.RowKit

section
variable (z : Int) (A1 : Option Addr) (n c1 : Nat) (X : Nat → Int) (A2 : Option Addr) (s c2 : Nat) (Y : Nat → Int) (A3 : Option Addr) (m c3 : Nat) (Z : Nat → Int) (w : World)
set_option maxRecDepth 100000 in
set_option maxHeartbeats 1000000 in
theorem impl_pack_no (h : RkR A1 n X A2 s Y A3 m Z w) (hk : ¬ RankOk z n X s Y m Z) :
    Calls Try.prog 6 #[.agg #[.int .i64 z, .slice A1 n c1, .slice A2 s c2, .slice A3 m c3]] w (OwnIs 0 0 (fun _ => 0) false w) := by
  have L0 := Lib.hid ((RL.start (z := z) (c1 := c1) (c2 := c2) (c3 := c3) h).step ((Below.refl _ _).alloc (Nat.le_refl _) (.cells #[.int .i64 0, .slice none 0 0] 26)))
  have N0 := nbx0 (w.alloc (.cells (rkC z A1 n c1 A2 s c2 A3 m c3) 28)) #[.int .i64 0, .slice none 0 0] 26
  simp only [World.size_alloc] at N0
  have N0 := Lib.hid N0
  have HK := Lib.hid hk
  clear h hk
  obtain ⟨hs0, b0, b1, b2, b3⟩ := L0.out.cells
  by_cases hz : 0 ≤ z ∧ z ≤ 4096
  · obtain ⟨zi0, zi1⟩ := hz
    generalize hdz : dirZ z = dz
    have HDZ := Lib.hid hdz
    clear hdz
    go_enter Try.func6, Try.ntmps6
    go_wp2_with fail
    refine (impl_dirBits_yes z _ zi0 zi1).mono ?_; rintro e w1 ⟨rfl, hb⟩
    rw [HDZ.out]
    have L1 := Lib.hid (L0.out.step hb)
    have N1 := Lib.hid (N0.out.b hb)
    clear hb b0 b1 b2 b3 L0 N0
    obtain ⟨hs1, b0, b1, b2, b3⟩ := L1.out.cells
    go_wp2_with fail
    refine ((BoolIs.two (impl_isRanked z A1 n c1 X A2 s c2 Y A3 m c3 Z _ L1.out.rows)).2 HK.out).mono ?_; rintro e w2 ⟨rfl, hb⟩
    have L2 := Lib.hid (L1.out.step hb)
    have N2 := Lib.hid (N1.out.b hb)
    clear hb b0 b1 b2 b3 L1 N1
    have e0 := N2.out.cell 0 _ rfl
    have e1 := N2.out.cell 1 _ rfl
    have g0 := N2.out.free 0
    have g1 := N2.out.free 1
    go_wp2_with fail
    refine bodyPost_ret (v := .tuple #[.agg #[.int .i64 0, .slice none 0 0], .bool false]) (by simp [results, Try.results6, go_sem, e0, e1]) rfl ?_
    exact ⟨none, 0, rfl, .inl ⟨rfl, rfl⟩, by first | exact L2.out.below | exact below_setAt (below_setAt L2.out.below (by omega) _) (by omega) _⟩
  · have e0 := N0.out.cell 0 _ rfl
    have e1 := N0.out.cell 1 _ rfl
    have g0 := N0.out.free 0
    have g1 := N0.out.free 1
    go_enter Try.func6, Try.ntmps6
    go_wp2_with fail
    refine (impl_dirBits_no z _ hz).mono ?_; rintro e w1 ⟨rfl, hb⟩
    have L1 := Lib.hid (L0.out.step hb)
    have N1 := Lib.hid (N0.out.b hb)
    clear hb b0 b1 b2 b3 e0 e1 g0 g1
    have e0 := N1.out.cell 0 _ rfl
    have e1 := N1.out.cell 1 _ rfl
    have g0 := N1.out.free 0
    have g1 := N1.out.free 1
    go_wp2_with fail
    refine bodyPost_ret (v := .tuple #[.agg #[.int .i64 0, .slice none 0 0], .bool false]) (by simp [results, Try.results6, go_sem, e0, e1]) rfl ?_
    exact ⟨none, 0, rfl, .inl ⟨rfl, rfl⟩, by first | exact L1.out.below | exact below_setAt (below_setAt L1.out.below (by omega) _) (by omega) _⟩

set_option maxRecDepth 100000 in
set_option maxHeartbeats 1000000 in
theorem spec_pack_no (h : RkR A1 n X A2 s Y A3 m Z w) (hk : ¬ RankOk z n X s Y m Z) :
    Calls Try.prog 7 #[.agg #[.int .i64 z, .slice A1 n c1, .slice A2 s c2, .slice A3 m c3]] w (OwnIs 0 0 (fun _ => 0) false w) := by
  have L0 := Lib.hid ((RL.start (z := z) (c1 := c1) (c2 := c2) (c3 := c3) h).step ((Below.refl _ _).alloc (Nat.le_refl _) (.cells #[.int .i64 0, .slice none 0 0] 26)))
  have N0 := nbx0 (w.alloc (.cells (rkC z A1 n c1 A2 s c2 A3 m c3) 28)) #[.int .i64 0, .slice none 0 0] 26
  simp only [World.size_alloc] at N0
  have N0 := Lib.hid N0
  have HK := Lib.hid hk
  clear h hk
  obtain ⟨hs0, b0, b1, b2, b3⟩ := L0.out.cells
  go_enter Try.func7, Try.ntmps7
  go_wp2_with fail
  refine ((BoolIs.two (spec_raGood z A1 n c1 X A2 s c2 Y A3 m c3 Z _ L0.out.rows)).2 HK.out).mono ?_; rintro e w1 ⟨rfl, hb⟩
  have L1 := Lib.hid (L0.out.step hb)
  have N1 := Lib.hid (N0.out.b hb)
  clear hb b0 b1 b2 b3 L0 N0
  have e0 := N1.out.cell 0 _ rfl
  have e1 := N1.out.cell 1 _ rfl
  have g0 := N1.out.free 0
  have g1 := N1.out.free 1
  go_wp2_with fail
  refine bodyPost_ret (v := .tuple #[.agg #[.int .i64 0, .slice none 0 0], .bool false]) (by simp [results, Try.results7, go_sem, e0, e1]) rfl ?_
  exact ⟨none, 0, rfl, .inl ⟨rfl, rfl⟩, by first | exact L1.out.below | exact below_setAt (below_setAt L1.out.below (by omega) _) (by omega) _⟩

set_option maxRecDepth 100000 in
set_option maxHeartbeats 1000000 in
theorem spec_pack_yes (z' D M : Nat) (h : RkR A1 n X A2 s Y A3 m Z w) (hk : RankOk z' n X s Y m Z) (hD : D = 13 * s + 6 * m) (hM : M = (D + 15) / 16) :
    Calls Try.prog 7 #[.agg #[.int .i64 z', .slice A1 n c1, .slice A2 s c2, .slice A3 m c3]] w (OwnIs D M (packX (wdR X) s m) true w) := by
  have L0 := Lib.hid ((RL.start (z := z') (c1 := c1) (c2 := c2) (c3 := c3) h).step ((Below.refl _ _).alloc (Nat.le_refl _) (.cells #[.int .i64 0, .slice none 0 0] 26)))
  have N0 := nbx0 (w.alloc (.cells (rkC z' A1 n c1 A2 s c2 A3 m c3) 28)) #[.int .i64 0, .slice none 0 0] 26
  simp only [World.size_alloc] at N0
  have N0 := Lib.hid N0
  have HK := Lib.hid hk
  have HD := Lib.hid hD
  have HM := Lib.hid hM
  clear h hk hD hM
  obtain ⟨hs0, b0, b1, b2, b3⟩ := L0.out.cells
  go_enter Try.func7, Try.ntmps7
  go_wp2_with fail
  refine ((BoolIs.two (spec_raGood (z' : Int) A1 n c1 X A2 s c2 Y A3 m c3 Z _ L0.out.rows)).1 HK.out).mono ?_; rintro e w1 ⟨rfl, hb⟩
  have L1 := Lib.hid (L0.out.step hb)
  have N1 := Lib.hid (N0.out.b hb)
  clear hb b0 b1 b2 b3 L0 N0
  obtain ⟨hs1, b0, b1, b2, b3⟩ := L1.out.cells
  go_wp2_with fail
  refine (spec_raPack z' D M A1 n c1 X A2 s c2 Y A3 m c3 Z _ L1.out.rows HK.out HD.out HM.out).mono ?_; rintro e w2 ⟨g, rfl, hg, ho, hb⟩
  have L2 := Lib.hid (L1.out.step hb)
  have N2 := Lib.hid (N1.out.b hb)
  have O2 := Lib.hid ho
  have hsz := N1.out.lt
  clear hb ho b0 b1 b2 b3 L1
  have e0 := N2.out.cell 0 _ rfl
  have e1 := N2.out.cell 1 _ rfl
  have g0 := N2.out.free 0
  have g1 := N2.out.free 1
  go_wp2_with fail
  have N7 := Lib.hid ((N2.out.set 0 (.int .i64 D)).set 1 (.slice (some ⟨g, 0, none⟩) M M))
  have r0 := N7.out.cell 0 (.int .i64 D) (by simp)
  have r1 := N7.out.cell 1 (.slice (some ⟨g, 0, none⟩) M M) (by simp)
  refine bodyPost_ret (v := .tuple #[.agg #[.int .i64 D, .slice (some ⟨g, 0, none⟩) M M], .bool true]) (by simp [results, Try.results7, go_sem, r0, r1]) rfl ?_
  exact ⟨some ⟨g, 0, none⟩, M, rfl, .inr ⟨g, rfl, by omega, (O2.out.setAt (by omega) _).setAt (by omega) _⟩, below_setAt (below_setAt L2.out.below (by omega) _) (by omega) _⟩
end
end Go.Proofs.Ytpmedeefoaoabaa

/- The laws' small functions on Ranked. -/
namespace Go.Proofs.Ytpmedeefoaoabaa
open Go.RowKit

end Go.Proofs.Ytpmedeefoaoabaa

/- BuildRanked: both sides. -/
namespace Go.Proofs.Ytpmedeefoaoabaa
open Go.RowKit

/-- A Ranked of the call's own and whether there is one. -/
def RkOwn (z : Int) (n : Nat) (X : Nat → Int) (s : Nat) (Y : Nat → Int) (m : Nat) (Z : Nat → Int) (b : Bool) (w : World) (e : Ending) (w' : World) : Prop :=
  ∃ A1 c1 A2 c2 A3 c3, e = .returned (.tuple #[.agg #[.int .i64 z, .slice A1 n c1, .slice A2 s c2, .slice A3 m c3], .bool b]) ∧ Ow w.heap.size w'.heap.size 3 A1 n (intV X) w' ∧ Ow w.heap.size w'.heap.size 3 A2 s (intV Y) w' ∧ Ow w.heap.size w'.heap.size 3 A3 m (intV Z) w' ∧ Apart n A1 s A2 ∧ Apart n A1 m A3 ∧ Apart s A2 m A3 ∧ Below w.heap.size w w'
def RkVec (z : Int) (n : Nat) (X : Nat → Int) (s : Nat) (Y : Nat → Int) (m : Nat) (Z : Nat → Int) (b : Bool) (w : World) (e : Ending) (w' : World) : Prop :=
  ∃ A1 c1 A2 c2 A3 c3, e = .returned (.tuple #[.agg #[.int .i64 z, .slice A1 n c1, .slice A2 s c2, .slice A3 m c3], .bool b]) ∧ Ow w.heap.size w'.heap.size 3 A1 n (intV X) w' ∧ Ow w.heap.size w'.heap.size 3 A2 s (intV Y) w' ∧ Ow w.heap.size w'.heap.size 3 A3 m (intV Z) w' ∧ Below w.heap.size w w'
theorem ow_of_gvec {w : World} {B n : Nat} {t : TypeId} {A : Option Addr} {F : Nat → Value} (h : GVec w B t A n F) : Ow B w.heap.size t A n F w := by
  rcases h with h | ⟨g, rfl, hg, ho⟩
  · subst h; exact ow_zero _ _ _ _ _ _
  · exact ow_of_own ho hg (Nat.le_refl _)
theorem ow_of_orow {w : World} {B g n : Nat} {X : Nat → Int} (h : ORow w g n X) (hg : B ≤ g) : Ow B w.heap.size 3 (some ⟨g, 0, none⟩) n (intV X) w := ow_of_own (F := intV X) h hg (Nat.le_refl _)
theorem apart_rows {n m g h : Nat} (hne : g ≠ h) : Apart n (some ⟨g, 0, none⟩) m (some ⟨h, 0, none⟩) := fun _ _ b o c p h1 h2 => by
  injection h1 with h1; injection h2 with h2; injection h1 with h1; injection h2 with h2; omega
theorem apart_ovec {w : World} {n m B h : Nat} {A : Option Addr} {X : Nat → Int} (hv : OVec w B A n X) (hlt : h < B) : Apart n A m (some ⟨h, 0, none⟩) := by
  rcases hv with ⟨h0, _⟩ | ⟨g, rfl, hg, _⟩
  · exact fun h1 => absurd h1 (by omega)
  · exact apart_rows (by omega)

set_option maxRecDepth 100000 in
set_option maxHeartbeats 4000000 in
theorem impl_build_yes (z s : Nat) (A : Option Addr) (n c : Nat) (X : Nat → Int) (w : World) (hn : n ≤ 1048576) (hr : IRow w A n X) (hg : Good z n X) (hs : s = (z + 63) / 64) :
    Calls Try.prog 23 #[.agg #[.int .i64 z, .slice A n c]] w (RkOwn z n X s (supI (wdR X)) n (blkI (wdR X)) true w) := by
  have L0 := Lib.hid ((LS.start (z := (z : Int)) (c := c) hr 26).step ((Below.refl _ _).alloc (Nat.le_refl _) (.cells #[.int .i64 0, .slice none 0 0, .slice none 0 0, .slice none 0 0] 28)))
  have nr := nbx0 (w.alloc (.cells #[.int .i64 z, .slice A n c] 26)) #[.int .i64 0, .slice none 0 0, .slice none 0 0, .slice none 0 0] 28
  simp only [World.size_alloc] at nr
  have NR := Lib.hid nr
  have HG := Lib.hid hg
  have HS := Lib.hid hs
  have hz1 : z ≤ 4096 := by have := hg.2.1; omega
  have HNZ := Lib.hid (show n = (z + 15) / 16 by have := hg.2.2.1; omega)
  clear hr hg hs nr
  obtain ⟨hs0, b0, b1⟩ := L0.out.box
  go_enter Try.func23, Try.ntmps23
  go_wp2_with fail
  refine (isBits_yes hn L0.out.row HG.out).mono ?_; rintro e w1 ⟨rfl, hb⟩
  have L1 := Lib.hid (L0.out.step hb)
  have NR1 := Lib.hid (NR.out.b hb)
  have hs1' := hb.size
  simp only [World.size_alloc] at hs1'
  clear hb L0 NR b0 b1
  obtain ⟨hs1, b0, b1⟩ := L1.out.box
  go_wp2_with fail
  refine (impl_directoryOf z s A n c X _ hn L1.out.row HG.out HS.out).mono ?_; rintro e w2 ⟨g, h, rfl, hg1, hh1, hgh, o1, o2, hb⟩
  have L2 := Lib.hid (L1.out.step hb)
  have NR2 := Lib.hid (NR1.out.b hb)
  have O1 := Lib.hid o1
  have O2 := Lib.hid o2
  have hs2' := hb.size
  have hgl := o1.lt
  have hhl := o2.lt
  clear hb b0 b1 o1 o2 L1 NR1
  obtain ⟨hs2, b0, b1⟩ := L2.out.box
  go_upto_region 4 with fail
  have hcur : w2.heap.size ≤ w2.heap.size := Nat.le_refl _
  have HKB : ∀ w', Below w2.heap.size w2 w' → w'.cell? ⟨w.heap.size, 0, none⟩ = some (.int .i64 z) ∧ w'.cell? ⟨w.heap.size, 1, none⟩ = some (.slice A n c) := fun w' hb => (L2.out.step hb).box.2
  have HK := Lib.hid HKB
  have LD := Lib.hid (L2.out.step (Below.drew (Below.refl _ _)))
  clear HKB
  go_cut [6] (fun s6 wx => ∃ (q : Nat) (A' : Option Addr), s6 = .pointer (some ⟨q, 0, none⟩) ∧ w2.heap.size ≤ q ∧ At q (q + 1) (BoxC q [.int .i64 z, .slice A' n n]) wx ∧ OVec wx w2.heap.size A' n X ∧ Below w2.heap.size w2 wx)
  case first =>
    go_region_held3 (fun w' => w'.cell? ⟨w.heap.size, 0, none⟩ = some (.int .i64 z) ∧ w'.cell? ⟨w.heap.size, 1, none⟩ = some (.slice A n c))
      (first | (go_keep; done) | exact HK.out _ (below_setAt (below_setAt hq1 NB.ge _) NB.ge _) | exact HK.out _ (hq1.alloc hq1.size _) | exact HK.out _ hq1 | exact HK.out _ ((Below.refl _ _).alloc (Nat.le_refl _) _))
      (first
        | (go_at_call 16; (first | refine (growWords_any z n A n c X _ hz1 HNZ.out (Nat.le_refl _) L2.out.row).mono ?_ | refine (growWords_any z n A n c X _ hz1 HNZ.out (Nat.le_refl _) LD.out.row).mono ?_ | refine (growWords_any z n A n c X _ hz1 HNZ.out (Nat.le_refl _) (L2.out.row.al _)).mono ?_ | refine (growWords_any z n A n c X _ hz1 HNZ.out (Nat.le_refl _) (GRow.alD (grow_of L2.out.row) _)).mono ?_); rintro e w4 ⟨A', rfl, ho, hb'⟩; have hb := of_drew hb'; clear hb'; have ho2 := OVec.congr ho (Y := X) (fun i hi => by simp only [hi, if_true]); (first | (have hq1 : Below w2.heap.size w2 w4 := hb) | (have hq1 : Below w2.heap.size w2 w4 := below_al hb)); (first | (have NB := NBX.new hcur hb; have dd0 := NB.cell 0 _ rfl; have ff0 := NB.free 0; have dd1 := NB.cell 1 _ rfl; have ff1 := NB.free 1) | skip); clear hb ho))
    all_goals go_wp2_with fail
    all_goals go_meet
    all_goals first
      | exact ⟨_, _, rfl, NB.ge, ((NB.set 0 _).set 1 _).box, ((ho2.setAt (by simp) _).setAt (by simp) _).low (by simp), below_setAt (below_setAt hq1 NB.ge _) NB.ge _⟩
      | exact ⟨_, _, rfl, hq1.size, boxed _ _ _, (ho2.b ((Below.refl _ _).alloc (Nat.le_refl _) _)).low (by simp), hq1.alloc hq1.size _⟩
  case rest =>
  obtain ⟨q, A', rfl, hq, hbx, hov, hbl⟩ := hcut
  have NR3 := Lib.hid (NR2.out.b hbl)
  have L3 := Lib.hid (L2.out.step hbl)
  have R1 := Lib.hid (O1.out.b hbl)
  have R2 := Lib.hid (O2.out.b hbl)
  have OV := Lib.hid hov
  have d0 := hbx.now 0 _ rfl
  have d1 := hbx.now 1 _ rfl
  have e0 := NR3.out.cell 0 _ rfl
  have e1 := NR3.out.cell 1 _ rfl
  have e2 := NR3.out.cell 2 _ rfl
  have e3 := NR3.out.cell 3 _ rfl
  have g0 := NR3.out.free 0
  have g1 := NR3.out.free 1
  have g2 := NR3.out.free 2
  have g3 := NR3.out.free 3
  have hsz3 := hbl.size
  have hap1 := apart_ovec (m := s) hov hgl
  have hap2 := apart_ovec (m := n) hov hhl
  have AP := Lib.hid (And.intro hap1 hap2)
  clear hov hbl hbx HK hap1 hap2
  go_wp2_with fail
  have N4 := Lib.hid ((((NR3.out.set 0 (.int .i64 z)).set 1 (.slice A' n n)).set 2 (.slice (some ⟨g, 0, none⟩) s s)).set 3 (.slice (some ⟨h, 0, none⟩) n n))
  have r0 := N4.out.cell 0 (.int .i64 z) (by simp)
  have r1 := N4.out.cell 1 (.slice A' n n) (by simp)
  have r2 := N4.out.cell 2 (.slice (some ⟨g, 0, none⟩) s s) (by simp)
  have r3 := N4.out.cell 3 (.slice (some ⟨h, 0, none⟩) n n) (by simp)
  refine bodyPost_ret (v := .tuple #[.agg #[.int .i64 z, .slice A' n n, .slice (some ⟨g, 0, none⟩) s s, .slice (some ⟨h, 0, none⟩) n n], .bool true]) (by simp [results, Try.results23, go_sem, r0, r1, r2, r3]) rfl ?_
  have hbf := below_setAt (below_setAt (below_setAt (below_setAt L3.out.below (b := w.heap.size + 1) (o := 0) (by omega) (.int .i64 z)) (b := w.heap.size + 1) (o := 1) (by omega) (.slice A' n n)) (b := w.heap.size + 1) (o := 2) (by omega) (.slice (some ⟨g, 0, none⟩) s s)) (b := w.heap.size + 1) (o := 3) (by omega) (.slice (some ⟨h, 0, none⟩) n n)
  refine ⟨A', n, _, s, _, n, rfl, ?_, ?_, ?_, AP.out.1, AP.out.2, apart_rows hgh, hbf⟩
  · exact ow_of_vec (((((OV.out.setAt (by omega) _).setAt (by omega) _).setAt (by omega) _).setAt (by omega) _).low (by omega))
  · exact ow_of_orow ((((R1.out.setAt (by omega) _).setAt (by omega) _).setAt (by omega) _).setAt (by omega) _) (by omega)
  · exact ow_of_orow ((((R2.out.setAt (by omega) _).setAt (by omega) _).setAt (by omega) _).setAt (by omega) _) (by omega)

set_option maxRecDepth 100000 in
set_option maxHeartbeats 1000000 in
theorem impl_build_no (z : Int) (A : Option Addr) (n c : Nat) (X : Nat → Int) (w : World) (hn : n ≤ 1048576) (hr : IRow w A n X) (hg : ¬ Good z n X) :
    Calls Try.prog 23 #[.agg #[.int .i64 z, .slice A n c]] w (RkOwn 0 0 (fun _ => 0) 0 (fun _ => 0) 0 (fun _ => 0) false w) := by
  have L0 := Lib.hid ((LS.start (z := z) (c := c) hr 26).step ((Below.refl _ _).alloc (Nat.le_refl _) (.cells #[.int .i64 0, .slice none 0 0, .slice none 0 0, .slice none 0 0] 28)))
  have nr := nbx0 (w.alloc (.cells #[.int .i64 z, .slice A n c] 26)) #[.int .i64 0, .slice none 0 0, .slice none 0 0, .slice none 0 0] 28
  simp only [World.size_alloc] at nr
  have NR := Lib.hid nr
  have HG := Lib.hid hg
  clear hr hg nr
  obtain ⟨hs0, b0, b1⟩ := L0.out.box
  go_enter Try.func23, Try.ntmps23
  go_wp2_with fail
  refine (isBits_no hn L0.out.row HG.out).mono ?_; rintro e w1 ⟨rfl, hb⟩
  have L1 := Lib.hid (L0.out.step hb)
  have NR1 := Lib.hid (NR.out.b hb)
  clear hb b0 b1 L0 NR
  have e0 := NR1.out.cell 0 _ rfl
  have e1 := NR1.out.cell 1 _ rfl
  have e2 := NR1.out.cell 2 _ rfl
  have e3 := NR1.out.cell 3 _ rfl
  have g0 := NR1.out.free 0
  have g1 := NR1.out.free 1
  have g2 := NR1.out.free 2
  have g3 := NR1.out.free 3
  go_wp2_with fail
  refine bodyPost_ret (v := .tuple #[.agg #[.int .i64 0, .slice none 0 0, .slice none 0 0, .slice none 0 0], .bool false]) (by simp [results, Try.results23, go_sem, e0, e1, e2, e3]) rfl ?_
  refine ⟨none, 0, none, 0, none, 0, rfl, ow_zero _ _ _ _ _ _, ow_zero _ _ _ _ _ _, ow_zero _ _ _ _ _ _, fun h => absurd h (by omega), fun h => absurd h (by omega), fun h => absurd h (by omega), ?_⟩
  first | exact L1.out.below | exact below_setAt (below_setAt (below_setAt (below_setAt L1.out.below (by omega) _) (by omega) _) (by omega) _) (by omega) _

theorem RkVec.post {z : Int} {n s m : Nat} {X Y Z : Nat → Int} {b : Bool} {w : World} (e : Ending) (w' : World) (h : RkVec z n X s Y m Z b w e w') :
    ∃ A1 c1 A2 c2 A3 c3, e = .returned (.tuple #[.agg #[.int .i64 z, .slice A1 n c1, .slice A2 s c2, .slice A3 m c3], .bool b]) ∧ GRow w' A1 n (intV X) ∧ GRow w' A2 s (intV Y) ∧ GRow w' A3 m (intV Z) ∧ Below w.heap.size w w' := by
  obtain ⟨A1, c1, A2, c2, A3, c3, he, h1, h2, h3, hb⟩ := h
  exact ⟨A1, c1, A2, c2, A3, c3, he, h1.rd.row (Nat.le_refl _), h2.rd.row (Nat.le_refl _), h3.rd.row (Nat.le_refl _), hb⟩
end Go.Proofs.Ytpmedeefoaoabaa

/- UnpackDirectory: both sides. -/
namespace Go.Proofs.Ytpmedeefoaoabaa
open Go.RowKit

/-- Two boxed vectors and the box of the answer, a Ranked. -/
structure TU (w : World) (z : Int) (A : Option Addr) (n c : Nat) (X : Nat → Int) (y : Int) (B : Option Addr) (m d : Nat) (Y : Nat → Int) (wi : World) : Prop where
  below : Below w.heap.size w wi
  row0 : IRow wi A n X
  row1 : IRow wi B m Y
  box1 : NBX w.heap.size w.heap.size #[.int .i64 z, .slice A n c] 26 wi
  box2 : NBX (w.heap.size + 1) (w.heap.size + 1) #[.int .i64 y, .slice B m d] 26 wi
  res : NBX (w.heap.size + 2) (w.heap.size + 2) (rkC 0 none 0 0 none 0 0 none 0 0) 28 wi
section
variable {w wi wj : World} {z y : Int} {A B : Option Addr} {n c m d : Nat} {X Y : Nat → Int}
theorem TU.step (h : TU w z A n c X y B m d Y wi) (hb : Below wi.heap.size wi wj) : TU w z A n c X y B m d Y wj :=
  ⟨h.below.trans (hb.mono h.below.size), h.row0.b hb, h.row1.b hb, h.box1.b hb, h.box2.b hb, h.res.b hb⟩
theorem TU.al (h : TU w z A n c X y B m d Y wi) (o : Obj) : TU w z A n c X y B m d Y (wi.alloc o) := h.step ((Below.refl _ _).alloc (Nat.le_refl _) o)
theorem TU.start (h1 : IRow w A n X) (h2 : IRow w B m Y) : TU w z A n c X y B m d Y (((w.alloc (.cells #[.int .i64 z, .slice A n c] 26)).alloc (.cells #[.int .i64 y, .slice B m d] 26)).alloc (.cells (rkC 0 none 0 0 none 0 0 none 0 0) 28)) := by
  have e1 : (w.alloc (.cells #[.int .i64 z, .slice A n c] 26)).heap.size = w.heap.size + 1 := by simp
  have e2 : ((w.alloc (.cells #[.int .i64 z, .slice A n c] 26)).alloc (.cells #[.int .i64 y, .slice B m d] 26)).heap.size = w.heap.size + 2 := by simp
  have k1 := nbx0 (w.alloc (.cells #[.int .i64 z, .slice A n c] 26)) #[.int .i64 y, .slice B m d] 26
  have k2 := nbx0 ((w.alloc (.cells #[.int .i64 z, .slice A n c] 26)).alloc (.cells #[.int .i64 y, .slice B m d] 26)) (rkC 0 none 0 0 none 0 0 none 0 0) 28
  rw [e1] at k1
  rw [e2] at k2
  have b1 : ∀ (u : World) (o : Obj), Below u.heap.size u (u.alloc o) := fun u o => (Below.refl _ _).alloc (Nat.le_refl _) o
  exact ⟨((b1 _ _).trans ((b1 _ _).mono (by simp))).trans ((b1 _ _).mono (by simp; omega)), ((h1.b (b1 _ _)).b (b1 _ _)).b (b1 _ _), ((h2.b (b1 _ _)).b (b1 _ _)).b (b1 _ _), ((nbx0 _ _ _).b (b1 _ _)).b (b1 _ _), k1.b (b1 _ _), k2⟩
theorem TU.four (h : TU w z A n c X y B m d Y wi) : wi.cell? ⟨w.heap.size, 0, none⟩ = some (.int .i64 z) ∧ wi.cell? ⟨w.heap.size, 1, none⟩ = some (.slice A n c) ∧ wi.cell? ⟨w.heap.size + 1, 0, none⟩ = some (.int .i64 y) ∧ wi.cell? ⟨w.heap.size + 1, 1, none⟩ = some (.slice B m d) :=
  ⟨h.box1.cell 0 _ rfl, h.box1.cell 1 _ rfl, h.box2.cell 0 _ rfl, h.box2.cell 1 _ rfl⟩
end
/-- A fresh directory is valid. -/
theorem rankOk_new {z n s : Nat} {X : Nat → Int} (hg : Good z n X) (hs : s = (z + 63) / 64) : RankOk z n X s (supI (wdR X)) n (blkI (wdR X)) :=
  ⟨hg, ⟨by omega, fun _ _ => rfl⟩, by have := hg.2.2.1; omega, fun _ _ => rfl⟩
theorem pack_good {W : Nat → Nat} {s n : Nat} (h : 13 * s + 6 * n ≤ 4096) : Good ((13 * s + 6 * n : Nat) : Int) ((13 * s + 6 * n + 15) / 16) (packX W s n) := good_of_words h rfl (fun _ hi => pack_high hi)
theorem good_same {z : Int} {n m : Nat} {X Y : Nat → Int} (h : Good z n X) (e : SameI m Y n X) : Good z m Y := by
  obtain ⟨e1, e2⟩ := e
  subst e1
  exact ⟨h.1, h.2.1, h.2.2.1, fun i hi => by rw [e2 i hi]; exact h.2.2.2 i hi⟩

section
variable (z y : Int) (A : Option Addr) (n c : Nat) (X : Nat → Int) (B : Option Addr) (m d : Nat) (Y : Nat → Int) (w : World)
set_option maxRecDepth 100000 in
set_option maxHeartbeats 1000000 in
theorem impl_unpack_bad (hn : n ≤ 1048576) (_hm : m ≤ 1048576) (h1 : IRow w A n X) (h2 : IRow w B m Y) (hg : ¬ Good z n X) :
    Calls Try.prog 10 #[.agg #[.int .i64 z, .slice A n c], .agg #[.int .i64 y, .slice B m d]] w (RkOwn 0 0 (fun _ => 0) 0 (fun _ => 0) 0 (fun _ => 0) false w) := by
  have T0 := Lib.hid (TU.start (z := z) (y := y) (c := c) (d := d) h1 h2)
  have HG := Lib.hid hg
  clear h1 h2 hg
  obtain ⟨b0, b1, b2, b3⟩ := T0.out.four
  go_enter Try.func10, Try.ntmps10
  go_wp2_with fail
  refine (impl_build_no z A n c X _ hn T0.out.row0 HG.out).mono ?_; rintro e w1 ⟨D1, e1, D2, e2, D3, e3, rfl, o1, o2, o3, p1, p2, p3, hb⟩
  have T1 := Lib.hid ((T0.out.step hb).al (.cells (rkC 0 D1 0 e1 D2 0 e2 D3 0 e3) 28))
  clear hb b0 b1 b2 b3 o1 o2 o3 p1 p2 p3
  have r0 := T1.out.res.cell 0 _ rfl
  have g0 := T1.out.res.free 0
  have r1 := T1.out.res.cell 1 _ rfl
  have g1 := T1.out.res.free 1
  have r2 := T1.out.res.cell 2 _ rfl
  have g2 := T1.out.res.free 2
  have r3 := T1.out.res.cell 3 _ rfl
  have g3 := T1.out.res.free 3
  go_wp2_with fail
  refine bodyPost_ret (v := .tuple #[.agg #[.int .i64 0, .slice none 0 0, .slice none 0 0, .slice none 0 0], .bool false]) (by simp [results, Try.results10, go_sem, r0, r1, r2, r3]) rfl ?_
  refine ⟨none, 0, none, 0, none, 0, rfl, ow_zero _ _ _ _ _ _, ow_zero _ _ _ _ _ _, ow_zero _ _ _ _ _ _, fun h => absurd h (by omega), fun h => absurd h (by omega), fun h => absurd h (by omega), ?_⟩
  first | exact T1.out.below | exact below_setAt (below_setAt (below_setAt (below_setAt T1.out.below (by omega) _) (by omega) _) (by omega) _) (by omega) _

end
section
variable (z : Nat) (y : Int) (A : Option Addr) (n c : Nat) (X : Nat → Int) (B : Option Addr) (m d : Nat) (Y : Nat → Int) (w : World)
set_option maxRecDepth 100000 in
set_option maxHeartbeats 2000000 in
theorem impl_unpack_size (hn : n ≤ 1048576) (hm : m ≤ 1048576) (h1 : IRow w A n X) (h2 : IRow w B m Y) (hg : Good z n X) (hyes : y ≠ ((13 * ((z + 63) / 64) + 6 * n : Nat) : Int)) :
    Calls Try.prog 10 #[.agg #[.int .i64 z, .slice A n c], .agg #[.int .i64 y, .slice B m d]] w (RkOwn 0 0 (fun _ => 0) 0 (fun _ => 0) 0 (fun _ => 0) false w) := by
  have T0 := Lib.hid (TU.start (z := (z : Int)) (y := y) (c := c) (d := d) h1 h2)
  have HG := Lib.hid hg
  obtain ⟨s, hs⟩ : ∃ s : Nat, s = (z + 63) / 64 := ⟨_, rfl⟩
  have hz1 : z ≤ 4096 := by have := hg.2.1; omega
  have hnz : n = (z + 15) / 16 := by have := hg.2.2.1; omega
  have hs2 : s ≤ 1048576 := by omega
  obtain ⟨D, hD⟩ : ∃ D : Nat, D = 13 * s + 6 * n := ⟨_, rfl⟩
  obtain ⟨M, hM⟩ : ∃ M : Nat, M = (D + 15) / 16 := ⟨_, rfl⟩
  have hM2 : M ≤ 1048576 := by omega
  rw [← hs, ← hD] at hyes
  have HY := Lib.hid hyes
  have HS := Lib.hid hs
  have HD := Lib.hid hD
  have HM := Lib.hid hM
  have RK := Lib.hid (rankOk_new hg hs)
  clear h1 h2 hg hs hD hM hnz hyes
  obtain ⟨b0, b1, b2, b3⟩ := T0.out.four
  go_enter Try.func10, Try.ntmps10
  go_wp2_with fail
  refine (impl_build_yes z s A n c X _ hn T0.out.row0 HG.out HS.out).mono ?_; rintro e w1 ⟨D1, e1, D2, e2, D3, e3, rfl, o1, o2, o3, p1, p2, p3, hb⟩
  have HB1 := Lib.hid ((Below.refl w1.heap.size w1).alloc (Nat.le_refl _) (.cells (rkC z D1 n e1 D2 s e2 D3 n e3) 28))
  have T1 := Lib.hid ((T0.out.step hb).step HB1.out)
  have hs01 := hb.size
  simp only [World.size_alloc] at hs01
  have O1 := Lib.hid ((owned (o1.mono (lo' := w.heap.size + 3) (by simp) (Nat.le_refl _))).b HB1.out)
  have O2 := Lib.hid ((owned (o2.mono (lo' := w.heap.size + 3) (by simp) (Nat.le_refl _))).b HB1.out)
  have O3 := Lib.hid ((owned (o3.mono (lo' := w.heap.size + 3) (by simp) (Nat.le_refl _))).b HB1.out)
  have N1 := Lib.hid (nbx0 w1 (rkC z D1 n e1 D2 s e2 D3 n e3) 28)
  have AP := Lib.hid (And.intro p1 (And.intro p2 p3))
  have RR := Lib.hid (show RkR D1 n X D2 s (supI (wdR X)) D3 n (blkI (wdR X)) (w1.alloc (.cells (rkC z D1 n e1 D2 s e2 D3 n e3) 28)) from ⟨hn, hs2, hn, irow O1.out.orow, irow O2.out.orow, irow O3.out.orow⟩)
  clear hb b0 b1 b2 b3 o1 o2 o3 p1 p2 p3 T0
  obtain ⟨b0, b1, b2, b3⟩ := T1.out.four
  have q0 := N1.out.cell 0 _ rfl
  have q1 := N1.out.cell 1 _ rfl
  have q2 := N1.out.cell 2 _ rfl
  have q3 := N1.out.cell 3 _ rfl
  go_wp2_with fail
  refine (impl_pack_yes z D M D1 n e1 X D2 s e2 (supI (wdR X)) D3 n e3 (blkI (wdR X)) _ RR.out RK.out HD.out HM.out).mono ?_; rintro e w2 ⟨K, kc, rfl, hk, hb⟩
  have HB2 := Lib.hid ((Below.refl w2.heap.size w2).alloc (Nat.le_refl _) (.cells #[.int .i64 D, .slice K M kc] 26))
  have T2 := Lib.hid ((T1.out.step hb).step HB2.out)
  have N2 := Lib.hid ((N1.out.b hb).b HB2.out)
  have P2 := Lib.hid (nbx0 w2 #[.int .i64 D, .slice K M kc] 26)
  have K2 := Lib.hid (IRow.b hk.row HB2.out)
  have OO1 := Lib.hid ((O1.out.b hb).b HB2.out)
  have OO2 := Lib.hid ((O2.out.b hb).b HB2.out)
  have OO3 := Lib.hid ((O3.out.b hb).b HB2.out)
  clear hb b0 b1 b2 b3 q0 q1 q2 q3 hk T1 N1 RR O1 O2 O3
  obtain ⟨b0, b1, b2, b3⟩ := T2.out.four
  have q0 := N2.out.cell 0 _ rfl
  have q1 := N2.out.cell 1 _ rfl
  have q2 := N2.out.cell 2 _ rfl
  have q3 := N2.out.cell 3 _ rfl
  have u0 := P2.out.cell 0 _ rfl
  have u1 := P2.out.cell 1 _ rfl
  go_wp2_with fail
  refine ((BoolIs.two (eqBits_impl y D B K m d M kc Y _ _ hm hM2 T2.out.row1 K2.out)).2 (fun h => HY.out h.1)).mono ?_; rintro e w3 ⟨rfl, hb⟩
  have T3 := Lib.hid (T2.out.step hb)
  clear hb b0 b1 b2 b3 q0 q1 q2 q3 u0 u1
  have r0 := T3.out.res.cell 0 _ rfl
  have g0 := T3.out.res.free 0
  have r1 := T3.out.res.cell 1 _ rfl
  have g1 := T3.out.res.free 1
  have r2 := T3.out.res.cell 2 _ rfl
  have g2 := T3.out.res.free 2
  have r3 := T3.out.res.cell 3 _ rfl
  have g3 := T3.out.res.free 3
  go_wp2_with fail
  refine bodyPost_ret (v := .tuple #[.agg #[.int .i64 0, .slice none 0 0, .slice none 0 0, .slice none 0 0], .bool false]) (by simp [results, Try.results10, go_sem, r0, r1, r2, r3]) rfl ?_
  refine ⟨none, 0, none, 0, none, 0, rfl, ow_zero _ _ _ _ _ _, ow_zero _ _ _ _ _ _, ow_zero _ _ _ _ _ _, fun h => absurd h (by omega), fun h => absurd h (by omega), fun h => absurd h (by omega), ?_⟩
  first | exact T3.out.below | exact below_setAt (below_setAt (below_setAt (below_setAt T3.out.below (by omega) _) (by omega) _) (by omega) _) (by omega) _

set_option maxRecDepth 100000 in
set_option maxHeartbeats 2000000 in
theorem impl_unpack_words (hn : n ≤ 1048576) (hm : m ≤ 1048576) (h1 : IRow w A n X) (h2 : IRow w B m Y) (hg : Good z n X) (hyd : y = ((13 * ((z + 63) / 64) + 6 * n : Nat) : Int)) (hyes : ¬ SameI m Y ((13 * ((z + 63) / 64) + 6 * n + 15) / 16) (packX (wdR X) ((z + 63) / 64) n)) :
    Calls Try.prog 10 #[.agg #[.int .i64 z, .slice A n c], .agg #[.int .i64 y, .slice B m d]] w (RkOwn 0 0 (fun _ => 0) 0 (fun _ => 0) 0 (fun _ => 0) false w) := by
  have T0 := Lib.hid (TU.start (z := (z : Int)) (y := y) (c := c) (d := d) h1 h2)
  have HG := Lib.hid hg
  obtain ⟨s, hs⟩ : ∃ s : Nat, s = (z + 63) / 64 := ⟨_, rfl⟩
  have hz1 : z ≤ 4096 := by have := hg.2.1; omega
  have hnz : n = (z + 15) / 16 := by have := hg.2.2.1; omega
  have hs2 : s ≤ 1048576 := by omega
  obtain ⟨D, hD⟩ : ∃ D : Nat, D = 13 * s + 6 * n := ⟨_, rfl⟩
  obtain ⟨M, hM⟩ : ∃ M : Nat, M = (D + 15) / 16 := ⟨_, rfl⟩
  have hM2 : M ≤ 1048576 := by omega
  rw [← hs, ← hD, ← hM] at hyes
  rw [← hs, ← hD] at hyd
  subst hyd
  have HY := Lib.hid hyes
  have HS := Lib.hid hs
  have HD := Lib.hid hD
  have HM := Lib.hid hM
  have RK := Lib.hid (rankOk_new hg hs)
  clear h1 h2 hg hs hD hM hnz hyes
  obtain ⟨b0, b1, b2, b3⟩ := T0.out.four
  go_enter Try.func10, Try.ntmps10
  go_wp2_with fail
  refine (impl_build_yes z s A n c X _ hn T0.out.row0 HG.out HS.out).mono ?_; rintro e w1 ⟨D1, e1, D2, e2, D3, e3, rfl, o1, o2, o3, p1, p2, p3, hb⟩
  have HB1 := Lib.hid ((Below.refl w1.heap.size w1).alloc (Nat.le_refl _) (.cells (rkC z D1 n e1 D2 s e2 D3 n e3) 28))
  have T1 := Lib.hid ((T0.out.step hb).step HB1.out)
  have hs01 := hb.size
  simp only [World.size_alloc] at hs01
  have O1 := Lib.hid ((owned (o1.mono (lo' := w.heap.size + 3) (by simp) (Nat.le_refl _))).b HB1.out)
  have O2 := Lib.hid ((owned (o2.mono (lo' := w.heap.size + 3) (by simp) (Nat.le_refl _))).b HB1.out)
  have O3 := Lib.hid ((owned (o3.mono (lo' := w.heap.size + 3) (by simp) (Nat.le_refl _))).b HB1.out)
  have N1 := Lib.hid (nbx0 w1 (rkC z D1 n e1 D2 s e2 D3 n e3) 28)
  have AP := Lib.hid (And.intro p1 (And.intro p2 p3))
  have RR := Lib.hid (show RkR D1 n X D2 s (supI (wdR X)) D3 n (blkI (wdR X)) (w1.alloc (.cells (rkC z D1 n e1 D2 s e2 D3 n e3) 28)) from ⟨hn, hs2, hn, irow O1.out.orow, irow O2.out.orow, irow O3.out.orow⟩)
  clear hb b0 b1 b2 b3 o1 o2 o3 p1 p2 p3 T0
  obtain ⟨b0, b1, b2, b3⟩ := T1.out.four
  have q0 := N1.out.cell 0 _ rfl
  have q1 := N1.out.cell 1 _ rfl
  have q2 := N1.out.cell 2 _ rfl
  have q3 := N1.out.cell 3 _ rfl
  go_wp2_with fail
  refine (impl_pack_yes z D M D1 n e1 X D2 s e2 (supI (wdR X)) D3 n e3 (blkI (wdR X)) _ RR.out RK.out HD.out HM.out).mono ?_; rintro e w2 ⟨K, kc, rfl, hk, hb⟩
  have HB2 := Lib.hid ((Below.refl w2.heap.size w2).alloc (Nat.le_refl _) (.cells #[.int .i64 D, .slice K M kc] 26))
  have T2 := Lib.hid ((T1.out.step hb).step HB2.out)
  have N2 := Lib.hid ((N1.out.b hb).b HB2.out)
  have P2 := Lib.hid (nbx0 w2 #[.int .i64 D, .slice K M kc] 26)
  have K2 := Lib.hid (IRow.b hk.row HB2.out)
  have OO1 := Lib.hid ((O1.out.b hb).b HB2.out)
  have OO2 := Lib.hid ((O2.out.b hb).b HB2.out)
  have OO3 := Lib.hid ((O3.out.b hb).b HB2.out)
  clear hb b0 b1 b2 b3 q0 q1 q2 q3 hk T1 N1 RR O1 O2 O3
  obtain ⟨b0, b1, b2, b3⟩ := T2.out.four
  have q0 := N2.out.cell 0 _ rfl
  have q1 := N2.out.cell 1 _ rfl
  have q2 := N2.out.cell 2 _ rfl
  have q3 := N2.out.cell 3 _ rfl
  have u0 := P2.out.cell 0 _ rfl
  have u1 := P2.out.cell 1 _ rfl
  go_wp2_with fail
  refine ((BoolIs.two (eqBits_impl D D B K m d M kc Y (packX (wdR X) s n) _ hm hM2 T2.out.row1 K2.out)).2 (fun h => HY.out h.2)).mono ?_; rintro e w3 ⟨rfl, hb⟩
  have T3 := Lib.hid (T2.out.step hb)
  clear hb b0 b1 b2 b3 q0 q1 q2 q3 u0 u1
  have r0 := T3.out.res.cell 0 _ rfl
  have g0 := T3.out.res.free 0
  have r1 := T3.out.res.cell 1 _ rfl
  have g1 := T3.out.res.free 1
  have r2 := T3.out.res.cell 2 _ rfl
  have g2 := T3.out.res.free 2
  have r3 := T3.out.res.cell 3 _ rfl
  have g3 := T3.out.res.free 3
  go_wp2_with fail
  refine bodyPost_ret (v := .tuple #[.agg #[.int .i64 0, .slice none 0 0, .slice none 0 0, .slice none 0 0], .bool false]) (by simp [results, Try.results10, go_sem, r0, r1, r2, r3]) rfl ?_
  refine ⟨none, 0, none, 0, none, 0, rfl, ow_zero _ _ _ _ _ _, ow_zero _ _ _ _ _ _, ow_zero _ _ _ _ _ _, fun h => absurd h (by omega), fun h => absurd h (by omega), fun h => absurd h (by omega), ?_⟩
  first | exact T3.out.below | exact below_setAt (below_setAt (below_setAt (below_setAt T3.out.below (by omega) _) (by omega) _) (by omega) _) (by omega) _

set_option maxRecDepth 100000 in
set_option maxHeartbeats 2000000 in
theorem impl_unpack_yes (hn : n ≤ 1048576) (hm : m ≤ 1048576) (h1 : IRow w A n X) (h2 : IRow w B m Y) (hg : Good z n X) (hyd : y = ((13 * ((z + 63) / 64) + 6 * n : Nat) : Int)) (hyes : SameI m Y ((13 * ((z + 63) / 64) + 6 * n + 15) / 16) (packX (wdR X) ((z + 63) / 64) n)) :
    Calls Try.prog 10 #[.agg #[.int .i64 z, .slice A n c], .agg #[.int .i64 y, .slice B m d]] w (RkOwn z n X ((z + 63) / 64) (supI (wdR X)) n (blkI (wdR X)) true w) := by
  have T0 := Lib.hid (TU.start (z := (z : Int)) (y := y) (c := c) (d := d) h1 h2)
  have HG := Lib.hid hg
  obtain ⟨s, hs⟩ : ∃ s : Nat, s = (z + 63) / 64 := ⟨_, rfl⟩
  have hz1 : z ≤ 4096 := by have := hg.2.1; omega
  have hnz : n = (z + 15) / 16 := by have := hg.2.2.1; omega
  have hs2 : s ≤ 1048576 := by omega
  obtain ⟨D, hD⟩ : ∃ D : Nat, D = 13 * s + 6 * n := ⟨_, rfl⟩
  obtain ⟨M, hM⟩ : ∃ M : Nat, M = (D + 15) / 16 := ⟨_, rfl⟩
  have hM2 : M ≤ 1048576 := by omega
  rw [← hs, ← hD, ← hM] at hyes
  rw [← hs, ← hD] at hyd
  rw [← hs]
  subst hyd
  have HY := Lib.hid hyes
  have HS := Lib.hid hs
  have HD := Lib.hid hD
  have HM := Lib.hid hM
  have RK := Lib.hid (rankOk_new hg hs)
  clear h1 h2 hg hs hD hM hnz hyes
  obtain ⟨b0, b1, b2, b3⟩ := T0.out.four
  go_enter Try.func10, Try.ntmps10
  go_wp2_with fail
  refine (impl_build_yes z s A n c X _ hn T0.out.row0 HG.out HS.out).mono ?_; rintro e w1 ⟨D1, e1, D2, e2, D3, e3, rfl, o1, o2, o3, p1, p2, p3, hb⟩
  have HB1 := Lib.hid ((Below.refl w1.heap.size w1).alloc (Nat.le_refl _) (.cells (rkC z D1 n e1 D2 s e2 D3 n e3) 28))
  have T1 := Lib.hid ((T0.out.step hb).step HB1.out)
  have hs01 := hb.size
  simp only [World.size_alloc] at hs01
  have O1 := Lib.hid ((owned (o1.mono (lo' := w.heap.size + 3) (by simp) (Nat.le_refl _))).b HB1.out)
  have O2 := Lib.hid ((owned (o2.mono (lo' := w.heap.size + 3) (by simp) (Nat.le_refl _))).b HB1.out)
  have O3 := Lib.hid ((owned (o3.mono (lo' := w.heap.size + 3) (by simp) (Nat.le_refl _))).b HB1.out)
  have N1 := Lib.hid (nbx0 w1 (rkC z D1 n e1 D2 s e2 D3 n e3) 28)
  have AP := Lib.hid (And.intro p1 (And.intro p2 p3))
  have RR := Lib.hid (show RkR D1 n X D2 s (supI (wdR X)) D3 n (blkI (wdR X)) (w1.alloc (.cells (rkC z D1 n e1 D2 s e2 D3 n e3) 28)) from ⟨hn, hs2, hn, irow O1.out.orow, irow O2.out.orow, irow O3.out.orow⟩)
  clear hb b0 b1 b2 b3 o1 o2 o3 p1 p2 p3 T0
  obtain ⟨b0, b1, b2, b3⟩ := T1.out.four
  have q0 := N1.out.cell 0 _ rfl
  have q1 := N1.out.cell 1 _ rfl
  have q2 := N1.out.cell 2 _ rfl
  have q3 := N1.out.cell 3 _ rfl
  go_wp2_with fail
  refine (impl_pack_yes z D M D1 n e1 X D2 s e2 (supI (wdR X)) D3 n e3 (blkI (wdR X)) _ RR.out RK.out HD.out HM.out).mono ?_; rintro e w2 ⟨K, kc, rfl, hk, hb⟩
  have HB2 := Lib.hid ((Below.refl w2.heap.size w2).alloc (Nat.le_refl _) (.cells #[.int .i64 D, .slice K M kc] 26))
  have T2 := Lib.hid ((T1.out.step hb).step HB2.out)
  have N2 := Lib.hid ((N1.out.b hb).b HB2.out)
  have P2 := Lib.hid (nbx0 w2 #[.int .i64 D, .slice K M kc] 26)
  have K2 := Lib.hid (IRow.b hk.row HB2.out)
  have OO1 := Lib.hid ((O1.out.b hb).b HB2.out)
  have OO2 := Lib.hid ((O2.out.b hb).b HB2.out)
  have OO3 := Lib.hid ((O3.out.b hb).b HB2.out)
  clear hb b0 b1 b2 b3 q0 q1 q2 q3 hk T1 N1 RR O1 O2 O3
  obtain ⟨b0, b1, b2, b3⟩ := T2.out.four
  have q0 := N2.out.cell 0 _ rfl
  have q1 := N2.out.cell 1 _ rfl
  have q2 := N2.out.cell 2 _ rfl
  have q3 := N2.out.cell 3 _ rfl
  have u0 := P2.out.cell 0 _ rfl
  have u1 := P2.out.cell 1 _ rfl
  go_wp2_with fail
  refine ((BoolIs.two (eqBits_impl D D B K m d M kc Y (packX (wdR X) s n) _ hm hM2 T2.out.row1 K2.out)).1 ⟨rfl, HY.out⟩).mono ?_; rintro e w3 ⟨rfl, hb⟩
  have T3 := Lib.hid (T2.out.step hb)
  have N3 := Lib.hid (N2.out.b hb)
  have O1 := Lib.hid (OO1.out.b hb)
  have O2 := Lib.hid (OO2.out.b hb)
  have O3 := Lib.hid (OO3.out.b hb)
  clear hb b0 b1 b2 b3 q0 q1 q2 q3 u0 u1
  have q0 := N3.out.cell 0 _ rfl
  have q1 := N3.out.cell 1 _ rfl
  have q2 := N3.out.cell 2 _ rfl
  have q3 := N3.out.cell 3 _ rfl
  have r0 := T3.out.res.cell 0 _ rfl
  have g0 := T3.out.res.free 0
  have r1 := T3.out.res.cell 1 _ rfl
  have g1 := T3.out.res.free 1
  have r2 := T3.out.res.cell 2 _ rfl
  have g2 := T3.out.res.free 2
  have r3 := T3.out.res.cell 3 _ rfl
  have g3 := T3.out.res.free 3
  go_wp2_with fail
  have N4 := Lib.hid ((((T3.out.res.set 0 (.int .i64 z)).set 1 (.slice D1 n e1)).set 2 (.slice D2 s e2)).set 3 (.slice D3 n e3))
  clear r0 r1 r2 r3
  have r0 := N4.out.cell 0 (.int .i64 z) (by simp)
  have r1 := N4.out.cell 1 (.slice D1 n e1) (by simp)
  have r2 := N4.out.cell 2 (.slice D2 s e2) (by simp)
  have r3 := N4.out.cell 3 (.slice D3 n e3) (by simp)
  refine bodyPost_ret (v := .tuple #[.agg #[.int .i64 z, .slice D1 n e1, .slice D2 s e2, .slice D3 n e3], .bool true]) (by simp [results, Try.results10, go_sem, r0, r1, r2, r3]) rfl ?_
  have hbf := below_setAt (below_setAt (below_setAt (below_setAt T3.out.below (b := w.heap.size + 2) (o := 0) (by omega) (.int .i64 z)) (b := w.heap.size + 2) (o := 1) (by omega) (.slice D1 n e1)) (b := w.heap.size + 2) (o := 2) (by omega) (.slice D2 s e2)) (b := w.heap.size + 2) (o := 3) (by omega) (.slice D3 n e3)
  have f1 := (((O1.out.setD (q := w.heap.size + 2) (.inr (by omega)) 0 (.int .i64 z)).setD (q := w.heap.size + 2) (.inr (by omega)) 1 (.slice D1 n e1)).setD (q := w.heap.size + 2) (.inr (by omega)) 2 (.slice D2 s e2)).setD (q := w.heap.size + 2) (.inr (by omega)) 3 (.slice D3 n e3)
  have f2 := (((O2.out.setD (q := w.heap.size + 2) (.inr (by omega)) 0 (.int .i64 z)).setD (q := w.heap.size + 2) (.inr (by omega)) 1 (.slice D1 n e1)).setD (q := w.heap.size + 2) (.inr (by omega)) 2 (.slice D2 s e2)).setD (q := w.heap.size + 2) (.inr (by omega)) 3 (.slice D3 n e3)
  have f3 := (((O3.out.setD (q := w.heap.size + 2) (.inr (by omega)) 0 (.int .i64 z)).setD (q := w.heap.size + 2) (.inr (by omega)) 1 (.slice D1 n e1)).setD (q := w.heap.size + 2) (.inr (by omega)) 2 (.slice D2 s e2)).setD (q := w.heap.size + 2) (.inr (by omega)) 3 (.slice D3 n e3)
  exact ⟨D1, e1, D2, e2, D3, e3, rfl, f1.now.mono (by omega) f1.top, f2.now.mono (by omega) f2.top, f3.now.mono (by omega) f3.top, AP.out.1, AP.out.2.1, AP.out.2.2, hbf⟩
end
end Go.Proofs.Ytpmedeefoaoabaa

/- PutBit: the program's and the model's. -/
namespace Go.Proofs.Ytpmedeefoaoabaa
open Go.RowKit

theorem putOk_bit {z : Int} {n : Nat} {X : Nat → Int} {i : Int} (on : Bool) : PutOk z n X i 1 (if on then 1 else 0) ↔ Room z n X i 1 :=
  ⟨fun h => h.1, fun h => ⟨h, by cases on <;> simp, by cases on <;> simp⟩⟩

set_option maxHeartbeats 1000000 in
theorem impl_putBit_yes (z : Nat) (A : Option Addr) (n c : Nat) (X : Nat → Int) (i : Nat) (on : Bool) (w : World) (hn : n ≤ 1048576) (hr : IRow w A n X) (h : Room z n X i 1) :
    Calls Try.prog 13 #[.agg #[.int .i64 z, .slice A n c], .int .i64 i, .bool on] w (OwnIs z n (fun k => (wordsOf (putF z X i 1 (if on then 1 else 0)) k : Int)) true w) := by
  have h2 : PutOk z n X i (1 : Nat) ((if on then 1 else 0 : Nat) : Int) := by
    have := (putOk_bit (z := z) (n := n) (X := X) (i := i) on).2 h
    cases on <;> simpa using this
  have L0 := Lib.hid ((LS.start (z := (z : Int)) (c := c) hr 26).step ((Below.refl _ _).alloc (Nat.le_refl _) (.cells #[.int .i64 0, .slice none 0 0] 26)))
  have RB0 := Lib.hid (RB.start w (.cells #[.int .i64 z, .slice A n c] 26) 26)
  have H2 := Lib.hid h2
  clear hr h2 h
  cases on
  · go_enter Try.func13, Try.ntmps13
    go_wp2_with fail
    refine (impl_putField_yes z A n c X i 1 0 _ hn L0.out.row H2.out).mono ?_; rintro e w1 ⟨A2, k2, rfl, o2, hb⟩
    have RB1 := Lib.hid (RB0.out.b hb)
    have O2 := Lib.hid o2
    clear hb o2 L0 RB0
    obtain ⟨hr4, d0, d1⟩ := RB1.out.box
    obtain ⟨f0, f1⟩ := RB1.out.free
    go_wp2_with fail
    refine bodyPost_ret (v := .tuple #[.agg #[.int .i64 z, .slice A2 n k2], .bool true]) (by simp [results, Try.results13, go_sem, d0, d1]) rfl ?_
    exact ⟨A2, _, rfl, ((O2.out.setAt (by simp) _).setAt (by simp) _).low (by simp; omega), below_setAt (below_setAt RB1.out.below (by omega) _) (by omega) _⟩
  · go_enter Try.func13, Try.ntmps13
    go_wp2_with fail
    refine (impl_putField_yes z A n c X i 1 1 _ hn L0.out.row H2.out).mono ?_; rintro e w1 ⟨A2, k2, rfl, o2, hb⟩
    have RB1 := Lib.hid (RB0.out.b hb)
    have O2 := Lib.hid o2
    clear hb o2 L0 RB0
    obtain ⟨hr4, d0, d1⟩ := RB1.out.box
    obtain ⟨f0, f1⟩ := RB1.out.free
    go_wp2_with fail
    refine bodyPost_ret (v := .tuple #[.agg #[.int .i64 z, .slice A2 n k2], .bool true]) (by simp [results, Try.results13, go_sem, d0, d1]) rfl ?_
    exact ⟨A2, _, rfl, ((O2.out.setAt (by simp) _).setAt (by simp) _).low (by simp; omega), below_setAt (below_setAt RB1.out.below (by omega) _) (by omega) _⟩

set_option maxHeartbeats 1000000 in
theorem impl_putBit_no (z : Int) (A : Option Addr) (n c : Nat) (X : Nat → Int) (i : Int) (on : Bool) (w : World) (hn : n ≤ 1048576) (hr : IRow w A n X) (h : ¬ Room z n X i 1) :
    Calls Try.prog 13 #[.agg #[.int .i64 z, .slice A n c], .int .i64 i, .bool on] w (OwnIs 0 0 (fun _ => 0) false w) := by
  have h2 : ¬ PutOk z n X i 1 (if on then 1 else 0) := fun e => h ((putOk_bit on).1 e)
  have L0 := Lib.hid ((LS.start (z := z) (c := c) hr 26).step ((Below.refl _ _).alloc (Nat.le_refl _) (.cells #[.int .i64 0, .slice none 0 0] 26)))
  have RB0 := Lib.hid (RB.start w (.cells #[.int .i64 z, .slice A n c] 26) 26)
  have H2 := Lib.hid h2
  clear hr h2 h
  cases on
  all_goals
    go_enter Try.func13, Try.ntmps13
    go_wp2_with fail
    refine (impl_putField_no z A n c X i 1 _ _ hn L0.out.row H2.out).mono ?_; rintro e w1 ⟨A2, k2, rfl, o2, hb⟩
    have RB1 := Lib.hid (RB0.out.b hb)
    have O2 := Lib.hid o2
    clear hb o2 L0 RB0
    obtain ⟨hr4, d0, d1⟩ := RB1.out.box
    obtain ⟨f0, f1⟩ := RB1.out.free
    go_wp2_with fail
    refine bodyPost_ret (v := .tuple #[.agg #[.int .i64 0, .slice A2 0 k2], .bool false]) (by simp [results, Try.results13, go_sem, d0, d1]) rfl ?_
    exact ⟨A2, _, rfl, ((O2.out.setAt (by simp) _).setAt (by simp) _).low (by simp; omega), below_setAt (below_setAt RB1.out.below (by omega) _) (by omega) _⟩

theorem putF_bit (z : Nat) (X : Nat → Int) (i : Nat) (on : Bool) : (fun k => decide (k < z) && (if k = i then on else bitN (fun i => (X i).toNat) k)) = putF z X i 1 (if on then 1 else 0) := by
  funext k
  unfold putF
  by_cases e : k = i
  · subst e
    rw [if_pos rfl, if_pos (by omega), Nat.sub_self]
    cases on <;> simp
  · rw [if_neg e, if_neg (by omega)]

end Go.Proofs.Ytpmedeefoaoabaa

/- Packed directories, call by call; a bit that is turned. -/
namespace Go.Proofs.Ytpmedeefoaoabaa
open Go.RowKit

section
variable {z s D M : Nat} {A B : Option Addr} {n c m d : Nat} {X Y : Nat → Int} {w : World}
theorem unpack_call (hs : s = (z + 63) / 64) (hD : D = 13 * s + 6 * n) (hM : M = (D + 15) / 16) (hn : n ≤ 1048576) (h1 : IRow w A n X) (h2 : IRow w B M (packX (wdR X) s n)) (hg : Good z n X) :
    Calls Try.prog 10 #[.agg #[.int .i64 z, .slice A n c], .agg #[.int .i64 D, .slice B M d]] w (RkOwn z n X s (supI (wdR X)) n (blkI (wdR X)) true w) := by
  have hz : z ≤ 4096 := by have := hg.2.1; omega
  have hn2 : n = (z + 15) / 16 := by have := hg.2.2.1; omega
  subst hs hD hM
  exact impl_unpack_yes z _ A n c X B _ d _ w hn (by omega) h1 h2 hg rfl ⟨rfl, fun _ _ => rfl⟩
theorem unpack_call_no (hs : s = (z + 63) / 64) (hD : D = 13 * s + 6 * n) (hM : M = (D + 15) / 16) (hn : n ≤ 1048576) (h1 : IRow w A n X) (h2 : IRow w B M Y) (hg : Good z n X) (hne : ¬ SameI M Y M (packX (wdR X) s n)) :
    Calls Try.prog 10 #[.agg #[.int .i64 z, .slice A n c], .agg #[.int .i64 D, .slice B M d]] w (RkOwn 0 0 (fun _ => 0) 0 (fun _ => 0) 0 (fun _ => 0) false w) := by
  have hz : z ≤ 4096 := by have := hg.2.1; omega
  have hn2 : n = (z + 15) / 16 := by have := hg.2.2.1; omega
  subst hs hD hM
  exact impl_unpack_words z _ A n c X B _ d _ w hn (by omega) h1 h2 hg rfl hne
end
/-- A vector of which one bit is turned is another one. -/
theorem turned {D M i : Nat} {P : Nat → Int} {b : Bool} (hi : i < D) (hM : M = (D + 15) / 16) (hb : bitN (fun k => (P k).toNat) i = b) : ¬ SameI M (fun k => (wordsOf (putF D P i 1 (if (!b) then 1 else 0)) k : Int)) M P := fun h => by
  have e : ((wordsOf (putF D P i 1 (if (!b) then 1 else 0)) (i / 16) : Nat) : Int) = P (i / 16) := h.2 (i / 16) (by omega)
  have h1 : bitN (fun k => ((wordsOf (putF D P i 1 (if (!b) then 1 else 0)) k : Nat) : Int).toNat) i = putF D P i 1 (if (!b) then 1 else 0) i := bit_wordsI _ _
  have h2 : bitN (fun k => ((wordsOf (putF D P i 1 (if (!b) then 1 else 0)) k : Nat) : Int).toNat) i = bitN (fun k => (P k).toNat) i := by
    unfold bitN
    show ((((wordsOf (putF D P i 1 (if (!b) then 1 else 0)) (i / 16) : Nat) : Int)).toNat).testBit (i % 16) = _
    rw [e]
  rw [h2, hb] at h1
  unfold putF at h1
  simp only [hi, decide_true, Bool.true_and, show i ≤ i ∧ i < i + 1 by omega, and_self, if_true, Nat.sub_self] at h1
  cases b <;> simp at h1
end Go.Proofs.Ytpmedeefoaoabaa

/- A boxed Ranked that a law goes on with. -/
namespace Go.Proofs.Ytpmedeefoaoabaa
open Go.RowKit

/-- A Ranked, boxed at qr. -/
structure BR (qr : Nat) (z : Int) (A1 : Option Addr) (n c1 : Nat) (X : Nat → Int) (A2 : Option Addr) (s c2 : Nat) (Y : Nat → Int) (A3 : Option Addr) (m c3 : Nat) (Z : Nat → Int) (wi : World) : Prop where
  rows : RkR A1 n X A2 s Y A3 m Z wi
  box : NBX qr qr (rkC z A1 n c1 A2 s c2 A3 m c3) 28 wi
section
variable {wi wj : World} {qr : Nat} {z : Int} {A1 A2 A3 : Option Addr} {m n c1 s c2 c3 : Nat} {X Y Z : Nat → Int}
theorem BR.step (h : BR qr z A1 n c1 X A2 s c2 Y A3 m c3 Z wi) (hb : Below wi.heap.size wi wj) : BR qr z A1 n c1 X A2 s c2 Y A3 m c3 Z wj := ⟨h.rows.b hb, h.box.b hb⟩
theorem BR.al (h : BR qr z A1 n c1 X A2 s c2 Y A3 m c3 Z wi) (o : Obj) : BR qr z A1 n c1 X A2 s c2 Y A3 m c3 Z (wi.alloc o) := h.step ((Below.refl _ _).alloc (Nat.le_refl _) o)
theorem BR.start (h : RkR A1 n X A2 s Y A3 m Z wi) : BR wi.heap.size z A1 n c1 X A2 s c2 Y A3 m c3 Z (wi.alloc (.cells (rkC z A1 n c1 A2 s c2 A3 m c3) 28)) := ⟨h.al _, nbx0 _ _ _⟩
theorem BR.cells (h : BR qr z A1 n c1 X A2 s c2 Y A3 m c3 Z wi) : wi.cell? ⟨qr, 0, none⟩ = some (.int .i64 z) ∧ wi.cell? ⟨qr, 1, none⟩ = some (.slice A1 n c1) ∧ wi.cell? ⟨qr, 2, none⟩ = some (.slice A2 s c2) ∧ wi.cell? ⟨qr, 3, none⟩ = some (.slice A3 m c3) :=
  ⟨h.box.cell 0 _ rfl, h.box.cell 1 _ rfl, h.box.cell 2 _ rfl, h.box.cell 3 _ rfl⟩
theorem rkr_in {w : World} (h : RkIn w z A1 n X A2 s Y A3 m Z wi) : RkR A1 n X A2 s Y A3 m Z wi :=
  ⟨by have := h.2.2.1; omega, by have := h.2.2.2.1; omega, by have := h.2.2.2.2.1; omega, irow (h.2.2.2.2.2.1.rd.row (Nat.le_refl _)), irow (h.2.2.2.2.2.2.1.rd.row (Nat.le_refl _)), irow (h.2.2.2.2.2.2.2.rd.row (Nat.le_refl _))⟩
end
end Go.Proofs.Ytpmedeefoaoabaa

/- The law FnDirectoriesArePacked, walked. -/
namespace Go.Proofs.Ytpmedeefoaoabaa
open Go.RowKit

/-- A vector, boxed at q. -/
structure BV (q : Nat) (z : Int) (A : Option Addr) (n c : Nat) (X : Nat → Int) (wi : World) : Prop where
  row : IRow wi A n X
  box : NBX q q #[.int .i64 z, .slice A n c] 26 wi
section
variable {wi wj : World} {q : Nat} {z : Int} {A : Option Addr} {n c : Nat} {X : Nat → Int}
theorem BV.step (h : BV q z A n c X wi) (hb : Below wi.heap.size wi wj) : BV q z A n c X wj := ⟨h.row.b hb, h.box.b hb⟩
theorem BV.al (h : BV q z A n c X wi) (o : Obj) : BV q z A n c X (wi.alloc o) := h.step ((Below.refl _ _).alloc (Nat.le_refl _) o)
theorem BV.start (h : IRow wi A n X) : BV wi.heap.size z A n c X (wi.alloc (.cells #[.int .i64 z, .slice A n c] 26)) := ⟨h.b ((Below.refl _ _).alloc (Nat.le_refl _) _), nbx0 _ _ _⟩
theorem BV.cells (h : BV q z A n c X wi) : wi.cell? ⟨q, 0, none⟩ = some (.int .i64 z) ∧ wi.cell? ⟨q, 1, none⟩ = some (.slice A n c) := ⟨h.box.cell 0 _ rfl, h.box.cell 1 _ rfl⟩
end
theorem below_then {w w1 : World} (hb : Below w.heap.size w w1) (o : Obj) : Below w.heap.size w (w1.alloc o) := hb.trans (((Below.refl _ _).alloc (Nat.le_refl _) o).mono hb.size)

set_option maxRecDepth 100000 in
set_option maxHeartbeats 8000000 in
theorem walk_FnDirectoriesArePacked (w : World) (A : Option Addr) (n c : Nat) (D : Nat → Int) (hn : n ≤ maxLen) (hr : URow w A n D) (B : Option Addr) (m d : Nat) (E : Nat → Int) (hm : m ≤ maxLen) (_hs : URow w B m E) :
    Calls Try.prog 3 #[.slice A n c, .slice B m d] w fun e w' => e = .returned (.bool true) ∧ Below w.heap.size w w' := by
  have HR := Lib.hid hr
  clear hr
  by_cases hbig : n + m ≤ 1048576
  rotate_left
  · have hb : (!decide (n + m ≤ 1048576)) = true := by simp; omega
    go_enter Try.func3, Try.ntmps3
    go_wp2_with fail
    refine (big_is A B n c m d w hn hm).mono ?_; rintro e w' ⟨rfl, rfl⟩
    rw [hb]
    go_wp2_with fail
    go_ret
    exact ⟨rfl, Below.refl _ _⟩
  have hb : (!decide (n + m ≤ 1048576)) = false := by simp; omega
  go_enter Try.func3, Try.ntmps3
  go_wp2_with fail
  refine (big_is A B n c m d w hn hm).mono ?_; rintro e w' ⟨rfl, rfl⟩
  rw [hb]
  clear hb
  go_wp2_with fail
  refine (draw_packDirectory A n c D w (by omega) HR.out.1 HR.out.2).mono ?_; rintro e w1 ⟨z, A1, a, d1, X, A2, s, d2, Y, A3, p, d3, Z, rfl, hx, hb⟩
  have F1 := Lib.hid (below_then hb (.cells (rkC z A1 a d1 A2 s d2 A3 p d3) 28))
  have V1 := Lib.hid (BR.start (z := z) (c1 := d1) (c2 := d2) (c3 := d3) (rkr_in hx))
  clear hb hx
  obtain ⟨r0, r1, r2, r3⟩ := V1.out.cells
  by_cases hk : RankOk z a X s Y p Z
  rotate_left
  · have HK := Lib.hid hk
    clear hk
    go_wp2_with fail
    refine (impl_pack_no z A1 a d1 X A2 s d2 Y A3 p d3 Z _ V1.out.rows HK.out).mono ?_; rintro e w2 ⟨P, pc, rfl, hv, hb⟩
    have F2 := Lib.hid (below_then (F1.out.trans (hb.mono F1.out.size)) (.cells #[.int .i64 0, .slice P 0 pc] 26))
    have V2 := Lib.hid ((V1.out.step hb).al (.cells #[.int .i64 0, .slice P 0 pc] 26))
    have P2 := Lib.hid (BV.start (wi := w2) (z := 0) (A := P) (n := 0) (c := pc) (X := fun _ => 0) IRow.zero)
    clear hb hv r0 r1 r2 r3
    obtain ⟨r0, r1, r2, r3⟩ := V2.out.cells
    go_wp2_with fail
    refine (spec_pack_no z A1 a d1 X A2 s d2 Y A3 p d3 Z _ V2.out.rows HK.out).mono ?_; rintro e w3 ⟨Q, qc, rfl, hv, hb⟩
    have F3 := Lib.hid (below_then (F2.out.trans (hb.mono F2.out.size)) (.cells #[.int .i64 0, .slice Q 0 qc] 26))
    have P3 := Lib.hid ((P2.out.step hb).al (.cells #[.int .i64 0, .slice Q 0 qc] 26))
    have Q3 := Lib.hid (BV.start (wi := w3) (z := 0) (A := Q) (n := 0) (c := qc) (X := fun _ => 0) IRow.zero)
    clear hb hv r0 r1 r2 r3
    obtain ⟨p0, p1⟩ := P3.out.cells
    obtain ⟨q0, q1⟩ := Q3.out.cells
    go_wp2_with fail
    refine (pSame_yes (by omega) (grow_of P3.out.row) (grow_of Q3.out.row)).mono ?_; rintro e w4 ⟨rfl, hb⟩
    have F4 := Lib.hid (F3.out.trans (hb.mono F3.out.size))
    clear hb
    go_wp2_with fail
    go_ret
    exact ⟨rfl, F4.out⟩
  obtain ⟨z, rfl, hz1, ha, hs, hp⟩ := hk.size
  subst hp
  have HG := Lib.hid hk.1
  have HS := Lib.hid hs
  have ha2 : p ≤ 1048576 := by omega
  obtain ⟨T, hT⟩ : ∃ T : Nat, T = 13 * s + 6 * p := ⟨_, rfl⟩
  obtain ⟨M, hM⟩ : ∃ M : Nat, M = (T + 15) / 16 := ⟨_, rfl⟩
  have hT4 : T ≤ 4096 := by omega
  have hM4 : M ≤ 1048576 := by omega
  have HT := Lib.hid hT
  have HM := Lib.hid hM
  have HDZ := Lib.hid (show dirZ (z : Int) = (T : Int) by unfold dirZ; omega)
  have PG := Lib.hid (show Good (T : Int) M (packX (wdR X) s p) by rw [hM, hT]; exact pack_good (by omega))
  have RK := Lib.hid (rankOk_new hk.1 hs)
  have V1' := Lib.hid (show BR w1.heap.size z A1 p d1 X A2 s d2 (supI (wdR X)) A3 p d3 (blkI (wdR X)) _ from ⟨⟨V1.out.rows.n1, V1.out.rows.n2, V1.out.rows.n3, V1.out.rows.r1, (GRow.congr (grow_of V1.out.rows.r2) (fun i hi => by unfold intV; rw [hk.2.1.2 i hi])), (GRow.congr (grow_of V1.out.rows.r3) (fun i hi => by unfold intV; rw [hk.2.2.2 i hi]))⟩, V1.out.box⟩)
  have zi0 : (0 : Int) ≤ (z : Int) := by omega
  have zi1 : (z : Int) ≤ 4096 := by omega
  clear hk hs hT hM ha V1
  go_wp2_with fail
  refine (impl_pack_yes z T M A1 p d1 X A2 s d2 (supI (wdR X)) A3 p d3 (blkI (wdR X)) _ V1'.out.rows RK.out HT.out HM.out).mono ?_; rintro e w2 ⟨P, pc, rfl, hv, hb⟩
  have F2 := Lib.hid (below_then (F1.out.trans (hb.mono F1.out.size)) (.cells #[.int .i64 T, .slice P M pc] 26))
  have V2 := Lib.hid ((V1'.out.step hb).al (.cells #[.int .i64 T, .slice P M pc] 26))
  have P2 := Lib.hid (BV.start (z := T) (c := pc) hv.row)
  clear hb hv r0 r1 r2 r3 V1'
  obtain ⟨r0, r1, r2, r3⟩ := V2.out.cells
  go_wp2_with fail
  refine (spec_pack_yes A1 p d1 X A2 s d2 (supI (wdR X)) A3 p d3 (blkI (wdR X)) _ z T M V2.out.rows RK.out HT.out HM.out).mono ?_; rintro e w3 ⟨Q, qc, rfl, hv, hb⟩
  have F3 := Lib.hid (below_then (F2.out.trans (hb.mono F2.out.size)) (.cells #[.int .i64 T, .slice Q M qc] 26))
  have V3 := Lib.hid ((V2.out.step hb).al (.cells #[.int .i64 T, .slice Q M qc] 26))
  have P3 := Lib.hid ((P2.out.step hb).al (.cells #[.int .i64 T, .slice Q M qc] 26))
  have Q3 := Lib.hid (BV.start (z := T) (c := qc) hv.row)
  clear hb hv r0 r1 r2 r3 V2 P2
  obtain ⟨p0, p1⟩ := P3.out.cells
  obtain ⟨q0, q1⟩ := Q3.out.cells
  go_wp2_with fail
  refine (pSame_yes hM4 (grow_of P3.out.row) (grow_of Q3.out.row)).mono ?_; rintro e w4 ⟨rfl, hb⟩
  have F4 := Lib.hid (F3.out.trans (hb.mono F3.out.size))
  have V4 := Lib.hid (V3.out.step hb)
  have P4 := Lib.hid (P3.out.step hb)
  clear hb p0 p1 q0 q1 V3 P3 Q3
  obtain ⟨r0, r1, r2, r3⟩ := V4.out.cells
  go_wp2_with fail
  refine (impl_dirBits_yes (z : Int) _ zi0 zi1).mono ?_; rintro e w5 ⟨rfl, hb⟩
  rw [HDZ.out]
  have F5 := Lib.hid (F4.out.trans (hb.mono F4.out.size))
  have V5 := Lib.hid (V4.out.step hb)
  have P5 := Lib.hid (P4.out.step hb)
  clear hb r0 r1 r2 r3 V4 P4
  obtain ⟨r0, r1, r2, r3⟩ := V5.out.cells
  obtain ⟨p0, p1⟩ := P5.out.cells
  go_wp2_with fail
  refine (unpack_call HS.out HT.out HM.out ha2 V5.out.rows.r1 P5.out.row HG.out).mono ?_; rintro e w6 ⟨D1, e1, D2, e2, D3, e3, rfl, o1, o2, o3, _, _, _, hb⟩
  have hs2 : s ≤ 1048576 := V5.out.rows.n2
  have F6 := Lib.hid (below_then (F5.out.trans (hb.mono F5.out.size)) (.cells (rkC z D1 p e1 D2 s e2 D3 p e3) 28))
  have V6 := Lib.hid ((V5.out.step hb).al (.cells (rkC z D1 p e1 D2 s e2 D3 p e3) 28))
  have P6 := Lib.hid ((P5.out.step hb).al (.cells (rkC z D1 p e1 D2 s e2 D3 p e3) 28))
  have K6 := Lib.hid (BR.start (z := z) (c1 := e1) (c2 := e2) (c3 := e3) (show RkR D1 p X D2 s (supI (wdR X)) D3 p (blkI (wdR X)) w6 from ⟨ha2, hs2, ha2, irow (o1.rd.row (Nat.le_refl _)), irow (o2.rd.row (Nat.le_refl _)), irow (o3.rd.row (Nat.le_refl _))⟩))
  clear hb o1 o2 o3 r0 r1 r2 r3 p0 p1 V5 P5
  obtain ⟨r0, r1, r2, r3⟩ := V6.out.cells
  obtain ⟨p0, p1⟩ := P6.out.cells
  obtain ⟨k0, k1, k2, k3⟩ := K6.out.cells
  go_wp2_with fail
  refine (pSameR_yes K6.out.rows V6.out.rows).mono ?_; rintro e w7 ⟨rfl, hb⟩
  have F7 := Lib.hid (F6.out.trans (hb.mono F6.out.size))
  have V7 := Lib.hid (V6.out.step hb)
  have P7 := Lib.hid (P6.out.step hb)
  clear hb r0 r1 r2 r3 p0 p1 k0 k1 k2 k3 V6 P6 K6
  by_cases hT0 : T = 0
  · have dT : ((T : Int) == 0) = true := by simp; omega
    go_wp2_with fail
    go_ret
    exact ⟨rfl, F7.out⟩
  have dT : ((T : Int) == 0) = false := by simp; omega
  obtain ⟨r0, r1, r2, r3⟩ := V7.out.cells
  obtain ⟨p0, p1⟩ := P7.out.cells
  obtain ⟨i, hi⟩ : ∃ i : Nat, i = m % T := ⟨_, rfl⟩
  have hiT : i < T := by rw [hi]; exact Nat.mod_lt _ (by omega)
  have EI := Lib.hid (show (m : Int) % (T : Int) = (i : Int) by rw [hi]; simp)
  have RM := Lib.hid (show Room (T : Int) M (packX (wdR X) s p) i 1 from ⟨PG.out, by omega, by omega, by omega, by omega⟩)
  have hmod : (0 : Int) ≤ (m : Int) := by omega
  have hT1 : (0 : Int) < (T : Int) := by omega
  clear hi
  go_wp2_with fail
  try rw [EI.out]
  refine (impl_bitAt_yes (T : Int) P M pc (packX (wdR X) s p) i _ hM4 P7.out.row RM.out).mono ?_; rintro e w8 ⟨rfl, hb⟩
  have F8 := Lib.hid (F7.out.trans (hb.mono F7.out.size))
  have V8 := Lib.hid (V7.out.step hb)
  have P8 := Lib.hid (P7.out.step hb)
  clear hb r0 r1 r2 r3 p0 p1 V7 P7
  obtain ⟨r0, r1, r2, r3⟩ := V8.out.cells
  obtain ⟨p0, p1⟩ := P8.out.cells
  generalize hbv : bitN (fun k => (packX (wdR X) s p k).toNat) i = bv at *
  have HBV := Lib.hid hbv
  clear hbv
  go_wp2_with fail
  refine (impl_putBit_yes T P M pc (packX (wdR X) s p) i (!bv) _ hM4 P8.out.row RM.out).mono ?_; rintro e w9 ⟨O, oc, rfl, hv, hb⟩
  have F9 := Lib.hid (below_then (F8.out.trans (hb.mono F8.out.size)) (.cells #[.int .i64 T, .slice O M oc] 26))
  have V9 := Lib.hid ((V8.out.step hb).al (.cells #[.int .i64 T, .slice O M oc] 26))
  have N9 := Lib.hid (BV.start (z := T) (c := oc) hv.row)
  clear hb hv r0 r1 r2 r3 p0 p1 V8 P8
  obtain ⟨r0, r1, r2, r3⟩ := V9.out.cells
  obtain ⟨p0, p1⟩ := N9.out.cells
  go_wp2_with fail
  refine (unpack_call_no HS.out HT.out HM.out ha2 V9.out.rows.r1 N9.out.row HG.out (turned hiT HM.out HBV.out)).mono ?_; rintro e w10 ⟨D4, e4, D5, e5, D6, e6, rfl, _, _, _, _, _, _, hb⟩
  have F10 := Lib.hid (below_then (F9.out.trans (hb.mono F9.out.size)) (.cells (rkC 0 D4 0 e4 D5 0 e5 D6 0 e6) 28))
  clear hb r0 r1 r2 r3 p0 p1
  go_wp2_with fail
  go_ret
  exact ⟨rfl, F10.out⟩
end Go.Proofs.Ytpmedeefoaoabaa
