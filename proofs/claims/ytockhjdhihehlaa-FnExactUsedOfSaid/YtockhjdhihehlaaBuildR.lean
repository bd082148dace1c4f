/- BuildRanked: both sides. -/
import Derived.Test.YtockhjdhihehlaaRankG
import Derived.Test.YtockhjdhihehlaaObjRank
import Derived.Test.YtockhjdhihehlaaGrow
import Derived.Deep.DeepCutAuto
import Derived.Deep.RegionHeld3
namespace Go.Proofs.Ytockhjdhihehlaa
open Go.RowKit

/-- A Ranked of the call's own and whether there is one. -/
def RkOwn (z : Int) (n : Nat) (X : Nat → Int) (s : Nat) (Y : Nat → Int) (m : Nat) (Z : Nat → Int) (b : Bool) (w : World) (e : Ending) (w' : World) : Prop :=
  ∃ A1 c1 A2 c2 A3 c3, e = .returned (.tuple #[.agg #[.int .i64 z, .slice A1 n c1, .slice A2 s c2, .slice A3 m c3], .bool b]) ∧ Ow w.heap.size w'.heap.size 3 A1 n (intV X) w' ∧ Ow w.heap.size w'.heap.size 3 A2 s (intV Y) w' ∧ Ow w.heap.size w'.heap.size 3 A3 m (intV Z) w' ∧ Apart n A1 s A2 ∧ Apart n A1 m A3 ∧ Apart s A2 m A3 ∧ Below w.heap.size w w'
def RkVec (z : Int) (n : Nat) (X : Nat → Int) (s : Nat) (Y : Nat → Int) (m : Nat) (Z : Nat → Int) (b : Bool) (w : World) (e : Ending) (w' : World) : Prop :=
  ∃ A1 c1 A2 c2 A3 c3, e = .returned (.tuple #[.agg #[.int .i64 z, .slice A1 n c1, .slice A2 s c2, .slice A3 m c3], .bool b]) ∧ Ow w.heap.size w'.heap.size 3 A1 n (intV X) w' ∧ Ow w.heap.size w'.heap.size 3 A2 s (intV Y) w' ∧ Ow w.heap.size w'.heap.size 3 A3 m (intV Z) w' ∧ Below w.heap.size w w'
theorem ow_of_gvec {w : World} {B n : Nat} {t : TypeId} {A : Option Addr} {F : Nat → Value} (h : GVec w B t A n F) : Ow B w.heap.size t A n F w := by
  rcases h with h | ⟨g, rfl, hg, ho⟩
  · subst h; exact ow_zero _ _ _ _ _ _
  · exact ow_of_own ho hg (Nat.le_refl _)
theorem ow_of_orow {w : World} {B g n : Nat} {X : Nat → Int} (h : ORow w g n X) (hg : B ≤ g) : Ow B w.heap.size 3 (some ⟨g, 0, none⟩) n (intV X) w := ow_of_own (F := intV X) h hg (Nat.le_refl _)
theorem apart_rows {n m g h : Nat} (hne : g ≠ h) : Apart n (some ⟨g, 0, none⟩) m (some ⟨h, 0, none⟩) := fun _ _ b o c p h1 h2 => by
  injection h1 with h1; injection h2 with h2; injection h1 with h1; injection h2 with h2; omega
theorem apart_ovec {w : World} {n m B h : Nat} {A : Option Addr} {X : Nat → Int} (hv : OVec w B A n X) (hlt : h < B) : Apart n A m (some ⟨h, 0, none⟩) := by
  rcases hv with ⟨h0, _⟩ | ⟨g, rfl, hg, _⟩
  · exact fun h1 => absurd h1 (by omega)
  · exact apart_rows (by omega)

set_option maxRecDepth 100000 in
set_option maxHeartbeats 4000000 in
theorem impl_build_yes (z s : Nat) (A : Option Addr) (n c : Nat) (X : Nat → Int) (w : World) (hn : n ≤ 1048576) (hr : IRow w A n X) (hg : Good z n X) (hs : s = (z + 63) / 64) :
    Calls Try.prog 58 #[.agg #[.int .i64 z, .slice A n c]] w (RkOwn z n X s (supI (wdR X)) n (blkI (wdR X)) true w) := by
  have L0 := Lib.hid ((LS.start (z := (z : Int)) (c := c) hr 58).step ((Below.refl _ _).alloc (Nat.le_refl _) (.cells #[.int .i64 0, .slice none 0 0, .slice none 0 0, .slice none 0 0] 60)))
  have nr := nbx0 (w.alloc (.cells #[.int .i64 z, .slice A n c] 58)) #[.int .i64 0, .slice none 0 0, .slice none 0 0, .slice none 0 0] 60
  simp only [World.size_alloc] at nr
  have NR := Lib.hid nr
  have HG := Lib.hid hg
  have HS := Lib.hid hs
  have hz1 : z ≤ 4096 := by have := hg.2.1; omega
  have HNZ := Lib.hid (show n = (z + 15) / 16 by have := hg.2.2.1; omega)
  clear hr hg hs nr
  obtain ⟨hs0, b0, b1⟩ := L0.out.box
  go_enter Try.func58, Try.ntmps58
  go_wp2_with fail
  refine (isBits_yes hn L0.out.row HG.out).mono ?_; rintro e w1 ⟨rfl, hb⟩
  have L1 := Lib.hid (L0.out.step hb)
  have NR1 := Lib.hid (NR.out.b hb)
  have hs1' := hb.size
  simp only [World.size_alloc] at hs1'
  clear hb L0 NR b0 b1
  obtain ⟨hs1, b0, b1⟩ := L1.out.box
  go_wp2_with fail
  refine (impl_directoryOf z s A n c X _ hn L1.out.row HG.out HS.out).mono ?_; rintro e w2 ⟨g, h, rfl, hg1, hh1, hgh, o1, o2, hb⟩
  have L2 := Lib.hid (L1.out.step hb)
  have NR2 := Lib.hid (NR1.out.b hb)
  have O1 := Lib.hid o1
  have O2 := Lib.hid o2
  have hs2' := hb.size
  have hgl := o1.lt
  have hhl := o2.lt
  clear hb b0 b1 o1 o2 L1 NR1
  obtain ⟨hs2, b0, b1⟩ := L2.out.box
  go_upto_region 4 with fail
  have hcur : w2.heap.size ≤ w2.heap.size := Nat.le_refl _
  have HKB : ∀ w', Below w2.heap.size w2 w' → w'.cell? ⟨w.heap.size, 0, none⟩ = some (.int .i64 z) ∧ w'.cell? ⟨w.heap.size, 1, none⟩ = some (.slice A n c) := fun w' hb => (L2.out.step hb).box.2
  have HK := Lib.hid HKB
  have LD := Lib.hid (L2.out.step (Below.drew (Below.refl _ _)))
  clear HKB
  go_cut [6] (fun s6 wx => ∃ (q : Nat) (A' : Option Addr), s6 = .pointer (some ⟨q, 0, none⟩) ∧ w2.heap.size ≤ q ∧ At q (q + 1) (BoxC q [.int .i64 z, .slice A' n n]) wx ∧ OVec wx w2.heap.size A' n X ∧ Below w2.heap.size w2 wx)
  case first =>
    go_region_held3 (fun w' => w'.cell? ⟨w.heap.size, 0, none⟩ = some (.int .i64 z) ∧ w'.cell? ⟨w.heap.size, 1, none⟩ = some (.slice A n c))
      (first | (go_keep; done) | exact HK.out _ (below_setAt (below_setAt hq1 NB.ge _) NB.ge _) | exact HK.out _ (hq1.alloc hq1.size _) | exact HK.out _ hq1 | exact HK.out _ ((Below.refl _ _).alloc (Nat.le_refl _) _))
      (first
        | (go_at_call 56; (first | refine (growWords_any z n A n c X _ hz1 HNZ.out (Nat.le_refl _) L2.out.row).mono ?_ | refine (growWords_any z n A n c X _ hz1 HNZ.out (Nat.le_refl _) LD.out.row).mono ?_ | refine (growWords_any z n A n c X _ hz1 HNZ.out (Nat.le_refl _) (L2.out.row.al _)).mono ?_ | refine (growWords_any z n A n c X _ hz1 HNZ.out (Nat.le_refl _) (GRow.alD (grow_of L2.out.row) _)).mono ?_); rintro e w4 ⟨A', rfl, ho, hb'⟩; have hb := of_drew hb'; clear hb'; have ho2 := OVec.congr ho (Y := X) (fun i hi => by simp only [hi, if_true]); (first | (have hq1 : Below w2.heap.size w2 w4 := hb) | (have hq1 : Below w2.heap.size w2 w4 := below_al hb)); (first | (have NB := NBX.new hcur hb; have dd0 := NB.cell 0 _ rfl; have ff0 := NB.free 0; have dd1 := NB.cell 1 _ rfl; have ff1 := NB.free 1) | skip); clear hb ho))
    all_goals go_wp2_with fail
    all_goals go_meet
    all_goals first
      | exact ⟨_, _, rfl, NB.ge, ((NB.set 0 _).set 1 _).box, ((ho2.setAt (by simp) _).setAt (by simp) _).low (by simp), below_setAt (below_setAt hq1 NB.ge _) NB.ge _⟩
      | exact ⟨_, _, rfl, hq1.size, boxed _ _ _, (ho2.b ((Below.refl _ _).alloc (Nat.le_refl _) _)).low (by simp), hq1.alloc hq1.size _⟩
  case rest =>
  obtain ⟨q, A', rfl, hq, hbx, hov, hbl⟩ := hcut
  have NR3 := Lib.hid (NR2.out.b hbl)
  have L3 := Lib.hid (L2.out.step hbl)
  have R1 := Lib.hid (O1.out.b hbl)
  have R2 := Lib.hid (O2.out.b hbl)
  have OV := Lib.hid hov
  have d0 := hbx.now 0 _ rfl
  have d1 := hbx.now 1 _ rfl
  have e0 := NR3.out.cell 0 _ rfl
  have e1 := NR3.out.cell 1 _ rfl
  have e2 := NR3.out.cell 2 _ rfl
  have e3 := NR3.out.cell 3 _ rfl
  have g0 := NR3.out.free 0
  have g1 := NR3.out.free 1
  have g2 := NR3.out.free 2
  have g3 := NR3.out.free 3
  have hsz3 := hbl.size
  have hap1 := apart_ovec (m := s) hov hgl
  have hap2 := apart_ovec (m := n) hov hhl
  have AP := Lib.hid (And.intro hap1 hap2)
  clear hov hbl hbx HK hap1 hap2
  go_wp2_with fail
  have N4 := Lib.hid ((((NR3.out.set 0 (.int .i64 z)).set 1 (.slice A' n n)).set 2 (.slice (some ⟨g, 0, none⟩) s s)).set 3 (.slice (some ⟨h, 0, none⟩) n n))
  have r0 := N4.out.cell 0 (.int .i64 z) (by simp)
  have r1 := N4.out.cell 1 (.slice A' n n) (by simp)
  have r2 := N4.out.cell 2 (.slice (some ⟨g, 0, none⟩) s s) (by simp)
  have r3 := N4.out.cell 3 (.slice (some ⟨h, 0, none⟩) n n) (by simp)
  refine bodyPost_ret (v := .tuple #[.agg #[.int .i64 z, .slice A' n n, .slice (some ⟨g, 0, none⟩) s s, .slice (some ⟨h, 0, none⟩) n n], .bool true]) (by simp [results, Try.results58, go_sem, r0, r1, r2, r3]) rfl ?_
  have hbf := below_setAt (below_setAt (below_setAt (below_setAt L3.out.below (b := w.heap.size + 1) (o := 0) (by omega) (.int .i64 z)) (b := w.heap.size + 1) (o := 1) (by omega) (.slice A' n n)) (b := w.heap.size + 1) (o := 2) (by omega) (.slice (some ⟨g, 0, none⟩) s s)) (b := w.heap.size + 1) (o := 3) (by omega) (.slice (some ⟨h, 0, none⟩) n n)
  refine ⟨A', n, _, s, _, n, rfl, ?_, ?_, ?_, AP.out.1, AP.out.2, apart_rows hgh, hbf⟩
  · exact ow_of_vec (((((OV.out.setAt (by omega) _).setAt (by omega) _).setAt (by omega) _).setAt (by omega) _).low (by omega))
  · exact ow_of_orow ((((R1.out.setAt (by omega) _).setAt (by omega) _).setAt (by omega) _).setAt (by omega) _) (by omega)
  · exact ow_of_orow ((((R2.out.setAt (by omega) _).setAt (by omega) _).setAt (by omega) _).setAt (by omega) _) (by omega)

set_option maxRecDepth 100000 in
set_option maxHeartbeats 1000000 in
theorem impl_build_no (z : Int) (A : Option Addr) (n c : Nat) (X : Nat → Int) (w : World) (hn : n ≤ 1048576) (hr : IRow w A n X) (hg : ¬ Good z n X) :
    Calls Try.prog 58 #[.agg #[.int .i64 z, .slice A n c]] w (RkOwn 0 0 (fun _ => 0) 0 (fun _ => 0) 0 (fun _ => 0) false w) := by
  have L0 := Lib.hid ((LS.start (z := z) (c := c) hr 58).step ((Below.refl _ _).alloc (Nat.le_refl _) (.cells #[.int .i64 0, .slice none 0 0, .slice none 0 0, .slice none 0 0] 60)))
  have nr := nbx0 (w.alloc (.cells #[.int .i64 z, .slice A n c] 58)) #[.int .i64 0, .slice none 0 0, .slice none 0 0, .slice none 0 0] 60
  simp only [World.size_alloc] at nr
  have NR := Lib.hid nr
  have HG := Lib.hid hg
  clear hr hg nr
  obtain ⟨hs0, b0, b1⟩ := L0.out.box
  go_enter Try.func58, Try.ntmps58
  go_wp2_with fail
  refine (isBits_no hn L0.out.row HG.out).mono ?_; rintro e w1 ⟨rfl, hb⟩
  have L1 := Lib.hid (L0.out.step hb)
  have NR1 := Lib.hid (NR.out.b hb)
  clear hb b0 b1 L0 NR
  have e0 := NR1.out.cell 0 _ rfl
  have e1 := NR1.out.cell 1 _ rfl
  have e2 := NR1.out.cell 2 _ rfl
  have e3 := NR1.out.cell 3 _ rfl
  have g0 := NR1.out.free 0
  have g1 := NR1.out.free 1
  have g2 := NR1.out.free 2
  have g3 := NR1.out.free 3
  go_wp2_with fail
  refine bodyPost_ret (v := .tuple #[.agg #[.int .i64 0, .slice none 0 0, .slice none 0 0, .slice none 0 0], .bool false]) (by simp [results, Try.results58, go_sem, e0, e1, e2, e3]) rfl ?_
  refine ⟨none, 0, none, 0, none, 0, rfl, ow_zero _ _ _ _ _ _, ow_zero _ _ _ _ _ _, ow_zero _ _ _ _ _ _, fun h => absurd h (by omega), fun h => absurd h (by omega), fun h => absurd h (by omega), ?_⟩
  first | exact L1.out.below | exact below_setAt (below_setAt (below_setAt (below_setAt L1.out.below (by omega) _) (by omega) _) (by omega) _) (by omega) _

theorem RkVec.post {z : Int} {n s m : Nat} {X Y Z : Nat → Int} {b : Bool} {w : World} (e : Ending) (w' : World) (h : RkVec z n X s Y m Z b w e w') :
    ∃ A1 c1 A2 c2 A3 c3, e = .returned (.tuple #[.agg #[.int .i64 z, .slice A1 n c1, .slice A2 s c2, .slice A3 m c3], .bool b]) ∧ GRow w' A1 n (intV X) ∧ GRow w' A2 s (intV Y) ∧ GRow w' A3 m (intV Z) ∧ Below w.heap.size w w' := by
  obtain ⟨A1, c1, A2, c2, A3, c3, he, h1, h2, h3, hb⟩ := h
  exact ⟨A1, c1, A2, c2, A3, c3, he, h1.rd.row (Nat.le_refl _), h2.rd.row (Nat.le_refl _), h3.rd.row (Nat.le_refl _), hb⟩
end Go.Proofs.Ytockhjdhihehlaa
