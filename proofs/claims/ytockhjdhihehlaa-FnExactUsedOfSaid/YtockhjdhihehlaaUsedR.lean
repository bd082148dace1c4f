/- UsedOf: both sides. -/
import Derived.Test.YtockhjdhihehlaaPeV
import Derived.Test.YtockhjdhihehlaaPutF
import Derived.Test.YtockhjdhihehlaaBuildR
import Derived.Test.YtockhjdhihehlaaWordsG
namespace Go.Proofs.Ytockhjdhihehlaa
open Go.RowKit

/-- Which places are not free. -/
def usF (X : Nat → Int) (i : Nat) : Bool := X i != 3
def usM (n : Nat) (X : Nat → Int) (i : Nat) : Bool := decide (i < n) && usF X i
def usW (n : Nat) (X : Nat → Int) (i : Nat) : Int := (wordsOf (usM n X) i : Int)
theorem us_good {n m : Nat} (X : Nat → Int) (hn : n ≤ 72) (hm : m = (n + 15) / 16) : Good n m (usW n X) := good_of_words (by omega) hm (fun i hi => by unfold usM; rw [decide_eq_false (by omega)]; rfl)
theorem infoBu : (Try.prog.info? 4).map (fun i => (i.zero, i.size, i.bytes)) = some (some (.bool false), 1, 1) := by kernel_rfl
/-- A boxed Peeled and the answer's box (a Ranked) behind it. -/
structure BQ (w : World) (cs : Array Value) (t : TypeId) (A : Option Addr) (n : Nat) (X : Nat → Int) (wi : World) : Prop where
  bx : BX1 w w.heap.size cs t A n X wi
  res : NBX w.heap.size (w.heap.size + 1) #[.int .i64 0, .slice none 0 0, .slice none 0 0, .slice none 0 0] 60 wi
section
variable {w wi wj : World} {n : Nat} {cs : Array Value} {t : TypeId} {A : Option Addr} {X : Nat → Int}
theorem BQ.step (h : BQ w cs t A n X wi) (hb : Below wi.heap.size wi wj) : BQ w cs t A n X wj := ⟨h.bx.step hb, h.res.b hb⟩
theorem BQ.start (h : IRow w A n X) : BQ w cs t A n X ((w.alloc (.cells cs t)).alloc (.cells #[.int .i64 0, .slice none 0 0, .slice none 0 0, .slice none 0 0] 60)) := by
  have h1 := nbx0 (w.alloc (.cells cs t)) #[.int .i64 0, .slice none 0 0, .slice none 0 0, .slice none 0 0] 60
  simp only [World.size_alloc] at h1
  exact ⟨(BX1.start h).step ((Below.refl _ _).alloc (Nat.le_refl _) _), ⟨h1.blk, by omega⟩⟩
theorem BQ.low {B : Nat} (h : BQ w cs t A n X wi) (h0 : IRow w A n X) (hb : Below B wi wj) (hB : w.heap.size + 2 ≤ B) : BQ w cs t A n X wj := by
  have hbl := h.bx.below.trans (hb.mono (show w.heap.size ≤ B by omega))
  exact ⟨⟨hbl, ⟨(hb.block _ (by omega)).trans h.bx.box.blk, h.bx.box.ge⟩, h0.b hbl⟩, ⟨(hb.block _ (by omega)).trans h.res.blk, h.res.ge⟩⟩
theorem BQ.fin (h : BQ w cs t A n X wi) (v0 v1 v2 v3 : Value) : Below w.heap.size w ((((wi.setCell ⟨w.heap.size + 1, 0, none⟩ v0).setCell ⟨w.heap.size + 1, 1, none⟩ v1).setCell ⟨w.heap.size + 1, 2, none⟩ v2).setCell ⟨w.heap.size + 1, 3, none⟩ v3) := below_setAt (below_setAt (below_setAt (below_setAt h.bx.below (by omega) _) (by omega) _) (by omega) _) (by omega) _
end
theorem ow_set {w : World} {lo hi b o n : Nat} {t : TypeId} {A : Option Addr} {F : Nat → Value} (h : Ow lo hi t A n F w) (hb : b < lo) (v : Value) : Ow lo hi t A n F (w.setCell ⟨b, o, none⟩ v) := fun h0 => by
  obtain ⟨g, off, c, h1, h2, h3, h4, h5⟩ := h h0
  exact ⟨g, off, c, h1, h2, h3, (Go.Deep.blk_setCell_other _ _ _ _ (by show g ≠ b; omega)).trans h4, h5⟩
section
variable (z0 z1 : Int) (A : Option Addr) (n c : Nat) (X : Nat → Int) (w : World)
set_option maxRecDepth 100000 in
set_option maxHeartbeats 4000000 in
theorem impl_usedOf (m s : Nat) (hr : IRow w A n X) (hv : PeV z0 z1 n X) (hm : m = (n + 15) / 16) (hs : s = (n + 63) / 64) :
    Calls Try.prog 34 #[.agg #[.int .i64 z0, .int .i64 z1, .slice A n c]] w (RkOwn n m (usW n X) s (supI (wdR (usW n X))) m (blkI (wdR (usW n X))) true w) := by
  have HR0 := Lib.hid hr
  have P0 := Lib.hid (BQ.start (cs := #[.int .i64 z0, .int .i64 z1, .slice A n c]) (t := 30) hr)
  have hn : n ≤ 72 := by have := hv.2.2.1; have := hv.2.1; omega
  have HV := Lib.hid hv
  have HM := Lib.hid hm
  have HSZ := Lib.hid hs
  have hm2 : m ≤ 256 := by omega
  have x0 := P0.out.bx.box.cell 0 _ rfl
  have x1 := P0.out.bx.box.cell 1 _ rfl
  have x2 := P0.out.bx.box.cell 2 _ rfl
  clear hr hv hm hs
  go_enter Try.func34, Try.ntmps34
  go_wp2_with fail
  refine (impl_isValid_Peeled z0 z1 A n c X _ (by omega) P0.out.bx.row).mono ?_; rintro e w1 ⟨b, rfl, hb, hw⟩
  obtain rfl : b = true := hb.2 HV.out
  have P1 := Lib.hid (P0.out.step hw)
  clear hb hw x0 x1 x2 P0
  have x2 := P1.out.bx.box.cell 2 _ rfl
  have hs1 := P1.out.res.lt
  go_wp2_with fail
  refine (growWords_any n m none 0 0 (fun _ => 0) _ (by omega) HM.out (Nat.zero_le _) IRow.zero).mono ?_; rintro e w2 ⟨GA, rfl, ho, hb⟩
  have P2 := Lib.hid (P1.out.step hb)
  have O2 := Lib.hid (show OVec w2 (w.heap.size + 2) GA m (fun i => (((fun _ => 0 : Nat → Nat) i : Nat) : Int)) from (ho.congr (fun i _ => by simp)).low (by omega))
  clear hb ho x2 P1
  have x2 := P2.out.bx.box.cell 2 _ rfl
  go_wp2_with fail
  go_loopw [18] (fun i wr => ∃ (k : Nat) (W1 : Nat → Nat), k ≤ n ∧ i = .int .i64 k ∧ Hid (BQ w #[.int .i64 z0, .int .i64 z1, .slice A n c] 30 A n X wr) ∧ Hid (OVec wr (w.heap.size + 2) GA m (fun i => (W1 i : Int))) ∧ Hid (∀ i, i < m → W1 i < 65536) ∧ Hid (∀ i, i < 16 * m → bitN W1 i = usM k X i)) (fun i _ => n - (intOf i).toNat)
  case atStart => exact ⟨0, fun _ => 0, Nat.zero_le _, rfl, P2, O2, Lib.hid (fun _ _ => by show 0 < 65536; omega), Lib.hid (fun i _ => by unfold bitN usM; simp)⟩
  case round =>
    obtain ⟨k, W1, hk, rfl, HP, HO, HW, HBt⟩ := hrel
    by_cases hlt : k < n
    · obtain ⟨b, off, hA, _, hc⟩ := HP.out.bx.row (by omega)
      have hx := hc k hlt
      subst hA
      have hsr := HP.out.res.lt
      clear hc
      by_cases h3 : X k = 3
      · have HB3 := Lib.hid (show ∀ i, i < 16 * m → bitN W1 i = usM (k + 1) X i from fun i hi => by
          rw [HBt.out i hi]
          unfold usM
          by_cases e : i = k
          · subst e; unfold usF; simp [h3]
          · rw [show decide (i < k + 1) = decide (i < k) by simp; omega])
        rw [h3] at hx
        clear h3
        go_wp2_with fail
        go_roundw
        case rel => exact ⟨k + 1, W1, by omega, by go_num, HP, HO, HW, HB3⟩
        case measure => simp [intOf]; omega
      · have HS := Lib.hid (setField_own GA m (w.heap.size + 2) W1 k 1 1 wr hm2 HO.out HW.out (by have := HM.out; omega) (by omega) (by omega) (by omega))
        have d1 : (X k != (3 : Int)) = true := by simpa using h3
        have d2 : (X k == (3 : Int)) = false := by simpa using h3
        have HU := Lib.hid (show usF X k = true from d1)
        clear h3
        generalize X k = xk at hx d1 d2
        go_wp2_with fail
        refine HS.out.mono ?_; rintro e w3 ⟨rfl, ⟨W2, hp, ho⟩, hb⟩
        have HP3 := Lib.hid (HP.out.low HR0.out hb (Nat.le_refl _))
        have HO3 := Lib.hid ho
        have HW3 := Lib.hid hp.1
        have HB3 := Lib.hid (show ∀ i, i < 16 * m → bitN W2 i = usM (k + 1) X i from fun i hi => by
          rw [hp.2 i hi, HBt.out i hi]
          unfold usM
          by_cases e : i = k
          · subst e; simp [HU.out]
          · rw [if_neg (by omega), show decide (i < k + 1) = decide (i < k) by simp; omega])
        clear hp ho hb
        go_wp2_with fail
        go_roundw
        case rel => exact ⟨k + 1, W2, by omega, by go_num, HP3, HO3, HW3, HB3⟩
        case measure => simp [intOf]; omega
    · obtain rfl : k = n := by omega
      have HE := Lib.hid (words_eq (f := usM k X) HW.out HBt.out)
      have HV2 := Lib.hid (show IRow wr GA m (usW k X) from HO.out.row.congr (fun i hi => by unfold usW; rw [HE.out i hi]))
      have x2 := HP.out.bx.box.cell 2 _ rfl
      have hsr := HP.out.res.lt
      go_wp2_with fail
      refine (impl_build_yes k s GA m m (usW k X) _ (by omega) HV2.out (us_good X hn HM.out) HSZ.out).mono ?_
      rintro e w4 ⟨A1, c1, A2, c2, A3, c3, rfl, o1, o2, o3, a1, a2, a3, hb⟩
      have HP4 := Lib.hid (HP.out.step hb)
      have O1 := Lib.hid o1
      have O2' := Lib.hid o2
      have O3 := Lib.hid o3
      have AP := Lib.hid (And.intro a1 (And.intro a2 a3))
      clear o1 o2 o3 a1 a2 a3
      have hsz4 := hb.size
      clear hb
      have c0 := HP4.out.res.cell 0 _ rfl
      have c1' := HP4.out.res.cell 1 _ rfl
      have c2' := HP4.out.res.cell 2 _ rfl
      have c3' := HP4.out.res.cell 3 _ rfl
      have f0 := HP4.out.res.free 0
      have f1 := HP4.out.res.free 1
      have f2 := HP4.out.res.free 2
      have f3 := HP4.out.res.free 3
      have hsr4 := HP4.out.res.lt
      go_wp2_with fail
      have N4 := Lib.hid ((((HP4.out.res.set 0 (.int .i64 k)).set 1 (.slice A1 m c1)).set 2 (.slice A2 s c2)).set 3 (.slice A3 m c3))
      have r0 := N4.out.cell 0 (.int .i64 k) (by simp)
      have r1 := N4.out.cell 1 (.slice A1 m c1) (by simp)
      have r2 := N4.out.cell 2 (.slice A2 s c2) (by simp)
      have r3 := N4.out.cell 3 (.slice A3 m c3) (by simp)
      refine bodyPost_ret (v := .tuple #[.agg #[.int .i64 k, .slice A1 m c1, .slice A2 s c2, .slice A3 m c3], .bool true]) (by simp [results, Try.results34, go_sem, r0, r1, r2, r3]) rfl ?_
      refine ⟨A1, c1, A2, c2, A3, c3, rfl, ?_, ?_, ?_, AP.out.1, AP.out.2.1, AP.out.2.2, HP4.out.fin _ _ _ _⟩
      · exact (ow_set (ow_set (ow_set (ow_set O1.out (by omega) _) (by omega) _) (by omega) _) (by omega) _).mono (by omega) (by simp)
      · exact (ow_set (ow_set (ow_set (ow_set O2'.out (by omega) _) (by omega) _) (by omega) _) (by omega) _).mono (by omega) (by simp)
      · exact (ow_set (ow_set (ow_set (ow_set O3.out (by omega) _) (by omega) _) (by omega) _) (by omega) _).mono (by omega) (by simp)
set_option maxRecDepth 100000 in
set_option maxHeartbeats 2000000 in
theorem impl_usedOf_no (hn : n ≤ 1048576) (hr : IRow w A n X) (hv : ¬ PeV z0 z1 n X) :
    Calls Try.prog 34 #[.agg #[.int .i64 z0, .int .i64 z1, .slice A n c]] w (RkOwn 0 0 (fun _ => 0) 0 (fun _ => 0) 0 (fun _ => 0) false w) := by
  have P0 := Lib.hid (BQ.start (cs := #[.int .i64 z0, .int .i64 z1, .slice A n c]) (t := 30) hr)
  have HV := Lib.hid hv
  have x0 := P0.out.bx.box.cell 0 _ rfl
  have x1 := P0.out.bx.box.cell 1 _ rfl
  have x2 := P0.out.bx.box.cell 2 _ rfl
  clear hr hv
  go_enter Try.func34, Try.ntmps34
  go_wp2_with fail
  refine (impl_isValid_Peeled z0 z1 A n c X _ hn P0.out.bx.row).mono ?_; rintro e w1 ⟨b, rfl, hb, hw⟩
  obtain rfl : b = false := by
    cases b
    · rfl
    · exact absurd (hb.1 rfl) HV.out
  have P1 := Lib.hid (P0.out.step hw)
  clear hb hw x0 x1 x2 P0
  have c0 := P1.out.res.cell 0 _ rfl
  have c1 := P1.out.res.cell 1 _ rfl
  have c2 := P1.out.res.cell 2 _ rfl
  have c3 := P1.out.res.cell 3 _ rfl
  have f0 := P1.out.res.free 0
  have f1 := P1.out.res.free 1
  have f2 := P1.out.res.free 2
  have f3 := P1.out.res.free 3
  have hsr := P1.out.res.lt
  go_wp2_with fail
  refine bodyPost_ret (v := .tuple #[.agg #[.int .i64 0, .slice none 0 0, .slice none 0 0, .slice none 0 0], .bool false]) (by simp [results, Try.results34, go_sem, c0, c1, c2, c3]) rfl ?_
  exact ⟨none, 0, none, 0, none, 0, rfl, ow_zero _ _ _ _ _ _, ow_zero _ _ _ _ _ _, ow_zero _ _ _ _ _ _, fun h => absurd h (by omega), fun h => absurd h (by omega), fun h => absurd h (by omega), by first | exact P1.out.fin _ _ _ _ | exact P1.out.bx.below⟩
set_option maxRecDepth 100000 in
set_option maxHeartbeats 4000000 in
theorem spec_usedOf (m s : Nat) (hr : IRow w A n X) (hv : PeV z0 z1 n X) (hm : m = (n + 15) / 16) (hs : s = (n + 63) / 64) :
    Calls Try.prog 33 #[.agg #[.int .i64 z0, .int .i64 z1, .slice A n c]] w (RkVec n m (usW n X) s (supI (wdR (usW n X))) m (blkI (wdR (usW n X))) true w) := by
  have HR0 := Lib.hid hr
  have P0 := Lib.hid (BQ.start (cs := #[.int .i64 z0, .int .i64 z1, .slice A n c]) (t := 30) hr)
  have hn : n ≤ 72 := by have := hv.2.2.1; have := hv.2.1; omega
  have HV := Lib.hid hv
  have HM := Lib.hid hm
  have HSZ := Lib.hid hs
  have hm2 : m ≤ 256 := by omega
  have x0 := P0.out.bx.box.cell 0 _ rfl
  have x1 := P0.out.bx.box.cell 1 _ rfl
  have x2 := P0.out.bx.box.cell 2 _ rfl
  clear hr hv hm hs
  go_enter Try.func33, Try.ntmps33
  go_wp2_with fail
  refine (spec_pfPeeled z0 z1 A n c X _ (by omega) P0.out.bx.row).mono ?_; rintro e w1 ⟨b, rfl, hb, hw⟩
  obtain rfl : b = true := hb.2 HV.out
  have P1 := Lib.hid (P0.out.step hw)
  clear hb hw x0 x1 x2 P0
  have x2 := P1.out.bx.box.cell 2 _ rfl
  have hs1 := P1.out.res.lt
  go_wp2_with fail
  go_loopw [4, 14] (fun v i wr => ∃ (k : Nat) (A1 : Option Addr) (c1 : Nat), k ≤ n ∧ i = .int .i64 k ∧ v = .slice A1 k c1 ∧ Hid (wr.ownsRow (w.heap.size + 2) 4 1 (.slice A1 k c1) k (vals (boolV (usF X)) k)) ∧ Hid (BQ w #[.int .i64 z0, .int .i64 z1, .slice A n c] 30 A n X wr)) (fun _ i _ => n - (intOf i).toNat)
  case atStart => exact ⟨0, none, 0, Nat.zero_le _, rfl, rfl, Lib.hid (World.ownsRow_nil _ _ _ _), P1⟩
  case round =>
    obtain ⟨k, A1, c1, hk, rfl, rfl, HO, HP⟩ := hrel
    have hsr := HP.out.res.lt
    by_cases hlt : k < n
    · obtain ⟨b, off, hA, _, hc⟩ := HP.out.bx.row (by omega)
      have hx := hc k hlt
      subst hA
      clear hc
      go_wp2_with (at_builtin; refine wpList_push rfl _ _ 78 rfl (w.heap.size + 2) 4 (.bool false) 1 Try.underlying78 infoBu rfl A1 k c1 (boolV (usF X)) (.bool (X k != 3)) _ rfl HO.out rfl rfl rfl (by omega) (by omega) (by omega) ?_)
      intro A' c' w5 hown' hb5
      have HO5 := Lib.hid hown'
      have HP5 := Lib.hid (HP.out.low HR0.out hb5 (Nat.le_refl _))
      clear hown' hb5
      go_wp2_with fail
      go_roundw
      case rel => exact ⟨k + 1, A', c', by omega, by go_num, rfl, HO5, HP5⟩
      case measure => simp [intOf]; omega
    · obtain rfl : k = n := by omega
      have HBR := Lib.hid (show BRow wr A1 k (usF X) from (owned_vec HO.out).row)
      go_wp2_with fail
      refine (spec_biSome A1 k c1 m (usF X) _ (by omega) HM.out HBR.out).mono ?_; rintro e w3 ⟨g, rfl, hg, ho, hb⟩
      have HP3 := Lib.hid (HP.out.step hb)
      have HV3 := Lib.hid (show IRow w3 (some ⟨g, 0, none⟩) m (usW k X) from ho.row)
      have hs3 := hb.size
      clear hb ho
      go_wp2_with fail
      refine (spec_raOf k s _ m m (usW k X) _ (by omega) HV3.out (us_good X hn HM.out) HSZ.out).mono ?_
      rintro e w4 ⟨D1, d1, D2, d2, D3, d3, rfl, o1, o2, o3, hb⟩
      have HP4 := Lib.hid (HP3.out.step hb)
      have O1 := Lib.hid o1
      have O2 := Lib.hid o2
      have O3 := Lib.hid o3
      clear o1 o2 o3
      have hsz4 := hb.size
      clear hb
      have c0 := HP4.out.res.cell 0 _ rfl
      have c1' := HP4.out.res.cell 1 _ rfl
      have c2' := HP4.out.res.cell 2 _ rfl
      have c3' := HP4.out.res.cell 3 _ rfl
      have f0 := HP4.out.res.free 0
      have f1 := HP4.out.res.free 1
      have f2 := HP4.out.res.free 2
      have f3 := HP4.out.res.free 3
      have hsr4 := HP4.out.res.lt
      go_wp2_with fail
      have N4 := Lib.hid ((((HP4.out.res.set 0 (.int .i64 k)).set 1 (.slice D1 m d1)).set 2 (.slice D2 s d2)).set 3 (.slice D3 m d3))
      have r0 := N4.out.cell 0 (.int .i64 k) (by simp)
      have r1 := N4.out.cell 1 (.slice D1 m d1) (by simp)
      have r2 := N4.out.cell 2 (.slice D2 s d2) (by simp)
      have r3 := N4.out.cell 3 (.slice D3 m d3) (by simp)
      refine bodyPost_ret (v := .tuple #[.agg #[.int .i64 k, .slice D1 m d1, .slice D2 s d2, .slice D3 m d3], .bool true]) (by simp [results, Try.results33, go_sem, r0, r1, r2, r3]) rfl ?_
      refine ⟨D1, d1, D2, d2, D3, d3, rfl, ?_, ?_, ?_, HP4.out.fin _ _ _ _⟩
      · exact ow_of_gvec (gvec_low (gvec_set (gvec_set (gvec_set (gvec_set O1.out (by omega) _) (by omega) _) (by omega) _) (by omega) _) (by omega))
      · exact ow_of_gvec (gvec_low (gvec_set (gvec_set (gvec_set (gvec_set O2.out (by omega) _) (by omega) _) (by omega) _) (by omega) _) (by omega))
      · exact ow_of_gvec (gvec_low (gvec_set (gvec_set (gvec_set (gvec_set O3.out (by omega) _) (by omega) _) (by omega) _) (by omega) _) (by omega))
set_option maxRecDepth 100000 in
set_option maxHeartbeats 2000000 in
theorem spec_usedOf_no (hn : n ≤ 1048576) (hr : IRow w A n X) (hv : ¬ PeV z0 z1 n X) :
    Calls Try.prog 33 #[.agg #[.int .i64 z0, .int .i64 z1, .slice A n c]] w (RkVec 0 0 (fun _ => 0) 0 (fun _ => 0) 0 (fun _ => 0) false w) := by
  have P0 := Lib.hid (BQ.start (cs := #[.int .i64 z0, .int .i64 z1, .slice A n c]) (t := 30) hr)
  have HV := Lib.hid hv
  have x0 := P0.out.bx.box.cell 0 _ rfl
  have x1 := P0.out.bx.box.cell 1 _ rfl
  have x2 := P0.out.bx.box.cell 2 _ rfl
  clear hr hv
  go_enter Try.func33, Try.ntmps33
  go_wp2_with fail
  refine (spec_pfPeeled z0 z1 A n c X _ hn P0.out.bx.row).mono ?_; rintro e w1 ⟨b, rfl, hb, hw⟩
  obtain rfl : b = false := by
    cases b
    · rfl
    · exact absurd (hb.1 rfl) HV.out
  have P1 := Lib.hid (P0.out.step hw)
  clear hb hw x0 x1 x2 P0
  have c0 := P1.out.res.cell 0 _ rfl
  have c1 := P1.out.res.cell 1 _ rfl
  have c2 := P1.out.res.cell 2 _ rfl
  have c3 := P1.out.res.cell 3 _ rfl
  have f0 := P1.out.res.free 0
  have f1 := P1.out.res.free 1
  have f2 := P1.out.res.free 2
  have f3 := P1.out.res.free 3
  have hsr := P1.out.res.lt
  go_wp2_with fail
  refine bodyPost_ret (v := .tuple #[.agg #[.int .i64 0, .slice none 0 0, .slice none 0 0, .slice none 0 0], .bool false]) (by simp [results, Try.results33, go_sem, c0, c1, c2, c3]) rfl ?_
  exact ⟨none, 0, none, 0, none, 0, rfl, ow_zero _ _ _ _ _ _, ow_zero _ _ _ _ _ _, ow_zero _ _ _ _ _ _, by first | exact P1.out.fin _ _ _ _ | exact P1.out.bx.below⟩
end
end Go.Proofs.Ytockhjdhihehlaa
