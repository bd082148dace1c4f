/- PackMarks: both sides. -/
import Derived.Test.YtfhanighnckbhabPeV
import Derived.Test.YtfhanighnckbhabPutF
namespace Go.Proofs.Ytfhanighnckbhab
open Go.RowKit

/-- The packed marks. -/
def pmF (n : Nat) (X : Nat → Int) (i : Nat) : Bool := decide (i < 2 * n) && (X (i / 2)).toNat.testBit (i % 2)
def pmK (k : Nat) (X : Nat → Int) (i : Nat) : Bool := if i < 2 * k then (X (i / 2)).toNat.testBit (i % 2) else false
theorem infoBl : (Try.prog.info? 4).map (fun i => (i.zero, i.size, i.bytes)) = some (some (.bool false), 1, 1) := by kernel_rfl
theorem madeBools (w : World) (n : Nat) : OVecB (w.alloc (.cells (madeCells #[.bool false] n) 4)) w.heap.size (some ⟨w.heap.size, 0, none⟩) n (fun _ => false) :=
  .inr ⟨w.heap.size, rfl, Nat.le_refl _, _, Go.Deep.blk_alloc_new _ _, by simp [madeCells], fun i hi => by simp [madeCells, hi, Nat.mod_one]⟩
theorem ovecB_congr {w : World} {B n : Nat} {A : Option Addr} {F G : Nat → Bool} (h : OVecB w B A n F) (e : ∀ i, i < n → F i = G i) : OVecB w B A n G := by
  rcases h with h | ⟨g, hA, hg, ho⟩
  · exact .inl h
  · exact .inr ⟨g, hA, hg, ho.congr e⟩
/-- A boxed Peeled and the answer's box behind it. -/
structure BP (w : World) (cs : Array Value) (t : TypeId) (A : Option Addr) (n : Nat) (X : Nat → Int) (wi : World) : Prop where
  bx : BX1 w w.heap.size cs t A n X wi
  res : NBX w.heap.size (w.heap.size + 1) #[.int .i64 0, .slice none 0 0] 35 wi
section
variable {w wi wj : World} {n : Nat} {cs : Array Value} {t : TypeId} {A : Option Addr} {X : Nat → Int}
theorem BP.step (h : BP w cs t A n X wi) (hb : Below wi.heap.size wi wj) : BP w cs t A n X wj := ⟨h.bx.step hb, h.res.b hb⟩
theorem BP.start (h : IRow w A n X) : BP w cs t A n X ((w.alloc (.cells cs t)).alloc (.cells #[.int .i64 0, .slice none 0 0] 35)) := by
  have h1 := nbx0 (w.alloc (.cells cs t)) #[.int .i64 0, .slice none 0 0] 35
  simp only [World.size_alloc] at h1
  exact ⟨(BX1.start h).step ((Below.refl _ _).alloc (Nat.le_refl _) _), ⟨h1.blk, by omega⟩⟩
theorem BP.low {B : Nat} (h : BP w cs t A n X wi) (h0 : IRow w A n X) (hb : Below B wi wj) (hB : w.heap.size + 2 ≤ B) : BP w cs t A n X wj := by
  have hbl := h.bx.below.trans (hb.mono (show w.heap.size ≤ B by omega))
  exact ⟨⟨hbl, ⟨(hb.block _ (by omega)).trans h.bx.box.blk, h.bx.box.ge⟩, h0.b hbl⟩, ⟨(hb.block _ (by omega)).trans h.res.blk, h.res.ge⟩⟩
theorem BP.fin (h : BP w cs t A n X wi) (v0 v1 : Value) : Below w.heap.size w ((wi.setCell ⟨w.heap.size + 1, 0, none⟩ v0).setCell ⟨w.heap.size + 1, 1, none⟩ v1) := below_setAt (below_setAt h.bx.below (by omega) _) (by omega) _
end
section
variable (z0 z1 : Int) (A : Option Addr) (n c : Nat) (X : Nat → Int) (w : World)
set_option maxRecDepth 100000 in
set_option maxHeartbeats 4000000 in
theorem impl_packMarks (hr : IRow w A n X) (hv : PeV z0 z1 n X) :
    Calls Try.prog 23 #[.agg #[.int .i64 z0, .int .i64 z1, .slice A n c]] w (OwnIs (2 * n : Nat) ((2 * n + 15) / 16) (fun i => (wordsOf (pmF n X) i : Int)) true w) := by
  have HR0 := Lib.hid hr
  have P0 := Lib.hid (BP.start (cs := #[.int .i64 z0, .int .i64 z1, .slice A n c]) (t := 27) hr)
  have hn : n ≤ 72 := by have := hv.2.2.1; have := hv.2.1; omega
  have HV := Lib.hid hv
  have HX := Lib.hid hv.2.2.2
  obtain ⟨m, hm⟩ : ∃ m, m = (2 * n + 15) / 16 := ⟨_, rfl⟩
  rw [← hm]
  have HM := Lib.hid hm
  have hm2 : m ≤ 256 := by omega
  have e1 : IntKind.i64.wrap ((2 : Int) * (n : Int)) = ((2 * n : Nat) : Int) := by rw [show (2 : Int) * (n : Int) = ((2 * n : Nat) : Int) by push_cast; rfl]; exact IntWalk.i64_in _ (by omega)
  have x0 := P0.out.bx.box.cell 0 _ rfl
  have x1 := P0.out.bx.box.cell 1 _ rfl
  have x2 := P0.out.bx.box.cell 2 _ rfl
  clear hr hv hm
  go_enter Try.func23, Try.ntmps23
  go_wp2_with fail
  refine (impl_isValid_Peeled z0 z1 A n c X _ (by omega) P0.out.bx.row).mono ?_; rintro e w1 ⟨b, rfl, hb, hw⟩
  obtain rfl : b = true := hb.2 HV.out
  have P1 := Lib.hid (P0.out.step hw)
  clear hb hw x0 x1 x2 P0
  have x2 := P1.out.bx.box.cell 2 _ rfl
  have hs1 := P1.out.res.lt
  go_wp2_with fail
  refine (growWords_any (2 * n) m none 0 0 (fun _ => 0) _ (by omega) HM.out (Nat.zero_le _) IRow.zero).mono ?_; rintro e w2 ⟨GA, rfl, ho, hb⟩
  have P2 := Lib.hid (P1.out.step hb)
  have O2 := Lib.hid (show OVec w2 (w.heap.size + 2) GA m (fun i => (((fun _ => 0 : Nat → Nat) i : Nat) : Int)) from (ho.congr (fun i _ => by simp)).low (by omega))
  clear hb ho x2 P1
  have x2 := P2.out.bx.box.cell 2 _ rfl
  go_wp2_with fail
  go_loopw [21] (fun i wr => ∃ (k : Nat) (W1 : Nat → Nat), k ≤ n ∧ i = .int .i64 k ∧ Hid (BP w #[.int .i64 z0, .int .i64 z1, .slice A n c] 27 A n X wr) ∧ Hid (OVec wr (w.heap.size + 2) GA m (fun i => (W1 i : Int))) ∧ Hid (∀ i, i < m → W1 i < 65536) ∧ Hid (∀ i, i < 16 * m → bitN W1 i = pmK k X i)) (fun i _ => n - (intOf i).toNat)
  case atStart => exact ⟨0, fun _ => 0, Nat.zero_le _, rfl, P2, O2, Lib.hid (fun _ _ => by show 0 < 65536; omega), Lib.hid (fun i _ => by unfold bitN pmK; simp)⟩
  case round =>
    obtain ⟨k, W1, hk, rfl, HP, HO, HW, HBt⟩ := hrel
    by_cases hlt : k < n
    · obtain ⟨b, off, hA, _, hc⟩ := HP.out.bx.row (by omega)
      have hx := hc k hlt
      obtain ⟨hx0, hx1⟩ := HX.out k hlt
      obtain ⟨v, hv⟩ : ∃ v : Nat, X k = v := ⟨(X k).toNat, by omega⟩
      rw [hv] at hx hx0 hx1
      have HXK := Lib.hid hv
      subst hA
      have hsr := HP.out.res.lt
      have e2 : IntKind.i64.wrap ((2 : Int) * (k : Int)) = ((2 * k : Nat) : Int) := by rw [show (2 : Int) * (k : Int) = ((2 * k : Nat) : Int) by push_cast; rfl]; exact IntWalk.i64_in _ (by omega)
      have HS := Lib.hid (setField_own GA m (w.heap.size + 2) W1 (2 * k) 2 v wr hm2 HO.out HW.out (by have := HM.out; omega) (by omega) (by omega) (by omega))
      clear hc hv
      go_wp2_with fail
      refine HS.out.mono ?_; rintro e w3 ⟨rfl, ⟨W2, hp, ho⟩, hb⟩
      have HP3 := Lib.hid (HP.out.low HR0.out hb (Nat.le_refl _))
      have HO3 := Lib.hid ho
      have HW3 := Lib.hid hp.1
      have HB3 := Lib.hid (show ∀ i, i < 16 * m → bitN W2 i = pmK (k + 1) X i from fun i hi => by
        rw [hp.2 i hi, HBt.out i hi]
        unfold pmK
        by_cases c1 : 2 * k ≤ i ∧ i < 2 * k + 2
        · rw [if_pos c1, if_pos (by omega), show i / 2 = k by omega, HXK.out, Int.toNat_natCast, show i % 2 = i - 2 * k by omega]
        · rw [if_neg c1]
          by_cases c2 : i < 2 * k
          · rw [if_pos c2, if_pos (by omega)]
          · rw [if_neg c2, if_neg (by omega)])
      clear hp ho hb
      go_wp2_with fail
      go_roundw
      case rel => exact ⟨k + 1, W2, by omega, by go_num, HP3, HO3, HW3, HB3⟩
      case measure => simp [intOf]; omega
    · obtain rfl : k = n := by omega
      have HE := Lib.hid (words_eq (f := pmF k X) HW.out (fun i hi => by
        rw [HBt.out i hi]; unfold pmK pmF
        by_cases c : i < 2 * k
        · rw [if_pos c, decide_eq_true c]; rfl
        · rw [if_neg c, decide_eq_false c]; rfl))
      have c0 := HP.out.res.cell 0 _ rfl
      have c1 := HP.out.res.cell 1 _ rfl
      have f0 := HP.out.res.free 0
      have f1 := HP.out.res.free 1
      have hsr := HP.out.res.lt
      go_wp2_with fail
      refine bodyPost_ret (v := .tuple #[.agg #[.int .i64 ((2 * k : Nat) : Int), .slice GA m m], .bool true]) (by simp [results, Try.results23, go_sem, c0, c1]) rfl ?_
      exact ⟨GA, m, rfl, (((HO.out.setAt (by omega) _).setAt (by omega) _).low (by omega)).congr (fun i hi => by rw [HE.out i hi]), HP.out.fin _ _⟩
set_option maxRecDepth 100000 in
set_option maxHeartbeats 2000000 in
theorem impl_packMarks_no (hn : n ≤ 1048576) (hr : IRow w A n X) (hv : ¬ PeV z0 z1 n X) :
    Calls Try.prog 23 #[.agg #[.int .i64 z0, .int .i64 z1, .slice A n c]] w (OwnIs 0 0 (fun _ => 0) false w) := by
  have P0 := Lib.hid (BP.start (cs := #[.int .i64 z0, .int .i64 z1, .slice A n c]) (t := 27) hr)
  have HV := Lib.hid hv
  have x0 := P0.out.bx.box.cell 0 _ rfl
  have x1 := P0.out.bx.box.cell 1 _ rfl
  have x2 := P0.out.bx.box.cell 2 _ rfl
  clear hr hv
  go_enter Try.func23, Try.ntmps23
  go_wp2_with fail
  refine (impl_isValid_Peeled z0 z1 A n c X _ hn P0.out.bx.row).mono ?_; rintro e w1 ⟨b, rfl, hb, hw⟩
  obtain rfl : b = false := by
    cases b
    · rfl
    · exact absurd (hb.1 rfl) HV.out
  have P1 := Lib.hid (P0.out.step hw)
  clear hb hw x0 x1 x2 P0
  have c0 := P1.out.res.cell 0 _ rfl
  have c1 := P1.out.res.cell 1 _ rfl
  have f0 := P1.out.res.free 0
  have f1 := P1.out.res.free 1
  have hsr := P1.out.res.lt
  go_wp2_with fail
  refine bodyPost_ret (v := .tuple #[.agg #[.int .i64 0, .slice none 0 0], .bool false]) (by simp [results, Try.results23, go_sem, c0, c1]) rfl ?_
  exact ⟨none, 0, rfl, .inl ⟨rfl, rfl⟩, by first | exact P1.out.fin _ _ | exact P1.out.bx.below⟩
/-! The model's. -/
set_option maxRecDepth 100000 in
set_option maxHeartbeats 4000000 in
theorem spec_pfPack (hr : IRow w A n X) (hn : n ≤ 72) (hx : InAll n X 0 3) :
    Calls Try.prog 63 #[.slice A n c] w fun e w' => ∃ g, e = .returned (.agg #[.int .i64 ((2 * n : Nat) : Int), .slice (some ⟨g, 0, none⟩) ((2 * n + 15) / 16) ((2 * n + 15) / 16)]) ∧ w.heap.size ≤ g ∧ ORow w' g ((2 * n + 15) / 16) (fun i => (wordsOf (pmF n X) i : Int)) ∧ Below w.heap.size w w' := by
  have HR := Lib.hid hr
  have HX := Lib.hid hx
  obtain ⟨m, hm⟩ : ∃ m, m = (2 * n + 15) / 16 := ⟨_, rfl⟩
  rw [← hm]
  have HM := Lib.hid hm
  obtain ⟨q, hq⟩ : ∃ q, q = 2 * n := ⟨_, rfl⟩
  have HQ := Lib.hid hq
  have hq9 : q ≤ 144 := by omega
  have e1 : IntKind.i64.wrap ((2 : Int) * (n : Int)) = (q : Int) := by rw [show (2 : Int) * (n : Int) = ((2 * n : Nat) : Int) by push_cast; rfl, ← hq]; exact IntWalk.i64_in _ (by omega)
  have hmk := fun W => run_make_row' (P := Try.prog) 102 4 (.bool false) 1 Try.underlying102 infoBl rfl .i64 .i64 q (by omega) (by omega) W
  have N0 := Lib.hid (show NBX w.heap.size w.heap.size #[.int .i64 0, .slice none 0 0] 35 (w.alloc (.cells #[.int .i64 0, .slice none 0 0] 35)) from ⟨Go.Deep.blk_alloc_new _ _, Nat.le_refl _⟩)
  have O0 := madeBools (w.alloc (.cells #[.int .i64 0, .slice none 0 0] 35)) q
  have B0 := ((Below.refl w.heap.size w).alloc (Nat.le_refl _) (.cells #[.int .i64 0, .slice none 0 0] 35))
  have B1 := Lib.hid (B0.alloc (by simp) (.cells (madeCells #[.bool false] q) 4))
  have N1 := Lib.hid (N0.out.b ((Below.refl _ _).alloc (Nat.le_refl _) (.cells (madeCells #[.bool false] q) 4)))
  simp only [World.size_alloc] at O0
  have O1 := Lib.hid O0
  clear hr hx hm N0 O0 B0 hq
  rw [← HQ.out]
  go_enter Try.func63, Try.ntmps63
  go_wp2_with fail
  go_loopw [12] (fun i wr => ∃ k : Nat, k ≤ n ∧ i = .int .i64 k ∧ Hid (NBX w.heap.size w.heap.size #[.int .i64 0, .slice none 0 0] 35 wr) ∧ Hid (OVecB wr (w.heap.size + 1) (some ⟨w.heap.size + 1, 0, none⟩) q (pmK k X)) ∧ Hid (Below w.heap.size w wr)) (fun i _ => n - (intOf i).toNat)
  case atStart => exact ⟨0, Nat.zero_le _, rfl, N1, Lib.hid (ovecB_congr O1.out (fun i _ => by unfold pmK; rw [if_neg (by omega)])), B1⟩
  case round =>
    obtain ⟨k, hk, rfl, HN, HO, HB⟩ := hrel
    have hsr := HN.out.lt
    by_cases hlt : k < n
    · obtain ⟨b, off, rfl, _, hc⟩ := (HR.out.b HB.out) (by omega)
      have hx := hc k hlt
      obtain ⟨hx0, hx1⟩ := HX.out k hlt
      obtain ⟨v, hv⟩ : ∃ v : Nat, X k = v := ⟨(X k).toNat, by omega⟩
      rw [hv] at hx hx0 hx1
      have HXK := Lib.hid hv
      have e2 : IntKind.i64.wrap ((2 : Int) * (k : Int)) = ((2 * k : Nat) : Int) := by rw [show (2 : Int) * (k : Int) = ((2 * k : Nat) : Int) by push_cast; rfl]; exact IntWalk.i64_in _ (by omega)
      have HS := Lib.hid (fun cc => spec_biPut (some ⟨w.heap.size + 1, 0, none⟩) q cc (2 * k) 2 v (w.heap.size + 1) (pmK k X) wr (by omega) (by omega) (by have := HQ.out; omega) (by omega) HO.out (by omega))
      clear hc hv
      go_wp2_with fail
      refine (HS.out _).mono ?_; rintro e w3 ⟨rfl, ho, hb⟩
      have HN3 := Lib.hid (show NBX w.heap.size w.heap.size #[.int .i64 0, .slice none 0 0] 35 w3 from ⟨(hb.block _ (by omega)).trans HN.out.blk, HN.out.ge⟩)
      have HO3 := Lib.hid (ovecB_congr (G := pmK (k + 1) X) ho (fun i hi => by
        unfold pmK
        by_cases c1 : 2 * k ≤ i ∧ i < 2 * k + 2
        · rw [if_pos c1, if_pos (by omega), show i / 2 = k by omega, HXK.out, Int.toNat_natCast, show i % 2 = i - 2 * k by omega]
        · rw [if_neg c1]
          by_cases c2 : i < 2 * k
          · rw [if_pos c2, if_pos (by omega)]
          · rw [if_neg c2, if_neg (by omega)]))
      have HB3 := Lib.hid (HB.out.trans (hb.mono (by omega)))
      clear ho hb
      go_wp2_with fail
      go_roundw
      case rel => exact ⟨k + 1, by omega, by go_num, HN3, HO3, HB3⟩
      case measure => simp [intOf]; omega
    · obtain rfl : k = n := by omega
      go_wp2_with fail
      refine (spec_biSome (some ⟨w.heap.size + 1, 0, none⟩) q _ m (pmK k X) _ (by omega) (by rw [HM.out, HQ.out]) HO.out.row).mono ?_; rintro e w3 ⟨g, rfl, hg, ho, hb⟩
      have N3 := Lib.hid (HN.out.b hb)
      have HB3 := Lib.hid (HB.out.trans (hb.mono HB.out.size))
      have HE : (fun i => decide (i < q) && pmK k X i) = pmF k X := funext fun i => by
        rw [HQ.out]
        unfold pmK pmF
        by_cases c : i < 2 * k
        · rw [if_pos c]
        · rw [if_neg c, decide_eq_false c]; rfl
      rw [HE] at ho
      have HO3 := Lib.hid ho
      clear hb ho HE
      have c0 := N3.out.cell 0 _ rfl
      have c1 := N3.out.cell 1 _ rfl
      have f0 := N3.out.free 0
      have f1 := N3.out.free 1
      have hsr3 := N3.out.lt
      go_wp2_with fail
      refine bodyPost_ret (v := .agg #[.int .i64 (q : Int), .slice (some ⟨g, 0, none⟩) m m]) (by simp [results, Try.results63, go_sem, c0, c1]) rfl ?_
      exact ⟨g, rfl, by omega, ORow.setAt (b := w.heap.size) (o := 1) (ORow.setAt (b := w.heap.size) (o := 0) HO3.out (by omega) _) (by omega) _, below_setAt (below_setAt HB3.out (Nat.le_refl _) _) (Nat.le_refl _) _⟩
set_option maxRecDepth 100000 in
set_option maxHeartbeats 2000000 in
theorem spec_packMarks (hr : IRow w A n X) (hv : PeV z0 z1 n X) :
    Calls Try.prog 22 #[.agg #[.int .i64 z0, .int .i64 z1, .slice A n c]] w (VecIs (2 * n : Nat) ((2 * n + 15) / 16) (fun i => (wordsOf (pmF n X) i : Int)) true w) := by
  have P0 := Lib.hid (BP.start (cs := #[.int .i64 z0, .int .i64 z1, .slice A n c]) (t := 27) hr)
  have hn : n ≤ 72 := by have := hv.2.2.1; have := hv.2.1; omega
  have HV := Lib.hid hv
  have x0 := P0.out.bx.box.cell 0 _ rfl
  have x1 := P0.out.bx.box.cell 1 _ rfl
  have x2 := P0.out.bx.box.cell 2 _ rfl
  clear hr hv
  go_enter Try.func22, Try.ntmps22
  go_wp2_with fail
  refine (spec_pfPeeled z0 z1 A n c X _ (by omega) P0.out.bx.row).mono ?_; rintro e w1 ⟨b, rfl, hb, hw⟩
  obtain rfl : b = true := hb.2 HV.out
  have P1 := Lib.hid (P0.out.step hw)
  clear hb hw x0 x1 x2 P0
  have x2 := P1.out.bx.box.cell 2 _ rfl
  go_wp2_with fail
  refine (spec_pfPack A n c X _ P1.out.bx.row hn HV.out.2.2.2).mono ?_; rintro e w2 ⟨g, rfl, hg, ho, hb⟩
  have P2 := Lib.hid (P1.out.step hb)
  have HO := Lib.hid ho
  have hs1 := P1.out.res.lt
  clear hb ho x2
  have c0 := P2.out.res.cell 0 _ rfl
  have c1 := P2.out.res.cell 1 _ rfl
  have f0 := P2.out.res.free 0
  have f1 := P2.out.res.free 1
  have hsr := P2.out.res.lt
  generalize hmm : (2 * n + 15) / 16 = m at *
  go_wp2_with fail
  refine bodyPost_ret (v := .tuple #[.agg #[.int .i64 ((2 * n : Nat) : Int), .slice (some ⟨g, 0, none⟩) m m], .bool true]) (by simp [results, Try.results22, go_sem, c0, c1]) rfl ?_
  rw [hmm]
  exact ⟨_, _, rfl, ORow.row (ORow.setAt (b := w.heap.size + 1) (o := 1) (ORow.setAt (b := w.heap.size + 1) (o := 0) HO.out (by omega) _) (by omega) _), P2.out.fin _ _⟩
set_option maxRecDepth 100000 in
set_option maxHeartbeats 2000000 in
theorem spec_packMarks_no (hn : n ≤ 1048576) (hr : IRow w A n X) (hv : ¬ PeV z0 z1 n X) :
    Calls Try.prog 22 #[.agg #[.int .i64 z0, .int .i64 z1, .slice A n c]] w (VecIs 0 0 (fun _ => 0) false w) := by
  have P0 := Lib.hid (BP.start (cs := #[.int .i64 z0, .int .i64 z1, .slice A n c]) (t := 27) hr)
  have HV := Lib.hid hv
  have x0 := P0.out.bx.box.cell 0 _ rfl
  have x1 := P0.out.bx.box.cell 1 _ rfl
  have x2 := P0.out.bx.box.cell 2 _ rfl
  clear hr hv
  go_enter Try.func22, Try.ntmps22
  go_wp2_with fail
  refine (spec_pfPeeled z0 z1 A n c X _ hn P0.out.bx.row).mono ?_; rintro e w1 ⟨b, rfl, hb, hw⟩
  obtain rfl : b = false := by
    cases b
    · rfl
    · exact absurd (hb.1 rfl) HV.out
  have P1 := Lib.hid (P0.out.step hw)
  clear hb hw x0 x1 x2 P0
  have c0 := P1.out.res.cell 0 _ rfl
  have c1 := P1.out.res.cell 1 _ rfl
  have f0 := P1.out.res.free 0
  have f1 := P1.out.res.free 1
  have hsr := P1.out.res.lt
  go_wp2_with fail
  refine bodyPost_ret (v := .tuple #[.agg #[.int .i64 0, .slice none 0 0], .bool false]) (by simp [results, Try.results22, go_sem, c0, c1]) rfl ?_
  exact ⟨none, 0, rfl, IRow.zero, by first | exact P1.out.fin _ _ | exact P1.out.bx.below⟩
end
end Go.Proofs.Ytfhanighnckbhab
