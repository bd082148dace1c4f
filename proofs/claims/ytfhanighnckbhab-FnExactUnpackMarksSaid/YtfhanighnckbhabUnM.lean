/- UnpackMarks: both sides. -/
import Derived.Test.YtfhanighnckbhabPkM
import Derived.Test.YtfhanighnckbhabPush
import Derived.Test.YtfhanighnckbhabBits1
import Derived.Deep.DeepCutAuto
namespace Go.Proofs.Ytfhanighnckbhab
open Go.RowKit

/-- The marks in a vector of fields of the width 2. -/
def umY (X : Nat → Int) (i : Nat) : Int := ((fieldN (fun i => (X i).toNat) (2 * i) 2 : Nat) : Int)
def UnOk (sd sg z : Int) (n : Nat) (X : Nat → Int) : Prop := (0 ≤ sd ∧ sd ≤ 9999) ∧ (1 ≤ sg ∧ sg ≤ 24) ∧ Good z n X ∧ z = 6 * sg
/-- A Peeled with marks of one's own beside a word. -/
def PdOwn (sd sg : Int) (m : Nat) (Y : Nat → Int) (b : Bool) (w : World) (e : Ending) (w' : World) : Prop :=
  ∃ A c, e = .returned (.tuple #[.agg #[.int .i64 sd, .int .i64 sg, .slice A m c], .bool b]) ∧ Ow w.heap.size w'.heap.size 3 A m (intV Y) w' ∧ Below w.heap.size w w'
theorem PdOwn.row {sd sg : Int} {m : Nat} {Y : Nat → Int} {b : Bool} {w : World} (e : Ending) (w' : World) (h : PdOwn sd sg m Y b w e w') : ∃ A c, e = .returned (.tuple #[.agg #[.int .i64 sd, .int .i64 sg, .slice A m c], .bool b]) ∧ GRow w' A m (intV Y) ∧ Below w.heap.size w w' := by
  obtain ⟨A, c, h1, h2, h3⟩ := h
  exact ⟨A, c, h1, h2.rd.row (Nat.le_refl _), h3⟩
/-- A boxed vector and the answer's box (a Peeled) behind it. -/
structure BU (w : World) (cs : Array Value) (t : TypeId) (A : Option Addr) (n : Nat) (X : Nat → Int) (wi : World) : Prop where
  bx : BX1 w w.heap.size cs t A n X wi
  res : NBX w.heap.size (w.heap.size + 1) #[.int .i64 0, .int .i64 0, .slice none 0 0] 27 wi
section
variable {w wi wj : World} {n : Nat} {cs : Array Value} {t : TypeId} {A : Option Addr} {X : Nat → Int}
theorem BU.step (h : BU w cs t A n X wi) (hb : Below wi.heap.size wi wj) : BU w cs t A n X wj := ⟨h.bx.step hb, h.res.b hb⟩
theorem BU.start (h : IRow w A n X) : BU w cs t A n X ((w.alloc (.cells cs t)).alloc (.cells #[.int .i64 0, .int .i64 0, .slice none 0 0] 27)) := by
  have h1 := nbx0 (w.alloc (.cells cs t)) #[.int .i64 0, .int .i64 0, .slice none 0 0] 27
  simp only [World.size_alloc] at h1
  exact ⟨(BX1.start h).step ((Below.refl _ _).alloc (Nat.le_refl _) _), ⟨h1.blk, by omega⟩⟩
theorem BU.low {B : Nat} (h : BU w cs t A n X wi) (h0 : IRow w A n X) (hb : Below B wi wj) (hB : w.heap.size + 2 ≤ B) : BU w cs t A n X wj := by
  have hbl := h.bx.below.trans (hb.mono (show w.heap.size ≤ B by omega))
  exact ⟨⟨hbl, ⟨(hb.block _ (by omega)).trans h.bx.box.blk, h.bx.box.ge⟩, h0.b hbl⟩, ⟨(hb.block _ (by omega)).trans h.res.blk, h.res.ge⟩⟩
theorem BU.fin (h : BU w cs t A n X wi) (v0 v1 v2 : Value) : Below w.heap.size w (((wi.setCell ⟨w.heap.size + 1, 0, none⟩ v0).setCell ⟨w.heap.size + 1, 1, none⟩ v1).setCell ⟨w.heap.size + 1, 2, none⟩ v2) := below_setAt (below_setAt (below_setAt h.bx.below (by omega) _) (by omega) _) (by omega) _
end
theorem ow_setU {w : World} {lo hi b o n : Nat} {t : TypeId} {A : Option Addr} {F : Nat → Value} (h : Ow lo hi t A n F w) (hb : b < lo) (v : Value) : Ow lo hi t A n F (w.setCell ⟨b, o, none⟩ v) := fun h0 => by
  obtain ⟨g, off, c, h1, h2, h3, h4, h5⟩ := h h0
  exact ⟨g, off, c, h1, h2, h3, (Go.Deep.blk_setCell_other _ _ _ _ (by show g ≠ b; omega)).trans h4, h5⟩
theorem own_setU {w : World} {B : Nat} {e : TypeId} {A : Option Addr} {k c : Nat} {xs : List Value} (h : w.ownsRow B e 1 (.slice A k c) k xs) {b o : Nat} (hb : b < B) (v : Value) : (w.setCell ⟨b, o, none⟩ v).ownsRow B e 1 (.slice A k c) k xs :=
  h.kept (grown_setCell (World.grownBy.refl w _) o v) (by
    by_cases e : (Value.slice A k c).ownBlock = none
    · exact .inl e
    · refine .inr (fun e2 => ?_)
      have := (h.lt b e2).1
      omega)
section
variable (sd sg z : Int) (A : Option Addr) (n c : Nat) (X : Nat → Int) (w : World)
set_option maxRecDepth 100000 in
set_option maxHeartbeats 4000000 in
theorem impl_unpackMarks (g : Nat) (hn : n ≤ 1048576) (hr : IRow w A n X) (h : UnOk sd g (6 * g : Nat) n X) :
    Calls Try.prog 31 #[.int .i64 sd, .int .i64 g, .agg #[.int .i64 (6 * g : Nat), .slice A n c]] w (PdOwn sd g (3 * g) (umY X) true w) := by
  obtain ⟨t, ht⟩ : ∃ t : Nat, t = 3 * g := ⟨_, rfl⟩
  rw [← ht]
  have P0 := Lib.hid (BU.start (cs := #[.int .i64 (6 * g : Nat), .slice A n c]) (t := 35) hr)
  have HR0 := Lib.hid hr
  have HG := Lib.hid h.2.2.1
  have h1 : 1 ≤ g := by have := h.2.1; omega
  have h2 : g ≤ 24 := by have := h.2.1; omega
  have hnn : (n : Int) = (((6 * g : Nat) : Int) + 15) / 16 := h.2.2.1.2.2.1
  have HE : heB sd g = true := by unfold heB seedB; simp only [Bool.and_eq_true, decide_eq_true_eq]; have := h.1; omega
  have e1 : IntKind.i64.wrap ((6 : Int) * (g : Int)) = ((6 * g : Nat) : Int) := by rw [show (6 : Int) * (g : Int) = ((6 * g : Nat) : Int) by push_cast; rfl]; exact IntWalk.i64_in _ (by omega)
  have e3 : IntKind.i64.wrap ((3 : Int) * (g : Int)) = (t : Int) := by rw [show (3 : Int) * (g : Int) = (t : Int) by omega]; exact IntWalk.i64_in _ (by omega)
  have hmk := fun W => run_make_row' (P := Try.prog) 22 3 (.int .i64 0) 8 Try.underlying22 infoI rfl .i64 .i64 (t) (by omega) (by omega) W
  have ht16 : 2 * t ≤ 16 * n := by omega
  have ht72 : t ≤ 72 := by omega
  clear ht
  have x0 := P0.out.bx.box.cell 0 _ rfl
  have x1 := P0.out.bx.box.cell 1 _ rfl
  clear hr h
  generalize hz6 : ((6 * g : Nat) : Int) = z6 at *
  go_enter Try.func31, Try.ntmps31
  go_wp2_with fail
  refine (impl_hasEdges sd g _).mono ?_; rintro e w1 ⟨rfl, rfl⟩
  rw [HE]
  go_wp2_with fail
  refine (isBits_yes hn P0.out.bx.row HG.out).mono ?_; rintro e w1 ⟨rfl, hb⟩
  have P1 := Lib.hid (P0.out.step hb)
  clear hb x0 x1 P0
  have x0 := P1.out.bx.box.cell 0 _ rfl
  have x1 := P1.out.bx.box.cell 1 _ rfl
  have hs1 := P1.out.res.lt
  go_wp2_with fail
  have P2 := Lib.hid (P1.out.step ((Below.refl _ _).alloc (Nat.le_refl _) (.cells (madeCells #[.int .i64 0] (t)) 3)))
  go_loopw [32] (fun i wr => ∃ k : Nat, k ≤ t ∧ i = .int .i64 k ∧ Hid (ORow wr w1.heap.size (t) (fun i => if i < k then umY X i else 0)) ∧ Hid (BU w #[.int .i64 z6, .slice A n c] 35 A n X wr)) (fun i _ => t - (intOf i).toNat)
  case atStart => exact ⟨0, Nat.zero_le _, rfl, Lib.hid ((ORow.made _ _).congr (fun _ _ => rfl)), P2⟩
  case round =>
    obtain ⟨k, hk, rfl, HO, HP⟩ := hrel
    by_cases hlt : k < t
    · have x0 := HP.out.bx.box.cell 0 _ rfl
      have x1 := HP.out.bx.box.cell 1 _ rfl
      have e2 : IntKind.i64.wrap ((2 : Int) * (k : Int)) = ((2 * k : Nat) : Int) := by rw [show (2 : Int) * (k : Int) = ((2 * k : Nat) : Int) by push_cast; rfl]; exact IntWalk.i64_in _ (by omega)
      have HC := Lib.hid (impl_fieldOf A n c (fun i => (X i).toNat) (2 * k) 2 wr hn (good_row HG.out HP.out.bx.row) (by omega) (by omega))
      have HY := Lib.hid (show ((fieldN (fun i => (X i).toNat) (2 * k) 2 : Nat) : Int) = umY X k from rfl)
      rw [HY.out] at HC
      have hx := HO.out.cell hlt
      have hf := HO.out.frozen k
      clear HY
      go_wp2_with fail
      refine HC.out.mono ?_; rintro e w3 ⟨rfl, rfl⟩
      go_wp2_with fail
      go_roundw
      case rel =>
        refine ⟨k + 1, by omega, by go_num, Lib.hid ((HO.out.set k _).congr (fun j hj => ?_)), Lib.hid (HP.out.low HR0.out (below_setAt (Below.refl (w.heap.size + 2) _) (by omega) _) (Nat.le_refl _))⟩
        by_cases e : j = k
        · subst e; simp
        · simp only [e, if_false]
          by_cases h2 : j < k
          · rw [if_pos h2, if_pos (by omega)]
          · rw [if_neg h2, if_neg (by omega)]
      case measure => simp [intOf]; omega
    · obtain rfl : t = k := by omega
      have c0 := HP.out.res.cell 0 _ rfl
      have c1 := HP.out.res.cell 1 _ rfl
      have c2 := HP.out.res.cell 2 _ rfl
      have f0 := HP.out.res.free 0
      have f1 := HP.out.res.free 1
      have f2 := HP.out.res.free 2
      have hsr := HP.out.res.lt
      go_wp2_with fail
      have N4 := Lib.hid (((HP.out.res.set 0 (.int .i64 sd)).set 1 (.int .i64 g)).set 2 (.slice (some ⟨w1.heap.size, 0, none⟩) (t) (t)))
      have r0 := N4.out.cell 0 (.int .i64 sd) (by simp)
      have r1 := N4.out.cell 1 (.int .i64 g) (by simp)
      have r2 := N4.out.cell 2 (.slice (some ⟨w1.heap.size, 0, none⟩) (t) (t)) (by simp)
      refine bodyPost_ret (v := .tuple #[.agg #[.int .i64 sd, .int .i64 g, .slice (some ⟨w1.heap.size, 0, none⟩) (t) (t)], .bool true]) (by simp [results, Try.results31, go_sem, r0, r1, r2]) rfl ?_
      have HO4 := ((((HO.out.congr (fun j hj => by simp only [hj, if_true])).setAt (b := w.heap.size + 1) (o := 0) (by omega) (.int .i64 sd)).setAt (b := w.heap.size + 1) (o := 1) (by omega) (.int .i64 g)).setAt (b := w.heap.size + 1) (o := 2) (by omega) (.slice (some ⟨w1.heap.size, 0, none⟩) (t) (t)) : ORow _ w1.heap.size (t) (umY X))
      exact ⟨_, _, rfl, ow_of_own (F := intV (umY X)) HO4 (by omega) (Nat.le_refl _), HP.out.fin _ _ _⟩
set_option maxRecDepth 100000 in
set_option maxHeartbeats 4000000 in
theorem impl_unpackMarks_no (hn : n ≤ 1048576) (hr : IRow w A n X) (h : ¬ UnOk sd sg z n X) :
    Calls Try.prog 31 #[.int .i64 sd, .int .i64 sg, .agg #[.int .i64 z, .slice A n c]] w (PdOwn 0 0 0 (fun _ => 0) false w) := by
  have P0 := Lib.hid (BU.start (cs := #[.int .i64 z, .slice A n c]) (t := 35) hr)
  have HN := Lib.hid h
  have x0 := P0.out.bx.box.cell 0 _ rfl
  have x1 := P0.out.bx.box.cell 1 _ rfl
  clear hr h
  cases HE : heB sd sg with
  | false =>
    have c0 := P0.out.res.cell 0 _ rfl
    have c1 := P0.out.res.cell 1 _ rfl
    have c2 := P0.out.res.cell 2 _ rfl
    have f0 := P0.out.res.free 0
    have f1 := P0.out.res.free 1
    have f2 := P0.out.res.free 2
    have hsr := P0.out.res.lt
    go_enter Try.func31, Try.ntmps31
    go_wp2_with fail
    refine (impl_hasEdges sd sg _).mono ?_; rintro e w1 ⟨rfl, rfl⟩
    rw [HE]
    go_wp2_with fail
    refine bodyPost_ret (v := .tuple #[.agg #[.int .i64 0, .int .i64 0, .slice none 0 0], .bool false]) (by simp [results, Try.results31, go_sem, c0, c1, c2]) rfl ?_
    exact ⟨none, 0, rfl, ow_zero _ _ _ _ _ _, by first | exact P0.out.fin _ _ _ | exact P0.out.bx.below⟩
  | true =>
    have hh : (0 ≤ sd ∧ sd ≤ 9999) ∧ 1 ≤ sg ∧ sg ≤ 24 := by unfold heB seedB at HE; simp only [Bool.and_eq_true, decide_eq_true_eq] at HE; omega
    by_cases hg : Good z n X
    · have hz : z ≠ 6 * sg := fun e => HN.out ⟨hh.1, hh.2, hg, e⟩
      have e1 : IntKind.i64.wrap ((6 : Int) * sg) = 6 * sg := IntWalk.i64_in _ (by omega)
      have d1 : (z != 6 * sg) = true := by simpa using hz
      have d2 : (z == 6 * sg) = false := by simpa using hz
      have HG := Lib.hid hg
      clear hg hh
      go_enter Try.func31, Try.ntmps31
      go_wp2_with fail
      refine (impl_hasEdges sd sg _).mono ?_; rintro e w1 ⟨rfl, rfl⟩
      rw [HE]
      go_wp2_with fail
      refine (isBits_yes hn P0.out.bx.row HG.out).mono ?_; rintro e w1 ⟨rfl, hb⟩
      have P1 := Lib.hid (P0.out.step hb)
      clear hb x0 x1 P0
      have x0 := P1.out.bx.box.cell 0 _ rfl
      have c0 := P1.out.res.cell 0 _ rfl
      have c1 := P1.out.res.cell 1 _ rfl
      have c2 := P1.out.res.cell 2 _ rfl
      have f0 := P1.out.res.free 0
      have f1 := P1.out.res.free 1
      have f2 := P1.out.res.free 2
      have hsr := P1.out.res.lt
      go_wp2_with fail
      refine bodyPost_ret (v := .tuple #[.agg #[.int .i64 0, .int .i64 0, .slice none 0 0], .bool false]) (by simp [results, Try.results31, go_sem, c0, c1, c2]) rfl ?_
      exact ⟨none, 0, rfl, ow_zero _ _ _ _ _ _, by first | exact P1.out.fin _ _ _ | exact P1.out.bx.below⟩
    · have HG := Lib.hid hg
      clear hg hh
      go_enter Try.func31, Try.ntmps31
      go_wp2_with fail
      refine (impl_hasEdges sd sg _).mono ?_; rintro e w1 ⟨rfl, rfl⟩
      rw [HE]
      go_wp2_with fail
      refine (isBits_no hn P0.out.bx.row HG.out).mono ?_; rintro e w1 ⟨rfl, hb⟩
      have P1 := Lib.hid (P0.out.step hb)
      clear hb x0 x1 P0
      have c0 := P1.out.res.cell 0 _ rfl
      have c1 := P1.out.res.cell 1 _ rfl
      have c2 := P1.out.res.cell 2 _ rfl
      have f0 := P1.out.res.free 0
      have f1 := P1.out.res.free 1
      have f2 := P1.out.res.free 2
      have hsr := P1.out.res.lt
      go_wp2_with fail
      refine bodyPost_ret (v := .tuple #[.agg #[.int .i64 0, .int .i64 0, .slice none 0 0], .bool false]) (by simp [results, Try.results31, go_sem, c0, c1, c2]) rfl ?_
      exact ⟨none, 0, rfl, ow_zero _ _ _ _ _ _, by first | exact P1.out.fin _ _ _ | exact P1.out.bx.below⟩
set_option maxRecDepth 100000 in
set_option maxHeartbeats 4000000 in
theorem spec_unpackMarks_no (hn : n ≤ 1048576) (hr : IRow w A n X) (h : ¬ UnOk sd sg z n X) :
    Calls Try.prog 29 #[.int .i64 sd, .int .i64 sg, .agg #[.int .i64 z, .slice A n c]] w (PdOwn 0 0 0 (fun _ => 0) false w) := by
  have P0 := Lib.hid (BU.start (cs := #[.int .i64 z, .slice A n c]) (t := 35) hr)
  have HN := Lib.hid h
  have x0 := P0.out.bx.box.cell 0 _ rfl
  have x1 := P0.out.bx.box.cell 1 _ rfl
  clear hr h
  by_cases h0 : 0 ≤ sd ∧ sd ≤ 9999
  rotate_left
  · have c0 := P0.out.res.cell 0 _ rfl
    have c1 := P0.out.res.cell 1 _ rfl
    have c2 := P0.out.res.cell 2 _ rfl
    have f0 := P0.out.res.free 0
    have f1 := P0.out.res.free 1
    have f2 := P0.out.res.free 2
    have hsr := P0.out.res.lt
    go_enter Try.func29, Try.ntmps29
    go_wp2_with fail
    refine (l1In_no _ _ _ _ h0).mono ?_; rintro e w1 ⟨rfl, rfl⟩
    go_wp2_with fail
    refine bodyPost_ret (v := .tuple #[.agg #[.int .i64 0, .int .i64 0, .slice none 0 0], .bool false]) (by simp [results, Try.results29, go_sem, c0, c1, c2]) rfl ?_
    exact ⟨none, 0, rfl, ow_zero _ _ _ _ _ _, by first | exact P0.out.fin _ _ _ | exact P0.out.bx.below⟩
  by_cases h1 : 1 ≤ sg ∧ sg ≤ 24
  rotate_left
  · have c0 := P0.out.res.cell 0 _ rfl
    have c1 := P0.out.res.cell 1 _ rfl
    have c2 := P0.out.res.cell 2 _ rfl
    have f0 := P0.out.res.free 0
    have f1 := P0.out.res.free 1
    have f2 := P0.out.res.free 2
    have hsr := P0.out.res.lt
    go_enter Try.func29, Try.ntmps29
    go_wp2_with fail
    refine (l1In_yes _ _ _ _ h0.1 h0.2).mono ?_; rintro e w1 ⟨rfl, rfl⟩
    go_wp2_with fail
    refine (l1In_no _ _ _ _ h1).mono ?_; rintro e w1 ⟨rfl, rfl⟩
    go_wp2_with fail
    refine bodyPost_ret (v := .tuple #[.agg #[.int .i64 0, .int .i64 0, .slice none 0 0], .bool false]) (by simp [results, Try.results29, go_sem, c0, c1, c2]) rfl ?_
    exact ⟨none, 0, rfl, ow_zero _ _ _ _ _ _, by first | exact P0.out.fin _ _ _ | exact P0.out.bx.below⟩
  by_cases hg : Good z n X
  · have hz : z ≠ 6 * sg := fun e => HN.out ⟨h0, h1, hg, e⟩
    have e1 : IntKind.i64.wrap ((6 : Int) * sg) = 6 * sg := IntWalk.i64_in _ (by omega)
    have d1 : (z != 6 * sg) = true := by simpa using hz
    have d2 : (z == 6 * sg) = false := by simpa using hz
    have HG := Lib.hid hg
    clear hg
    go_enter Try.func29, Try.ntmps29
    go_wp2_with fail
    refine (l1In_yes _ _ _ _ h0.1 h0.2).mono ?_; rintro e w1 ⟨rfl, rfl⟩
    go_wp2_with fail
    refine (l1In_yes _ _ _ _ h1.1 h1.2).mono ?_; rintro e w1 ⟨rfl, rfl⟩
    go_wp2_with fail
    refine (biGood_yes hn P0.out.bx.row HG.out).mono ?_; rintro e w1 ⟨rfl, hb⟩
    have P1 := Lib.hid (P0.out.step hb)
    clear hb x0 x1 P0
    have x0 := P1.out.bx.box.cell 0 _ rfl
    have c0 := P1.out.res.cell 0 _ rfl
    have c1 := P1.out.res.cell 1 _ rfl
    have c2 := P1.out.res.cell 2 _ rfl
    have f0 := P1.out.res.free 0
    have f1 := P1.out.res.free 1
    have f2 := P1.out.res.free 2
    have hsr := P1.out.res.lt
    go_wp2_with fail
    refine bodyPost_ret (v := .tuple #[.agg #[.int .i64 0, .int .i64 0, .slice none 0 0], .bool false]) (by simp [results, Try.results29, go_sem, c0, c1, c2]) rfl ?_
    exact ⟨none, 0, rfl, ow_zero _ _ _ _ _ _, by first | exact P1.out.fin _ _ _ | exact P1.out.bx.below⟩
  · have HG := Lib.hid hg
    clear hg
    go_enter Try.func29, Try.ntmps29
    go_wp2_with fail
    refine (l1In_yes _ _ _ _ h0.1 h0.2).mono ?_; rintro e w1 ⟨rfl, rfl⟩
    go_wp2_with fail
    refine (l1In_yes _ _ _ _ h1.1 h1.2).mono ?_; rintro e w1 ⟨rfl, rfl⟩
    go_wp2_with fail
    refine (biGood_no hn P0.out.bx.row HG.out).mono ?_; rintro e w1 ⟨rfl, hb⟩
    have P1 := Lib.hid (P0.out.step hb)
    clear hb x0 x1 P0
    have c0 := P1.out.res.cell 0 _ rfl
    have c1 := P1.out.res.cell 1 _ rfl
    have c2 := P1.out.res.cell 2 _ rfl
    have f0 := P1.out.res.free 0
    have f1 := P1.out.res.free 1
    have f2 := P1.out.res.free 2
    have hsr := P1.out.res.lt
    go_wp2_with fail
    refine bodyPost_ret (v := .tuple #[.agg #[.int .i64 0, .int .i64 0, .slice none 0 0], .bool false]) (by simp [results, Try.results29, go_sem, c0, c1, c2]) rfl ?_
    exact ⟨none, 0, rfl, ow_zero _ _ _ _ _ _, by first | exact P1.out.fin _ _ _ | exact P1.out.bx.below⟩
end
end Go.Proofs.Ytfhanighnckbhab
