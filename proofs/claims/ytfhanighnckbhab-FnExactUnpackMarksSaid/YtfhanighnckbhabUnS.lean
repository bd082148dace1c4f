/- UnpackMarks: the model's. -/
import Derived.Test.YtfhanighnckbhabUnM
namespace Go.Proofs.Ytfhanighnckbhab
open Go.RowKit

/-- A Peeled that the model makes: the vector, the answer's box, its own box, its row of marks. -/
structure PU (w : World) (bq : Nat) (z : Int) (A : Option Addr) (n c : Nat) (X : Nat → Int) (sd sg : Int) (Y : Nat → Int) (q : Nat) (Ao : Option Addr) (co : Nat) (Ab : Option Addr) (qb cb : Nat) (wr : World) : Prop where
  u : BU w #[.int .i64 z, .slice A n c] 35 A n X wr
  box : NBX w.heap.size bq #[.int .i64 sd, .int .i64 sg, .slice Ab qb cb] 27 wr
  own : wr.ownsRow (bq + 1) 3 1 (.slice Ao q co) q (vals (intV Y) q)
  hq : w.heap.size + 2 ≤ bq
section
variable {w wr wj : World} {bq : Nat} {z : Int} {A : Option Addr} {n c : Nat} {X : Nat → Int} {sd sg : Int} {Y : Nat → Int} {q : Nat} {Ao : Option Addr} {co : Nat} {Ab : Option Addr} {qb cb : Nat}
theorem PU.b (h : PU w bq z A n c X sd sg Y q Ao co Ab qb cb wr) (hb : Below wr.heap.size wr wj) : PU w bq z A n c X sd sg Y q Ao co Ab qb cb wj := ⟨h.u.step hb, h.box.b hb, owned_b h.own hb, h.hq⟩
theorem PU.al (h : PU w bq z A n c X sd sg Y q Ao co Ab qb cb wr) (o : Obj) : PU w bq z A n c X sd sg Y q Ao co Ab qb cb (wr.alloc o) := h.b ((Below.refl _ _).alloc (Nat.le_refl _) o)
theorem PU.size (h : PU w bq z A n c X sd sg Y q Ao co Ab qb cb wr) : bq + 1 ≤ wr.heap.size := h.box.lt
theorem PU.push (h : PU w bq z A n c X sd sg Y q Ao co Ab qb cb wr) {A' : Option Addr} {c' : Nat} (ho : wj.ownsRow (bq + 1) 3 1 (.slice A' (q + 1) c') (q + 1) (vals (intV Y) (q + 1))) (hg : wr.grownBy wj (Value.slice Ao q co).ownBlock) (h0 : IRow w A n X) : PU w bq z A n c X sd sg Y (q + 1) A' c' Ab qb cb wj :=
  ⟨h.u.low h0 (below_ownG h.own hg h.size) (by have := h.hq; omega), nbx_grownG h.box h.own hg (by omega), ho, h.hq⟩
theorem PU.store (h : PU w bq z A n c X sd sg Y q Ao co Ab qb cb wr) (h0 : IRow w A n X) : PU w bq z A n c X sd sg Y q Ao co Ao q co (wr.setCell ⟨bq, 2, none⟩ (.slice Ao q co)) :=
  ⟨h.u.low h0 (below_setAt (Below.refl (w.heap.size + 2) wr) h.hq _) (Nat.le_refl _), by have := h.box.set 2 (.slice Ao q co); simpa using this, own_setU h.own (by omega) _, h.hq⟩
theorem PU.start (h : BU w #[.int .i64 z, .slice A n c] 35 A n X wr) : PU w wr.heap.size z A n c X sd sg Y 0 none 0 none 0 0 (wr.alloc (.cells #[.int .i64 sd, .int .i64 sg, .slice none 0 0] 27)) :=
  ⟨h.step ((Below.refl _ _).alloc (Nat.le_refl _) _), ⟨Go.Deep.blk_alloc_new _ _, by have := h.res.lt; omega⟩, World.ownsRow_nil _ _ _ _, by have := h.res.lt; omega⟩
end
section
variable (sd : Int) (A : Option Addr) (n c : Nat) (X : Nat → Int) (w : World)
set_option maxRecDepth 100000 in
set_option maxHeartbeats 4000000 in
theorem spec_unpackMarks (g : Nat) (hn : n ≤ 1048576) (hr : IRow w A n X) (h : UnOk sd g (6 * g : Nat) n X) :
    Calls Try.prog 29 #[.int .i64 sd, .int .i64 g, .agg #[.int .i64 (6 * g : Nat), .slice A n c]] w (PdOwn sd g (3 * g) (umY X) true w) := by
  obtain ⟨t, ht⟩ : ∃ t : Nat, t = 3 * g := ⟨_, rfl⟩
  rw [← ht]
  have P0 := Lib.hid (BU.start (cs := #[.int .i64 (6 * g : Nat), .slice A n c]) (t := 35) hr)
  have HR0 := Lib.hid hr
  have HG := Lib.hid h.2.2.1
  have h1 : 1 ≤ (g : Int) := by have := h.2.1; omega
  have h2 : (g : Int) ≤ 24 := by have := h.2.1; omega
  have H0 := Lib.hid h.1
  have hnn : (n : Int) = (((6 * g : Nat) : Int) + 15) / 16 := h.2.2.1.2.2.1
  have e1 : IntKind.i64.wrap ((6 : Int) * (g : Int)) = ((6 * g : Nat) : Int) := by rw [show (6 : Int) * (g : Int) = ((6 * g : Nat) : Int) by push_cast; rfl]; exact IntWalk.i64_in _ (by omega)
  have e3 : IntKind.i64.wrap ((3 : Int) * (g : Int)) = (t : Int) := by rw [show (3 : Int) * (g : Int) = (t : Int) by omega]; exact IntWalk.i64_in _ (by omega)
  have ht16 : 2 * t ≤ 16 * n := by omega
  have ht72 : t ≤ 72 := by omega
  clear ht
  have x0 := P0.out.bx.box.cell 0 _ rfl
  have x1 := P0.out.bx.box.cell 1 _ rfl
  clear hr h
  generalize hz6 : ((6 * g : Nat) : Int) = z6 at *
  go_enter Try.func29, Try.ntmps29
  go_wp2_with fail
  refine (l1In_yes _ _ _ _ H0.out.1 H0.out.2).mono ?_; rintro e w1 ⟨rfl, rfl⟩
  go_wp2_with fail
  refine (l1In_yes _ _ _ _ h1 h2).mono ?_; rintro e w1 ⟨rfl, rfl⟩
  go_wp2_with fail
  refine (biGood_yes hn P0.out.bx.row HG.out).mono ?_; rintro e w1 ⟨rfl, hb⟩
  have P1 := Lib.hid (P0.out.step hb)
  clear hb x0 x1 P0
  have x0 := P1.out.bx.box.cell 0 _ rfl
  have x1 := P1.out.bx.box.cell 1 _ rfl
  have hs1 := P1.out.res.lt
  go_wp2_with fail
  have U1 := Lib.hid (PU.start (sd := sd) (sg := g) (Y := umY X) P1.out)
  go_loopw [9] (fun i wr => ∃ (k : Nat) (A1 : Option Addr) (c1 : Nat), k ≤ t ∧ i = .int .i64 k ∧ Hid (PU w w1.heap.size z6 A n c X sd g (umY X) k A1 c1 A1 k c1 wr)) (fun i _ => t - (intOf i).toNat)
  case atStart => exact ⟨0, none, 0, Nat.zero_le _, rfl, U1⟩
  case round =>
    obtain ⟨k, A1, c1, hk, rfl, HP⟩ := hrel
    have hsz := HP.out.size
    have r0 := HP.out.box.cell 0 _ rfl
    have r1 := HP.out.box.cell 1 _ rfl
    have r2 := HP.out.box.cell 2 _ rfl
    have f2 := HP.out.box.free 2
    have x0 := HP.out.u.bx.box.cell 0 _ rfl
    have x1 := HP.out.u.bx.box.cell 1 _ rfl
    by_cases hlt : k < t
    · have e2 : IntKind.i64.wrap ((2 : Int) * (k : Int)) = ((2 * k : Nat) : Int) := by rw [show (2 : Int) * (k : Int) = ((2 * k : Nat) : Int) by push_cast; rfl]; exact IntWalk.i64_in _ (by omega)
      have HFV := Lib.hid (rfl : intV (umY X) k = .int .i64 ((fieldN (fun i => (X i).toNat) (2 * k) 2 : Nat) : Int))
      have HPD := Lib.hid (HP.out.b (Below.drew (Below.refl _ _)))
      go_upto_region 7 with fail
      go_region_law (first
          | (have hz := R5; clear hz; refine step_pushG rfl (.tmp 41) (.tmp 46) 22 3 (.int .i64 0) 8 Try.underlying22 infoI rfl rfl rfl rfl R5.out.own CY.out HFV.out rfl ?_ ?_ ?_ ?_; omega; omega; exact R5.out.size; intro A' c' w5 ho5 hg5; have R6 := Lib.hid (R5.out.push ho5 hg5 HR0.out); have k6 := R6.out.box.cell 2 _ rfl; have f6 := R6.out.box.free 2; clear ho5 hg5)
          | ((try go_simp); go_at_call 70; (first | refine (spec_biField z6 A n c (fun i => (X i).toNat) (2 * k) 2 _ hn (good_row HG.out HP.out.u.bx.row) (by omega) (by omega)).mono ?_ | refine (spec_biField z6 A n c (fun i => (X i).toNat) (2 * k) 2 _ hn (good_row HG.out HPD.out.u.bx.row) (by omega) (by omega)).mono ?_); rintro e w4 ⟨rfl, hb'⟩; have hb := of_drew hb'; have R4 := Lib.hid (HP.out.b hb); have k4 := R4.out.box.cell 2 _ rfl; have R5 := Lib.hid (R4.out.al (.cells #[.int .i64 ((fieldN (fun i => (X i).toNat) (2 * k) 2 : Nat) : Int)] 3)); have k5 := R5.out.box.cell 2 _ rfl; have CY := Lib.hid ((boxed w4 #[.int .i64 ((fieldN (fun i => (X i).toNat) (2 * k) 2 : Nat) : Int)] 3).now 0 _ rfl); clear hb hb'))
      all_goals
          have HP2 := Lib.hid (R6.out.store HR0.out)
          go_wp2_with fail
          go_roundw
          case rel => exact ⟨k + 1, A', c', by omega, by go_num, HP2⟩
          case measure => simp [intOf]; omega
    · obtain rfl : t = k := by omega
      have c0 := HP.out.u.res.cell 0 _ rfl
      have c1' := HP.out.u.res.cell 1 _ rfl
      have c2 := HP.out.u.res.cell 2 _ rfl
      have g0 := HP.out.u.res.free 0
      have g1 := HP.out.u.res.free 1
      have g2 := HP.out.u.res.free 2
      have hsr := HP.out.u.res.lt
      have hqq := HP.out.hq
      go_wp2_with fail
      have N4 := Lib.hid (((HP.out.u.res.set 0 (.int .i64 sd)).set 1 (.int .i64 g)).set 2 (.slice A1 t c1))
      have s0 := N4.out.cell 0 (.int .i64 sd) (by simp)
      have s1 := N4.out.cell 1 (.int .i64 g) (by simp)
      have s2 := N4.out.cell 2 (.slice A1 t c1) (by simp)
      refine bodyPost_ret (v := .tuple #[.agg #[.int .i64 sd, .int .i64 g, .slice A1 t c1], .bool true]) (by simp [results, Try.results29, go_sem, s0, s1, s2]) rfl ?_
      have HO4 := own_setU (own_setU (own_setU HP.out.own (b := w.heap.size + 1) (o := 0) (by omega) (.int .i64 sd)) (b := w.heap.size + 1) (o := 1) (by omega) (.int .i64 g)) (b := w.heap.size + 1) (o := 2) (by omega) (.slice A1 t c1)
      refine ⟨A1, c1, rfl, ?_, HP.out.u.fin _ _ _⟩
      rcases owned_vec HO4 with e | ⟨gg, rfl, hg, ho⟩
      · rw [e]; exact ow_zero _ _ _ _ _ _
      · exact ow_of_own ho (by omega) (Nat.le_refl _)
end
end Go.Proofs.Ytfhanighnckbhab
