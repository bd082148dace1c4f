/- The law FnRankUndoesSelect, walked. -/
import Derived.Test.YtbflgbmobbbebaaGenR
import Derived.Test.YtbflgbmobbbebaaRankCalls
import Derived.Test.YtbflgbmobbbebaaBuildR
namespace Go.Proofs.Ytbflgbmobbbebaa
open Go.RowKit

/-- The drawn vector, boxed at qb. -/
structure UB (w : World) (qb : Nat) (z : Int) (B : Option Addr) (m d : Nat) (X : Nat → Int) (wi : World) : Prop where
  below : Below w.heap.size w wi
  row : IRow wi B m X
  boxB : NBX qb qb #[.int .i64 z, .slice B m d] 26 wi
/-- A Ranked, boxed at qr. -/
structure UR (qr : Nat) (z : Int) (A1 : Option Addr) (n c1 : Nat) (X : Nat → Int) (A2 : Option Addr) (s c2 : Nat) (Y : Nat → Int) (A3 : Option Addr) (m c3 : Nat) (Z : Nat → Int) (wi : World) : Prop where
  rows : RkR A1 n X A2 s Y A3 m Z wi
  box : NBX qr qr (rkC z A1 n c1 A2 s c2 A3 m c3) 29 wi
section
variable {w wi wj : World} {qb qr : Nat} {z : Int} {B A1 A2 A3 : Option Addr} {m d n c1 s c2 c3 : Nat} {X Y Z : Nat → Int}
theorem UB.step (h : UB w qb z B m d X wi) (hb : Below wi.heap.size wi wj) : UB w qb z B m d X wj := ⟨h.below.trans (hb.mono h.below.size), h.row.b hb, h.boxB.b hb⟩
theorem UB.al (h : UB w qb z B m d X wi) (o : Obj) : UB w qb z B m d X (wi.alloc o) := h.step ((Below.refl _ _).alloc (Nat.le_refl _) o)
theorem UB.start (hb : Below w.heap.size w wi) (hr : IRow wi B m X) : UB w wi.heap.size z B m d X (wi.alloc (.cells #[.int .i64 z, .slice B m d] 26)) :=
  ⟨hb.trans (((Below.refl _ _).alloc (Nat.le_refl _) _).mono hb.size), hr.b ((Below.refl _ _).alloc (Nat.le_refl _) _), nbx0 _ _ _⟩
theorem UB.cells (h : UB w qb z B m d X wi) : wi.cell? ⟨qb, 0, none⟩ = some (.int .i64 z) ∧ wi.cell? ⟨qb, 1, none⟩ = some (.slice B m d) := ⟨h.boxB.cell 0 _ rfl, h.boxB.cell 1 _ rfl⟩
theorem UR.step (h : UR qr z A1 n c1 X A2 s c2 Y A3 m c3 Z wi) (hb : Below wi.heap.size wi wj) : UR qr z A1 n c1 X A2 s c2 Y A3 m c3 Z wj := ⟨h.rows.b hb, h.box.b hb⟩
theorem UR.al (h : UR qr z A1 n c1 X A2 s c2 Y A3 m c3 Z wi) (o : Obj) : UR qr z A1 n c1 X A2 s c2 Y A3 m c3 Z (wi.alloc o) := h.step ((Below.refl _ _).alloc (Nat.le_refl _) o)
theorem UR.start (h : RkR A1 n X A2 s Y A3 m Z wi) : UR wi.heap.size z A1 n c1 X A2 s c2 Y A3 m c3 Z (wi.alloc (.cells (rkC z A1 n c1 A2 s c2 A3 m c3) 29)) := ⟨h.al _, nbx0 _ _ _⟩
theorem UR.cells (h : UR qr z A1 n c1 X A2 s c2 Y A3 m c3 Z wi) : wi.cell? ⟨qr, 0, none⟩ = some (.int .i64 z) ∧ wi.cell? ⟨qr, 1, none⟩ = some (.slice A1 n c1) ∧ wi.cell? ⟨qr, 2, none⟩ = some (.slice A2 s c2) ∧ wi.cell? ⟨qr, 3, none⟩ = some (.slice A3 m c3) :=
  ⟨h.box.cell 0 _ rfl, h.box.cell 1 _ rfl, h.box.cell 2 _ rfl, h.box.cell 3 _ rfl⟩
theorem rkr_zero {w : World} {A1 A2 A3 : Option Addr} {X Y Z : Nat → Int} : RkR A1 0 X A2 0 Y A3 0 Z w := ⟨by omega, by omega, by omega, IRow.zero, IRow.zero, IRow.zero⟩
theorem rkr_ow {w : World} {l1 l2 l3 : Nat} (hn : n ≤ 1048576) (hs : s ≤ 1048576) (hm : m ≤ 1048576) (h1 : Ow l1 w.heap.size 3 A1 n (intV X) w) (h2 : Ow l2 w.heap.size 3 A2 s (intV Y) w) (h3 : Ow l3 w.heap.size 3 A3 m (intV Z) w) : RkR A1 n X A2 s Y A3 m Z w :=
  ⟨hn, hs, hm, irow (h1.rd.row (Nat.le_refl _)), irow (h2.rd.row (Nat.le_refl _)), irow (h3.rd.row (Nat.le_refl _))⟩
end

set_option maxRecDepth 100000 in
set_option maxHeartbeats 8000000 in
theorem walk_FnRankUndoesSelect (w : World) (A : Option Addr) (n c : Nat) (D : Nat → Int) (hn : n ≤ maxLen) (hr : URow w A n D) (B : Option Addr) (m d : Nat) (E : Nat → Int) (hm : m ≤ maxLen) (_hs : URow w B m E) :
    Calls Try.prog 3 #[.slice A n c, .slice B m d] w fun e w' => e = .returned (.bool true) ∧ Below w.heap.size w w' := by
  have HR := Lib.hid hr
  clear hr
  by_cases hbig : n + m ≤ 1048576
  rotate_left
  · have hb : (!decide (n + m ≤ 1048576)) = true := by simp; omega
    go_enter Try.func3, Try.ntmps3
    go_wp2_with fail
    refine (big_is A B n c m d w hn hm).mono ?_; rintro e w' ⟨rfl, rfl⟩
    rw [hb]
    go_wp2_with fail
    go_ret
    exact ⟨rfl, Below.refl _ _⟩
  have hb : (!decide (n + m ≤ 1048576)) = false := by simp; omega
  go_enter Try.func3, Try.ntmps3
  go_wp2_with fail
  refine (big_is A B n c m d w hn hm).mono ?_; rintro e w' ⟨rfl, rfl⟩
  rw [hb]
  clear hb
  go_wp2_with fail
  refine (draw_buildRanked A n c D w (by omega) HR.out.1 HR.out.2).mono ?_; rintro e w1 ⟨z, P, a, pc, X, rfl, hx, hb⟩
  obtain ⟨z0, z1, ha, ha2, ha3, ho⟩ := hx
  have U1 := Lib.hid (UB.start (z := z) (d := pc) hb (irow (ho.rd.row (Nat.le_refl _))))
  clear hb ho ha2 ha3
  obtain ⟨b0, b1⟩ := U1.out.cells
  have ha4 : a ≤ 1048576 := by omega
  by_cases hg : Good z a X
  rotate_left
  · have HG := Lib.hid hg
    clear hg
    go_wp2_with fail
    refine (impl_build_no z P a pc X _ ha4 U1.out.row HG.out).mono ?_; rintro e w2 ⟨D1, e1, D2, e2, D3, e3, rfl, o1, o2, o3, p1, p2, p3, hb⟩
    have U2 := Lib.hid ((U1.out.step hb).al (.cells (rkC 0 D1 0 e1 D2 0 e2 D3 0 e3) 29))
    have V2 := Lib.hid (UR.start (z := 0) (c1 := e1) (c2 := e2) (c3 := e3) (rkr_zero (w := w2) (A1 := D1) (A2 := D2) (A3 := D3) (X := fun _ => 0) (Y := fun _ => 0) (Z := fun _ => 0)))
    clear hb o1 o2 o3 p1 p2 p3 b0 b1 U1
    obtain ⟨b0, b1⟩ := U2.out.cells
    go_wp2_with fail
    refine (spec_build_no z P a pc X _ ha4 U2.out.row HG.out).mono ?_; rintro e w3 ⟨E1, f1, E2, f2, E3, f3, rfl, o1, o2, o3, hb⟩
    have U3 := Lib.hid ((U2.out.step hb).al (.cells (rkC 0 E1 0 f1 E2 0 f2 E3 0 f3) 29))
    have V3 := Lib.hid ((V2.out.step hb).al (.cells (rkC 0 E1 0 f1 E2 0 f2 E3 0 f3) 29))
    have W3 := Lib.hid (UR.start (z := 0) (c1 := f1) (c2 := f2) (c3 := f3) (rkr_zero (w := w3) (A1 := E1) (A2 := E2) (A3 := E3) (X := fun _ => 0) (Y := fun _ => 0) (Z := fun _ => 0)))
    clear hb o1 o2 o3 b0 b1 U2 V2
    obtain ⟨b0, b1⟩ := U3.out.cells
    obtain ⟨r0, r1, r2, r3⟩ := V3.out.cells
    obtain ⟨q0, q1, q2, q3⟩ := W3.out.cells
    go_wp2_with fail
    refine (pSameR_yes V3.out.rows W3.out.rows).mono ?_; rintro e w4 ⟨rfl, hb⟩
    have U4 := Lib.hid (U3.out.step hb)
    go_wp2_with fail
    go_ret
    exact ⟨rfl, U4.out.below⟩
  obtain ⟨z, rfl⟩ := Int.eq_ofNat_of_zero_le hg.1
  obtain ⟨s, hs⟩ : ∃ s : Nat, s = (z + 63) / 64 := ⟨_, rfl⟩
  have hz4 : z ≤ 4096 := by omega
  have hs4 : s ≤ 1048576 := by omega
  have HG := Lib.hid hg
  have HS := Lib.hid hs
  have RK := Lib.hid (show RankOk z a X s (supI (wdR X)) a (blkI (wdR X)) from ⟨hg, ⟨by omega, fun _ _ => rfl⟩, hg.2.2.1, fun _ _ => rfl⟩)
  clear hg hs
  go_wp2_with fail
  refine (impl_build_yes z s P a pc X _ ha4 U1.out.row HG.out HS.out).mono ?_; rintro e w2 ⟨D1, e1, D2, e2, D3, e3, rfl, o1, o2, o3, p1, p2, p3, hb⟩
  have U2 := Lib.hid ((U1.out.step hb).al (.cells (rkC z D1 a e1 D2 s e2 D3 a e3) 29))
  have V2 := Lib.hid (UR.start (z := z) (c1 := e1) (c2 := e2) (c3 := e3) (rkr_ow ha4 hs4 ha4 o1 o2 o3))
  clear hb o1 o2 o3 p1 p2 p3 b0 b1 U1
  obtain ⟨b0, b1⟩ := U2.out.cells
  go_wp2_with fail
  refine (spec_build_yes z s P a pc X _ ha4 U2.out.row HG.out HS.out).mono ?_; rintro e w3 ⟨E1, f1, E2, f2, E3, f3, rfl, o1, o2, o3, hb⟩
  have U3 := Lib.hid ((U2.out.step hb).al (.cells (rkC z E1 a f1 E2 s f2 E3 a f3) 29))
  have V3 := Lib.hid ((V2.out.step hb).al (.cells (rkC z E1 a f1 E2 s f2 E3 a f3) 29))
  have W3 := Lib.hid (UR.start (z := z) (c1 := f1) (c2 := f2) (c3 := f3) (rkr_ow ha4 hs4 ha4 o1 o2 o3))
  clear hb o1 o2 o3 b0 b1 U2 V2
  obtain ⟨b0, b1⟩ := U3.out.cells
  obtain ⟨r0, r1, r2, r3⟩ := V3.out.cells
  obtain ⟨q0, q1, q2, q3⟩ := W3.out.cells
  go_wp2_with fail
  refine (pSameR_yes V3.out.rows W3.out.rows).mono ?_; rintro e w4 ⟨rfl, hb⟩
  have U4 := Lib.hid (U3.out.step hb)
  have V4 := Lib.hid (V3.out.step hb)
  clear hb b0 b1 r0 r1 r2 r3 q0 q1 q2 q3 U3 V3 W3
  obtain ⟨b0, b1⟩ := U4.out.cells
  by_cases h400 : (400 : Int) < (z : Int)
  · have dz : decide ((400 : Int) < (z : Int)) = true := by simpa using h400
    go_wp2_with fail
    go_ret
    exact ⟨rfl, U4.out.below⟩
  have dz : decide ((400 : Int) < (z : Int)) = false := by simpa using h400
  go_wp2_with fail
  generalize w1.heap.size = qb at *
  generalize w2.heap.size = qr at *
  go_loopw [10] (fun i wr => ∃ k : Nat, k ≤ z ∧ i = .int .i64 k ∧ Hid (UB w qb z P a pc X wr) ∧ Hid (UR qr z D1 a e1 X D2 s e2 (supI (wdR X)) D3 a e3 (blkI (wdR X)) wr)) (fun i _ => z - (intOf i).toNat)
  case atStart => exact ⟨0, Nat.zero_le _, rfl, U4, V4⟩
  case round =>
    obtain ⟨k, hk, rfl, U5, V5⟩ := hrel
    clear b0 b1
    obtain ⟨b0, b1⟩ := U5.out.cells
    obtain ⟨r0, r1, r2, r3⟩ := V5.out.cells
    by_cases hlt : k < z
    · have hroom : Room z a X k 1 := ⟨HG.out, by omega, by omega, by omega, by omega⟩
      have RM := Lib.hid hroom
      have HV := Lib.hid (cntB_sum (wdR X) k)
      generalize hV1 : cntB (wdR X) true k = V1 at *
      generalize hV0 : cntB (wdR X) false k = V0 at *
      have HV1 := Lib.hid hV1
      have HV0 := Lib.hid hV0
      have hsum : (V1 : Int) + (V0 : Int) = (k : Int) := by have := HV.out; omega
      have hv1 : V1 ≤ 4096 := by have := HV.out; omega
      have hv0 : V0 ≤ 4096 := by have := HV.out; omega
      clear hroom hV1 hV0
      cases hbit : bitN (wdR X) k
      · have HB := Lib.hid hbit
        have hbv : bitN (fun i => (X i).toNat) k = false := hbit
        clear hbit
        go_wp2_with fail
        refine (impl_bitAt_yes (z : Int) P a pc X k _ ha4 U5.out.row RM.out).mono ?_; rintro e w5 ⟨rfl, hb⟩
        have U6 := Lib.hid (U5.out.step hb)
        have V6 := Lib.hid (V5.out.step hb)
        clear hb b0 b1 r0 r1 r2 r3
        obtain ⟨b0, b1⟩ := U6.out.cells
        obtain ⟨r0, r1, r2, r3⟩ := V6.out.cells
        go_wp2_with fail
        refine (rank1_call (i := k) V6.out.rows RK.out hk).mono ?_; rintro e w6 ⟨rfl, hb⟩
        rw [HV1.out]
        have U7 := Lib.hid (U6.out.step hb)
        have V7 := Lib.hid (V6.out.step hb)
        clear hb b0 b1 r0 r1 r2 r3
        obtain ⟨b0, b1⟩ := U7.out.cells
        obtain ⟨r0, r1, r2, r3⟩ := V7.out.cells
        go_wp2_with fail
        refine (rank0_call (i := k) V7.out.rows RK.out hk).mono ?_; rintro e w7 ⟨rfl, hb⟩
        rw [HV0.out]
        have U8 := Lib.hid (U7.out.step hb)
        have V8 := Lib.hid (V7.out.step hb)
        clear hb b0 b1 r0 r1 r2 r3
        obtain ⟨b0, b1⟩ := U8.out.cells
        obtain ⟨r0, r1, r2, r3⟩ := V8.out.cells
        obtain ⟨v, bb, hc⟩ := sel1_some (c1 := e1) (c2 := e2) (c3 := e3) (k := V1) V8.out.rows RK.out
        have HC := Lib.hid hc
        clear hc
        go_wp2_with fail
        refine HC.out.mono ?_; rintro e w8 ⟨rfl, hb⟩
        have U9 := Lib.hid (U8.out.step hb)
        have V9 := Lib.hid (V8.out.step hb)
        clear hb b0 b1 r0 r1 r2 r3
        obtain ⟨b0, b1⟩ := U9.out.cells
        obtain ⟨r0, r1, r2, r3⟩ := V9.out.cells
        go_wp2_with fail
        refine (sel0_call (k := V0) (i := k) V9.out.rows RK.out ⟨hlt, HB.out, HV0.out⟩).mono ?_; rintro e w9 ⟨rfl, hb⟩
        have U10 := Lib.hid (U9.out.step hb)
        have V10 := Lib.hid (V9.out.step hb)
        clear hb b0 b1 r0 r1 r2 r3
        obtain ⟨b0, b1⟩ := U10.out.cells
        obtain ⟨r0, r1, r2, r3⟩ := V10.out.cells
        go_wp2_with fail
        go_roundw
        case rel => exact ⟨k + 1, hlt, by go_num, U10, V10⟩
        case measure => simp [intOf]; omega
      · have HB := Lib.hid hbit
        have hbv : bitN (fun i => (X i).toNat) k = true := hbit
        clear hbit
        go_wp2_with fail
        refine (impl_bitAt_yes (z : Int) P a pc X k _ ha4 U5.out.row RM.out).mono ?_; rintro e w5 ⟨rfl, hb⟩
        have U6 := Lib.hid (U5.out.step hb)
        have V6 := Lib.hid (V5.out.step hb)
        clear hb b0 b1 r0 r1 r2 r3
        obtain ⟨b0, b1⟩ := U6.out.cells
        obtain ⟨r0, r1, r2, r3⟩ := V6.out.cells
        go_wp2_with fail
        refine (rank1_call (i := k) V6.out.rows RK.out hk).mono ?_; rintro e w6 ⟨rfl, hb⟩
        rw [HV1.out]
        have U7 := Lib.hid (U6.out.step hb)
        have V7 := Lib.hid (V6.out.step hb)
        clear hb b0 b1 r0 r1 r2 r3
        obtain ⟨b0, b1⟩ := U7.out.cells
        obtain ⟨r0, r1, r2, r3⟩ := V7.out.cells
        go_wp2_with fail
        refine (rank0_call (i := k) V7.out.rows RK.out hk).mono ?_; rintro e w7 ⟨rfl, hb⟩
        rw [HV0.out]
        have U8 := Lib.hid (U7.out.step hb)
        have V8 := Lib.hid (V7.out.step hb)
        clear hb b0 b1 r0 r1 r2 r3
        obtain ⟨b0, b1⟩ := U8.out.cells
        obtain ⟨r0, r1, r2, r3⟩ := V8.out.cells
        go_wp2_with fail
        refine (sel1_call (k := V1) (i := k) V8.out.rows RK.out ⟨hlt, HB.out, HV1.out⟩).mono ?_; rintro e w8 ⟨rfl, hb⟩
        have U9 := Lib.hid (U8.out.step hb)
        have V9 := Lib.hid (V8.out.step hb)
        clear hb b0 b1 r0 r1 r2 r3
        obtain ⟨b0, b1⟩ := U9.out.cells
        obtain ⟨r0, r1, r2, r3⟩ := V9.out.cells
        go_wp2_with fail
        go_roundw
        case rel => exact ⟨k + 1, hlt, by go_num, U9, V9⟩
        case measure => simp [intOf]; omega
    · obtain rfl : k = z := by omega
      have HV := Lib.hid (cntB_sum (wdR X) k)
      generalize hV1 : cntB (wdR X) true k = V1 at *
      generalize hV0 : cntB (wdR X) false k = V0 at *
      have HV1 := Lib.hid hV1
      have HV0 := Lib.hid hV0
      have hv1 : V1 ≤ 4096 := by have := HV.out; omega
      have hsub : (k : Int) - (V1 : Int) = (V0 : Int) := by have := HV.out; omega
      clear hV1 hV0
      go_wp2_with fail
      refine (ones_call V5.out.rows RK.out).mono ?_; rintro e w5 ⟨rfl, hb⟩
      rw [HV1.out]
      have U6 := Lib.hid (U5.out.step hb)
      have V6 := Lib.hid (V5.out.step hb)
      clear hb b0 b1 r0 r1 r2 r3
      obtain ⟨b0, b1⟩ := U6.out.cells
      obtain ⟨r0, r1, r2, r3⟩ := V6.out.cells
      go_wp2_with fail
      refine (sel1_none (k := V1) V6.out.rows RK.out (by rw [HV1.out]; omega)).mono ?_; rintro e w6 ⟨rfl, hb⟩
      have U7 := Lib.hid (U6.out.step hb)
      have V7 := Lib.hid (V6.out.step hb)
      clear hb b0 b1 r0 r1 r2 r3
      obtain ⟨b0, b1⟩ := U7.out.cells
      obtain ⟨r0, r1, r2, r3⟩ := V7.out.cells
      go_wp2_with fail
      refine (sel0_none (k := V0) V7.out.rows RK.out (by rw [HV0.out]; omega)).mono ?_; rintro e w7 ⟨rfl, hb⟩
      have U8 := Lib.hid (U7.out.step hb)
      clear hb
      go_wp2_with fail
      go_ret
      exact ⟨rfl, U8.out.below⟩
end Go.Proofs.Ytbflgbmobbbebaa
