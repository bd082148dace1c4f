/- Which Sparse is valid: spGood of the model. -/
import Derived.Test.YtffdkfhnlgfigaaListS
namespace Go.Proofs.Ytffdkfhnlgfigaa
open Go.RowKit

section
variable (z0 z1 z2 z3 z4 : Int) (A1 : Option Addr) (n1 c1 : Nat) (X1 : Nat → Int) (A2 : Option Addr) (n2 c2 : Nat) (X2 : Nat → Int) (w : World)
set_option maxRecDepth 100000 in
set_option maxHeartbeats 4000000 in
theorem spec_spGood_mid (c L v zl zh : Nat) (hn1 : n1 ≤ 1048576) (hn2 : n2 ≤ 1048576) (h1 : IRow w A1 n1 X1) (h2 : IRow w A2 n2 X2) (hc : c ≤ 60) (hL1 : 1 ≤ L) (hL : L ≤ 100000) (hwd : IsW c L v) (hg1 : Good (zl : Int) n1 X1) (hg2 : Good (zh : Int) n2 X2) (hzl : zl = c * v) (hzh : zh = hzN c L v) :
    Calls Try.prog 75 #[.agg (spC c L v zl A1 n1 c1 zh A2 n2 c2)] w (BoolIs (SpV c L v zl n1 X1 zh n2 X2) w) := by
  have HG1 := Lib.hid hg1
  have HG2 := Lib.hid hg2
  have HW := Lib.hid hwd
  have hv := isW_le hwd hL
  have hlow : zl ≤ 960 := by rw [hzl]; exact Nat.mul_le_mul hc hv
  have hhigh : zh ≤ 200 := by rw [hzh]; exact hzN_le hwd hc
  have hq1 := pow_div (L - 1) v
  rw [show ((L - 1 : Nat) : Int) = (L : Int) - 1 by omega] at hq1
  obtain ⟨Q, hQ⟩ : ∃ Q, Q = (L - 1) / 2 ^ v := ⟨_, rfl⟩
  rw [← hQ] at hq1
  have hzq : zh = c + Q + 1 := by rw [hzh, hQ]; rfl
  have hzl' : (c : Int) * (v : Int) = (zl : Int) := by rw [hzl]; push_cast; rfl
  have hzh' : (c : Int) + (Q : Int) + 1 = (zh : Int) := by omega
  have HZL := Lib.hid hzl
  have HZH := Lib.hid hzh
  have HS0 := Lib.hid (SL.start (z0 := c) (z1 := L) (z2 := v) (z3 := zl) (z4 := (zh : Int)) (c1 := c1) (c2 := c2) h1 h2)
  have HR1 := Lib.hid h1
  have HR2 := Lib.hid h2
  clear hwd hg1 hg2 h1 h2 hzl hzh hQ hzq
  have HQ1 := Lib.hid hq1
  have HZL' := Lib.hid hzl'
  have HZH' := Lib.hid hzh'
  clear hq1 hzl' hzh'
  go_enter Try.func75, Try.ntmps75
  unfold spC
  go_wp2_with fail
  go_quiet ((first
    | (go_at_call 43; exact quiet_left (l1In_yes _ _ _ _ (by omega) (by omega)))
    | (go_at_call 44; exact quiet_left (spec_limit_yes _ _ (by omega) (by omega)))
    | (go_at_call 45; exact quiet_left (spec_spWidth c L v _ hc hL HW.out))))
  have S1 : Hid (SL w c L v zl A1 n1 c1 X1 zh A2 n2 c2 X2 ((w.alloc (Obj.cells #[Value.int .i64 c, Value.int .i64 L, Value.int .i64 v, Value.int .i64 zl, .slice A1 n1 c1, .int .i64 zh, .slice A2 n2 c2] 32)).drewN nq)) := Lib.hid (HS0.out.drewN nq)
  clear HS0
  obtain ⟨c0, c1', c2', c3, c4, c5, c6⟩ := S1.out.cells
  generalize (w.alloc (Obj.cells #[Value.int .i64 c, Value.int .i64 L, Value.int .i64 v, Value.int .i64 zl, .slice A1 n1 c1, .int .i64 zh, .slice A2 n2 c2] 32)).drewN nq = w1 at *
  go_wp2_with fail
  have k1 : IntKind.i64.wrap ((c : Int) * (v : Int)) = (zl : Int) := by rw [HZL'.out]; exact IntWalk.i64_in _ (by omega)
  have k2 : IntKind.i64.wrap ((L : Int) - 1) = (L : Int) - 1 := IntWalk.i64_in _ (by omega)
  have k3 : ((L : Int) - 1) / 2 ^ v = (Q : Int) := HQ1.out
  have hQ0 := HZH'.out
  have k4 : IntKind.i64.wrap ((c : Int) + (Q : Int)) = (c : Int) + (Q : Int) := IntWalk.i64_in _ (by omega)
  have k5 : IntKind.i64.wrap ((c : Int) + (Q : Int) + 1) = (zh : Int) := by rw [hQ0]; exact IntWalk.i64_in _ (by omega)
  clear hQ0
  go_region_held3 (fun w' => w'.cell? ⟨w.heap.size, 0, none⟩ = some (.int .i64 c) ∧ w'.cell? ⟨w.heap.size, 1, none⟩ = some (.int .i64 L) ∧ w'.cell? ⟨w.heap.size, 2, none⟩ = some (.int .i64 v) ∧ w'.cell? ⟨w.heap.size, 3, none⟩ = some (.int .i64 zl) ∧ w'.cell? ⟨w.heap.size, 4, none⟩ = some (.slice A1 n1 c1) ∧ w'.cell? ⟨w.heap.size, 5, none⟩ = some (.int .i64 zh) ∧ w'.cell? ⟨w.heap.size, 6, none⟩ = some (.slice A2 n2 c2))
    (first | (go_keep; done) | with_reducible exact S3.out.cells | with_reducible exact S2.out.cells)
    (first
      | (have hz := S2; clear hz; go_at_call 96; refine (biGood_yes hn2 S2.out.high HG2.out).mono ?_; rintro e w3 ⟨rfl, hb⟩; have S3 := Lib.hid (S2.out.step hb); clear hb)
      | (go_at_call 96; (first | refine (biGood_yes hn1 S1.out.low HG1.out).mono ?_ | refine (biGood_yes hn1 S1.out.drew.low HG1.out).mono ?_); rintro e w2 ⟨rfl, hb'⟩; have hb : Below w1.heap.size w1 w2 := (by first | exact hb' | exact of_drew hb'); have S2 := Lib.hid (S1.out.step hb); clear hb hb'))
  obtain ⟨c0, c1', c2', c3, c4, c5, c6⟩ := S3.out.cells
  clear k1 k2 k3 k4 k5 S1 S2
  go_wp2_with fail
  refine (spec_spList c v zh L zl A1 n1 c1 X1 A2 n2 c2 X2 _ hc hv hn1 hn2 S3.out.low S3.out.high HG1.out HG2.out (by rw [HZL.out])).mono ?_; rintro e w4 ⟨m, P, A, k, rfl, hmc, ⟨p, hp, hon, hfin⟩, how, _, hb⟩
  have HT := Lib.hid (fun h => SpV.told (zl := (zl : Int)) (nl := n1) (Xl := X1) (zh := (zh : Int)) (nh := n2) (Xh := X2) (c := c) (L := L) (v := v) h hon (by rw [← HZH.out]; exact hp) (by rw [← HZH.out]; exact hfin))
  have S4 := Lib.hid (S3.out.step hb)
  have HO := Lib.hid (show IRow w4 A m _ from how.rd.row (Nat.le_refl _))
  clear hon hfin how hb c0 c1' c2' c3 c4 c5 c6 S3
  obtain ⟨c0, c1', c2', c3, c4, c5, c6⟩ := S4.out.cells
  by_cases hm : m = c
  rotate_left
  · have d1 : ((m : Int) != (c : Int)) = true := by simp; omega
    have HM := Lib.hid hm
    clear hm
    go_wp2_with fail
    go_ret
    exact ⟨false, rfl, by simp only [Bool.false_eq_true, false_iff]; exact fun h => HM.out (HT.out h).1, S4.out.below⟩
  subst hm
  have d1 : ((m : Int) != (m : Int)) = false := by simp
  obtain ⟨G, hG⟩ : ∃ G, G = gv (fun i => (X1 i).toNat) v P := ⟨_, rfl⟩
  rw [← hG] at HO HT
  by_cases hok : SpOk m (numI G) L
  rotate_left
  · have HF := Lib.hid hok
    clear hok
    go_wp2_with fail
    refine (spec_spSorted A m k (numI G) L _ (by omega) HO.out).mono ?_; rintro e w' ⟨b, rfl, hb, rfl⟩
    obtain rfl : b = false := by cases b; rfl; exact absurd (hb.1 rfl) HF.out
    clear hb
    go_wp2_with fail
    go_ret
    exact ⟨false, rfl, by simp only [Bool.false_eq_true, false_iff]; exact fun h => HF.out (spN_ok (HT.out h).2.num), S4.out.below⟩
  have HN := Lib.hid (show SpN m L v G from ⟨hc, hL1, hL, HW.out, fun i hi => by have := hok.2.2.2 i hi; unfold numI at this; omega, fun i hi => by
    have := (hok.2.2.2 (i + 1) hi).2.2 (by omega); rw [show i + 1 - 1 = i by omega] at this; unfold numI at this; omega⟩)
  clear hok
  go_wp2_with fail
  refine (spec_spSorted A m k (numI G) L _ (by omega) HO.out).mono ?_; rintro e w' ⟨b, rfl, hb, rfl⟩
  obtain rfl : b = true := hb.2 (spN_ok HN.out)
  clear hb
  go_wp2_with fail
  refine (spec_spOf A m k L v G _ HN.out HO.out n1 n2 (by rw [← HZL.out]; have := HG1.out.2.2.1; omega) (by rw [← HZH.out]; have := HG2.out.2.2.1; omega)).mono ?_; rintro e w5 ⟨B1, d1', B2, d2', rfl, o1, o2, _, hb⟩
  rw [← HZL.out, ← HZH.out]
  unfold spC
  have S5 := Lib.hid (S4.out.step hb)
  have R1 := Lib.hid (show IRow w5 B1 n1 _ from o1.rd.row (Nat.le_refl _))
  have R2 := Lib.hid (show IRow w5 B2 n2 _ from o2.rd.row (Nat.le_refl _))
  clear o1 o2 hb c0 c1' c2' c3 c4 c5 c6 S4 HO
  have S6 := Lib.hid (S5.out.al (.cells #[.int .i64 m, .int .i64 L, .int .i64 v, .int .i64 zl, .slice B1 n1 d1', .int .i64 zh, .slice B2 n2 d2'] 32))
  have NB : Hid (NBX w5.heap.size w5.heap.size #[.int .i64 m, .int .i64 L, .int .i64 v, .int .i64 zl, .slice B1 n1 d1', .int .i64 zh, .slice B2 n2 d2'] 32 (w5.alloc (.cells #[.int .i64 m, .int .i64 L, .int .i64 v, .int .i64 zl, .slice B1 n1 d1', .int .i64 zh, .slice B2 n2 d2'] 32))) := Lib.hid ⟨Go.Deep.blk_alloc_new _ _, Nat.le_refl _⟩
  have Q1 := Lib.hid (R1.out.b ((Below.refl _ _).alloc (Nat.le_refl _) (.cells #[.int .i64 m, .int .i64 L, .int .i64 v, .int .i64 zl, .slice B1 n1 d1', .int .i64 zh, .slice B2 n2 d2'] 32)))
  have Q2 := Lib.hid (R2.out.b ((Below.refl _ _).alloc (Nat.le_refl _) (.cells #[.int .i64 m, .int .i64 L, .int .i64 v, .int .i64 zl, .slice B1 n1 d1', .int .i64 zh, .slice B2 n2 d2'] 32)))
  obtain ⟨c0, c1', c2', c3, c4, c5, c6⟩ := S5.out.cells
  have hlt5 := S5.out.box.lt
  clear R1 R2
  go_wp2_with fail
  refine (spec_biSame zl zl A1 B1 n1 c1 n1 d1' X1 _ _ hn1 hn1 S6.out.low Q1.out).mono ?_; rintro e w7 ⟨b1, rfl, hb1, hb⟩
  have S7 := Lib.hid (S6.out.step hb)
  have NB7 := Lib.hid (NB.out.b hb)
  have Q7 := Lib.hid (Q2.out.b hb)
  have HB1 := Lib.hid hb1
  clear hb hb1 S6 NB Q1 Q2 c0 c1' c2' c3 c4 c5 c6
  obtain ⟨c0, c1', c2', c3, c4, c5, c6⟩ := S7.out.cells
  have f3 := NB7.out.cell 3 _ rfl
  have f4 := NB7.out.cell 4 _ rfl
  have f5 := NB7.out.cell 5 _ rfl
  have f6 := NB7.out.cell 6 _ rfl
  cases b1 with
  | false =>
    go_wp2_with fail
    go_ret
    exact ⟨false, rfl, by simp only [Bool.false_eq_true, false_iff]; exact fun h => absurd (HB1.out.2 ⟨by simp, rfl, fun i hi => (HT.out h).2.xl i hi⟩) (by simp), S7.out.below⟩
  | true =>
    go_wp2_with fail
    refine (spec_biSame zh zh A2 B2 n2 c2 n2 d2' X2 _ _ hn2 hn2 S7.out.high Q7.out).mono ?_; rintro e w8 ⟨b2, rfl, hb2, hb⟩
    have S8 := Lib.hid (S7.out.step hb)
    have HB2 := Lib.hid hb2
    clear hb hb2
    go_wp2_with fail
    go_ret
    refine ⟨b2, rfl, ?_, S8.out.below⟩
    rw [HB2.out]
    exact ⟨fun h => ⟨m, L, v, G, SpIs.mk' HN.out rfl rfl rfl HG1.out HG2.out (by rw [HZL.out]) (by rw [HZH.out]) ((HB1.out.1 (by simp)).2.2) h.2.2⟩, fun h => ⟨by simp, rfl, (HT.out h).2.xh⟩⟩
end
end Go.Proofs.Ytffdkfhnlgfigaa
