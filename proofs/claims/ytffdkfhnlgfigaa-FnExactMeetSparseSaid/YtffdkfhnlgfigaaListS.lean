/- The model reads the numbers of a Sparse: spList. -/
import Derived.Test.YtffdkfhnlgfigaaSpL
import Derived.Deep.DeepCutAuto
namespace Go.Proofs.Ytffdkfhnlgfigaa
open Go.RowKit

def NumsIs (Xl Xh : Nat → Int) (zh c wd : Nat) (w : World) (e : Ending) (w' : World) : Prop :=
  ∃ m P A k, e = .returned (.slice A m k) ∧ m ≤ c ∧ (∃ p, p ≤ zh ∧ OnesTo (fun i => (Xh i).toNat) p m P ∧ (m = c ∨ p = zh)) ∧
    Ow w.heap.size w'.heap.size 3 A m (intV (numI (gv (fun i => (Xl i).toNat) wd P))) w' ∧ m ≤ k ∧ Below w.heap.size w w'
theorem ow_of_gvec {w : World} {B n : Nat} {t : TypeId} {A : Option Addr} {F : Nat → Value} (h : GVec w B t A n F) {lo : Nat} (hl : lo ≤ B) : Ow lo w.heap.size t A n F w := by
  rcases h with rfl | ⟨g, rfl, hg, ho⟩
  · exact ow_zero _ _ _ _ _ _
  · exact ow_of_own (m := n) ho (by omega) (Nat.le_refl _)
theorem owned_cap {w : World} {B n k : Nat} {t : TypeId} {A : Option Addr} {xs : List Value} (h : w.ownsRow B t 1 (.slice A n k) n xs) : n ≤ k := by
  obtain ⟨A', c, e, h1, _⟩ := owned_slice h
  injection e with _ _ e3; omega
theorem infoI1 : (Try.prog.info? 3).map (fun i => (i.zero, i.size, i.bytes)) = some (some (.int .i64 0), 1, 8) := infoI

theorem two_le16 {v : Nat} (h : v ≤ 16) : 2 ^ v ≤ 65536 := Nat.le_trans (Nat.pow_le_pow_right (by omega) h) (by decide)
set_option maxRecDepth 100000 in
set_option maxHeartbeats 4000000 in
theorem spec_spList (c wd zh : Nat) (z1 z3 : Int) (A1 : Option Addr) (n1 c1 : Nat) (X1 : Nat → Int) (A2 : Option Addr) (n2 c2 : Nat) (X2 : Nat → Int) (w : World) (hc : c ≤ 60) (hw : wd ≤ 16) (hn1 : n1 ≤ 1048576) (hn2 : n2 ≤ 1048576)
    (h1 : IRow w A1 n1 X1) (h2 : IRow w A2 n2 X2) (g1 : Good z3 n1 X1) (g2 : Good (zh : Int) n2 X2) (e3 : z3 = (c * wd : Nat)) :
    Calls Try.prog 76 #[.agg (spC c z1 wd z3 A1 n1 c1 zh A2 n2 c2)] w (NumsIs X1 X2 zh c wd w) := by
  have HS0 := Lib.hid (SL.start (z0 := c) (z1 := z1) (z2 := wd) (z3 := z3) (z4 := (zh : Int)) (c1 := c1) (c2 := c2) h1 h2)
  have HR1 := Lib.hid h1
  have HR2 := Lib.hid h2
  have HG1 := Lib.hid g1
  have HG2 := Lib.hid g2
  have HE3 := Lib.hid e3
  have hzh : zh ≤ 4096 := by have := g2.2.1; omega
  have hzn2 : zh ≤ 16 * n2 := by have := g2.2.2.1; omega
  have hzn1 : c * wd ≤ 16 * n1 := by have := g1.2.2.1; omega
  have HZ := Lib.hid hzn1
  clear h1 h2 g1 g2 e3 hzn1
  go_enter Try.func76, Try.ntmps76
  unfold spC
  go_wp2_with fail
  go_loopw [3, 4] (fun v i wr => ∃ (p m : Nat) (P : Nat → Nat) (A : Option Addr) (k : Nat), v = .slice A m k ∧ i = .int .i64 p ∧ p ≤ zh ∧ m ≤ c ∧ OnesTo (fun i => (X2 i).toNat) p m P ∧ wr.ownsRow (w.heap.size + 1) 3 1 (.slice A m k) m (vals (intV (numI (gv (fun i => (X1 i).toNat) wd P))) m) ∧ SL w c z1 wd z3 A1 n1 c1 X1 zh A2 n2 c2 X2 wr) (fun _ i _ => zh - (intOf i).toNat)
  case atStart => exact ⟨0, 0, fun _ => 0, none, 0, rfl, rfl, Nat.zero_le _, Nat.zero_le _, OnesTo.start _ _, World.ownsRow_nil _ _ _ _, HS0.out⟩
  case round =>
    obtain ⟨p, m, P, A, k, rfl, rfl, hp, hm, hon, how, hsl⟩ := hrel
    have HON := Lib.hid hon
    have HOW := Lib.hid how
    have HSL := Lib.hid hsl
    obtain ⟨c0, c1', c2', c3, c4, c5, c6⟩ := hsl.cells
    clear hon how hsl HS0
    by_cases hlt : p < zh
    · by_cases hmc : m < c
      · cases hbit : bitN (fun i => (X2 i).toNat) p with
        | false =>
          have HB := Lib.hid hbit
          clear hbit
          go_wp2_with fail
          refine (spec_biAt zh A2 n2 c2 (fun i => (X2 i).toNat) p _ hn2 (good_row HG2.out HSL.out.high) (by omega)).mono ?_; rintro e w1 ⟨rfl, hb⟩
          have HS1 := Lib.hid (HSL.out.step hb)
          have HO1 := Lib.hid (owned_b HOW.out hb)
          clear hb c0 c1' c2' c3 c4 c5 c6
          rw [HB.out]
          go_wp2_with fail
          go_roundw
          case rel => exact ⟨p + 1, m, P, A, k, rfl, by go_num, by omega, by omega, HON.out.skip HB.out, HO1.out, HS1.out⟩
          case measure => simp [intOf]; omega
        | true =>
          have HB := Lib.hid hbit
          clear hbit
          go_wp2_with fail
          refine (spec_biAt zh A2 n2 c2 (fun i => (X2 i).toNat) p _ hn2 (good_row HG2.out HSL.out.high) (by omega)).mono ?_; rintro e w1 ⟨rfl, hb⟩
          have HS1 := Lib.hid (HSL.out.step hb)
          have HO1 := Lib.hid (owned_b HOW.out hb)
          clear hb c0 c1' c2' c3 c4 c5 c6
          rw [HB.out]
          obtain ⟨c0, c1', c2', c3, c4, c5, c6⟩ := HS1.out.cells
          go_wp2_with fail
          have hpm : m ≤ p := by
            rcases Nat.eq_zero_or_pos m with e | e
            · omega
            · have h1 := HON.out.ge (m - 1) (by omega); have h2 := (HON.out.on (m - 1) (by omega)).1; omega
          obtain ⟨q, hq⟩ : ∃ q, q = p - m := ⟨_, rfl⟩
          have hpq : (p : Int) - (m : Int) = (q : Int) := by omega
          obtain ⟨D, hD⟩ : ∃ D, D = q * 2 ^ wd := ⟨_, rfl⟩
          have hqD : (q : Int) * 2 ^ wd = (D : Int) := by rw [hD]; push_cast; rfl
          have hp16 : 2 ^ wd ≤ 65536 := two_le16 hw
          have hDb : D ≤ 268435456 := by rw [hD]; exact Nat.mul_le_mul (n₁ := q) (m₁ := 2 ^ wd) (n₂ := 4096) (m₂ := 65536) (by omega) hp16
          obtain ⟨mw, hmw⟩ : ∃ mw, mw = m * wd := ⟨_, rfl⟩
          have hmwi : (m : Int) * (wd : Int) = (mw : Int) := by rw [hmw]; push_cast; rfl
          have hmwb : mw + wd ≤ 16 * n1 := by
            have h3 : (m + 1) * wd ≤ c * wd := Nat.mul_le_mul_right _ hmc
            rw [Nat.succ_mul] at h3; have := HZ.out; omega
          have hmwc : mw ≤ 60 * 16 := by rw [hmw]; exact Nat.mul_le_mul (by omega) (by omega)
          obtain ⟨fv, hfv⟩ : ∃ fv, fv = fieldN (fun i => (X1 i).toNat) mw wd := ⟨_, rfl⟩
          have hfl := fieldN_lt (fun i => (X1 i).toNat) wd mw
          rw [← hfv] at hfl
          have e1 : IntKind.i64.wrap ((p : Int) - (m : Int)) = (q : Int) := by rw [hpq]; exact IntWalk.i64_in _ (by omega)
          have e2 : IntKind.i64.wrap ((q : Int) * 2 ^ wd) = (D : Int) := by rw [hqD]; exact IntWalk.i64_in _ (by omega)
          have e3 : IntKind.i64.wrap ((m : Int) * (wd : Int)) = (mw : Int) := by rw [hmwi]; exact IntWalk.i64_in _ (by omega)
          have hDf : (D : Int) + (fv : Int) = ((D + fv : Nat) : Int) := by push_cast; rfl
          have e4 : IntKind.i64.wrap ((D : Int) + (fv : Int)) = ((D + fv : Nat) : Int) := by rw [← hDf]; exact IntWalk.i64_in _ (by omega)
          have HF := Lib.hid (show numI (gv (fun i => (X1 i).toNat) wd (putP P m p)) m = ((D + fv : Nat) : Int) from by unfold numI; rw [gv_at, ← hq, ← hD, ← hmw, ← hfv])
          have HFV := Lib.hid hfv
          have HW1 := Lib.hid (good_row HG1.out HS1.out.low)
          have HS1D := Lib.hid HS1.out.drew
          have HW1D := Lib.hid (good_row HG1.out HS1D.out.low)
          have HO1' := Lib.hid (show w1.ownsRow (w.heap.size + 1) 3 1 (.slice A m k) m (vals (intV (numI (gv (fun i => (X1 i).toNat) wd (putP P m p)))) m) from by
            rw [vals_congr (F := intV (numI (gv (fun i => (X1 i).toNat) wd (putP P m p)))) (G := intV (numI (gv (fun i => (X1 i).toNat) wd P))) (fun i hi => by unfold intV numI; rw [gv_put hi])]; exact HO1.out)
          have hs1 := HS1.out.box.lt
          have hcall := fun (W : World) (hW : WRow W A1 n1 (fun i => (X1 i).toNat)) => spec_biField z3 A1 n1 c1 (fun i => (X1 i).toNat) mw wd W hn1 hW hmwb (by omega)
          rw [← hfv] at hcall
          have HC := Lib.hid hcall
          clear hq hpq hD hqD hp16 hDf hmw hmwi hfv hcall HO1
          go_region_held3 (fun w' => w'.cell? ⟨w.heap.size, 2, none⟩ = some (.int .i64 wd) ∧ w'.cell? ⟨w.heap.size, 3, none⟩ = some (.int .i64 z3) ∧ w'.cell? ⟨w.heap.size, 4, none⟩ = some (.slice A1 n1 c1))
            (first | (go_keep; done) | with_reducible exact HS3.out.three | exact (HS2.out.al _).three | with_reducible exact HS2.out.three)
            (first
            | (have hz := HO2; clear hz; refine step_push rfl (.tmp 26) (.tmp 43) 28 rfl (w.heap.size + 1) 3 (.int .i64 0) 8 Try.underlying28 infoI1 rfl A m k (intV (numI (gv (fun i => (X1 i).toNat) wd (putP P m p)))) (.int .i64 ((D + fv : Nat) : Int)) _ rfl HO2.out rfl HFU.out rfl ?_ ?_ ?_ ?_; omega; omega; exact hs2; intro A3 k3 w3 ho3 hb3; have HO3 := Lib.hid ho3; have HS3 := Lib.hid (HS2.out.low' HR1.out HR2.out (by omega) hb3); clear ho3 hb3)
            | (go_at_call 108; (first | refine (HC.out _ HW1D.out).mono ?_ | refine (HC.out _ HW1.out).mono ?_); rintro e w2 ⟨rfl, hb'⟩; have hb : Below w1.heap.size w1 w2 := (by first | exact hb' | exact of_drew hb'); have HS2 := Lib.hid (HS1.out.step hb); have HO2 := Lib.hid (owned_b HO1'.out hb); have HFU := Lib.hid (show intV (numI (gv (fun i => (X1 i).toNat) wd (putP P m p))) m = .int .i64 ((D + fv : Nat) : Int) from by unfold intV; rw [HF.out]); have hs2 : w.heap.size + 1 ≤ w2.heap.size := HS2.out.box.lt; clear hb hb'))
          go_wp2_with fail
          go_roundw
          case rel => exact ⟨p + 1, m + 1, putP P m p, A3, k3, rfl, by go_num, by omega, by omega, HON.out.take HB.out, HO3.out, HS3.out⟩
          case measure => simp [intOf]; omega
      · obtain rfl : m = c := by omega
        go_wp2_with fail
        go_ret
        exact ⟨m, P, A, k, rfl, Nat.le_refl _, ⟨p, hp, HON.out, .inl rfl⟩, ow_of_gvec (owned_vec HOW.out) (by omega), owned_cap HOW.out, HSL.out.below⟩
    · obtain rfl : p = zh := by omega
      go_wp2_with fail
      go_ret
      exact ⟨m, P, A, k, rfl, hm, ⟨p, hp, HON.out, .inr rfl⟩, ow_of_gvec (owned_vec HOW.out) (by omega), owned_cap HOW.out, HSL.out.below⟩
end Go.Proofs.Ytffdkfhnlgfigaa
