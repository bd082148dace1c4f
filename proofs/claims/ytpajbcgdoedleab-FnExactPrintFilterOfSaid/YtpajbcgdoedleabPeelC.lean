/- The model's peeling, its choices all the least place. -/
import Derived.Test.YtpajbcgdoedleabPeelB
import Derived.Test.YtpajbcgdoedleabHypDeg
import Derived.Deep.RegionHeld3
namespace Go.Proofs.Ytpajbcgdoedleab
open Go.RowKit

theorem leftL_none : ∀ k, leftL (fun _ => false) k = List.range k
  | 0 => rfl
  | k + 1 => by rw [leftL, List.range_succ, leftL_none k]; simp
theorem leftL_less {G : Nat → Bool} {e n : Nat} (he : e < n) (hg : G e = false) : (leftL (upd G e true) n).length < (leftL G n).length := by
  rw [← dropL_left]
  unfold dropL
  rw [List.length_filter_lt_length_iff_exists]
  exact ⟨e, mem_leftL.2 ⟨he, hg⟩, by simp⟩
theorem left_idx (G : Nat → Bool) (n : Nat) : EdIdx n (leftL G n).length (fun t => (leftL G n).getD t 0) := fun t ht => by
  show (leftL G n).getD t 0 < n
  rw [List.getD_eq_getElem?_getD, List.getElem?_eq_getElem ht]
  exact (mem_leftL.1 (List.getElem_mem ht)).1
theorem edg_at {l : Nat → Nat} {X : Nat → Nat → Int} {n : Nat} {G : Nat → Bool} {p : Nat} (h : degF l X G n p = 1) : ∃ k, k < (leftL G n).length ∧ (leftL G n).getD k 0 = edg l X n G p ∧ (∃ j, j < l ((leftL G n).getD k 0) ∧ X ((leftL G n).getD k 0) j = (p : Int)) ∧ ∀ t, t < k → ¬ ∃ j, j < l ((leftL G n).getD t 0) ∧ X ((leftL G n).getD t 0) j = (p : Int) := by
  obtain ⟨i, hi, hg, hc⟩ := dgR_pos (l := l) (X := X) (G := G) (p := (p : Int)) n (by unfold degF at h; omega)
  have hk : (leftL G n).findIdx (fun i => decide (0 < cntE (X i) p (l i))) < (leftL G n).length := List.findIdx_lt_length_of_exists ⟨i, mem_leftL.2 ⟨hi, hg⟩, by simpa using hc⟩
  have hat : ∀ t, t < (leftL G n).length → (leftL G n).getD t 0 = (leftL G n)[t]! := fun t ht => by rw [List.getD_eq_getElem?_getD, List.getElem!_eq_getElem?_getD]; rfl
  have e1 : (leftL G n).getD ((leftL G n).findIdx (fun i => decide (0 < cntE (X i) p (l i)))) 0 = edg l X n G p := by
    unfold edg
    rw [List.find?_eq_getElem?_findIdx, List.getD_eq_getElem?_getD]
  refine ⟨_, hk, e1, ?_, fun t ht => ?_⟩
  · rw [e1]; exact (edg_first h).2.2.1
  · intro hh
    have h2 := List.not_of_lt_findIdx ht
    have h3 := (cntE_pos (X := X ((leftL G n).getD t 0)) (p := (p : Int)) _).2 hh
    rw [List.getD_eq_getElem?_getD, List.getElem?_eq_getElem (by omega)] at h3
    simp at h2
    simp at h3
    omega
theorem nbx_grownN {w w' : World} {base q : Nat} {cs : Array Value} {t : TypeId} {v : Value} (h : NBX base q cs t w) (hg : w.grownBy w' v.ownBlock) (hne : ∀ g, v.ownBlock = some g → g ≠ q) : NBX base q cs t w' :=
  ⟨(hg.block q h.lt (fun e => hne q e.symm rfl)).trans h.blk, h.ge⟩
def lenV (v : Value) : Nat := match v with | .slice _ n _ => n | _ => 0
def zeroC (_ : Nat) : Nat := 0
set_option maxRecDepth 100000 in
set_option maxHeartbeats 8000000 in
theorem spec_pePeel (z : Nat) (A : Option Addr) (n c : Nat) (B : Nat → Option Addr) (l d : Nat → Nat) (X : Nat → Nat → Int) (w : World) (hr : HR w A n B l d X) (h : HyperOk z n l X) :
    Calls Try.prog 109 #[.agg #[.int .i64 z, .slice A n c], .slice none 0 0, .bool true] w fun e w' => ∃ k SA sc FA fc, e = .returned (.tuple #[.slice SA k sc, .slice FA (leftL (goneS z l X n zeroC k) n).length fc]) ∧ Goes z l X n zeroC k ∧ freL (degF l X (goneS z l X n zeroC k) n) z = [] ∧
      w'.ownsRow w.heap.size 115 2 (.slice SA k sc) k (stepsL (stE z l X n zeroC) (stP z l X n zeroC) k) ∧ w'.ownsRow w.heap.size 3 1 (.slice FA (leftL (goneS z l X n zeroC k) n).length fc) (leftL (goneS z l X n zeroC k) n).length (vals (intV (lstV (leftL (goneS z l X n zeroC k) n))) (leftL (goneS z l X n zeroC k) n).length) ∧ Below w.heap.size w w' := by
  have L0 := Lib.hid (LH.start (z := (z : Int)) (c := c) hr 109)
  have HR0 := Lib.hid hr
  have HG := Lib.hid h
  have hn40 := h.2.2.1
  have hz72 : z ≤ 72 := by have := h.2.1; omega
  have HL3 := Lib.hid (fun i (hi : i < n) => (show l i ≤ 1048576 by have := HG.out.three i hi; omega))
  clear hr h
  obtain ⟨hsz0, b0, b1⟩ := L0.out.box
  go_enter Try.func109, Try.ntmps109
  go_wp2_with fail
  refine (spec_peAll z A n c B l d X _ hn40 L0.out.row).mono ?_; rintro e w1 ⟨LA, lc, rfl, hol, hb⟩
  have L1 := Lib.hid (L0.out.step hb)
  have hlen0 : (leftL (goneS z l X n zeroC 0) n).length = n := by show (leftL (fun _ => false) n).length = n; rw [leftL_none]; simp
  have HOL := Lib.hid (show w1.ownsRow (w.heap.size + 1) 3 1 (.slice LA (leftL (goneS z l X n zeroC 0) n).length lc) (leftL (goneS z l X n zeroC 0) n).length (vals (intV (lstV (leftL (goneS z l X n zeroC 0) n))) (leftL (goneS z l X n zeroC 0) n).length) by
    rw [hlen0, vals_congr (F := intV (lstV (leftL (goneS z l X n zeroC 0) n))) (G := intV (idxV allE)) (fun i hi => by
      unfold intV; congr 1
      show lstV (leftL (fun _ => false) n) i = ((i : Nat) : Int)
      rw [leftL_none]; unfold lstV; rw [List.getD_eq_getElem?_getD, List.getElem?_range hi]; rfl)]
    exact owned_low hol (by simp))
  have HL0 := Lib.hid hlen0
  clear hb hol L0 b0 b1 hsz0 hlen0
  go_wp2_with fail
  go_loopw [8, 9, 10] (fun v lv i wr => ∃ (k : Nat) (SA : Option Addr) (sc : Nat) (LA : Option Addr) (lc : Nat), i = .int .i64 k ∧ v = .slice SA k sc ∧ lv = .slice LA (leftL (goneS z l X n zeroC k) n).length lc ∧ k + (leftL (goneS z l X n zeroC k) n).length ≤ n ∧ Hid (Goes z l X n zeroC k) ∧ Hid (wr.ownsRow (w.heap.size + 1) 115 2 (.slice SA k sc) k (stepsL (stE z l X n zeroC) (stP z l X n zeroC) k)) ∧ Hid (wr.ownsRow (w.heap.size + 1) 3 1 (.slice LA (leftL (goneS z l X n zeroC k) n).length lc) (leftL (goneS z l X n zeroC k) n).length (vals (intV (lstV (leftL (goneS z l X n zeroC k) n))) (leftL (goneS z l X n zeroC k) n).length)) ∧ Hid (LH w w.heap.size z A n c B l d X wr)) (fun _ lv _ _ => lenV lv)
  case atStart => exact ⟨0, none, 0, LA, lc, rfl, rfl, by rw [HL0.out], by rw [HL0.out]; omega, Lib.hid (fun j hj => absurd hj (by omega)), Lib.hid (World.ownsRow_nil _ _ _ _), HOL, L1⟩
  case round =>
    obtain ⟨k, SA, sc, LA, lc, rfl, rfl, rfl, hkn, HGo, HO, HL, HLr⟩ := hrel
    obtain ⟨hsz, b0, b1⟩ := HLr.out.box
    have hall := leftL_len (goneS z l X n zeroC k) n
    have hidx := Lib.hid (left_idx (goneS z l X n zeroC k) n)
    go_wp2_with fail
    refine (spec_peFree z A n c B l d X LA (leftL (goneS z l X n zeroC k) n).length lc (fun t => (leftL (goneS z l X n zeroC k) n).getD t 0) _ hn40 (by omega) hz72 HLr.out.row (owned_vec HL.out).row hidx.out HG.out.three HG.out.inn).mono ?_; rintro e w2 ⟨FA, fc, he, hof, hb⟩
    rw [deg_left] at he hof
    subst he
    have HLr2 := Lib.hid (HLr.out.step hb)
    have HO2 := Lib.hid (own_bG HO.out hb)
    have HL2 := Lib.hid (owned_b HL.out hb)
    have HF2 := Lib.hid ((owned_vec hof).row)
    clear hb hof b0 b1 hsz
    obtain ⟨hsz, b0, b1⟩ := HLr2.out.box
    by_cases hF : freL (degF l X (goneS z l X n zeroC k) n) z = []
    · have HFn := Lib.hid hF
      have d1 : (((freL (degF l X (goneS z l X n zeroC k) n) z).length : Int) == 0) = true := by rw [hF]; rfl
      have HO3 := Lib.hid (own_lowG HO2.out (show w.heap.size ≤ w.heap.size + 1 by omega))
      have HL3' := Lib.hid (owned_low HL2.out (show w.heap.size ≤ w.heap.size + 1 by omega))
      clear hF
      go_wp2_with fail
      go_ret2
      exact ⟨k, SA, sc, LA, lc, rfl, HGo.out, HFn.out, HO3.out, HL3'.out, HLr2.out.below⟩
    · have hm1 := plc_mem (ch := zeroC k) hF
      obtain ⟨kk, hkk, hek, hhit, hmiss⟩ := edg_at (l := l) (X := X) (n := n) (G := goneS z l X n zeroC k) hm1.2
      have hE1 := edg_first hm1.2
      have hl : 0 < (freL (degF l X (goneS z l X n zeroC k) n) z).length := List.length_pos_iff.2 hF
      have HGo2 := Lib.hid (show Goes z l X n zeroC (k + 1) from fun j hj => by
        by_cases e : j = k
        · subst e; exact hF
        · exact HGo.out j (by omega))
      have d1 : (((freL (degF l X (goneS z l X n zeroC k) n) z).length : Int) == 0) = false := by simp; omega
      obtain ⟨bf, of, rfl, hbf, hcf⟩ := HF2.out hl
      have hcp : w2.cell? ⟨bf, of, none⟩ = some (.int .i64 ((stP z l X n zeroC k : Nat) : Int)) := by
        have h1 := hcf 0 hl
        rw [Nat.add_zero] at h1
        rw [h1]
        unfold intV lstV stP plc zeroC
        rw [Nat.zero_mod]
      have HW := Lib.hid (fun W (h1 : HR W A n B l d X) (h2 : IRow W LA (leftL (goneS z l X n zeroC k) n).length (lstV (leftL (goneS z l X n zeroC k) n))) => (show Calls Try.prog 126 #[.agg #[.int .i64 z, .slice A n c], .slice LA (leftL (goneS z l X n zeroC k) n).length lc, .int .i64 ((stP z l X n zeroC k : Nat) : Int)] W fun e w' => e = .returned (.int .i64 ((stE z l X n zeroC k : Nat) : Int)) ∧ Below W.heap.size W w' from
        (spec_peWith z A n c B l d X LA (leftL (goneS z l X n zeroC k) n).length lc (fun t => (leftL (goneS z l X n zeroC k) n).getD t 0) (stP z l X n zeroC k) kk W (by omega) h1 HL3.out h2 hidx.out hkk hhit hmiss).mono fun e w' ⟨h3, h4⟩ => ⟨by rw [h3]; show Ending.returned (.int .i64 (((leftL (goneS z l X n zeroC k) n).getD kk 0 : Nat) : Int)) = _; rw [hek]; rfl, h4⟩))
      have HE1 := Lib.hid hE1
      have hkl := leftL_less (G := goneS z l X n zeroC k) hE1.1 hE1.2.1
      have HK := Lib.hid (fun (w' : World) (h : Below w2.heap.size w2 w') => (show w'.cell? ⟨w.heap.size, 0, none⟩ = some (.int .i64 z) ∧ w'.cell? ⟨w.heap.size, 1, none⟩ = some (.slice A n c) ∧ w'.cell? ⟨bf, of, none⟩ = some (.int .i64 ((stP z l X n zeroC k : Nat) : Int)) from ⟨(HLr2.out.step h).box.2.1, (HLr2.out.step h).box.2.2, (World.cell?_of_block (a := ⟨bf, of, none⟩) (h.block bf hbf)).trans hcp⟩))
      have HLi := Lib.hid (show IRow w2 LA (leftL (goneS z l X n zeroC k) n).length (lstV (leftL (goneS z l X n zeroC k) n)) from (owned_vec HL2.out).row)
      clear hF hm1 hek hhit hmiss hkk hcf hE1
      generalize (freL (degF l X (goneS z l X n zeroC k) n) z).length = Ln at *
      have B0 := Lib.hid ((Below.refl w2.heap.size w2).alloc (Nat.le_refl _) (.cells #[.int .i64 0, .int .i64 0] 115))
      have NB0 := Lib.hid (nbx0 w2 #[.int .i64 0, .int .i64 0] 115)
      go_wp2_with fail
      go_region_held3 (fun w' => w'.cell? ⟨w.heap.size, 0, none⟩ = some (.int .i64 z) ∧ w'.cell? ⟨w.heap.size, 1, none⟩ = some (.slice A n c) ∧ w'.cell? ⟨bf, of, none⟩ = some (.int .i64 ((stP z l X n zeroC k : Nat) : Int)))
        (first | with_reducible exact HK.out _ hq1 | (go_keep; done) | with_reducible exact HK.out _ ((hq1.setCell (Nat.le_refl _) _).setCell (Nat.le_refl _) _) | with_reducible exact HK.out _ ((hq1.setCell (Nat.le_refl _) _)) | exact HK.out _ (hq1.alloc hq1.size _))
        (first
          | (go_at_call 126; (first | refine (HW.out _ HLr2.out.row HLi.out).mono ?_ | refine (HW.out _ HLr2.out.drew.row (irow (GRow.drew (grow_of HLi.out)))).mono ?_); rintro e4 w4 ⟨rfl, hq1'⟩; have hq1 := of_drew hq1'; clear hq1')
          | (go_at_call 126; refine (HW.out _ (HLr2.out.step B0.out).drew.row (irow (GRow.drew (grow_of (owned_vec (owned_b HL2.out B0.out)).row)))).mono ?_; rintro e4 w4 ⟨rfl, hq1'⟩; have hq1 := B0.out.trans ((of_drew hq1').mono B0.out.size); have NB1 := NBX.b NB0.out (of_drew hq1'); have x0 := NB1.cell 0 _ rfl; have x1 := NB1.cell 1 _ rfl; have hf0 := NB1.free 0; have hf1 := NB1.free 1; clear hq1'))
      all_goals
        first
          | (have NB5 := Lib.hid (show NBX w2.heap.size w2.heap.size #[.int .i64 ((stE z l X n zeroC k : Nat) : Int), .int .i64 ((stP z l X n zeroC k : Nat) : Int)] 115 ((w4.setCell ⟨w2.heap.size, 0, none⟩ (.int .i64 ((stE z l X n zeroC k : Nat) : Int))).setCell ⟨w2.heap.size, 1, none⟩ (.int .i64 ((stP z l X n zeroC k : Nat) : Int))) from (NBX.set NB1 0 _).set 1 _)
             have Hqq := Lib.hid (show Below w2.heap.size w2 ((w4.setCell ⟨w2.heap.size, 0, none⟩ (.int .i64 ((stE z l X n zeroC k : Nat) : Int))).setCell ⟨w2.heap.size, 1, none⟩ (.int .i64 ((stP z l X n zeroC k : Nat) : Int))) from (hq1.setCell (Nat.le_refl _) _).setCell (Nat.le_refl _) _)
             have HQ := Lib.hid (Nat.le_refl w2.heap.size)
             clear NB1 x0 x1 hf0 hf1
             generalize ((w4.setCell ⟨w2.heap.size, 0, none⟩ (.int .i64 ((stE z l X n zeroC k : Nat) : Int))).setCell ⟨w2.heap.size, 1, none⟩ (.int .i64 ((stP z l X n zeroC k : Nat) : Int))) = wr at *)
          | (have NB5 := Lib.hid (nbx0 w4 #[.int .i64 ((stE z l X n zeroC k : Nat) : Int), .int .i64 ((stP z l X n zeroC k : Nat) : Int)] 115)
             have Hqq := Lib.hid (hq1.alloc hq1.size (.cells #[.int .i64 ((stE z l X n zeroC k : Nat) : Int), .int .i64 ((stP z l X n zeroC k : Nat) : Int)] 115))
             have HQ := Lib.hid hq1.size
             generalize (w4.alloc (.cells #[.int .i64 ((stE z l X n zeroC k : Nat) : Int), .int .i64 ((stP z l X n zeroC k : Nat) : Int)] 115)) = wr at *)
        have HLr5 := Lib.hid (HLr2.out.step Hqq.out)
        have HO5 := Lib.hid (own_bG HO2.out Hqq.out)
        have HL5 := Lib.hid (owned_b HL2.out Hqq.out)
        have hsz4 := HLr5.out.below.size
        have hlt5 := HLr5.out.box.1
        have x0 := NB5.out.cell 0 _ rfl
        have x1 := NB5.out.cell 1 _ rfl
        go_wp2_with (at_builtin; refine wpList_push2c rfl _ _ rfl (w.heap.size + 1) SA k sc (stepsL (stE z l X n zeroC) (stP z l X n zeroC) k) (.int .i64 ((stE z l X n zeroC k : Nat) : Int)) (.int .i64 ((stP z l X n zeroC k : Nat) : Int)) wr rfl HO5.out rfl rfl rfl (by omega) hlt5 ?_)
        intro A' c' w7 ho7 hb7 hg7
        rw [← stepsL_succ] at ho7
        have HO7 := Lib.hid ho7
        have HL7 := Lib.hid (own_keepT (owned_b HL5.out ((Below.refl _ _).alloc (Nat.le_refl _) (.cells #[.int .i64 ((stE z l X n zeroC k : Nat) : Int), .int .i64 ((stP z l X n zeroC k : Nat) : Int)] 115))) (own_bG HO5.out ((Below.refl _ _).alloc (Nat.le_refl _) (.cells #[.int .i64 ((stE z l X n zeroC k : Nat) : Int), .int .i64 ((stP z l X n zeroC k : Nat) : Int)] 115))) (by decide) hg7)
        have NB7 := Lib.hid (nbx_grownN (NB5.out.b ((Below.refl _ _).alloc (Nat.le_refl _) (.cells #[.int .i64 ((stE z l X n zeroC k : Nat) : Int), .int .i64 ((stP z l X n zeroC k : Nat) : Int)] 115))) hg7 (fun g hgg => by have h1 := (HO2.out.lt g hgg).2; have h2 := HQ.out; omega))
        have HLr7 := Lib.hid (HLr5.out.low hb7 HR0.out (by omega) (by omega))
        have y0 := NB7.out.cell 0 _ rfl
        have y1 := NB7.out.cell 1 _ rfl
        clear ho7 hb7 hg7 x0 x1
        go_wp2_with fail
        refine (spec_l1Drop LA lc (leftL (goneS z l X n zeroC k) n) (stE z l X n zeroC k) _ (by omega) (owned_vec HL7.out).row).mono ?_; rintro e8 w8 ⟨FA8, fc8, he8, hof8, hb8⟩
        have hdl : dropL (stE z l X n zeroC k) (leftL (goneS z l X n zeroC k) n) = leftL (goneS z l X n zeroC (k + 1)) n := dropL_left _ _ _
        rw [hdl] at he8 hof8
        subst he8
        have HO8 := Lib.hid (own_bG HO7.out hb8)
        have HLr8 := Lib.hid (HLr7.out.step hb8)
        have hsz7 := HLr7.out.box.1
        have HL8 := Lib.hid (owned_low hof8 (show w.heap.size + 1 ≤ _ from hsz7))
        have hkl2 : (leftL (goneS z l X n zeroC (k + 1)) n).length < (leftL (goneS z l X n zeroC k) n).length := hkl
        clear hb8 hof8 hdl
        go_wp2_with fail
        go_roundw
        case rel => exact ⟨k + 1, A', c', FA8, fc8, by go_num, rfl, rfl, by omega, HGo2, HO8, HL8, HLr8⟩
        case measure => simp [lenV]; omega
end Go.Proofs.Ytpajbcgdoedleab
