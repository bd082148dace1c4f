/- Whether keys have a peel order: arePeeled of the program, pePeels of the model. -/
import Derived.Test.YtfjimjbndkhkcabPeelN
import Derived.Test.YtfjimjbndkhkcabHypO
namespace Go.Proofs.Ytfjimjbndkhkcab
open Go.RowKit

def PeelsP (z : Nat) (n : Nat) (l : Nat → Nat) (X : Nat → Nat → Int) : Prop := ∃ k, Goes z l X n zeroC k ∧ freL (degF l X (goneS z l X n zeroC k) n) z = [] ∧ (leftL (goneS z l X n zeroC k) n).length = 0
theorem peelsP_iff {z n : Nat} {l : Nat → Nat} {X : Nat → Nat → Int} {k : Nat} (hg : Goes z l X n zeroC k) (hf : freL (degF l X (goneS z l X n zeroC k) n) z = []) : PeelsP z n l X ↔ (leftL (goneS z l X n zeroC k) n).length = 0 := by
  constructor
  · rintro ⟨j, h1, h2, h3⟩
    obtain rfl := goes_same h1 h2 hg hf
    exact h3
  · exact fun h => ⟨k, hg, hf, h⟩
theorem hyperOk_eH {seed : Int} {g n : Nat} {S : Nat → ByteArray} (h1 : 1 ≤ g) (h2 : g ≤ 24) (hn : n ≤ 40) : HyperOk ((3 * g : Nat) : Int) n (fun _ => 3) (eH seed g S) := by
  refine ⟨by omega, by omega, hn, fun i _ => ⟨rfl, fun j hj => ?_⟩⟩
  replace hj : j < 3 := hj
  obtain ⟨p0, p1, p2, p3⟩ := eH_bd (seed := seed) (S := S) (i := i) h1 h2 hj
  have e1 : eH seed g S i j = placeI seed j (S i).data.toList g + ((j * g : Nat) : Int) := by unfold eH; push_cast; rfl
  have hm : j * g ≤ 2 * g := Nat.mul_le_mul (by omega) (Nat.le_refl _)
  refine ⟨by rw [e1]; omega, by rw [e1]; push_cast at *; omega, fun h0 => ?_⟩
  obtain ⟨q0, q1, q2, q3⟩ := eH_bd (seed := seed) (S := S) (i := i) (j := j - 1) h1 h2 (by omega)
  have e2 : eH seed g S i (j - 1) = placeI seed (j - 1 : Nat) (S i).data.toList g + (((j - 1) * g : Nat) : Int) := by unfold eH; push_cast; rfl
  have hm2 : (j - 1) * g + g = j * g := by
    obtain ⟨t, rfl⟩ : ∃ t, j = t + 1 := ⟨j - 1, by omega⟩
    rw [Nat.add_sub_cancel, Nat.succ_mul]
  rw [e1, e2]; omega
theorem hyper_small {n : Nat} (hn : n ≤ 40) : n + sumL (fun _ => 3) n ≤ 1048576 := by
  have hsum : ∀ m, sumL (fun _ => 3) m = 3 * m := fun m => by
    induction m with
    | zero => rfl
    | succ m ih => rw [sumL, ih]; omega
  rw [hsum]; omega
/-- Keys have a peel order. -/
def PkP (S : Nat → ByteArray) (n : Nat) (g seed : Int) : Prop := keyedB seed S n g = true ∧ PeelsP (3 * g.toNat) n (fun _ => 3) (eH seed g S)
section
variable (seed g : Int) (KA : Option Addr) (n kc : Nat) (S : Nat → ByteArray) (w : World)
set_option maxRecDepth 100000 in
set_option maxHeartbeats 2000000 in
theorem impl_arePeeled (hn : n ≤ 1048576) (hs : ∀ i, i < n → (S i).size ≤ maxLen) (hr : GRow w KA n (strV S)) :
    Calls Try.prog 32 #[.int .i64 seed, .slice KA n kc, .int .i64 g] w (BoolIs (PkP S n g seed) w) := by
  have HR := Lib.hid hr
  have HS := Lib.hid hs
  clear hr hs
  by_cases hk : keyedB seed S n g = true
  · have hk2 := hk
    unfold keyedB at hk2
    simp only [Bool.and_eq_true, decide_eq_true_eq] at hk2
    obtain ⟨⟨hsd, hkk⟩, h1, h2⟩ := hk2
    obtain ⟨q, rfl⟩ := Int.eq_ofNat_of_zero_le (show 0 ≤ g by omega)
    have hn40 := keysB_size hkk
    have h1' : 1 ≤ q := by omega
    have h2' : q ≤ 24 := by omega
    have HO := Lib.hid (hyperOk_eH (seed := seed) (S := S) h1' h2' hn40)
    have HP := Lib.hid (show PkP S n q seed ↔ PeelsP (3 * q) n (fun _ => 3) (eH seed q S) from ⟨fun h => h.2, fun h => ⟨hk, h⟩⟩)
    have HQ := Lib.hid (⟨hsd, hkk⟩ : seedB seed 0 = true ∧ keysB S n = true)
    clear hk hsd hkk h1 h2
    go_enter Try.func32, Try.ntmps32
    go_wp2_with fail
    refine (impl_hyperOf seed q KA n kc S _ HS.out HR.out HQ.out.1 HQ.out.2 h1' h2').mono ?_; rintro e w1 ⟨A, c, rfl, ho, hb⟩
    have hrow : HRow w1 A n (fun _ => 3) (eH seed q S) := ho.rd.row (Nat.le_refl _)
    obtain ⟨B, d, hrow⟩ := hrow
    have L1 := Lib.hid (LH.start (z := ((3 * q : Nat) : Int)) (c := c) hrow 70)
    have HB := Lib.hid hb
    have hlow := hb.size
    obtain ⟨hsz, b0, b1⟩ := L1.out.box
    clear ho hb hrow
    go_wp2_with fail
    refine (impl_peelOrder (3 * q) A n c B (fun _ => 3) d (eH seed q S) _ (hyper_small hn40) L1.out.row HO.out).mono ?_; rintro e w2 ⟨k, hgo, hf, hb, h0, hp⟩
    have HI := Lib.hid (peelsP_iff hgo hf)
    have HB2 := Lib.hid (HB.out.trans ((L1.out.step hb).below.mono hlow))
    clear hgo hf hb
    by_cases hlt : (leftL (goneS (3 * q) (fun _ => 3) (eH seed q S) n zeroC k) n).length = 0
    · obtain ⟨SA, sc, rfl, _⟩ := h0 hlt
      clear hp
      go_wp2_with fail
      go_ret
      exact ⟨true, rfl, by simp only [true_iff]; exact HP.out.2 (HI.out.2 hlt), HB2.out⟩
    · obtain rfl := hp (Nat.pos_of_ne_zero hlt)
      clear h0
      go_wp2_with fail
      go_ret
      exact ⟨false, rfl, by simp only [Bool.false_eq_true, false_iff]; exact fun h => hlt (HI.out.1 (HP.out.1 h)), HB2.out⟩
  · have hkf : keyedB seed S n g = false := by simpa using hk
    have HN := Lib.hid (show ¬ PkP S n g seed from fun h => hk h.1)
    clear hk
    go_enter Try.func32, Try.ntmps32
    go_wp2_with fail
    refine (impl_hyperOf_no seed g KA n kc S _ hn HS.out HR.out hkf).mono ?_; rintro e w1 ⟨rfl, hb⟩
    have HB := Lib.hid (hb.alloc hb.size (.cells #[.int .i64 0, .slice none 0 0] 70))
    clear hb
    go_wp2_with fail
    go_ret
    exact ⟨false, rfl, by simp only [Bool.false_eq_true, false_iff]; exact HN.out, HB.out⟩
set_option maxRecDepth 100000 in
set_option maxHeartbeats 2000000 in
theorem spec_peCore (z : Nat) (A : Option Addr) (n c : Nat) (B : Nat → Option Addr) (l d : Nat → Nat) (X : Nat → Nat → Int) (w : World) (hr : HR w A n B l d X) (h : HyperOk z n l X) :
    Calls Try.prog 50 #[.agg #[.int .i64 z, .slice A n c]] w fun e w' => ∃ k FA fc, e = .returned (.slice FA (leftL (goneS z l X n zeroC k) n).length fc) ∧ Goes z l X n zeroC k ∧ freL (degF l X (goneS z l X n zeroC k) n) z = [] ∧
      w'.ownsRow w.heap.size 3 1 (.slice FA (leftL (goneS z l X n zeroC k) n).length fc) (leftL (goneS z l X n zeroC k) n).length (vals (intV (lstV (leftL (goneS z l X n zeroC k) n))) (leftL (goneS z l X n zeroC k) n).length) ∧ Below w.heap.size w w' := by
  have L0 := Lib.hid (LH.start (z := (z : Int)) (c := c) hr 70)
  have HG := Lib.hid h
  clear hr h
  obtain ⟨hsz, b0, b1⟩ := L0.out.box
  have hlow := L0.out.below.size
  go_enter Try.func50, Try.ntmps50
  go_wp2_with fail
  refine (spec_pePeel z A n c B l d X _ L0.out.row HG.out).mono ?_; rintro e w2 ⟨k, SA, sc, FA, fc, rfl, hgo, hf, ho, hl, hb⟩
  have HGo := Lib.hid hgo
  have HF := Lib.hid hf
  have HB := Lib.hid (L0.out.step hb).below
  have HL := Lib.hid (owned_low hl hlow)
  clear hgo hf hb ho hl
  go_wp2_with fail
  go_ret
  exact ⟨k, FA, fc, rfl, HGo.out, HF.out, HL.out, HB.out⟩
set_option maxRecDepth 100000 in
set_option maxHeartbeats 2000000 in
theorem spec_pePeels (hs : ∀ i, i < n → (S i).size ≤ maxLen) (hr : GRow w KA n (strV S)) (hk : keyedB seed S n g = true) :
    Calls Try.prog 28 #[.int .i64 seed, .slice KA n kc, .int .i64 g] w (BoolIs (PkP S n g seed) w) := by
  have HR := Lib.hid hr
  have HS := Lib.hid hs
  clear hr hs
  have hk2 := hk
  unfold keyedB at hk2
  simp only [Bool.and_eq_true, decide_eq_true_eq] at hk2
  obtain ⟨⟨hsd, hkk⟩, h1, h2⟩ := hk2
  obtain ⟨q, rfl⟩ := Int.eq_ofNat_of_zero_le (show 0 ≤ g by omega)
  have hn40 := keysB_size hkk
  have h1' : 1 ≤ q := by omega
  have h2' : q ≤ 24 := by omega
  have HO := Lib.hid (hyperOk_eH (seed := seed) (S := S) h1' h2' hn40)
  have HP := Lib.hid (show PkP S n q seed ↔ PeelsP (3 * q) n (fun _ => 3) (eH seed q S) from ⟨fun h => h.2, fun h => ⟨hk, h⟩⟩)
  have HQ := Lib.hid (⟨hsd, hkk⟩ : seedB seed 0 = true ∧ keysB S n = true)
  clear hk hsd hkk h1 h2
  go_enter Try.func28, Try.ntmps28
  go_wp2_with fail
  refine (spec_peHyper seed q KA n kc S _ hn40 HS.out HR.out HQ.out.1 h1' h2').mono ?_; rintro e w1 ⟨A, c, B, d, rfl, ho, hb⟩
  have hrow : HRow w1 A n (fun _ => 3) (eH seed q S) := ho.row
  obtain ⟨B, d, hrow⟩ := hrow
  have HRW := Lib.hid hrow
  have HB := Lib.hid hb
  have hlow := hb.size
  clear ho hb hrow
  go_wp2_with fail
  refine (spec_peCore (3 * q) A n c B (fun _ => 3) d (eH seed q S) _ HRW.out HO.out).mono ?_; rintro e w2 ⟨k, FA, fc, rfl, hgo, hf, ho, hb⟩
  have HI := Lib.hid (peelsP_iff hgo hf)
  have HB2 := Lib.hid (HB.out.trans (hb.mono hlow))
  have hll := leftL_len (goneS (3 * q) (fun _ => 3) (eH seed q S) n zeroC k) n
  clear hgo hf hb ho
  generalize hv : (leftL (goneS (3 * q) (fun _ => 3) (eH seed q S) n zeroC k) n).length = v at *
  go_wp2_with fail
  go_ret
  exact ⟨_, rfl, by simp only [beq_iff_eq]; rw [HP.out, HI.out]; omega, HB2.out⟩
end
end Go.Proofs.Ytfjimjbndkhkcab
