/- Peeling with the least places: the number of steps, impl.PeelOrder, the steps as a row. -/
import Derived.Test.YtpajbcgdoedleabPeelC
import Derived.Test.YtpajbcgdoedleabIsHyp
import Derived.Deep.RegionHeld3
namespace Go.Proofs.Ytpajbcgdoedleab
open Go.RowKit

theorem goes_len {z : Nat} {l : Nat → Nat} {X : Nat → Nat → Int} {n : Nat} {C : Nat → Nat} : ∀ {k : Nat}, Goes z l X n C k → (leftL (goneS z l X n C k) n).length + k ≤ n
  | 0, _ => by show (leftL (fun _ => false) n).length + 0 ≤ n; rw [leftL_none]; simp
  | k + 1, h => by
    have ih := goes_len (k := k) (fun j hj => h j (by omega))
    have hm1 := plc_mem (ch := C k) (h k (by omega))
    have hE1 := edg_first hm1.2
    have h2 := leftL_less (G := goneS z l X n C k) hE1.1 hE1.2.1
    have h3 : (leftL (goneS z l X n C (k + 1)) n).length < (leftL (goneS z l X n C k) n).length := h2
    omega
/-- Behind n steps no place is free. -/
theorem goes_end {z : Nat} {l : Nat → Nat} {X : Nat → Nat → Int} {n : Nat} {C : Nat → Nat} (h : Goes z l X n C n) : freL (degF l X (goneS z l X n C n) n) z = [] := by
  by_cases e : freL (degF l X (goneS z l X n C n) n) z = []
  · exact e
  · have h1 : Goes z l X n C (n + 1) := fun j hj => by
      by_cases e2 : j = n
      · subst e2; exact e
      · exact h j (by omega)
    have := goes_len h1
    omega
/-- Two runs by the same choices that both end make the same steps. -/
theorem goes_same {z : Nat} {l : Nat → Nat} {X : Nat → Nat → Int} {n : Nat} {C : Nat → Nat} {k j : Nat} (h1 : Goes z l X n C k) (e1 : freL (degF l X (goneS z l X n C k) n) z = []) (h2 : Goes z l X n C j) (e2 : freL (degF l X (goneS z l X n C j) n) z = []) : k = j := by
  rcases Nat.lt_trichotomy k j with h | h | h
  · exact absurd e1 (h2 k h)
  · exact h
  · exact absurd e2 (h1 j h)
/-- Left is a list of length n - k. -/
theorem goes_lt {z : Nat} {l : Nat → Nat} {X : Nat → Nat → Int} {n : Nat} {C : Nat → Nat} {k : Nat} (h : Goes z l X n C k) : k ≤ n := by
  have := goes_len h
  omega
/-- The steps name different edges: none twice. -/
theorem gone_keeps {z : Nat} {l : Nat → Nat} {X : Nat → Nat → Int} {n : Nat} {C : Nat → Nat} {i : Nat} : ∀ (k j : Nat), k ≤ j → goneS z l X n C k i = true → goneS z l X n C j i = true := by
  intro k j hkj h
  induction j with
  | zero => have : k = 0 := by omega
            subst this; exact h
  | succ j ih =>
    by_cases e : k = j + 1
    · subst e; exact h
    · have h1 := ih (by omega)
      show upd (goneS z l X n C j) _ true i = true
      unfold upd
      split <;> simp_all

set_option maxRecDepth 100000 in
set_option maxHeartbeats 4000000 in
theorem impl_peelOrder (z : Nat) (A : Option Addr) (n c : Nat) (B : Nat → Option Addr) (l d : Nat → Nat) (X : Nat → Nat → Int) (w : World) (hn : n + sumL l n ≤ 1048576) (hr : HR w A n B l d X) (h : HyperOk z n l X) :
    Calls Try.prog 129 #[.agg #[.int .i64 z, .slice A n c]] w fun e w' => ∃ k, Goes z l X n zeroC k ∧ freL (degF l X (goneS z l X n zeroC k) n) z = [] ∧ Below w.heap.size w w' ∧
      ((leftL (goneS z l X n zeroC k) n).length = 0 → ∃ SA sc, e = .returned (.tuple #[.slice SA k sc, .bool true]) ∧ w'.ownsRow w.heap.size 115 2 (.slice SA k sc) k (stepsL (stE z l X n zeroC) (stP z l X n zeroC) k)) ∧
      (0 < (leftL (goneS z l X n zeroC k) n).length → e = .returned (.tuple #[.slice none 0 0, .bool false])) := by
  have L0 := Lib.hid (LH.start (z := (z : Int)) (c := c) hr 109)
  have HG := Lib.hid h
  have hn40 := h.2.2.1
  have hmk := fun W => run_make_row' (P := Try.prog) 22 3 (.int .i64 0) 8 Try.underlying22 infoI rfl .i64 .i64 n (by omega) (by omega) W
  clear hr h
  go_enter Try.func129, Try.ntmps129
  go_wp2_with fail
  refine (impl_isHyper_is z A n c l X _ true hn ⟨B, d, L0.out.row⟩ (by simp only [true_iff]; exact HG.out)).mono ?_; rintro e w1 ⟨rfl, hb⟩
  have L1 := Lib.hid (L0.out.step hb)
  clear hb L0
  obtain ⟨hsz, b0, b1⟩ := L1.out.box
  have hlow := L1.out.below.size
  have OR := Lib.hid (ORow.made w1 n)
  have BA := Lib.hid ((Below.refl w1.heap.size w1).alloc (Nat.le_refl _) (.cells (madeCells #[.int .i64 0] n) 3))
  have L2 := Lib.hid (L1.out.step BA.out)
  have HK := Lib.hid (fun (w' : World) (h : Below w1.heap.size w1 w') => (show w'.cell? ⟨w.heap.size, 0, none⟩ = some (.int .i64 z) ∧ w'.cell? ⟨w.heap.size, 1, none⟩ = some (.slice A n c) from ⟨(L1.out.step h).box.2.1, (L1.out.step h).box.2.2⟩))
  have HP := Lib.hid (fun W (h1 : HR W A n B l d X) (h2 : IRow W (some ⟨w1.heap.size, 0, none⟩) n (idxV zeroC)) => impl_peelBy z A n c B l d X (some ⟨w1.heap.size, 0, none⟩) n n zeroC W h1 HG.out (by omega) h2)
  go_wp2_with fail
  go_region_held3 (fun w' => w'.cell? ⟨w.heap.size, 0, none⟩ = some (.int .i64 z) ∧ w'.cell? ⟨w.heap.size, 1, none⟩ = some (.slice A n c))
    (first | with_reducible exact HK.out _ hq1 | (go_keep; done) | with_reducible exact HK.out _ BA.out)
    (first
      | (go_at_call 134; (first | refine (HP.out _ L2.out.row OR.out.row).mono ?_ | refine (HP.out _ L2.out.drew.row (irow (GRow.drew (grow_of OR.out.row)))).mono ?_); rintro e w2 ⟨k, SA, sc, FA, fc, rfl, hkn, hgo, hor, ho, hf, hq1'⟩; have hq2 := of_drew hq1'; have hq1 := BA.out.trans (hq2.mono BA.out.size); clear hq1'))
  have HGo := Lib.hid hgo
  have HF := Lib.hid (show freL (degF l X (goneS z l X n zeroC k) n) z = [] by
    rcases hor with e | e
    · subst e; exact goes_end hgo
    · exact e)
  have L3 := Lib.hid (L2.out.step hq2)
  have hlow2 := L2.out.below.size
  have HO := Lib.hid (own_lowG ho hlow2)
  clear hq1 hq2 hgo hor ho hf
  by_cases hlt : 0 < (leftL (goneS z l X n zeroC k) n).length
  · go_wp2_with fail
    go_ret2
    exact ⟨k, HGo.out, HF.out, L3.out.below, fun e => by omega, fun _ => rfl⟩
  · have h0 : (leftL (goneS z l X n zeroC k) n).length = 0 := by omega
    go_wp2_with fail
    go_ret2
    exact ⟨k, HGo.out, HF.out, L3.out.below, fun _ => ⟨SA, sc, rfl, HO.out⟩, fun e => by omega⟩

theorem leftL_upd_ge {G : Nat → Bool} {e : Nat} : ∀ n, n ≤ e → leftL (upd G e true) n = leftL G n
  | 0, _ => rfl
  | n + 1, h => by
    have h1 : upd G e true n = G n := by unfold upd; rw [if_neg (by omega)]
    rw [leftL, leftL, h1, leftL_upd_ge n (by omega)]
theorem leftL_one {G : Nat → Bool} {e : Nat} (hg : G e = false) : ∀ n, e < n → (leftL (upd G e true) n).length + 1 = (leftL G n).length
  | 0, h => by omega
  | n + 1, h => by
    by_cases he : e = n
    · subst he
      have h1 : upd G e true e = true := by unfold upd; rw [if_pos rfl]
      rw [leftL, leftL, h1, hg, leftL_upd_ge e (Nat.le_refl _)]
      simp
    · have h1 : upd G e true n = G n := by unfold upd; rw [if_neg (by omega)]
      have ih := leftL_one hg n (by omega)
      rw [leftL, leftL, h1]
      cases G n <;> simp <;> omega
theorem goes_len' {z : Nat} {l : Nat → Nat} {X : Nat → Nat → Int} {n : Nat} {C : Nat → Nat} : ∀ {k : Nat}, Goes z l X n C k → (leftL (goneS z l X n C k) n).length + k = n
  | 0, _ => by show (leftL (fun _ => false) n).length + 0 = n; rw [leftL_none]; simp
  | k + 1, h => by
    have ih := goes_len' (k := k) (fun j hj => h j (by omega))
    have hm1 := plc_mem (ch := C k) (h k (by omega))
    have hE1 := edg_first hm1.2
    have h2 := leftL_one (G := goneS z l X n C k) hE1.2.1 n hE1.1
    have h3 : (leftL (goneS z l X n C (k + 1)) n).length + 1 = (leftL (goneS z l X n C k) n).length := h2
    omega
theorem stE_lt {z : Nat} {l : Nat → Nat} {X : Nat → Nat → Int} {n : Nat} {C : Nat → Nat} {k j : Nat} (h : Goes z l X n C k) (hj : j < k) : stE z l X n C j < n :=
  (edg_first (plc_mem (ch := C j) (h j hj)).2).1

theorem stepsL_length (E P : Nat → Nat) : ∀ k, (stepsL E P k).length = 2 * k
  | 0 => rfl
  | k + 1 => by rw [stepsL_succ, List.length_append, stepsL_length E P k]; simp; omega
theorem stepsL_get {E P : Nat → Nat} {j : Nat} : ∀ k, j < k → (stepsL E P k)[2 * j]? = some (.int .i64 ((E j : Nat) : Int)) ∧ (stepsL E P k)[2 * j + 1]? = some (.int .i64 ((P j : Nat) : Int))
  | 0, h => by omega
  | k + 1, h => by
    rw [stepsL_succ]
    by_cases e : j = k
    · subst e
      rw [List.getElem?_append_right (by rw [stepsL_length]; omega), List.getElem?_append_right (by rw [stepsL_length]; omega), stepsL_length]
      have h1 : 2 * j - 2 * j = 0 := by omega
      have h2 : 2 * j + 1 - 2 * j = 1 := by omega
      rw [h1, h2]
      exact ⟨rfl, rfl⟩
    · have ih := stepsL_get (E := E) (P := P) (j := j) k (by omega)
      rw [List.getElem?_append_left (by rw [stepsL_length]; omega), List.getElem?_append_left (by rw [stepsL_length]; omega)]
      exact ih
/-- A row of k steps. -/
def StRow (w : World) (SA : Option Addr) (k : Nat) (E P : Nat → Nat) : Prop :=
  0 < k → ∃ g, SA = some ⟨g, 0, none⟩ ∧ g < w.heap.size ∧ ∀ j, j < k → w.cell? ⟨g, 2 * j, none⟩ = some (.int .i64 ((E j : Nat) : Int)) ∧ w.cell? ⟨g, 2 * j + 1, none⟩ = some (.int .i64 ((P j : Nat) : Int))
theorem StRow.b {w w' : World} {SA : Option Addr} {k : Nat} {E P : Nat → Nat} (h : StRow w SA k E P) (hb : Below w.heap.size w w') : StRow w' SA k E P := fun hk => by
  obtain ⟨g, hA, hg, hc⟩ := h hk
  refine ⟨g, hA, Nat.lt_of_lt_of_le hg hb.size, fun j hj => ⟨?_, ?_⟩⟩
  · exact (World.cell?_of_block (a := ⟨g, 2 * j, none⟩) (hb.block g hg)).trans (hc j hj).1
  · exact (World.cell?_of_block (a := ⟨g, 2 * j + 1, none⟩) (hb.block g hg)).trans (hc j hj).2
theorem steps_row {w : World} {B : Nat} {t : TypeId} {SA : Option Addr} {k sc : Nat} {E P : Nat → Nat} (h : w.ownsRow B t 2 (.slice SA k sc) k (stepsL E P k)) : StRow w SA k E P := fun hk => by
  obtain ⟨hl, h1 | ⟨g, cap, cur, he, hB, hb, hn, hm, hs, ht⟩⟩ := h
  · omega
  · injection he with e1 e2 e3
    subst e1 e3
    have h' : w.ownsRow B t 2 (.slice (some ⟨g, 0, none⟩) k sc) k (stepsL E P k) := ⟨hl, .inr ⟨g, sc, cur, rfl, hB, hb, hn, hm, hs, ht⟩⟩
    refine ⟨g, rfl, (Array.getElem?_eq_some_iff.1 hb).1, fun j hj => ⟨?_, ?_⟩⟩
    · exact (h'.cellAt (2 * j) (by omega)).trans (stepsL_get k hj).1
    · exact (h'.cellAt (2 * j + 1) (by omega)).trans (stepsL_get k hj).2
/-- What k steps write. -/
def outF (E P : Nat → Nat) : Nat → Nat → Int
  | 0 => fun _ => 0
  | k + 1 => fun j => if j = E k then (P k : Int) else outF E P k j
end Go.Proofs.Ytpajbcgdoedleab
