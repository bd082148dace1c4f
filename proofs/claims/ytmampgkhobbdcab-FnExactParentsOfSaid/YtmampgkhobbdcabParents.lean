/- The tree list of a balanced vector: what both sides answer. -/
import Derived.Test.YtmampgkhobbdcabParen4
import Derived.Test.YtmampgkhobbdcabObjInt
namespace Go.Proofs.Ytmampgkhobbdcab
open Go.RowKit

theorem Above.uniq {W : Nat → Nat} {i a a' : Nat} (h : Above W i a) (k : Above W i a') : a = a' := by
  have h1 := h.2.1; have h2 := k.2.1; have h3 := h.1; have h4 := k.1
  by_cases c : a < a'
  · have := h.2.2 a' (by omega) (by omega); omega
  · by_cases c2 : a' < a
    · have := k.2.2 a (by omega) (by omega); omega
    · omega
/-- The node that a place lies in: by its number among the bits that are on, or -1. -/
def ParV (W : Nat → Nat) (i : Nat) (v : Int) : Prop := (∃ a, Above W i a ∧ v = cntN W 0 a) ∨ (NoAbove W i ∧ v = -1)
theorem parV_some (W : Nat → Nat) (i : Nat) : ∃ v, ParV W i v := by
  rcases above_all W i with ⟨a, h⟩ | h
  · exact ⟨_, .inl ⟨a, h, rfl⟩⟩
  · exact ⟨_, .inr ⟨h, rfl⟩⟩
theorem Above.not {W : Nat → Nat} {i a : Nat} (h : Above W i a) : ¬ NoAbove W i := fun hn => by
  have := hn a (by have := h.1; omega); have := h.2.1; omega
theorem ParV.uniq {W : Nat → Nat} {i : Nat} {v v' : Int} (h : ParV W i v) (k : ParV W i v') : v = v' := by
  rcases h with ⟨a, h1, h2⟩ | ⟨h1, h2⟩ <;> rcases k with ⟨a', k1, k2⟩ | ⟨k1, k2⟩
  · obtain rfl := h1.uniq k1; rw [h2, k2]
  · exact absurd k1 h1.not
  · exact absurd h1 k1.not
  · rw [h2, k2]
theorem cnt_lt {W : Nat → Nat} {i j : Nat} (h : bitN W i = true) (hij : i < j) : cntN W 0 i < cntN W 0 j := by
  have h1 : cntN W 0 (i + 1) = cntN W 0 i + 1 := by rw [cntN_snoc, Nat.zero_add, if_pos h]
  have h2 := cntN_add W (i + 1) (j - (i + 1)) 0
  rw [show i + 1 + (j - (i + 1)) = j by omega] at h2
  omega
theorem cnt_on {W : Nat → Nat} {i : Nat} (h : bitN W i = true) : cntN W 0 (i + 1) = cntN W 0 i + 1 := by rw [cntN_snoc, Nat.zero_add, if_pos h]
theorem cnt_off {W : Nat → Nat} {i : Nat} (h : bitN W i = false) : cntN W 0 (i + 1) = cntN W 0 i := by rw [cntN_snoc, Nat.zero_add, if_neg (by simp [h])]; omega
/-- The row of the nodes' parents. -/
def TreeRow (W : Nat → Nat) (R : Nat → Int) : Prop := ∀ i, bitN W i = true → ParV W i (R (cntN W 0 i))
theorem treeRow_some (W : Nat → Nat) : ∃ R, TreeRow W R := by
  have h : ∀ t, ∃ v : Int, ∀ i, bitN W i = true → cntN W 0 i = t → ParV W i v := by
    intro t
    by_cases c : ∃ i, bitN W i = true ∧ cntN W 0 i = t
    · obtain ⟨i, h1, h2⟩ := c
      obtain ⟨v, hv⟩ := parV_some W i
      refine ⟨v, fun j h3 h4 => ?_⟩
      have : i = j := by
        by_cases e : i < j
        · have := cnt_lt h1 e; omega
        · by_cases e2 : j < i
          · have := cnt_lt h3 e2; omega
          · omega
      rw [← this]; exact hv
    · exact ⟨0, fun i h1 h2 => absurd ⟨i, h1, h2⟩ c⟩
  exact ⟨fun t => Classical.choose (h t), fun i hi => Classical.choose_spec (h (cntN W 0 i)) i hi rfl⟩
theorem parV_zero (W : Nat → Nat) : ParV W 0 (-1) := .inr ⟨fun k hk => by rw [show k = 0 by omega]; exact Int.le_refl _, rfl⟩
theorem parV_on {W : Nat → Nat} {i : Nat} (h : bitN W i = true) : ParV W (i + 1) (cntN W 0 i) := by
  have e := exc_on h
  exact .inl ⟨i, ⟨by omega, by omega, fun k h1 h2 => by rw [show k = i + 1 by omega]; exact Int.le_refl _⟩, rfl⟩
theorem parV_off {W : Nat → Nat} {i a : Nat} {v : Int} (h : bitN W i = false) (ha : Above W i a) (hv : ParV W a v) : ParV W (i + 1) v := by
  have e := exc_off h
  have e1 := ha.2.1
  have h1 := ha.1
  have key : ∀ b, (∀ k, b < k → k ≤ a → exc W a ≤ exc W k) → ∀ k, b < k → k ≤ i + 1 → exc W (i + 1) ≤ exc W k := fun b hb k h2 h3 => by
    by_cases c : k ≤ a
    · have := hb k h2 c; omega
    · by_cases c2 : k ≤ i
      · have := ha.2.2 k (by omega) c2; omega
      · rw [show k = i + 1 by omega]; exact Int.le_refl _
  rcases hv with ⟨b, hb, rfl⟩ | ⟨hb, rfl⟩
  · exact .inl ⟨b, ⟨by have := hb.1; omega, by have := hb.2.1; omega, key b hb.2.2⟩, rfl⟩
  · refine .inr ⟨fun k hk => ?_, rfl⟩
    by_cases c : k ≤ a
    · have := hb k c; omega
    · by_cases c2 : k ≤ i
      · have := ha.2.2 k (by omega) c2; omega
      · rw [show k = i + 1 by omega]; exact Int.le_refl _
theorem Bal.above {W : Nat → Nat} {z i : Nat} (hB : Bal W z) (hi : i < z) (h : bitN W i = false) : ∃ a, Above W i a := by
  rcases above_all W i with h1 | h1
  · exact h1
  · have h2 := h1 0 (by omega)
    have h3 := hB.1 (i + 1) (by omega)
    have e := exc_off h
    rw [exc_zero] at h2
    omega

theorem ow_of_gvec {w w' : World} {t : TypeId} {A : Option Addr} {m : Nat} {F : Nat → Value} (h : GVec w' w.heap.size t A m F) : Ow w.heap.size w'.heap.size t A m F w' := fun hm => by
  rcases h with h | ⟨g, hA, hg, c, h1, h2, h3⟩
  · omega
  · exact ⟨g, 0, c, hA, hg, (Array.getElem?_eq_some_iff.1 h1).1, h1, by omega, fun k hk => by rw [Nat.zero_add]; exact h3 k hk⟩

/-- A balanced vector of at most 128 bits. -/
def Nodes (z : Int) (n : Nat) (X : Nat → Int) : Prop := Good z n X ∧ Bal (wd X) z.toNat ∧ z ≤ 128

set_option maxRecDepth 100000 in
set_option maxHeartbeats 2000000 in
theorem impl_parents_yes (z : Nat) (A : Option Addr) (n c : Nat) (X R : Nat → Int) (w : World) (hn : n ≤ 1048576) (hr : IRow w A n X) (h : Nodes z n X) (hR : TreeRow (wd X) R) :
    Calls Try.prog 34 #[.agg #[.int .i64 z, .slice A n c]] w fun e w' => ∃ A' c', e = .returned (.tuple #[.slice A' (cntN (wd X) 0 z) c', .bool true]) ∧ Below w.heap.size w w' ∧ Ow w.heap.size w'.heap.size 3 A' (cntN (wd X) 0 z) (intV R) w' := by
  have L0 := Lib.hid (LS.start (z := (z : Int)) (c := c) hr 28)
  obtain ⟨hg, hB, hz2⟩ := h
  have hz : z ≤ 16 * n := by have := hg.2.2.1; omega
  have hz3 : ¬ (128 : Int) < z := by omega
  have HG := Lib.hid hg
  have HBal := Lib.hid (show Bal (wd X) z by simpa using hB)
  have HR := Lib.hid hR
  clear hr hg hB hR
  obtain ⟨i0, hi0, hz0, hs0, hb0⟩ := info_parts infoI
  go_enter Try.func34, Try.ntmps34
  go_wp2_with fail
  refine (impl_partnersOf z A n c X _ hn L0.out.row HG.out).mono ?_; rintro e w1 (⟨hB, A', m', c', rfl, hb⟩ | ⟨hB, A', c', P, rfl, _, _, hb⟩)
  · exact absurd HBal.out hB
  · have L1 := Lib.hid (L0.out.step hb)
    clear hb L0 hB
    obtain ⟨hs1, c0, c1⟩ := L1.out.box
    go_wp2_with (refine wpList_make_own _ rfl _ _ 22 rfl w1.heap.size 3 i0 (.int .i64 0) 1 Try.underlying22 hi0 hz0 hs0 .i64 .i64 _ (z / 2) rfl rfl (by omega) (by rw [hb0]; omega) (by unfold maxLen; omega) (Nat.le_refl _) ?_)
    intro w2 hown hgr
    have hb2 : Below w1.heap.size w1 w2 := ⟨hgr.os, hgr.tape, hgr.output, hgr.size, fun i hi => hgr.block i hi (by simp)⟩
    have HO2 := Lib.hid hown
    have L2 := Lib.hid (L1.out.step hb2)
    have hsz2 := hb2.size
    have HB2 := Lib.hid hb2
    clear hown hgr hb2 c0 c1 hs1
    obtain ⟨hs1, c0, c1⟩ := L2.out.box
    go_wp2_with fail
    go_loopw [6, 7, 27] (fun op o i wr => ∃ (q : Nat) (A1 : Option Addr) (k1 : Nat) (v : Int), q ≤ z ∧ i = .int .i64 q ∧ op = .slice A1 (cntN (wd X) 0 q) k1 ∧ o = .int .i64 v ∧ ParV (wd X) q v ∧ wr.ownsRow w1.heap.size 3 1 (.slice A1 (cntN (wd X) 0 q) k1) (cntN (wd X) 0 q) (vals (intV R) (cntN (wd X) 0 q)) ∧ Below w1.heap.size w1 wr) (fun _ _ i _ => z - (intOf i).toNat)
    case atStart => exact ⟨0, _, _, -1, by omega, rfl, rfl, rfl, parV_zero _, HO2.out, HB2.out⟩
    case round =>
      obtain ⟨q, A1, k1, v, hq, rfl, rfl, rfl, hv, hown, hl⟩ := hrel
      have L3 := Lib.hid (L1.out.step hl)
      have HB := Lib.hid hl
      have HO := Lib.hid hown
      have HV := Lib.hid hv
      have hsz := hl.size
      have hcq := cntN_le (wd X) q 0
      obtain ⟨hs3, d0, d1⟩ := L3.out.box
      clear hl hown hv
      by_cases hlt : q < z
      · cases hbit : bitN (wd X) q with
        | true =>
          have hv' : v = R (cntN (wd X) 0 q) := HV.out.uniq (HR.out q hbit)
          subst hv'
          have HC := Lib.hid (cnt_on hbit)
          go_wp2_with fail
          refine (impl_isOn A n c (wd X) q _ hn (good_row HG.out L3.out.row) (by omega)).mono ?_; rintro e w3 ⟨rfl, rfl⟩
          rw [hbit]
          go_wp2_with (at_builtin; refine wpList_push rfl _ _ 22 rfl w1.heap.size 3 (.int .i64 0) 8 Try.underlying22 infoI rfl A1 (cntN (wd X) 0 q) k1 (intV R) (.int .i64 (R (cntN (wd X) 0 q))) wr rfl HO.out rfl rfl rfl (by omega) (by omega) hsz ?_)
          intro A' c' w3 hown' hb3
          have HO3 := Lib.hid hown'
          have HB3 := Lib.hid (HB.out.trans hb3)
          clear hown' hb3 HO HB L3
          go_wp2_with fail
          go_roundw
          case rel => exact ⟨q + 1, A', c', (cntN (wd X) 0 q : Int), by omega, by go_num, by rw [HC.out], by go_num, parV_on hbit, by rw [HC.out]; exact HO3.out, HB3.out⟩
          case measure => simp [intOf]; omega
        | false =>
          obtain ⟨a, ha⟩ := HBal.out.above hlt hbit
          have hv' : v = cntN (wd X) 0 a := HV.out.uniq (.inl ⟨a, ha, rfl⟩)
          subst hv'
          have haq := cnt_lt ha.on ha.1
          have HC := Lib.hid (cnt_off hbit)
          obtain ⟨b, off, rfl, _, hc⟩ := (owned_vec HO.out).row (by omega)
          have hca := hc (cntN (wd X) 0 a) haq
          unfold intV at hca
          have HP := Lib.hid (parV_off hbit ha (HR.out a ha.on))
          clear hc ha
          go_wp2_with fail
          refine (impl_isOn A n c (wd X) q _ hn (good_row HG.out L3.out.row) (by omega)).mono ?_; rintro e w3 ⟨rfl, rfl⟩
          rw [hbit]
          go_wp2_with fail
          go_roundw
          case rel => exact ⟨q + 1, _, k1, _, by omega, by go_num, by rw [HC.out], rfl, HP.out, by rw [HC.out]; exact HO.out, HB.out⟩
          case measure => simp [intOf]; omega
      · obtain rfl : q = z := by omega
        go_wp2_with fail
        go_ret2
        exact ⟨_, _, rfl, L3.out.below, (ow_of_gvec (w := w1) (owned_vec HO.out)).mono (by have := L1.out.below.size; omega) (Nat.le_refl _)⟩

set_option maxHeartbeats 1000000 in
theorem impl_parents_no (z : Int) (A : Option Addr) (n c : Nat) (X : Nat → Int) (w : World) (hn : n ≤ 1048576) (hr : IRow w A n X) (h : ¬ Nodes z n X) :
    Calls Try.prog 34 #[.agg #[.int .i64 z, .slice A n c]] w fun e w' => e = .returned (.tuple #[.slice none 0 0, .bool false]) ∧ Below w.heap.size w w' := by
  have L0 := Lib.hid (LS.start (z := z) (c := c) hr 28)
  have H := Lib.hid h
  clear hr h
  by_cases hg : Good z n X
  · have HG := Lib.hid hg
    obtain ⟨z, rfl⟩ := Int.eq_ofNat_of_zero_le hg.1
    clear hg
    go_enter Try.func34, Try.ntmps34
    go_wp2_with fail
    refine (impl_partnersOf z A n c X _ hn L0.out.row HG.out).mono ?_; rintro e w1 (⟨hB, A', m', c', rfl, hb⟩ | ⟨hB, A', c', P, rfl, _, _, hb⟩)
    · have L1 := Lib.hid (L0.out.step hb)
      clear hb L0
      go_wp2_with fail
      go_ret2
      exact ⟨rfl, L1.out.below⟩
    · have L1 := Lib.hid (L0.out.step hb)
      have hz3 : (128 : Int) < z := by
        by_cases c : (z : Int) ≤ 128
        · exact absurd ⟨HG.out, by simpa using hB, c⟩ H.out
        · omega
      clear hb L0
      obtain ⟨hs1, c0, c1⟩ := L1.out.box
      go_wp2_with fail
      go_ret2
      exact ⟨rfl, L1.out.below⟩
  · have HG := Lib.hid hg
    clear hg
    go_enter Try.func34, Try.ntmps34
    go_wp2_with fail
    refine (impl_partners_bad z A n c X _ hn L0.out.row HG.out).mono ?_; rintro e w1 ⟨rfl, hb⟩
    have L1 := Lib.hid (L0.out.step hb)
    clear hb L0
    go_wp2_with fail
    go_ret2
    exact ⟨rfl, L1.out.below⟩

set_option maxHeartbeats 1000000 in
theorem spec_parents_no (z : Int) (A : Option Addr) (n c : Nat) (X : Nat → Int) (w : World) (hn : n ≤ 1048576) (hr : IRow w A n X) (h : ¬ Nodes z n X) :
    Calls Try.prog 33 #[.agg #[.int .i64 z, .slice A n c]] w fun e w' => e = .returned (.tuple #[.slice none 0 0, .bool false]) ∧ Below w.heap.size w w' := by
  have L0 := Lib.hid (LS.start (z := z) (c := c) hr 28)
  have H := Lib.hid h
  clear hr h
  by_cases hg : Good z n X
  · have HG := Lib.hid hg
    obtain ⟨z, rfl⟩ := Int.eq_ofNat_of_zero_le hg.1
    have hz : z ≤ 16 * n := by have := hg.2.2.1; omega
    have hz1 : z ≤ 4096 := by have := hg.2.1; omega
    clear hg
    go_enter Try.func33, Try.ntmps33
    go_wp2_with fail
    refine (biGood_yes hn L0.out.row HG.out).mono ?_; rintro e w1 ⟨rfl, hb⟩
    have L1 := Lib.hid (L0.out.step hb)
    clear hb L0
    obtain ⟨hs1, c0, c1⟩ := L1.out.box
    go_wp2_with fail
    refine (spec_raBalanced z A n c (wd X) _ hn (good_row HG.out L1.out.row) hz hz1).mono ?_; rintro e w2 ⟨b, rfl, hb', hb⟩
    have HB := Lib.hid hb'
    have L2 := Lib.hid (L1.out.step hb)
    clear hb hb' c0 c1 hs1 L1
    obtain ⟨hs1, c0, c1⟩ := L2.out.box
    cases b with
    | true =>
      have hz3 : (128 : Int) < z := by
        by_cases c : (z : Int) ≤ 128
        · have hb := HB.out
          simp at hb
          exact absurd ⟨HG.out, by simpa using hb, c⟩ H.out
        · omega
      go_wp2_with fail
      go_ret2
      exact ⟨rfl, L2.out.below⟩
    | false =>
      go_wp2_with fail
      go_ret2
      exact ⟨rfl, L2.out.below⟩
  · have HG := Lib.hid hg
    clear hg
    go_enter Try.func33, Try.ntmps33
    go_wp2_with fail
    refine (biGood_no hn L0.out.row HG.out).mono ?_; rintro e w1 ⟨rfl, hb⟩
    have L1 := Lib.hid (L0.out.step hb)
    clear hb L0
    go_wp2_with fail
    go_ret2
    exact ⟨rfl, L1.out.below⟩

set_option maxRecDepth 100000 in
set_option maxHeartbeats 2000000 in
theorem spec_parents_yes (z : Nat) (A : Option Addr) (n c : Nat) (X R : Nat → Int) (w : World) (hn : n ≤ 1048576) (hr : IRow w A n X) (h : Nodes z n X) (hR : TreeRow (wd X) R) :
    Calls Try.prog 33 #[.agg #[.int .i64 z, .slice A n c]] w fun e w' => ∃ A' c', e = .returned (.tuple #[.slice A' (cntN (wd X) 0 z) c', .bool true]) ∧ Below w.heap.size w w' ∧ GRow w' A' (cntN (wd X) 0 z) (intV R) := by
  have L0 := Lib.hid (LS.start (z := (z : Int)) (c := c) hr 28)
  obtain ⟨hg, hB, hz2⟩ := h
  have hz : z ≤ 16 * n := by have := hg.2.2.1; omega
  have hz1 : z ≤ 4096 := by omega
  have hz3 : ¬ (128 : Int) < z := by omega
  have HG := Lib.hid hg
  have HBal := Lib.hid (show Bal (wd X) z by simpa using hB)
  have HR := Lib.hid hR
  clear hr hg hB hR
  go_enter Try.func33, Try.ntmps33
  go_wp2_with fail
  refine (biGood_yes hn L0.out.row HG.out).mono ?_; rintro e w1 ⟨rfl, hb⟩
  have L1 := Lib.hid (L0.out.step hb)
  clear hb L0
  obtain ⟨hs1, c0, c1⟩ := L1.out.box
  go_wp2_with fail
  refine ((BoolIs.two (spec_raBalanced z A n c (wd X) _ hn (good_row HG.out L1.out.row) hz hz1)).1 HBal.out).mono ?_; rintro e w2 ⟨rfl, hb⟩
  have L2 := Lib.hid (L1.out.step hb)
  clear hb c0 c1 hs1 L1
  obtain ⟨hs1, c0, c1⟩ := L2.out.box
  go_wp2_with fail
  go_loopw [4, 5] (fun op i wr => ∃ (q : Nat) (A1 : Option Addr) (k1 : Nat), q ≤ z ∧ i = .int .i64 q ∧ op = .slice A1 (cntN (wd X) 0 q) k1 ∧ wr.ownsRow w2.heap.size 3 1 (.slice A1 (cntN (wd X) 0 q) k1) (cntN (wd X) 0 q) (vals (intV R) (cntN (wd X) 0 q)) ∧ Below w2.heap.size w2 wr) (fun _ i _ => z - (intOf i).toNat)
  case atStart => exact ⟨0, none, 0, by omega, rfl, rfl, World.ownsRow_nil _ _ _ _, Below.refl _ _⟩
  case round =>
    obtain ⟨q, A1, k1, hq, rfl, rfl, hown, hl⟩ := hrel
    have L3 := Lib.hid (L2.out.step hl)
    have HB := Lib.hid hl
    have HO := Lib.hid hown
    have hsz := hl.size
    have hcq := cntN_le (wd X) q 0
    obtain ⟨hs3, d0, d1⟩ := L3.out.box
    clear hl hown
    by_cases hlt : q < z
    · cases hbit : bitN (wd X) q with
      | true =>
        have HC := Lib.hid (cnt_on hbit)
        go_wp2_with fail
        refine (spec_biAt z A n c (wd X) q _ hn (good_row HG.out L3.out.row) (by omega)).mono ?_; rintro e w3 ⟨rfl, hb⟩
        rw [hbit]
        have L4 := Lib.hid (L3.out.step hb)
        have HB4 := Lib.hid (HB.out.trans (hb.mono hsz))
        have HO4 := Lib.hid (owned_b HO.out hb)
        have hsz4 := Nat.le_trans hsz hb.size
        clear hb L3 HB HO d0 d1 hs3
        obtain ⟨hs3, d0, d1⟩ := L4.out.box
        rcases HR.out q hbit with ⟨a, ha, hRa⟩ | ⟨ha, hRa⟩
        · have ha0 : ¬ ((a : Int) < 0) := by omega
          have haq := ha.1
          go_wp2_with fail
          refine (spec_raAbove_yes z A n c (wd X) q a _ hn (good_row HG.out L4.out.row) (by omega) (by omega) ha).mono ?_; rintro e w4 ⟨rfl, hb⟩
          have L5 := Lib.hid (L4.out.step hb)
          have HB5 := Lib.hid (HB4.out.trans (hb.mono hsz4))
          have HO5 := Lib.hid (owned_b HO4.out hb)
          have hsz5 := Nat.le_trans hsz4 hb.size
          clear hb L4 HB4 HO4 d0 d1 hs3
          obtain ⟨hs3, d0, d1⟩ := L5.out.box
          go_wp2_with fail
          refine (spec_biCount z A n c (wd X) 0 a _ hn (good_row HG.out L5.out.row) (by omega) (by omega) (by omega)).mono ?_; rintro e w5 ⟨rfl, hb⟩
          rw [Nat.sub_zero]
          have HB6 := Lib.hid (HB5.out.trans (hb.mono hsz5))
          have HO6 := Lib.hid (owned_b HO5.out hb)
          have hsz6 := Nat.le_trans hsz5 hb.size
          clear hb L5 HB5 HO5 d0 d1 hs3
          go_wp2_with (at_builtin; refine wpList_push rfl _ _ 22 rfl w2.heap.size 3 (.int .i64 0) 8 Try.underlying22 infoI rfl A1 (cntN (wd X) 0 q) k1 (intV R) (.int .i64 (cntN (wd X) 0 a)) w5 rfl HO6.out rfl (by rw [← hRa]; rfl) rfl (by omega) (by omega) hsz6 ?_)
          intro A' c' w6 hown' hb3
          have HO7 := Lib.hid hown'
          have HB7 := Lib.hid (HB6.out.trans hb3)
          clear hown' hb3 HO6 HB6
          go_wp2_with fail
          go_roundw
          case rel => exact ⟨q + 1, A', c', by omega, by go_num, by rw [HC.out], by rw [HC.out]; exact HO7.out, HB7.out⟩
          case measure => simp [intOf]; omega
        · go_wp2_with fail
          refine (spec_raAbove_no z A n c (wd X) q _ hn (good_row HG.out L4.out.row) (by omega) (by omega) ha).mono ?_; rintro e w4 ⟨rfl, hb⟩
          have HB6 := Lib.hid (HB4.out.trans (hb.mono hsz4))
          have HO6 := Lib.hid (owned_b HO4.out hb)
          have hsz6 := Nat.le_trans hsz4 hb.size
          clear hb L4 HB4 HO4 d0 d1 hs3
          go_wp2_with (at_builtin; refine wpList_push rfl _ _ 22 rfl w2.heap.size 3 (.int .i64 0) 8 Try.underlying22 infoI rfl A1 (cntN (wd X) 0 q) k1 (intV R) (.int .i64 (-1)) w4 rfl HO6.out rfl (by rw [← hRa]; rfl) rfl (by omega) (by omega) hsz6 ?_)
          intro A' c' w6 hown' hb3
          have HO7 := Lib.hid hown'
          have HB7 := Lib.hid (HB6.out.trans hb3)
          clear hown' hb3 HO6 HB6
          go_wp2_with fail
          go_roundw
          case rel => exact ⟨q + 1, A', c', by omega, by go_num, by rw [HC.out], by rw [HC.out]; exact HO7.out, HB7.out⟩
          case measure => simp [intOf]; omega
      | false =>
        have HC := Lib.hid (cnt_off hbit)
        go_wp2_with fail
        refine (spec_biAt z A n c (wd X) q _ hn (good_row HG.out L3.out.row) (by omega)).mono ?_; rintro e w3 ⟨rfl, hb⟩
        rw [hbit]
        have HB4 := Lib.hid (HB.out.trans (hb.mono hsz))
        have HO4 := Lib.hid (owned_b HO.out hb)
        clear hb L3 HB HO d0 d1 hs3
        go_wp2_with fail
        go_roundw
        case rel => exact ⟨q + 1, A1, k1, by omega, by go_num, by rw [HC.out], by rw [HC.out]; exact HO4.out, HB4.out⟩
        case measure => simp [intOf]; omega
    · obtain rfl : q = z := by omega
      go_wp2_with fail
      go_ret2
      exact ⟨_, _, rfl, L3.out.below, (owned_vec HO.out).row⟩
end Go.Proofs.Ytmampgkhobbdcab
