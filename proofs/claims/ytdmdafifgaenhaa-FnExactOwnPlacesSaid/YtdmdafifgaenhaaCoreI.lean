/- IsCore: both sides. -/
import Derived.Test.YtdmdafifgaenhaaFre
import Derived.Test.YtdmdafifgaenhaaObjSS
namespace Go.Proofs.Ytdmdafifgaenhaa
open Go.RowKit

theorem degN_comp (E : Nat → Nat) (l : Nat → Nat) (X : Nat → Nat → Int) (p : Int) : ∀ k, degN (fun i => i) (fun t => l (E t)) (fun t => X (E t)) p k = degN E l X p k
  | 0 => rfl
  | k + 1 => by rw [degN, degN, degN_comp E l X p k]
theorem dgF_comp (E : Nat → Nat) (l : Nat → Nat) (X : Nat → Nat → Int) (m p : Nat) : dgF (fun i => i) (fun t => l (E t)) (fun t => X (E t)) m 0 p = dgF E l X m 0 p := by
  rw [dgF_end, dgF_end, degN_comp]
theorem risT_count {h : Int} {m : Nat} {Y : Nat → Int} (hr : RisT h m Y) : ∀ i, i < m → (i : Int) ≤ Y i
  | 0, hi => by have := (hr 0 hi).1; omega
  | i + 1, hi => by
    have h1 := risT_count hr i (by omega)
    have h2 := (hr (i + 1) hi).2.2 (by omega)
    rw [Nat.add_sub_cancel] at h2
    push_cast; omega
theorem risT_le {n m : Nat} {Y : Nat → Int} (hr : RisT ((n : Int) - 1) m Y) : m ≤ n := by
  rcases Nat.eq_zero_or_pos m with h | h
  · omega
  · have h1 := risT_count hr (m - 1) (by omega)
    have h2 := (hr (m - 1) (by omega)).2.1
    omega
set_option maxRecDepth 100000 in
set_option maxHeartbeats 4000000 in
theorem impl_isCore (z : Nat) (A : Option Addr) (n c : Nat) (l : Nat → Nat) (X : Nat → Nat → Int) (EA : Option Addr) (m ec : Nat) (E : Nat → Nat) (w : World) (hn : n + sumL l n ≤ 1048576) (hr : HRow w A n l X) (he : IRow w EA m (idxV E)) (h : HyperOk z n l X) (hm0 : 0 < m) (hE : RisT ((n : Int) - 1) m (idxV E)) :
    Calls Try.prog 66 #[.agg #[.int .i64 z, .slice A n c], .slice EA m ec] w fun e w' => ∃ b : Bool, e = .returned (.tuple #[.bool b, .bool true]) ∧ (b = true ↔ ∀ p, p < z → dgF E l X m 0 p ≠ 1) ∧ Below w.heap.size w w' := by
  obtain ⟨B, d, hr⟩ := hr
  have L0 := Lib.hid (LH.start (z := (z : Int)) (c := c) hr 27)
  have HR0 := Lib.hid hr
  have HG := Lib.hid h
  have HEr := Lib.hid he
  have hmn := risT_le hE
  have HEx := Lib.hid (show EdIdx n m E from fun t ht => by have := (hE t ht).2.1; unfold idxV at this; omega)
  have HE := Lib.hid hE
  have hn40 := h.2.2.1
  have hz72 : z ≤ 72 := by have := h.2.1; omega
  have d0 : ((m : Int) == 0) = false := by simp; omega
  clear hr h he hE
  go_enter Try.func66, Try.ntmps66
  go_wp2_with fail
  refine (impl_isHyper_is z A n c l X _ true hn ⟨B, d, L0.out.row⟩ (by simp only [true_iff]; exact HG.out)).mono ?_; rintro e w1 ⟨rfl, hb⟩
  have L1 := Lib.hid (L0.out.step hb)
  clear hb L0
  obtain ⟨hsz, b0, b1⟩ := L1.out.box
  have HC := Lib.hid (impl_isIncreasingBelow EA m ec (idxV E) ((n : Int) - 1) w1 (by omega) (HEr.out.b L1.out.below))
  rw [show (n : Int) - 1 + 1 = (n : Int) by omega] at HC
  go_wp2_with fail
  refine HC.out.mono ?_; rintro e w2 ⟨b, rfl, hbb, k, rfl⟩
  have hb1 := hbb.2 HE.out
  subst hb1
  have L2 := Lib.hid (L1.out.drewN k)
  clear hbb HC L1 b0 b1 hsz
  obtain ⟨hsz, b0, b1⟩ := L2.out.box
  generalize w1.drewN k = w2 at *
  go_wp2_with fail
  go_loopw [6, 25] (fun v i wr => ∃ (q : Nat) (A1 : Option Addr) (k1 : Nat), q ≤ m ∧ i = .int .i64 q ∧ v = .slice A1 q k1 ∧ Hid (wr.ownsRow (w.heap.size + 1) 39 1 (.slice A1 q k1) q (vals (sliceV (fun t => B (E t)) (fun t => l (E t)) (fun t => d (E t))) q)) ∧ Hid (LH w w.heap.size z A n c B l d X wr)) (fun _ i _ => m - (intOf i).toNat)
  case atStart => exact ⟨0, none, 0, Nat.zero_le _, rfl, rfl, Lib.hid (World.ownsRow_nil _ _ _ _), L2⟩
  case round =>
    obtain ⟨q, A1, k1, hq, rfl, rfl, HO, HL⟩ := hrel
    clear b0 b1 hsz
    obtain ⟨hsz, b0, b1⟩ := HL.out.box
    have hlen := HL.out.below.size
    by_cases hlt : q < m
    · obtain ⟨be, oe, rfl, _, hce⟩ := (HEr.out.b HL.out.below) (by omega)
      have hek := hce q hlt
      unfold idxV at hek
      have hEk := HEx.out q hlt
      obtain ⟨bk, off, rfl, hbl, hc⟩ := HL.out.row.1 (by omega)
      have hcq := hc (E q) hEk
      unfold sliceV at hcq
      have HV := Lib.hid (show sliceV (fun t => B (E t)) (fun t => l (E t)) (fun t => d (E t)) q = .slice (B (E q)) (l (E q)) (d (E q)) from rfl)
      clear hc hce
      generalize E q = u at hek hEk hcq HV
      go_wp2_with (at_builtin; refine wpList_push rfl _ _ 22 rfl (w.heap.size + 1) 39 (.slice none 0 0) 24 Try.underlying22 infoSl rfl A1 q k1 (sliceV (fun t => B (E t)) (fun t => l (E t)) (fun t => d (E t))) (.slice (B u) (l u) (d u)) wr rfl HO.out rfl HV.out rfl (by omega) (by omega) (by omega) ?_)
      intro A' c' w5 hown' hb5
      have HO5 := Lib.hid hown'
      have L5 := Lib.hid (HL.out.low hb5 HR0.out (by omega) (by omega))
      clear hown' hb5 HO HL
      go_wp2_with fail
      go_roundw
      case rel => exact ⟨q + 1, A', c', by omega, by go_num, rfl, HO5, L5⟩
      case measure => simp [intOf]; omega
    · obtain rfl : q = m := by omega
      have HN := Lib.hid (show HR wr A1 q (fun t => B (E t)) (fun t => l (E t)) (fun t => d (E t)) (fun t => X (E t)) from ⟨(owned_vec HO.out).row, fun t ht => HL.out.row.2 _ (HEx.out t ht)⟩)
      go_wp2_with fail
      refine (impl_degreesOf z A1 q k1 _ _ _ _ _ (by omega) hz72 HN.out (fun t ht => HG.out.three _ (HEx.out t ht)) (fun t ht => HG.out.inn _ (HEx.out t ht))).mono ?_; rintro e w3 ⟨g, rfl, hg, ho, hb⟩
      have L3 := Lib.hid (HL.out.below.trans (hb.mono HL.out.below.size))
      have HD := Lib.hid (show IRow w3 (some ⟨g, 0, none⟩) z (fun p => dgF E l X q 0 p) from fun hz => ⟨g, 0, rfl, ho.lt, fun p hp => by
        rw [Nat.zero_add, ho.cell hp, dgF_comp]⟩)
      clear ho hb
      go_wp2_with fail
      refine (contains_is (some ⟨g, 0, none⟩) z z (fun p => dgF E l X q 0 p) 1 w3 (by omega) HD.out).mono ?_; rintro e w4 ⟨b, rfl, hbb, rfl⟩
      have HB := Lib.hid hbb
      clear hbb
      go_wp2_with fail
      go_ret2
      refine ⟨!b, rfl, ?_, L3.out⟩
      cases b with
      | true =>
        obtain ⟨p, hp, e⟩ := HB.out.1 rfl
        simp only [Bool.not_true, Bool.false_eq_true, false_iff]
        exact fun h => h p hp e
      | false =>
        simp only [Bool.not_false, true_iff]
        exact fun p hp e => by have := HB.out.2 ⟨p, hp, e⟩; cases this
set_option maxRecDepth 100000 in
set_option maxHeartbeats 4000000 in
theorem spec_isCore (z : Nat) (A : Option Addr) (n c : Nat) (l : Nat → Nat) (X : Nat → Nat → Int) (EA : Option Addr) (m ec : Nat) (E : Nat → Nat) (w : World) (hn : n + sumL l n ≤ 1048576) (hr : HRow w A n l X) (he : IRow w EA m (idxV E)) (h : HyperOk z n l X) (hm0 : 0 < m) (hE : RisT ((n : Int) - 1) m (idxV E)) :
    Calls Try.prog 65 #[.agg #[.int .i64 z, .slice A n c], .slice EA m ec] w fun e w' => ∃ b : Bool, e = .returned (.tuple #[.bool b, .bool true]) ∧ (b = true ↔ ∀ p, p < z → dgF E l X m 0 p ≠ 1) ∧ Below w.heap.size w w' := by
  obtain ⟨B, d, hr⟩ := hr
  have L0 := Lib.hid (LH.start (z := (z : Int)) (c := c) hr 27)
  have HG := Lib.hid h
  have HEr := Lib.hid he
  have hmn := risT_le hE
  have HEx := Lib.hid (show EdIdx n m E from fun t ht => by have := (hE t ht).2.1; unfold idxV at this; omega)
  have HE := Lib.hid hE
  have hn40 := h.2.2.1
  have hz72 : z ≤ 72 := by have := h.2.1; omega
  have d0 : ((m : Int) == 0) = false := by simp; omega
  clear hr h he hE
  go_enter Try.func65, Try.ntmps65
  go_wp2_with fail
  refine (spec_peGood_is z A n c l X _ true hn ⟨B, d, L0.out.row⟩ (by simp only [true_iff]; exact HG.out)).mono ?_; rintro e w1 ⟨rfl, hb⟩
  have L1 := Lib.hid (L0.out.step hb)
  clear hb L0
  obtain ⟨hsz, b0, b1⟩ := L1.out.box
  go_wp2_with fail
  refine (spec_l1RisT EA m ec (idxV E) ((n : Int) - 1) w1 (by omega) (HEr.out.b L1.out.below)).mono ?_; rintro e w2 ⟨b, rfl, hbb, k, rfl⟩
  have hb1 := hbb.2 HE.out
  subst hb1
  have L2 := Lib.hid (L1.out.drewN k)
  clear hbb L1 b0 b1 hsz
  obtain ⟨hsz, b0, b1⟩ := L2.out.box
  generalize w1.drewN k = w2 at *
  go_wp2_with fail
  refine (spec_peFree z A n c B l d X EA m ec E w2 hn40 (by omega) hz72 L2.out.row (HEr.out.b L2.out.below) HEx.out HG.out.three HG.out.inn).mono ?_; rintro e w3 ⟨FA, fc, rfl, _, hb⟩
  have L3 := Lib.hid (L2.out.step hb)
  have HF := Lib.hid (freL_nil (D := dgF E l X m 0) (k := z))
  clear hb
  generalize (freL (dgF E l X m 0) z).length = t at *
  go_wp2_with fail
  go_ret2
  refine ⟨_, rfl, ?_, L3.out.below⟩
  rw [← HF.out, beq_iff_eq]; omega
end Go.Proofs.Ytdmdafifgaenhaa
