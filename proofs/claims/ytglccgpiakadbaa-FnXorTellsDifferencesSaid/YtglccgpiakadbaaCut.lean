/- CutBits: the program's and the model's. -/
import Derived.Test.YtglccgpiakadbaaPutF
import Derived.Test.YtglccgpiakadbaaCount
namespace Go.Proofs.Ytglccgpiakadbaa
open Go.RowKit

def cutF (X : Nat → Int) (a u : Nat) (i : Nat) : Bool := decide (i < u - a) && bitN (fun i => (X i).toNat) (a + i)
theorem cut_word (X : Nat → Int) (a u i : Nat) : fieldN (fun i => (X i).toNat) (a + 16 * i) (min 16 (u - a - 16 * i)) = wordsOf (cutF X a u) i := by
  apply Nat.eq_of_testBit_eq
  intro j
  rw [fieldN_bit, wordsOf, ofB_bit]
  unfold cutF
  by_cases c : j < 16
  · by_cases c2 : 16 * i + j < u - a
    · have c3 : j < min 16 (u - a - 16 * i) := by omega
      simp only [c, c2, c3, decide_true, Bool.true_and, Nat.add_assoc]
    · have c3 : ¬ j < min 16 (u - a - 16 * i) := by omega
      simp only [c, c2, c3, decide_true, decide_false, Bool.true_and, Bool.false_and]
  · have c3 : ¬ j < min 16 (u - a - 16 * i) := by omega
    simp only [c, c3, decide_false, Bool.false_and]

theorem BRow.cut {w : World} {A : Option Addr} {n cap : Nat} {F : Nat → Bool} (h : BRow w A n F) {a u : Nat} (ha : a ≤ u) (hu : u ≤ n) (hc : n ≤ cap) :
    BRow w (if cap = a then A else A.map (·.add a)) (u - a) (fun i => F (a + i)) := fun hn => by
  obtain ⟨b, off, rfl, hlt, hcell⟩ := h (by omega)
  rw [if_neg (by omega)]
  refine ⟨b, off + a, by simp [addr_add], hlt, fun k hk => ?_⟩
  rw [Nat.add_assoc]; exact hcell (a + k) (by omega)

set_option maxRecDepth 100000 in
set_option maxHeartbeats 2000000 in
theorem spec_cut_yes (z : Nat) (A : Option Addr) (n c : Nat) (X : Nat → Int) (a u : Nat) (w : World) (hn : n ≤ 1048576) (hr : IRow w A n X) (h : Span z n X a u) :
    Calls Try.prog 67 #[.agg #[.int .i64 z, .slice A n c], .int .i64 a, .int .i64 u] w (VecIs (((u - a : Nat)) : Int) ((u - a + 15) / 16) (fun k => (wordsOf (cutF X a u) k : Int)) true w) := by
  have L0 := Lib.hid ((LS.start (z := (z : Int)) (c := c) hr 26).step ((Below.refl _ _).alloc (Nat.le_refl _) (.cells #[.int .i64 0, .slice none 0 0] 26)))
  have RB0 := Lib.hid (RB.start w (.cells #[.int .i64 z, .slice A n c] 26) 26)
  clear hr
  have HR := Lib.hid h
  have hz : z ≤ 4096 := by have := h.1.2.1; omega
  have hzn : z ≤ 16 * n := by have := h.1.2.2.1; omega
  have hau : a ≤ u := by have := h.2.2.1; omega
  have huz : u ≤ z := by have := h.2.2.2; omega
  clear h
  go_enter Try.func67, Try.ntmps67
  go_wp2_with fail
  refine ((BoolIs.two (spec_biSpan z A n c X a u _ hn L0.out.row)).1 HR.out).mono ?_; rintro e w1 ⟨rfl, hb⟩
  have L1 := Lib.hid (L0.out.step hb)
  have RB1 := Lib.hid (RB0.out.b hb)
  clear hb L0 RB0
  obtain ⟨hs1, c0, c1⟩ := L1.out.box
  go_wp2_with fail
  refine (spec_biList z n c A (fun i => (X i).toNat) _ hn hz hzn (good_row HR.out.1 L1.out.row)).mono ?_; rintro e w2 ⟨A2, c2, rfl, ho, hb⟩
  have hc2 : z ≤ c2 ∧ c2 ≤ maxLen := by
    rcases ho.2 with ⟨hv, h0⟩ | ⟨g, cap, cur, hv, _, _, h1, h2, _⟩
    · injection hv with _ _ h3; subst h3; simp [maxLen]; omega
    · injection hv with _ _ h3; subst h3; exact ⟨h1, h2⟩
  obtain ⟨hc3, hc4⟩ := hc2
  unfold maxLen at hc4
  have O2 := Lib.hid (ownB_vec ho).row
  have RB2 := Lib.hid (RB1.out.b hb)
  clear ho hb L1 RB1 c0 c1
  have hu1 : (u : Int) ≤ (c2 : Int) := by omega
  by_cases hca : c2 = a
  · subst hca
    have O3 := Lib.hid (show BRow w2 A2 (u - c2) (fun i => bitN (fun i => (X i).toNat) (c2 + i)) from fun h => absurd h (by omega))
    clear O2
    go_wp2_with fail
    refine (spec_biSome _ (u - c2) _ _ _ _ (by omega) rfl O3.out).mono ?_; rintro e w4 ⟨g4, rfl, hg4, ho, hb⟩
    have RB4 := Lib.hid (RB2.out.b hb)
    have hs3 := RB2.out.box.1
    have O4 := Lib.hid ho
    clear ho hb RB2 O3
    obtain ⟨hr4, d0, d1⟩ := RB4.out.box
    obtain ⟨f0, f1⟩ := RB4.out.free
    go_wp2_with fail
    refine bodyPost_ret (v := .tuple #[.agg #[.int .i64 ((u - c2 : Nat) : Int), .slice (some ⟨g4, 0, none⟩) ((u - c2 + 15) / 16) ((u - c2 + 15) / 16)], .bool true]) (by simp [results, Try.results67, go_sem, d0, d1]) rfl ?_
    exact ⟨_, _, rfl, ((O4.out.setAt (by omega) _).setAt (by omega) _).row, below_setAt (below_setAt RB4.out.below (by omega) _) (by omega) _⟩
  · have O3 := Lib.hid (O2.out.cut hau huz hc3)
    have h3 := O3.out
    rw [if_neg hca] at h3
    have O3 := Lib.hid h3
    clear O2 h3
    go_wp2_with fail
    refine (spec_biSome _ (u - a) _ _ _ _ (by omega) rfl O3.out).mono ?_; rintro e w4 ⟨g4, rfl, hg4, ho, hb⟩
    have RB4 := Lib.hid (RB2.out.b hb)
    have hs3 := RB2.out.box.1
    have O4 := Lib.hid ho
    clear ho hb RB2 O3
    obtain ⟨hr4, d0, d1⟩ := RB4.out.box
    obtain ⟨f0, f1⟩ := RB4.out.free
    go_wp2_with fail
    refine bodyPost_ret (v := .tuple #[.agg #[.int .i64 ((u - a : Nat) : Int), .slice (some ⟨g4, 0, none⟩) ((u - a + 15) / 16) ((u - a + 15) / 16)], .bool true]) (by simp [results, Try.results67, go_sem, d0, d1]) rfl ?_
    exact ⟨_, _, rfl, ((O4.out.setAt (by omega) _).setAt (by omega) _).row, below_setAt (below_setAt RB4.out.below (by omega) _) (by omega) _⟩

theorem LS.put {w wi : World} {b B g o : Nat} {z : Int} {A : Option Addr} {n c : Nat} {X : Nat → Int} (h : LS w b z A n c X wi) (hr : IRow w A n X) (hw : w.heap.size ≤ B) (hb : b < B) (hg : B ≤ g) (v : Value) : LS w b z A n c X (wi.setCell ⟨g, o, none⟩ v) := by
  have h2 : Below B wi (wi.setCell ⟨g, o, none⟩ v) := below_setAt (Below.refl _ _) hg v
  have h3 := h.below.trans (h2.mono hw)
  exact ⟨h3, hr.below h3 (Nat.le_refl _), Nat.lt_of_lt_of_le h.box.1 h2.size, (h2.cell (p := ⟨b, 0, none⟩) hb).trans h.box.2.1, (h2.cell (p := ⟨b, 1, none⟩) hb).trans h.box.2.2⟩

set_option maxRecDepth 100000 in
set_option maxHeartbeats 1000000 in
theorem impl_cut_yes (z sz m : Nat) (A : Option Addr) (n c : Nat) (X : Nat → Int) (a u : Nat) (w : World) (hn : n ≤ 1048576) (hr : IRow w A n X) (h : Span z n X a u) (hsz : sz = u - a) (hm : m = (sz + 15) / 16) :
    Calls Try.prog 37 #[.agg #[.int .i64 z, .slice A n c], .int .i64 a, .int .i64 u] w (OwnIs sz m (fun k => (wordsOf (cutF X a u) k : Int)) true w) := by
  have L0 := Lib.hid ((LS.start (z := (z : Int)) (c := c) hr 26).step ((Below.refl _ _).alloc (Nat.le_refl _) (.cells #[.int .i64 0, .slice none 0 0] 26)))
  have RB0 := Lib.hid (RB.start w (.cells #[.int .i64 z, .slice A n c] 26) 26)
  have R := Lib.hid hr
  clear hr
  have HR := Lib.hid h
  have hz : z ≤ 4096 := by have := h.1.2.1; omega
  have hzn : z ≤ 16 * n := by have := h.1.2.2.1; omega
  have hau : a ≤ u := by have := h.2.2.1; omega
  have huz : u ≤ z := by have := h.2.2.2; omega
  have hasz : a + sz ≤ z := by omega
  have hsub : (u : Int) - (a : Int) = (sz : Int) := by omega
  have hmm : ((sz : Int) + 15) / 16 = (m : Int) := by omega
  have hms : sz ≤ 16 * m := by omega
  have hms2 : 16 * m ≤ sz + 15 := by omega
  have HSZ := Lib.hid hsz
  have HM := Lib.hid hm
  have HSUB := Lib.hid hsub
  clear h hsub hsz hm
  go_enter Try.func37, Try.ntmps37
  go_wp2_with fail
  refine ((BoolIs.two (impl_hasRange z A n c X a u _ hn L0.out.row)).1 HR.out).mono ?_; rintro e w1 ⟨rfl, hb⟩
  have L1 := Lib.hid (L0.out.step hb)
  have RB1 := Lib.hid (RB0.out.b hb)
  clear hb L0 RB0
  obtain ⟨hs1, c0, c1⟩ := L1.out.box
  go_wp2_with fail
  rw [HSUB.out]
  refine (growWords_any sz m none 0 0 (fun _ => 0) _ (by omega) HM.out (Nat.zero_le _) IRow.zero).mono ?_; rintro e w2 ⟨A2, rfl, ho, hb⟩
  have O2 := Lib.hid (ho.congr (Y := fun i => if i < 0 then (wordsOf (cutF X a u) i : Int) else 0) (fun _ _ => by simp))
  have L2 := Lib.hid (L1.out.step hb)
  have RB2 := Lib.hid (RB1.out.b hb)
  have hs12 := hb.size
  have hsr := RB1.out.box.1
  have hwr := RB1.out.below.size
  clear ho hb L1 RB1 c0 c1 hs1
  go_wp2_with fail
  go_loopw [25] (fun i wr => ∃ k : Nat, k ≤ m ∧ i = .int .i64 k ∧ OVec wr w1.heap.size A2 m (fun i => if i < k then (wordsOf (cutF X a u) i : Int) else 0) ∧ LS w w.heap.size z A n c X wr ∧ RB w (w.heap.size + 1) wr) (fun i _ => m - (intOf i).toNat)
  case atStart => exact ⟨0, Nat.zero_le _, by go_num, O2.out, L2.out, RB2.out⟩
  case round =>
    obtain ⟨k, hk, rfl, ho, hl, hrb⟩ := hrel
    have L3 := Lib.hid hl
    have RB3 := Lib.hid hrb
    obtain ⟨hs3, c0, c1⟩ := hl.box
    clear hl hrb L2 RB2 O2
    by_cases hlt : k < m
    · rcases ho with ⟨h0, _⟩ | ⟨g, rfl, hg, ho⟩
      · omega
      have hx := ho.cell hlt
      have hf := ho.frozen k
      have HO := Lib.hid ho
      clear ho
      have hcw := cut_word X a u k
      obtain ⟨P, hP⟩ : ∃ P : Nat, P = min 16 (u - a - 16 * k) := ⟨_, rfl⟩
      rw [← hP] at hcw
      have hmin : min (16 : Int) ((sz : Int) - 16 * (k : Int)) = (P : Int) := by have := HSZ.out; omega
      have hC := impl_fieldOf A n c (fun i => (X i).toNat) (a + 16 * k) P wr hn (good_row HR.out.1 L3.out.row) (by have := HSZ.out; omega) (by omega)
      rw [hcw, show ((a + 16 * k : Nat) : Int) = (a : Int) + 16 * (k : Int) by omega] at hC
      have HC := Lib.hid hC
      clear hC hcw hP
      generalize hq : wordsOf (cutF X a u) k = q at HC
      have HQ := Lib.hid hq
      clear hq
      go_wp2_with fail
      refine (HC.out).mono ?_; rintro e w4 ⟨rfl, rfl⟩
      go_wp2_with fail
      go_roundw
      case rel =>
        refine ⟨k + 1, by omega, by go_num, .inr ⟨g, rfl, hg, (HO.out.set k (q : Int)).congr (fun i _ => ?_)⟩, L3.out.put R.out hwr (by omega) hg _, RB3.out.low (below_setAt (Below.refl _ _) hg _) hwr hsr⟩
        by_cases e : i = k
        · subst e; rw [if_pos rfl, if_pos (by omega), HQ.out]
        · rw [if_neg e]
          by_cases e2 : i < k
          · rw [if_pos e2, if_pos (by omega)]
          · rw [if_neg e2, if_neg (by omega)]
      case measure => simp [intOf]; omega
    · obtain rfl : k = m := by omega
      have O3 := Lib.hid ho
      clear ho
      obtain ⟨hr4, d0, d1⟩ := RB3.out.box
      obtain ⟨f0, f1⟩ := RB3.out.free
      go_wp2_with fail
      refine bodyPost_ret (v := .tuple #[.agg #[.int .i64 sz, .slice A2 k k], .bool true]) (by simp [results, Try.results37, go_sem, d0, d1]) rfl ?_
      exact ⟨A2, _, rfl, (((O3.out.setAt (by omega) _).setAt (by omega) _).low hwr).congr (fun i hi => by simp [hi]), below_setAt (below_setAt RB3.out.below (by omega) _) (by omega) _⟩

set_option maxHeartbeats 1000000 in
theorem spec_cut_no (z : Int) (A : Option Addr) (n c : Nat) (X : Nat → Int) (a b : Int) (w : World) (hn : n ≤ 1048576) (hr : IRow w A n X) (h : ¬ Span z n X a b) :
    Calls Try.prog 67 #[.agg #[.int .i64 z, .slice A n c], .int .i64 a, .int .i64 b] w (VecIs 0 0 (fun _ => 0) false w) := by
  have L0 := Lib.hid ((LS.start (z := z) (c := c) hr 26).step ((Below.refl _ _).alloc (Nat.le_refl _) (.cells #[.int .i64 0, .slice none 0 0] 26)))
  have RB0 := Lib.hid (RB.start w (.cells #[.int .i64 z, .slice A n c] 26) 26)
  have HR := Lib.hid h
  clear hr h
  go_enter Try.func67, Try.ntmps67
  go_wp2_with fail
  refine ((BoolIs.two (spec_biSpan z A n c X a b _ hn L0.out.row)).2 HR.out).mono ?_; rintro e w1 ⟨rfl, hb⟩
  have RB1 := Lib.hid (RB0.out.b hb)
  clear hb L0 RB0
  obtain ⟨hr4, d0, d1⟩ := RB1.out.box
  obtain ⟨f0, f1⟩ := RB1.out.free
  go_wp2_with fail
  refine bodyPost_ret (v := .tuple #[.agg #[.int .i64 0, .slice none 0 0], .bool false]) (by simp [results, Try.results67, go_sem, d0, d1]) rfl ?_
  exact ⟨none, 0, rfl, IRow.zero, by first | exact RB1.out.below | exact below_setAt (below_setAt RB1.out.below (by omega) _) (by omega) _⟩

set_option maxHeartbeats 1000000 in
theorem impl_cut_no (z : Int) (A : Option Addr) (n c : Nat) (X : Nat → Int) (a b : Int) (w : World) (hn : n ≤ 1048576) (hr : IRow w A n X) (h : ¬ Span z n X a b) :
    Calls Try.prog 37 #[.agg #[.int .i64 z, .slice A n c], .int .i64 a, .int .i64 b] w (OwnIs 0 0 (fun _ => 0) false w) := by
  have L0 := Lib.hid ((LS.start (z := z) (c := c) hr 26).step ((Below.refl _ _).alloc (Nat.le_refl _) (.cells #[.int .i64 0, .slice none 0 0] 26)))
  have RB0 := Lib.hid (RB.start w (.cells #[.int .i64 z, .slice A n c] 26) 26)
  have HR := Lib.hid h
  clear hr h
  go_enter Try.func37, Try.ntmps37
  go_wp2_with fail
  refine ((BoolIs.two (impl_hasRange z A n c X a b _ hn L0.out.row)).2 HR.out).mono ?_; rintro e w1 ⟨rfl, hb⟩
  have RB1 := Lib.hid (RB0.out.b hb)
  clear hb L0 RB0
  obtain ⟨hr4, d0, d1⟩ := RB1.out.box
  obtain ⟨f0, f1⟩ := RB1.out.free
  go_wp2_with fail
  refine bodyPost_ret (v := .tuple #[.agg #[.int .i64 0, .slice none 0 0], .bool false]) (by simp [results, Try.results37, go_sem, d0, d1]) rfl ?_
  exact ⟨none, 0, rfl, .inl ⟨rfl, rfl⟩, by first | exact RB1.out.below | exact below_setAt (below_setAt RB1.out.below (by omega) _) (by omega) _⟩
end Go.Proofs.Ytglccgpiakadbaa
