/- JoinBits: the program's and the model's. -/
import Derived.Test.YtdkkflejpcgipabXor
import Derived.Test.YtdkkflejpcgipabApp
namespace Go.Proofs.Ytdkkflejpcgipab
open Go.RowKit

def JoinOk (z y : Int) (n m : Nat) (X Y : Nat → Int) : Prop := Good z n X ∧ Good y m Y ∧ z + y ≤ 4096
def joinF (X Y : Nat → Int) (z y : Nat) (i : Nat) : Bool := decide (i < z + y) && (if i < z then bitN (fun i => (X i).toNat) i else bitN (fun i => (Y i).toNat) (i - z))
/-- The words behind k words of the second vector. -/
def JoinSt (X Y : Nat → Int) (z y M k : Nat) (W1 : Nat → Nat) : Prop :=
  (∀ i, i < M → W1 i < 65536) ∧ ∀ i, i < 16 * M → bitN W1 i = if i < z then bitN (fun i => (X i).toNat) i else (decide (i < z + min (16 * k) y) && bitN (fun i => (Y i).toNat) (i - z))
section
variable {X Y : Nat → Int} {z y n m M k : Nat}
theorem JoinSt.start (hg : Good z n X) : JoinSt X Y z y M 0 (fun i => if i < n then (X i).toNat else 0) := by
  refine ⟨fun i hi => ?_, fun i hi => ?_⟩
  · by_cases c : i < n
    · simp only [c, if_true]; have := hg.2.2.2 i c; have := cap_le z i; omega
    · simp only [c, if_false]; omega
  · have e : bitN (fun i => if i < n then (X i).toNat else 0) i = (decide (i < 16 * n) && bitN (fun i => (X i).toNat) i) := by
      unfold bitN
      by_cases c : i / 16 < n
      · have : i < 16 * n := by omega
        simp [c, this]
      · have : ¬ i < 16 * n := by omega
        simp [c, this]
    rw [e]
    by_cases c : i < z
    · have : i < 16 * n := by have := hg.2.2.1; omega
      simp [c, this]
    · rw [if_neg c]
      have c2 : ¬ i < z + min (16 * 0) y := by omega
      simp only [c2, decide_false, Bool.false_and]
      by_cases c3 : i < 16 * n
      · rw [good_high hg (by omega) c3]; simp
      · simp [c3]
theorem JoinSt.step {W1 W2 : Nat → Nat} {P : Nat} (h : JoinSt X Y z y M k W1) (hP : P = min 16 (y - 16 * k)) (hp : PutSt W1 M (z + 16 * k) (Y k).toNat (z + 16 * k + P) W2) : JoinSt X Y z y M (k + 1) W2 := by
  refine ⟨hp.1, fun i hi => ?_⟩
  rw [hp.2 i hi]
  by_cases c : z + 16 * k ≤ i ∧ i < z + 16 * k + P
  · rw [if_pos c, if_neg (by omega)]
    have c2 : i < z + min (16 * (k + 1)) y := by omega
    simp only [c2, decide_true, Bool.true_and]
    unfold bitN
    rw [show (i - z) / 16 = k by omega, show (i - z) % 16 = i - (z + 16 * k) by omega]
  · rw [if_neg c, h.2 i hi]
    by_cases c2 : i < z
    · rw [if_pos c2, if_pos c2]
    · rw [if_neg c2, if_neg c2]
      rw [show decide (i < z + min (16 * k) y) = decide (i < z + min (16 * (k + 1)) y) from decide_eq_decide.2 (by omega)]
theorem JoinSt.words {W1 : Nat → Nat} (h : JoinSt X Y z y M k W1) (hk : y ≤ 16 * k) : ∀ i, i < M → W1 i = wordsOf (joinF X Y z y) i :=
  words_eq h.1 (fun i hi => by
    rw [h.2 i hi]; unfold joinF
    by_cases c : i < z
    · have : i < z + y := by omega
      simp [c, this]
    · simp only [c, if_false]; rw [Nat.min_eq_right hk])
end
theorem RB.put {w wi wj : World} {b B : Nat} (h : RB w b wi) (hb : Below B wi wj) (hw : w.heap.size ≤ B) (hB : b < B) : RB w b wj := h.low hb hw hB

set_option maxRecDepth 100000 in
set_option maxHeartbeats 1000000 in
theorem impl_join_yes (z y s M : Nat) (A B : Option Addr) (n c m d : Nat) (X Y : Nat → Int) (w : World) (hn : n ≤ 1048576) (hm : m ≤ 1048576) (hr : IRow w A n X) (hs : IRow w B m Y) (hg : Good z n X) (hh : Good y m Y) (hzs : s = z + y) (hs4 : s ≤ 4096) (hM : M = (s + 15) / 16) :
    Calls Try.prog 88 #[.agg #[.int .i64 z, .slice A n c], .agg #[.int .i64 y, .slice B m d]] w (OwnIs s M (fun k => (wordsOf (joinF X Y z y) k : Int)) true w) := by
  have T0 := Lib.hid ((TS.start (z := (z : Int)) (y := (y : Int)) (c := c) (d := d) hr hs 27).step ((Below.refl _ _).alloc (Nat.le_refl _) (.cells #[.int .i64 0, .slice none 0 0] 27)))
  have RB0 := Lib.hid (TS.res w (.cells #[.int .i64 z, .slice A n c] 27) (.cells #[.int .i64 y, .slice B m d] 27) 27)
  have HG := Lib.hid hg
  have HH := Lib.hid hh
  have HR := Lib.hid hr
  have HS := Lib.hid hs
  have hz : z ≤ 4096 := by have := hg.2.1; omega
  have hy : y ≤ 4096 := by have := hh.2.1; omega
  have hnz : n = (z + 15) / 16 := by have := hg.2.2.1; omega
  have hmy : m = (y + 15) / 16 := by have := hh.2.2.1; omega
  have HMY := Lib.hid hmy
  have HSZ := Lib.hid hzs
  have hsum : ¬ (4096 : Int) < (z : Int) + (y : Int) := by omega
  have HADD := Lib.hid (show (z : Int) + (y : Int) = (s : Int) by omega)
  have HM := Lib.hid hM
  have hnM : n ≤ M := by omega
  have hM2 : M ≤ 256 := by omega
  have hn2 : n ≤ 256 := by omega
  have hm2 : m ≤ 256 := by omega
  clear hg hh hr hs hnz hmy hzs hM
  go_enter Try.func88, Try.ntmps88
  go_wp2_with fail
  refine (isBits_yes hn T0.out.row0 HG.out).mono ?_; rintro e w1 ⟨rfl, hb⟩
  have T1 := Lib.hid (T0.out.step hb)
  have RB1 := Lib.hid (RB0.out.b hb)
  clear hb T0 RB0
  obtain ⟨hs1, c0, c1⟩ := T1.out.box0
  obtain ⟨hs2, c2, c3⟩ := T1.out.box1
  go_wp2_with fail
  refine (isBits_yes hm T1.out.row1 HH.out).mono ?_; rintro e w2 ⟨rfl, hb⟩
  have T2 := Lib.hid (T1.out.step hb)
  have RB2 := Lib.hid (RB1.out.b hb)
  clear hb T1 RB1 hs1 c0 c1 hs2 c2 c3
  obtain ⟨hs1, c0, c1⟩ := T2.out.box0
  obtain ⟨hs2, c2, c3⟩ := T2.out.box1
  go_wp2_with fail
  rw [HADD.out]
  refine (growWords_any s M A n c X _ hs4 HM.out hnM T2.out.row0).mono ?_; rintro e w3 ⟨A3, rfl, ho, hb⟩
  have hlow : w.heap.size + 3 ≤ w2.heap.size := by have := RB2.out.box.1; omega
  have O3 := Lib.hid ho
  have T3 := Lib.hid (T2.out.step hb)
  have RB3 := Lib.hid (RB2.out.b hb)
  have hlow3 := hb.size
  clear ho hb T2 RB2 hs1 c0 c1 hs2 c2 c3
  obtain ⟨hs1, c0, c1⟩ := T3.out.box0
  obtain ⟨hs2, c2, c3⟩ := T3.out.box1
  go_wp2_with fail
  go_loopw [40] (fun i wr => ∃ k : Nat, k ≤ m ∧ i = .int .i64 k ∧ w2.heap.size ≤ wr.heap.size ∧ (∃ W1 : Nat → Nat, JoinSt X Y z y M k W1 ∧ OVec wr w2.heap.size A3 M (fun i => (W1 i : Int))) ∧ TS w w.heap.size (w.heap.size + 1) z A n c X y B m d Y wr ∧ RB w (w.heap.size + 2) wr) (fun i _ => m - (intOf i).toNat)
  case atStart => exact ⟨0, Nat.zero_le _, by go_num, hlow3, ⟨_, JoinSt.start HG.out, O3.out.congr (fun i hi => by
    by_cases c : i < n
    · have := HG.out.2.2.2 i c; simp only [c, if_true]; omega
    · simp [c])⟩, T3.out, RB3.out⟩
  case round =>
    obtain ⟨k, hk, rfl, hsz, ⟨W1, hj, ho⟩, ht, hrb⟩ := hrel
    have T4 := Lib.hid ht
    have RB4 := Lib.hid hrb
    have HJ := Lib.hid hj
    have O4 := Lib.hid ho
    clear hrb ht T3 RB3 O3 c0 c1 c2 c3 hs1 hs2 hj ho
    by_cases hlt : k < m
    · obtain ⟨hs1, c0, c1⟩ := T4.out.box0
      obtain ⟨hs2, c2, c3⟩ := T4.out.box1
      obtain ⟨b1, o1, rfl, l1, hc1⟩ := T4.out.row1 (by omega)
      have hyk := hc1 k hlt
      have hY := HH.out.2.2.2 k hlt
      have hcap := cap_le (y : Int) k
      obtain ⟨P, hP⟩ : ∃ P : Nat, P = min 16 (y - 16 * k) := ⟨_, rfl⟩
      have hmin : min (16 : Int) ((y : Int) - 16 * (k : Int)) = (P : Int) := by have := HMY.out; omega
      have hC := setField_own A3 M w2.heap.size W1 (z + 16 * k) P (Y k).toNat wr hM2 O4.out HJ.out.1 (by have := HMY.out; have := HM.out; have := HSZ.out; omega) (by omega) (by omega) hsz
      rw [show ((z + 16 * k : Nat) : Int) = (z : Int) + 16 * (k : Int) by omega, show (((Y k).toNat : Nat) : Int) = Y k by omega] at hC
      have HC := Lib.hid hC
      have HP := Lib.hid hP
      clear hC hc1 l1 hY hcap hP
      go_wp2_with fail
      refine (HC.out).mono ?_; rintro e w4 ⟨rfl, ⟨W2, hst, ho⟩, hb⟩
      have T5 := Lib.hid (T4.out.low hb HR.out HS.out (by omega) (by omega) (by omega))
      have RB5 := Lib.hid (RB4.out.low hb (by omega) (by omega))
      have HJ2 := Lib.hid (HJ.out.step HP.out hst)
      have O5 := Lib.hid ho
      have hsz4 := hb.size
      clear hb hst ho T4 RB4 HJ O4 c0 c1 c2 c3 hs1 hs2 hyk
      go_wp2_with fail
      go_roundw
      case rel => exact ⟨k + 1, by omega, by go_num, by omega, ⟨W2, HJ2.out, O5.out⟩, T5.out, RB5.out⟩
      case measure => simp [intOf]; omega
    · obtain rfl : k = m := by omega
      have HW := Lib.hid (HJ.out.words (by have := HMY.out; omega))
      obtain ⟨hr4, d0, d1⟩ := RB4.out.box
      obtain ⟨f0, f1⟩ := RB4.out.free
      go_wp2_with fail
      refine bodyPost_ret (v := .tuple #[.agg #[.int .i64 s, .slice A3 M M], .bool true]) (by simp [results, Try.results88, go_sem, d0, d1]) rfl ?_
      exact ⟨A3, _, rfl, (((O4.out.setAt (by omega) _).setAt (by omega) _).low (by omega)).congr (fun i hi => by rw [HW.out i hi]), below_setAt (below_setAt RB4.out.below (by omega) _) (by omega) _⟩
set_option maxRecDepth 100000 in
set_option maxHeartbeats 1000000 in
theorem impl_join_no (z y : Int) (A B : Option Addr) (n c m d : Nat) (X Y : Nat → Int) (w : World) (hn : n ≤ 1048576) (hm : m ≤ 1048576) (hr : IRow w A n X) (hs : IRow w B m Y) (h : ¬ (Good z n X ∧ Good y m Y ∧ z + y ≤ 4096)) :
    Calls Try.prog 88 #[.agg #[.int .i64 z, .slice A n c], .agg #[.int .i64 y, .slice B m d]] w (OwnIs 0 0 (fun _ => 0) false w) := by
  have T0 := Lib.hid ((TS.start (z := z) (y := y) (c := c) (d := d) hr hs 27).step ((Below.refl _ _).alloc (Nat.le_refl _) (.cells #[.int .i64 0, .slice none 0 0] 27)))
  have RB0 := Lib.hid (TS.res w (.cells #[.int .i64 z, .slice A n c] 27) (.cells #[.int .i64 y, .slice B m d] 27) 27)
  clear hr hs
  by_cases h1 : Good z n X
  · have H1 := Lib.hid h1
    by_cases h2 : Good y m Y
    · have H2 := Lib.hid h2
      have h3 : (4096 : Int) < z + y := by have h4 : ¬ (z + y ≤ 4096) := fun e => h ⟨h1, h2, e⟩; omega
      have z0 := h1.1
      have z1 := h1.2.1
      have y0 := h2.1
      have y1 := h2.2.1
      clear h h1 h2
      go_enter Try.func88, Try.ntmps88
      go_wp2_with fail
      refine (isBits_yes hn T0.out.row0 H1.out).mono ?_; rintro e w1 ⟨rfl, hb⟩
      have T1 := Lib.hid (T0.out.step hb)
      have RB1 := Lib.hid (RB0.out.b hb)
      clear hb T0 RB0
      obtain ⟨hs2, c2, c3⟩ := T1.out.box1
      go_wp2_with fail
      refine (isBits_yes hm T1.out.row1 H2.out).mono ?_; rintro e w2 ⟨rfl, hb⟩
      have T2 := Lib.hid (T1.out.step hb)
      have RB2 := Lib.hid (RB1.out.b hb)
      clear hb T1 RB1 hs2 c2 c3
      obtain ⟨hs1, c0, c1⟩ := T2.out.box0
      obtain ⟨hs2, c2, c3⟩ := T2.out.box1
      obtain ⟨hr4, d0, d1⟩ := RB2.out.box
      obtain ⟨f0, f1⟩ := RB2.out.free
      go_wp2_with fail
      refine bodyPost_ret (v := .tuple #[.agg #[.int .i64 0, .slice none 0 0], .bool false]) (by simp [results, Try.results88, go_sem, d0, d1]) rfl ?_
      exact ⟨none, 0, rfl, .inl ⟨rfl, rfl⟩, by first | exact RB2.out.below | exact below_setAt (below_setAt RB2.out.below (by omega) _) (by omega) _⟩
    · have H2 := Lib.hid h2
      clear h h1 h2
      go_enter Try.func88, Try.ntmps88
      go_wp2_with fail
      refine (isBits_yes hn T0.out.row0 H1.out).mono ?_; rintro e w1 ⟨rfl, hb⟩
      have T1 := Lib.hid (T0.out.step hb)
      have RB1 := Lib.hid (RB0.out.b hb)
      clear hb T0 RB0
      obtain ⟨hs2, c2, c3⟩ := T1.out.box1
      go_wp2_with fail
      refine (isBits_no hm T1.out.row1 H2.out).mono ?_; rintro e w2 ⟨rfl, hb⟩
      have RB2 := Lib.hid (RB1.out.b hb)
      clear hb T1 RB1 hs2 c2 c3
      obtain ⟨hr4, d0, d1⟩ := RB2.out.box
      obtain ⟨f0, f1⟩ := RB2.out.free
      go_wp2_with fail
      refine bodyPost_ret (v := .tuple #[.agg #[.int .i64 0, .slice none 0 0], .bool false]) (by simp [results, Try.results88, go_sem, d0, d1]) rfl ?_
      exact ⟨none, 0, rfl, .inl ⟨rfl, rfl⟩, by first | exact RB2.out.below | exact below_setAt (below_setAt RB2.out.below (by omega) _) (by omega) _⟩
  · have H1 := Lib.hid h1
    clear h h1
    go_enter Try.func88, Try.ntmps88
    go_wp2_with fail
    refine (isBits_no hn T0.out.row0 H1.out).mono ?_; rintro e w2 ⟨rfl, hb⟩
    have RB2 := Lib.hid (RB0.out.b hb)
    clear hb T0 RB0
    obtain ⟨hr4, d0, d1⟩ := RB2.out.box
    obtain ⟨f0, f1⟩ := RB2.out.free
    go_wp2_with fail
    refine bodyPost_ret (v := .tuple #[.agg #[.int .i64 0, .slice none 0 0], .bool false]) (by simp [results, Try.results88, go_sem, d0, d1]) rfl ?_
    exact ⟨none, 0, rfl, .inl ⟨rfl, rfl⟩, by first | exact RB2.out.below | exact below_setAt (below_setAt RB2.out.below (by omega) _) (by omega) _⟩

theorem TS.cells {w wi : World} {b0 b1 : Nat} {z y : Int} {A B : Option Addr} {n c m d : Nat} {X Y : Nat → Int} (h : TS w b0 b1 z A n c X y B m d Y wi) :
    wi.cell? ⟨b0, 0, none⟩ = some (.int .i64 z) ∧ wi.cell? ⟨b0, 1, none⟩ = some (.slice A n c) ∧ wi.cell? ⟨b1, 0, none⟩ = some (.int .i64 y) ∧ wi.cell? ⟨b1, 1, none⟩ = some (.slice B m d) := ⟨h.box0.2.1, h.box0.2.2, h.box1.2.1, h.box1.2.2⟩
theorem TS.kept2 {w wi : World} {z y : Int} {A B : Option Addr} {n c m d : Nat} {X Y : Nat → Int} (h : TS w w.heap.size (w.heap.size + 1) z A n c X y B m d Y wi) (u v : Value) :
    ((wi.setCell ⟨w.heap.size + 1 + 1, 0, none⟩ u).setCell ⟨w.heap.size + 1 + 1, 1, none⟩ v).cell? ⟨w.heap.size, 0, none⟩ = some (.int .i64 z) ∧ ((wi.setCell ⟨w.heap.size + 1 + 1, 0, none⟩ u).setCell ⟨w.heap.size + 1 + 1, 1, none⟩ v).cell? ⟨w.heap.size, 1, none⟩ = some (.slice A n c) ∧
    ((wi.setCell ⟨w.heap.size + 1 + 1, 0, none⟩ u).setCell ⟨w.heap.size + 1 + 1, 1, none⟩ v).cell? ⟨w.heap.size + 1, 0, none⟩ = some (.int .i64 y) ∧ ((wi.setCell ⟨w.heap.size + 1 + 1, 0, none⟩ u).setCell ⟨w.heap.size + 1 + 1, 1, none⟩ v).cell? ⟨w.heap.size + 1, 1, none⟩ = some (.slice B m d) := by
  have hb : Below (w.heap.size + 1 + 1) wi ((wi.setCell ⟨w.heap.size + 1 + 1, 0, none⟩ u).setCell ⟨w.heap.size + 1 + 1, 1, none⟩ v) := below_setAt (below_setAt (Below.refl _ _) (Nat.le_refl _) _) (Nat.le_refl _) _
  exact ⟨(hb.cell (p := ⟨w.heap.size, 0, none⟩) (show w.heap.size < w.heap.size + 1 + 1 by omega)).trans h.box0.2.1, (hb.cell (p := ⟨w.heap.size, 1, none⟩) (show w.heap.size < w.heap.size + 1 + 1 by omega)).trans h.box0.2.2,
    (hb.cell (p := ⟨w.heap.size + 1, 0, none⟩) (show w.heap.size + 1 < w.heap.size + 1 + 1 by omega)).trans h.box1.2.1, (hb.cell (p := ⟨w.heap.size + 1, 1, none⟩) (show w.heap.size + 1 < w.heap.size + 1 + 1 by omega)).trans h.box1.2.2⟩
theorem brow_cat {w : World} {B z y c : Nat} {A : Option Addr} {F G : Nat → Bool} (h : w.ownsRow B 4 1 (.slice A (z + y) c) (z + y) (vals (catV (fun i => .bool (F i)) (fun i => .bool (G i)) z) (z + y))) : BRow w A (z + y) (fun i => if i < z then F i else G (i - z)) :=
  (GVec.row (owned_vec h)).congr (G := fun i => .bool (if i < z then F i else G (i - z))) (fun i _ => by unfold catV; split <;> rfl)
end Go.Proofs.Ytdkkflejpcgipab
