/- PutBit: the program's and the model's. -/
import Derived.Test.YtglccgpiakadbaaPutF
namespace Go.Proofs.Ytglccgpiakadbaa
open Go.RowKit

theorem putOk_bit {z : Int} {n : Nat} {X : Nat → Int} {i : Int} (on : Bool) : PutOk z n X i 1 (if on then 1 else 0) ↔ Room z n X i 1 :=
  ⟨fun h => h.1, fun h => ⟨h, by cases on <;> simp, by cases on <;> simp⟩⟩

set_option maxHeartbeats 1000000 in
theorem impl_putBit_yes (z : Nat) (A : Option Addr) (n c : Nat) (X : Nat → Int) (i : Nat) (on : Bool) (w : World) (hn : n ≤ 1048576) (hr : IRow w A n X) (h : Room z n X i 1) :
    Calls Try.prog 49 #[.agg #[.int .i64 z, .slice A n c], .int .i64 i, .bool on] w (OwnIs z n (fun k => (wordsOf (putF z X i 1 (if on then 1 else 0)) k : Int)) true w) := by
  have h2 : PutOk z n X i (1 : Nat) ((if on then 1 else 0 : Nat) : Int) := by
    have := (putOk_bit (z := z) (n := n) (X := X) (i := i) on).2 h
    cases on <;> simpa using this
  have L0 := Lib.hid ((LS.start (z := (z : Int)) (c := c) hr 26).step ((Below.refl _ _).alloc (Nat.le_refl _) (.cells #[.int .i64 0, .slice none 0 0] 26)))
  have RB0 := Lib.hid (RB.start w (.cells #[.int .i64 z, .slice A n c] 26) 26)
  have H2 := Lib.hid h2
  clear hr h2 h
  cases on
  · go_enter Try.func49, Try.ntmps49
    go_wp2_with fail
    refine (impl_putField_yes z A n c X i 1 0 _ hn L0.out.row H2.out).mono ?_; rintro e w1 ⟨A2, k2, rfl, o2, hb⟩
    have RB1 := Lib.hid (RB0.out.b hb)
    have O2 := Lib.hid o2
    clear hb o2 L0 RB0
    obtain ⟨hr4, d0, d1⟩ := RB1.out.box
    obtain ⟨f0, f1⟩ := RB1.out.free
    go_wp2_with fail
    refine bodyPost_ret (v := .tuple #[.agg #[.int .i64 z, .slice A2 n k2], .bool true]) (by simp [results, Try.results49, go_sem, d0, d1]) rfl ?_
    exact ⟨A2, _, rfl, ((O2.out.setAt (by simp) _).setAt (by simp) _).low (by simp; omega), below_setAt (below_setAt RB1.out.below (by omega) _) (by omega) _⟩
  · go_enter Try.func49, Try.ntmps49
    go_wp2_with fail
    refine (impl_putField_yes z A n c X i 1 1 _ hn L0.out.row H2.out).mono ?_; rintro e w1 ⟨A2, k2, rfl, o2, hb⟩
    have RB1 := Lib.hid (RB0.out.b hb)
    have O2 := Lib.hid o2
    clear hb o2 L0 RB0
    obtain ⟨hr4, d0, d1⟩ := RB1.out.box
    obtain ⟨f0, f1⟩ := RB1.out.free
    go_wp2_with fail
    refine bodyPost_ret (v := .tuple #[.agg #[.int .i64 z, .slice A2 n k2], .bool true]) (by simp [results, Try.results49, go_sem, d0, d1]) rfl ?_
    exact ⟨A2, _, rfl, ((O2.out.setAt (by simp) _).setAt (by simp) _).low (by simp; omega), below_setAt (below_setAt RB1.out.below (by omega) _) (by omega) _⟩

set_option maxHeartbeats 1000000 in
theorem impl_putBit_no (z : Int) (A : Option Addr) (n c : Nat) (X : Nat → Int) (i : Int) (on : Bool) (w : World) (hn : n ≤ 1048576) (hr : IRow w A n X) (h : ¬ Room z n X i 1) :
    Calls Try.prog 49 #[.agg #[.int .i64 z, .slice A n c], .int .i64 i, .bool on] w (OwnIs 0 0 (fun _ => 0) false w) := by
  have h2 : ¬ PutOk z n X i 1 (if on then 1 else 0) := fun e => h ((putOk_bit on).1 e)
  have L0 := Lib.hid ((LS.start (z := z) (c := c) hr 26).step ((Below.refl _ _).alloc (Nat.le_refl _) (.cells #[.int .i64 0, .slice none 0 0] 26)))
  have RB0 := Lib.hid (RB.start w (.cells #[.int .i64 z, .slice A n c] 26) 26)
  have H2 := Lib.hid h2
  clear hr h2 h
  cases on
  all_goals
    go_enter Try.func49, Try.ntmps49
    go_wp2_with fail
    refine (impl_putField_no z A n c X i 1 _ _ hn L0.out.row H2.out).mono ?_; rintro e w1 ⟨A2, k2, rfl, o2, hb⟩
    have RB1 := Lib.hid (RB0.out.b hb)
    have O2 := Lib.hid o2
    clear hb o2 L0 RB0
    obtain ⟨hr4, d0, d1⟩ := RB1.out.box
    obtain ⟨f0, f1⟩ := RB1.out.free
    go_wp2_with fail
    refine bodyPost_ret (v := .tuple #[.agg #[.int .i64 0, .slice A2 0 k2], .bool false]) (by simp [results, Try.results49, go_sem, d0, d1]) rfl ?_
    exact ⟨A2, _, rfl, ((O2.out.setAt (by simp) _).setAt (by simp) _).low (by simp; omega), below_setAt (below_setAt RB1.out.below (by omega) _) (by omega) _⟩

theorem putF_bit (z : Nat) (X : Nat → Int) (i : Nat) (on : Bool) : (fun k => decide (k < z) && (if k = i then on else bitN (fun i => (X i).toNat) k)) = putF z X i 1 (if on then 1 else 0) := by
  funext k
  unfold putF
  by_cases e : k = i
  · subst e
    rw [if_pos rfl, if_pos (by omega), Nat.sub_self]
    cases on <;> simp
  · rw [if_neg e, if_neg (by omega)]

set_option maxRecDepth 100000 in
set_option maxHeartbeats 2000000 in
theorem spec_putBit_yes (z : Nat) (A : Option Addr) (n c : Nat) (X : Nat → Int) (i : Nat) (on : Bool) (w : World) (hn : n ≤ 1048576) (hr : IRow w A n X) (h : Room z n X i 1) :
    Calls Try.prog 63 #[.agg #[.int .i64 z, .slice A n c], .int .i64 i, .bool on] w (VecIs z n (fun k => (wordsOf (putF z X i 1 (if on then 1 else 0)) k : Int)) true w) := by
  rw [← putF_bit]
  have L0 := Lib.hid ((LS.start (z := (z : Int)) (c := c) hr 26).step ((Below.refl _ _).alloc (Nat.le_refl _) (.cells #[.int .i64 0, .slice none 0 0] 26)))
  have RB0 := Lib.hid (RB.start w (.cells #[.int .i64 z, .slice A n c] 26) 26)
  clear hr
  have HR := Lib.hid h
  have hz : z ≤ 4096 := by have := h.1.2.1; omega
  have hzn : z ≤ 16 * n := by have := h.1.2.2.1; omega
  have hnz : n = (z + 15) / 16 := by have := h.1.2.2.1; omega
  have HNZ := Lib.hid hnz
  have hiz : i < z := by have := h.2.2.2.2; omega
  clear h hnz
  go_enter Try.func63, Try.ntmps63
  go_wp2_with fail
  refine ((BoolIs.two (spec_biHas z A n c X i _ hn L0.out.row)).1 HR.out).mono ?_; rintro e w1 ⟨rfl, hb⟩
  have L1 := Lib.hid (L0.out.step hb)
  have RB1 := Lib.hid (RB0.out.b hb)
  clear hb L0 RB0
  obtain ⟨hs1, c0, c1⟩ := L1.out.box
  go_wp2_with fail
  refine (spec_biList z n c A (fun i => (X i).toNat) _ hn hz hzn (good_row HR.out.1 L1.out.row)).mono ?_; rintro e w2 ⟨A2, c2, rfl, ho, hb⟩
  rcases ownB_vec ho with h0 | ⟨g, rfl, hg, ho2⟩
  · omega
  have RB2 := Lib.hid (RB1.out.b hb)
  have hsr := RB1.out.box.1
  have hwr := RB1.out.below.size
  have hx := ho2.cell hiz
  have hf := ho2.frozen i
  have O3 := Lib.hid ((ho2.set i on).row)
  have RB3 := Lib.hid (RB2.out.low (below_setAt (o := i) (Below.refl w1.heap.size w2) hg (.bool on)) hwr hsr)
  have hlt : (i : Int) < (z : Int) := by omega
  clear ho hb L1 RB1 c0 c1 ho2 RB2
  go_wp2_with fail
  refine (spec_biSome _ z c2 n _ _ hz HNZ.out O3.out).mono ?_; rintro e w4 ⟨g4, rfl, hg4, ho, hb⟩
  have RB4 := Lib.hid (RB3.out.b hb)
  have hs3 := RB3.out.box.1
  have O4 := Lib.hid ho
  clear ho hb RB3 O3
  obtain ⟨hr4, d0, d1⟩ := RB4.out.box
  obtain ⟨f0, f1⟩ := RB4.out.free
  go_wp2_with fail
  refine bodyPost_ret (v := .tuple #[.agg #[.int .i64 z, .slice (some ⟨g4, 0, none⟩) n n], .bool true]) (by simp [results, Try.results63, go_sem, d0, d1]) rfl ?_
  exact ⟨_, _, rfl, ((O4.out.setAt (by omega) _).setAt (by omega) _).row, below_setAt (below_setAt RB4.out.below (by omega) _) (by omega) _⟩

set_option maxHeartbeats 1000000 in
theorem spec_putBit_no (z : Int) (A : Option Addr) (n c : Nat) (X : Nat → Int) (i : Int) (on : Bool) (w : World) (hn : n ≤ 1048576) (hr : IRow w A n X) (h : ¬ Room z n X i 1) :
    Calls Try.prog 63 #[.agg #[.int .i64 z, .slice A n c], .int .i64 i, .bool on] w (VecIs 0 0 (fun _ => 0) false w) := by
  have L0 := Lib.hid ((LS.start (z := z) (c := c) hr 26).step ((Below.refl _ _).alloc (Nat.le_refl _) (.cells #[.int .i64 0, .slice none 0 0] 26)))
  have RB0 := Lib.hid (RB.start w (.cells #[.int .i64 z, .slice A n c] 26) 26)
  have HR := Lib.hid h
  clear hr h
  go_enter Try.func63, Try.ntmps63
  go_wp2_with fail
  refine ((BoolIs.two (spec_biHas z A n c X i _ hn L0.out.row)).2 HR.out).mono ?_; rintro e w1 ⟨rfl, hb⟩
  have RB1 := Lib.hid (RB0.out.b hb)
  clear hb L0 RB0
  obtain ⟨hr4, d0, d1⟩ := RB1.out.box
  obtain ⟨f0, f1⟩ := RB1.out.free
  go_wp2_with fail
  refine bodyPost_ret (v := .tuple #[.agg #[.int .i64 0, .slice none 0 0], .bool false]) (by simp [results, Try.results63, go_sem, d0, d1]) rfl ?_
  exact ⟨none, 0, rfl, IRow.zero, by first | exact RB1.out.below | exact below_setAt (below_setAt RB1.out.below (by omega) _) (by omega) _⟩
end Go.Proofs.Ytglccgpiakadbaa
