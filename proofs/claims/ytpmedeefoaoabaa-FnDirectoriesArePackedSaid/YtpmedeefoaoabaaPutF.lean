/- PutField and PutBit: the program's and the model's. -/
import Derived.Test.YtpmedeefoaoabaaLists
namespace Go.Proofs.Ytpmedeefoaoabaa
open Go.RowKit

def PutOk (z : Int) (n : Nat) (X : Nat → Int) (a width v : Int) : Prop := Room z n X a width ∧ 0 ≤ v ∧ v < 2 ^ width.toNat
def putF (z : Nat) (X : Nat → Int) (a width v : Nat) (i : Nat) : Bool := decide (i < z) && (if a ≤ i ∧ i < a + width then v.testBit (i - a) else bitN (fun i => (X i).toNat) i)

/-- What stands ready for the answer: its box, not frozen; what was there is as it was. -/
structure RB (w : World) (b : Nat) (wi : World) : Prop where
  below : Below w.heap.size w wi
  box : Box wi b 0 none 0 0
  free : wi.frozen? ⟨b, 0, none⟩ = false ∧ wi.frozen? ⟨b, 1, none⟩ = false
theorem RB.b {w wi wj : World} {b : Nat} (h : RB w b wi) (hb : Below wi.heap.size wi wj) : RB w b wj :=
  ⟨h.below.trans (hb.mono h.below.size), h.box.b hb, free_below h.free h.box.1 hb⟩
theorem RB.low {w wi wj : World} {b B : Nat} (h : RB w b wi) (hb : Below B wi wj) (hw : w.heap.size ≤ B) (hB : b < B) : RB w b wj :=
  ⟨h.below.trans (hb.mono hw), ⟨Nat.lt_of_lt_of_le h.box.1 hb.size, (hb.cell (p := ⟨b, 0, none⟩) hB).trans h.box.2.1, (hb.cell (p := ⟨b, 1, none⟩) hB).trans h.box.2.2⟩,
   ⟨(hb.frozen (p := ⟨b, 0, none⟩) hB).trans h.free.1, (hb.frozen (p := ⟨b, 1, none⟩) hB).trans h.free.2⟩⟩
theorem RB.start (w : World) (o : Obj) (t : TypeId) : RB w (w.heap.size + 1) ((w.alloc o).alloc (.cells #[.int .i64 0, .slice none 0 0] t)) := by
  have h := Box.new (w.alloc o) 0 none 0 0 t
  have f := free_new (w.alloc o) #[.int .i64 0, .slice none 0 0] t
  simp only [World.size_alloc] at h f
  exact ⟨((Below.refl _ _).alloc (Nat.le_refl _) _).alloc (by simp) _, h, f⟩

theorem good_high {z : Int} {n : Nat} {X : Nat → Int} (hg : Good z n X) {i : Nat} (h1 : z ≤ i) (h2 : i < 16 * n) : bitN (fun i => (X i).toNat) i = false := by
  have hz := hg.1
  have h := hg.2.2.2 (i / 16) (by omega)
  unfold bitN
  apply Nat.testBit_lt_two_pow
  have e : cap z (i / 16) = ((2 ^ (min 16 (z.toNat - 16 * (i / 16))) : Nat) : Int) := by unfold cap; push_cast; rfl
  have h3 : (X (i / 16)).toNat < 2 ^ (min 16 (z.toNat - 16 * (i / 16))) := by rw [e] at h; omega
  exact Nat.lt_of_lt_of_le h3 (Nat.pow_le_pow_right (by omega) (by omega))

theorem setField_none (a v : Int) (w : World) : Calls Try.prog 17 #[.slice none 0 0, .int .i64 a, .int .i64 0, .int .i64 v] w fun e w' => e = .returned (.tuple #[]) ∧ w = w' := by
  go_enter Try.func17, Try.ntmps17
  go_wp2_with fail
  refine wp_loop_rounds 1 ?_
  rw [rounds_succ]
  go_wp2_with fail
  go_end0
  exact ⟨rfl, rfl⟩

/-- setField on a vector of the call's own. -/
theorem setField_own (A : Option Addr) (m B : Nat) (W : Nat → Nat) (a width v : Nat) (w : World) (hm : m ≤ 256) (ho : OVec w B A m (fun i => (W i : Int))) (hW : ∀ i, i < m → W i < 65536) (ha : a + width ≤ 16 * m) (hw : width ≤ 24) (hv : v < 16777216) (hB : B ≤ w.heap.size) :
    Calls Try.prog 17 #[.slice A m m, .int .i64 a, .int .i64 width, .int .i64 v] w fun e w' => e = .returned (.tuple #[]) ∧ (∃ W1, PutSt W m a v (a + width) W1 ∧ OVec w' B A m (fun i => (W1 i : Int))) ∧ Below B w w' := by
  rcases ho with ⟨rfl, rfl⟩ | ⟨g, rfl, hg, ho⟩
  · obtain rfl : width = 0 := by omega
    exact (setField_none _ _ w).mono fun e w' ⟨he, hw⟩ => ⟨he, ⟨W, PutSt.start W _ _ _ (fun i hi => by omega), .inl ⟨rfl, rfl⟩⟩, by subst hw; exact Below.refl _ _⟩
  · exact (impl_setField g m W a width v w hm ho hW ha hw hv).mono fun e w' ⟨he, ⟨W1, h1, h2⟩, hgr⟩ => ⟨he, ⟨W1, h1, .inr ⟨g, rfl, hg, h2⟩⟩, below_of_grown hgr hB hg⟩

set_option maxRecDepth 100000 in
set_option maxHeartbeats 2000000 in
theorem impl_putField_yes (z : Nat) (A : Option Addr) (n c : Nat) (X : Nat → Int) (a width v : Nat) (w : World) (hn : n ≤ 1048576) (hr : IRow w A n X) (h : PutOk z n X a width v) :
    Calls Try.prog 26 #[.agg #[.int .i64 z, .slice A n c], .int .i64 a, .int .i64 width, .int .i64 v] w (OwnIs z n (fun i => (wordsOf (putF z X a width v) i : Int)) true w) := by
  have L0 := Lib.hid ((LS.start (z := (z : Int)) (c := c) hr 26).step ((Below.refl _ _).alloc (Nat.le_refl _) (.cells #[.int .i64 0, .slice none 0 0] 26)))
  have RB0 := Lib.hid (RB.start w (.cells #[.int .i64 z, .slice A n c] 26) 26)
  clear hr
  have HR := Lib.hid h.1
  have hz : z ≤ 4096 := by have := h.1.1.2.1; omega
  have hzn : z ≤ 16 * n := by have := h.1.1.2.2.1; omega
  have hnz : n = (z + 15) / 16 := by have := h.1.1.2.2.1; omega
  have HNZ := Lib.hid hnz
  have hn2 : n ≤ 256 := by omega
  have hw : width ≤ 24 := by have := h.1.2.2.1; omega
  have haw : a + width ≤ z := by have := h.1.2.2.2.2; omega
  obtain ⟨p0, p1⟩ := two_bd (m := width) (k := 24) hw
  have hv : (v : Int) < 2 ^ width := by have := h.2.2; simpa using this
  have hv2 : v < 16777216 := by have : (2 : Int) ^ 24 = 16777216 := by decide
                                omega
  clear h hnz
  go_enter Try.func26, Try.ntmps26
  go_wp2_with fail
  refine ((BoolIs.two (impl_hasField z A n c X a width _ hn L0.out.row)).1 HR.out).mono ?_; rintro e w1 ⟨rfl, hb⟩
  have L1 := Lib.hid (L0.out.step hb)
  have RB1 := Lib.hid (RB0.out.b hb)
  clear hb L0 RB0
  obtain ⟨hs1, c0, c1⟩ := L1.out.box
  go_wp2_with fail
  refine (growWords_any z n A n c X _ hz HNZ.out (Nat.le_refl _) L1.out.row).mono ?_; rintro e w2 ⟨A2, rfl, ho, hb⟩
  have O2 := Lib.hid (ho.congr (Y := fun i => (((X i).toNat : Nat) : Int)) (fun i hi => by
    have := (HR.out.1.2.2.2 i hi).1
    simp only [hi, if_true]; omega))
  have L2 := Lib.hid (L1.out.step hb)
  have RB2 := Lib.hid (RB1.out.b hb)
  have hs12 := hb.size
  have hsr := RB1.out.box.1
  have hwr := RB1.out.below.size
  clear ho hb L1 RB1 c0 c1 hs1
  obtain ⟨hs2, c0, c1⟩ := L2.out.box
  go_wp2_with fail
  refine (setField_own A2 n _ (fun i => (X i).toNat) a width v _ hn2 O2.out (good_row HR.out.1 L2.out.row).2 (by omega) hw hv2 hs12).mono ?_; rintro e w3 ⟨rfl, ⟨W1, hst, ho⟩, hb⟩
  have RB3 := Lib.hid (RB2.out.low hb hwr hsr)
  have O3 := Lib.hid ho
  have hsz3 := hb.size
  have hbx : Box w3 w.heap.size z A n c := ⟨Nat.lt_of_lt_of_le L2.out.box.1 hb.size, (hb.cell (p := ⟨w.heap.size, 0, none⟩) (by show w.heap.size < _; omega)).trans L2.out.box.2.1, (hb.cell (p := ⟨w.heap.size, 1, none⟩) (by show w.heap.size < _; omega)).trans L2.out.box.2.2⟩
  have HE := Lib.hid (words_eq (f := putF z X a width v) hst.1 (fun i hi => by
    rw [hst.2 i hi]
    unfold putF
    by_cases e : i < z
    · simp [e]
    · rw [if_neg (by omega), good_high HR.out.1 (by omega) hi]; simp [e]))
  clear ho hb hst O2 RB2 L2 c0 c1 hs2
  obtain ⟨hs3, c0, c1⟩ := hbx
  obtain ⟨hr4, d0, d1⟩ := RB3.out.box
  obtain ⟨f0, f1⟩ := RB3.out.free
  go_wp2_with fail
  refine bodyPost_ret (v := .tuple #[.agg #[.int .i64 z, .slice A2 n n], .bool true]) (by simp [results, Try.results26, go_sem, d0, d1]) rfl ?_
  exact ⟨A2, _, rfl, (((O3.out.setAt (by omega) _).setAt (by omega) _).low hwr).congr (fun i hi => by rw [HE.out i hi]), below_setAt (below_setAt RB3.out.below (by omega) _) (by omega) _⟩

set_option maxRecDepth 100000 in
set_option maxHeartbeats 2000000 in
theorem impl_putField_no (z : Int) (A : Option Addr) (n c : Nat) (X : Nat → Int) (a width v : Int) (w : World) (hn : n ≤ 1048576) (hr : IRow w A n X) (h : ¬ PutOk z n X a width v) :
    Calls Try.prog 26 #[.agg #[.int .i64 z, .slice A n c], .int .i64 a, .int .i64 width, .int .i64 v] w (OwnIs 0 0 (fun _ => 0) false w) := by
  have L0 := Lib.hid ((LS.start (z := z) (c := c) hr 26).step ((Below.refl _ _).alloc (Nat.le_refl _) (.cells #[.int .i64 0, .slice none 0 0] 26)))
  have RB0 := Lib.hid (RB.start w (.cells #[.int .i64 z, .slice A n c] 26) 26)
  clear hr
  by_cases hR : Room z n X a width
  · have hv := Lib.hid (show ¬ (0 ≤ v ∧ v < 2 ^ width.toNat) from fun e => h ⟨hR, e.1, e.2⟩)
    have HR := Lib.hid hR
    have hw0 := hR.2.1
    have hw := hR.2.2.1
    obtain ⟨p0, p1⟩ := two_bd (m := width.toNat) (k := 24) (by omega)
    clear h hR
    go_enter Try.func26, Try.ntmps26
    go_wp2_with fail
    refine ((BoolIs.two (impl_hasField z A n c X a width _ hn L0.out.row)).1 HR.out).mono ?_; rintro e w1 ⟨rfl, hb⟩
    have RB1 := Lib.hid (RB0.out.b hb)
    clear hb L0 RB0
    obtain ⟨hr4, d0, d1⟩ := RB1.out.box
    obtain ⟨f0, f1⟩ := RB1.out.free
    by_cases v0 : v < 0
    · have b1 : decide (v < 0) = true := by simpa using v0
      go_wp2_with fail
      refine bodyPost_ret (v := .tuple #[.agg #[.int .i64 0, .slice none 0 0], .bool false]) (by simp [results, Try.results26, go_sem, d0, d1]) rfl ?_
      exact ⟨none, 0, rfl, .inl ⟨rfl, rfl⟩, by first | exact RB1.out.below | exact below_setAt (below_setAt RB1.out.below (by omega) _) (by omega) _⟩
    · have b1 : decide (v < 0) = false := by simpa using v0
      have v1 : 2 ^ width.toNat ≤ v := by
        have := hv.out
        by_cases e : v < 2 ^ width.toNat
        · exact absurd ⟨by omega, e⟩ this
        · omega
      have b2 : decide (2 ^ width.toNat ≤ v) = true := by simpa using v1
      go_wp2_with fail
      refine bodyPost_ret (v := .tuple #[.agg #[.int .i64 0, .slice none 0 0], .bool false]) (by simp [results, Try.results26, go_sem, d0, d1]) rfl ?_
      exact ⟨none, 0, rfl, .inl ⟨rfl, rfl⟩, by first | exact RB1.out.below | exact below_setAt (below_setAt RB1.out.below (by omega) _) (by omega) _⟩
  · have HR := Lib.hid hR
    clear h hR
    go_enter Try.func26, Try.ntmps26
    go_wp2_with fail
    refine ((BoolIs.two (impl_hasField z A n c X a width _ hn L0.out.row)).2 HR.out).mono ?_; rintro e w1 ⟨rfl, hb⟩
    have RB1 := Lib.hid (RB0.out.b hb)
    clear hb L0 RB0
    obtain ⟨hr4, d0, d1⟩ := RB1.out.box
    obtain ⟨f0, f1⟩ := RB1.out.free
    go_wp2_with fail
    refine bodyPost_ret (v := .tuple #[.agg #[.int .i64 0, .slice none 0 0], .bool false]) (by simp [results, Try.results26, go_sem, d0, d1]) rfl ?_
    exact ⟨none, 0, rfl, .inl ⟨rfl, rfl⟩, by first | exact RB1.out.below | exact below_setAt (below_setAt RB1.out.below (by omega) _) (by omega) _⟩
end Go.Proofs.Ytpmedeefoaoabaa
