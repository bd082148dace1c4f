/- The model's lists of bits: biSet, biSome, biList, biPut. -/
import Derived.Test.YthaipemgndahfaaPut
namespace Go.Proofs.Ythaipemgndahfaa
open Go.RowKit

/-- w bits of f from a on, as a number. -/
def ofB (f : Nat → Bool) : Nat → Nat → Nat
  | _, 0 => 0
  | a, w + 1 => (if f a then 1 else 0) + 2 * ofB f (a + 1) w
theorem ofB_lt (f : Nat → Bool) (w : Nat) : ∀ a, ofB f a w < 2 ^ w := by
  induction w with
  | zero => intro a; simp [ofB]
  | succ w ih => intro a; have := ih (a + 1); rw [ofB, Nat.pow_succ]; split <;> omega
theorem ofB_bit (f : Nat → Bool) (w : Nat) : ∀ a j, (ofB f a w).testBit j = (decide (j < w) && f (a + j)) := by
  induction w with
  | zero => intro a j; simp [ofB]
  | succ w ih =>
    intro a j
    cases j with
    | zero =>
      rw [ofB, Nat.testBit_zero]
      by_cases h : f a = true
      · simp [h]
      · simp [h]
    | succ j =>
      have e : ((if f a = true then 1 else 0) + 2 * ofB f (a + 1) w) / 2 = ofB f (a + 1) w := by split <;> omega
      rw [ofB, Nat.testBit_succ, e, ih (a + 1) j]
      simp only [Nat.add_lt_add_iff_right, show a + 1 + j = a + (j + 1) by omega]
def wordsOf (f : Nat → Bool) (k : Nat) : Nat := ofB f (16 * k) 16
theorem words_eq {f : Nat → Bool} {W : Nat → Nat} {m : Nat} (h1 : ∀ i, i < m → W i < 65536) (h2 : ∀ i, i < 16 * m → bitN W i = f i) : ∀ k, k < m → W k = wordsOf f k := by
  intro k hk
  apply Nat.eq_of_testBit_eq
  intro j
  rw [wordsOf, ofB_bit]
  by_cases c : j < 16
  · have := h2 (16 * k + j) (by omega)
    unfold bitN at this
    rw [show (16 * k + j) / 16 = k by omega, show (16 * k + j) % 16 = j by omega] at this
    rw [this]; simp [c]
  · have : (W k).testBit j = false := Nat.testBit_lt_two_pow (Nat.lt_of_lt_of_le (h1 k hk) (Nat.pow_le_pow_right (n := 2) (i := 16) (by omega) (by omega)))
    simp [this, c]

theorem set_word (x s : Nat) (hx : x < 65536) (hs : s < 16) : ∃ N : Nat, N < 65536 ∧ bits .or .i64 (x : Int) (2 ^ s) = (N : Int) ∧ ∀ j, N.testBit j = (x.testBit j || decide (s = j)) := by
  have h1 : 2 ^ s < 2 ^ 16 := Nat.pow_lt_pow_right (by omega) hs
  have h5 : (2 : Nat) ^ 16 = 65536 := by decide
  refine ⟨x ||| 2 ^ s, by have := Nat.or_lt_two_pow (n := 16) (x := x) (y := 2 ^ s) (by omega) h1; omega, ?_, fun j => ?_⟩
  · rw [show ((2 : Int) ^ s) = ((2 ^ s : Nat) : Int) by push_cast; rfl]
    exact i64_or_nat _ _ (by omega) (by omega)
  · rw [Nat.testBit_or, Nat.testBit_two_pow]

def SetIs (W : Nat → Nat) (g m i : Nat) (w : World) (e : Ending) (w' : World) : Prop :=
  e = .returned (.tuple #[]) ∧ (∃ W1, (∀ k, k < m → W1 k < 65536) ∧ (∀ k, k < 16 * m → bitN W1 k = (bitN W k || decide (k = i))) ∧ ORow w' g m (fun i => (W1 i : Int))) ∧ w.grownBy w' (some g)

set_option maxRecDepth 100000 in
set_option maxHeartbeats 1000000 in
theorem spec_biSet (z : Int) (g m c i : Nat) (W : Nat → Nat) (w : World) (hm : m ≤ 256) (ho : ORow w g m (fun i => (W i : Int))) (hW : ∀ i, i < m → W i < 65536) (hi : i < 16 * m) :
    Calls Try.prog 82 #[.agg #[.int .i64 z, .slice (some ⟨g, 0, none⟩) m c], .int .i64 i] w (SetIs W g m i w) := by
  have hx := ho.cell (i := i / 16) (by omega)
  have hf := ho.frozen (i / 16)
  have hg := ho.lt
  have hWb := hW (i / 16) (by omega)
  obtain ⟨N, hN, hNe, hNb⟩ := set_word (W (i / 16)) (i % 16) hWb (by omega)
  have h1 : (i : Int) / 16 < (m : Int) := by omega
  have h2 : 0 ≤ (i : Int) / 16 := by omega
  have h3 : ((i : Int) / 16).toNat = i / 16 := by omega
  have h4 : ((i : Int) % 16).toNat = i % 16 := by omega
  obtain ⟨p0, p1⟩ := two_bd (m := i % 16) (k := 16) (by omega)
  have HNE := Lib.hid hNe
  have HNB := Lib.hid hNb
  have HN := Lib.hid hN
  have HO := Lib.hid ho
  have HW := Lib.hid hW
  clear ho hW hNe hNb hN
  go_enter Try.func82, Try.ntmps82
  go_wp2_with fail
  go_region
  go_wp2_with fail
  rw [HNE.out]
  go_end0
  refine ⟨rfl, ⟨fun j => if j = i / 16 then N else W j, fun k hk => ?_, fun k hk => ?_, ?_⟩, only_drew (grown_two (grown_setCell (World.grownBy.refl w _) _ _) (World.grownBy_alloc _ _ _))⟩
  · by_cases e : k = i / 16
    · simp [e, HN.out]
    · simpa [e] using HW.out k hk
  · unfold bitN
    by_cases e : k / 16 = i / 16
    · simp only [e, if_true, HNB.out]
      by_cases e2 : i % 16 = k % 16
      · rw [decide_eq_true e2, decide_eq_true (show k = i by omega)]
      · rw [decide_eq_false e2, decide_eq_false (show ¬ k = i by omega)]
    · simp only [e, if_false]
      rw [decide_eq_false (show ¬ k = i by rintro rfl; exact e rfl), Bool.or_false]
  · refine ORow.congr (X := fun j => if j = i / 16 then (N : Int) else (W j : Int)) ?_ (fun j _ => by by_cases e : j = i / 16 <;> simp [e])
    exact (HO.out.set (i / 16) (N : Int)).alloc (.cells #[.int .i64 z, .slice (some ⟨g, 0, none⟩) m c] 51)

/-- The slice value '.slice A n _' reads as the bools F 0 .. F (n - 1). -/
def BRow (w : World) (A : Option Addr) (n : Nat) (F : Nat → Bool) : Prop :=
  0 < n → ∃ b off, A = some ⟨b, off, none⟩ ∧ b < w.heap.size ∧ ∀ k, k < n → w.cell? ⟨b, off + k, none⟩ = some (.bool (F k))
theorem BRow.b {w w' : World} {A : Option Addr} {n : Nat} {F : Nat → Bool} (h : BRow w A n F) {B : Nat} (hb : Below B w w') (hB : w.heap.size ≤ B) : BRow w' A n F := fun hn => by
  obtain ⟨b, off, hA, hlt, hc⟩ := h hn
  exact ⟨b, off, hA, Nat.lt_of_lt_of_le hlt hb.size, fun k hk => by rw [hb.cell (show (⟨b, off + k, none⟩ : Addr).block < B by show b < B; omega)]; exact hc k hk⟩
def SomeIs (z m : Nat) (f : Nat → Bool) (w : World) (e : Ending) (w' : World) : Prop :=
  ∃ g, e = .returned (.agg #[.int .i64 z, .slice (some ⟨g, 0, none⟩) m m]) ∧ w.heap.size ≤ g ∧ ORow w' g m (fun i => (wordsOf f i : Int)) ∧ Below w.heap.size w w'

structure BS (w : World) (b0 b1 g z m k : Nat) (F : Nat → Bool) (wr : World) : Prop where
  below : Below w.heap.size w wr
  box : Box wr b1 z (some ⟨g, 0, none⟩) m m
  rbox : Box wr b0 0 none 0 0
  free : wr.frozen? ⟨b0, 0, none⟩ = false ∧ wr.frozen? ⟨b0, 1, none⟩ = false
  words : ∃ W1 : Nat → Nat, (∀ i, i < m → W1 i < 65536) ∧ (∀ i, i < 16 * m → bitN W1 i = (decide (i < k) && F i)) ∧ ORow wr g m (fun i => (W1 i : Int))
theorem Box.far' {w w' : World} {b g : Nat} {z : Int} {A : Option Addr} {n c : Nat} (h : Box w b z A n c) (hr : w.grownBy w' (some g)) (hne : b ≠ g) : Box w' b z A n c :=
  have hb := hr.block b h.1 (fun e => hne (by injection e))
  ⟨Nat.lt_of_lt_of_le h.1 hr.size, (World.cell?_of_block (a := ⟨b, 0, none⟩) hb).trans h.2.1, (World.cell?_of_block (a := ⟨b, 1, none⟩) hb).trans h.2.2⟩
theorem free_far {w w' : World} {b g : Nat} (h : w.frozen? ⟨b, 0, none⟩ = false ∧ w.frozen? ⟨b, 1, none⟩ = false) (hlt : b < w.heap.size) (hr : w.grownBy w' (some g)) (hne : b ≠ g) : w'.frozen? ⟨b, 0, none⟩ = false ∧ w'.frozen? ⟨b, 1, none⟩ = false :=
  have hb := hr.block b hlt (fun e => hne (by injection e))
  ⟨(World.frozen?_of_block (a := ⟨b, 0, none⟩) hb).trans h.1, (World.frozen?_of_block (a := ⟨b, 1, none⟩) hb).trans h.2⟩
theorem free_below {w w' : World} {b : Nat} (h : w.frozen? ⟨b, 0, none⟩ = false ∧ w.frozen? ⟨b, 1, none⟩ = false) (hlt : b < w.heap.size) (hb : Below w.heap.size w w') : w'.frozen? ⟨b, 0, none⟩ = false ∧ w'.frozen? ⟨b, 1, none⟩ = false :=
  ⟨(hb.frozen (p := ⟨b, 0, none⟩) hlt).trans h.1, (hb.frozen (p := ⟨b, 1, none⟩) hlt).trans h.2⟩
theorem free_new (w : World) (cs : Array Value) (t : TypeId) : (w.alloc (.cells cs t)).frozen? ⟨w.heap.size, 0, none⟩ = false ∧ (w.alloc (.cells cs t)).frozen? ⟨w.heap.size, 1, none⟩ = false := ⟨by simp [go_sem], by simp [go_sem]⟩
theorem Box.alloc {w : World} {b : Nat} {z : Int} {A : Option Addr} {n c : Nat} (h : Box w b z A n c) (o : Obj) : Box (w.alloc o) b z A n c := h.b ((Below.refl _ _).alloc (Nat.le_refl _) _)

set_option maxRecDepth 100000 in
set_option maxHeartbeats 1000000 in
theorem spec_biSome (A : Option Addr) (z c m : Nat) (F : Nat → Bool) (w : World) (hz : z ≤ 4096) (hm : m = (z + 15) / 16) (hr : BRow w A z F) :
    Calls Try.prog 76 #[.slice A z c] w (SomeIs z m (fun i => decide (i < z) && F i) w) := by
  have HR := Lib.hid hr
  have HM := Lib.hid hm
  clear hr hm
  go_enter Try.func76, Try.ntmps76
  go_wp2_with fail
  refine (spec_biNew z m _ hz HM.out).mono ?_; rintro e w1 ⟨g, rfl, hg, ho, hb⟩
  have hB0 : Below w.heap.size w w1 := ((Below.refl w.heap.size w).alloc (Nat.le_refl _) _).trans (hb.mono (by simp))
  have hg2 : w.heap.size < g := by simp at hg; omega
  have hg3 := ho.lt
  have hrb : Box w1 w.heap.size 0 none 0 0 := (Box.new w 0 none 0 0 51).b hb
  have hs1 := hrb.1
  have hst : BS w w.heap.size w1.heap.size g z m 0 F (w1.alloc (.cells #[.int .i64 z, .slice (some ⟨g, 0, none⟩) m m] 51)) :=
    ⟨hB0.alloc (by omega) _, Box.new _ _ _ _ _ _, hrb.alloc _, free_below (free_below (free_new w _ _) (by simp) hb) hs1 ((Below.refl _ _).alloc (Nat.le_refl _) _), ⟨fun _ => 0, fun _ _ => (by show 0 < 65536; omega), fun i _ => by simp [bitN], ho.alloc _⟩⟩
  have HST := Lib.hid hst
  clear hst hrb hB0 hb ho hg
  go_wp2_with fail
  go_loopw [11] (fun i wr => ∃ k : Nat, k ≤ z ∧ i = .int .i64 k ∧ BS w w.heap.size w1.heap.size g z m k F wr) (fun i _ => z - (intOf i).toNat)
  case atStart => exact ⟨0, Nat.zero_le _, rfl, HST.out⟩
  case round =>
    obtain ⟨k, hk, rfl, hbs⟩ := hrel
    have HB := Lib.hid hbs
    obtain ⟨hbx, c0, c1⟩ := hbs.box
    clear hbs
    by_cases hlt : k < z
    · obtain ⟨b, off, rfl, hl, hc⟩ := HR.out.b HB.out.below (Nat.le_refl _) (by omega)
      have hx := hc k hlt
      clear hc hl
      cases hF : F k with
      | true =>
        rw [hF] at hx
        have HF := Lib.hid hF
        clear hF
        obtain ⟨W1, hW1, hW2, hW3⟩ := HB.out.words
        have HW2 := Lib.hid hW2
        have HW1 := Lib.hid hW1
        have HW3 := Lib.hid hW3
        clear hW1 hW2 hW3
        go_wp2_with fail
        refine (spec_biSet z g m m k W1 _ (by have := HM.out; omega) HW3.out HW1.out (by have := HM.out; omega)).mono ?_; rintro e w2 ⟨rfl, ⟨W2, h1, h2, h3⟩, hgr⟩
        have hnx : BS w w.heap.size w1.heap.size g z m (k + 1) F w2 :=
          ⟨HB.out.below.trans (below_of_grown hgr HB.out.below.size (by omega)), HB.out.box.far' hgr (by omega), HB.out.rbox.far' hgr (by omega), free_far HB.out.free HB.out.rbox.1 hgr (by omega), ⟨W2, h1, fun i hi => by
            rw [h2 i hi, HW2.out i hi]
            by_cases e : i = k
            · subst e; simp [HF.out]
            · simp [e, show (i < k + 1) = (i < k) by simp; omega], h3⟩⟩
        have HN := Lib.hid hnx
        clear hnx h1 h2 h3 hgr HB c0 c1
        go_wp2_with fail
        go_roundw
        case rel => exact ⟨k + 1, by omega, by go_num, HN.out⟩
        case measure => simp [intOf]; omega
      | false =>
        rw [hF] at hx
        have HN := Lib.hid (show BS w w.heap.size w1.heap.size g z m (k + 1) F wr by
          obtain ⟨W1, hW1, hW2, hW3⟩ := HB.out.words
          exact ⟨HB.out.below, HB.out.box, HB.out.rbox, HB.out.free, ⟨W1, hW1, fun i hi => by
            rw [hW2 i hi]
            by_cases e : i = k
            · subst e; simp [hF]
            · simp [show (i < k + 1) = (i < k) by simp; omega], hW3⟩⟩)
        clear hF HB
        go_wp2_with fail
        go_roundw
        case rel => exact ⟨k + 1, by omega, by go_num, HN.out⟩
        case measure => simp [intOf]; omega
    · obtain rfl : k = z := by omega
      obtain ⟨hr0, d0, d1⟩ := HB.out.rbox
      obtain ⟨f0, f1⟩ := HB.out.free
      go_wp2_with fail
      refine bodyPost_ret (v := .agg #[.int .i64 k, .slice (some ⟨g, 0, none⟩) m m]) (by simp [results, Try.results76, go_sem, d0, d1]) rfl ?_
      obtain ⟨W1, hW1, hW2, hW3⟩ := HB.out.words
      have he := words_eq (f := fun i => decide (i < k) && F i) hW1 hW2
      exact ⟨g, rfl, by omega, ((hW3.setAt (by omega) _).setAt (by omega) _).congr (fun i hi => by rw [he i hi]), below_setAt (below_setAt HB.out.below (by omega) _) (by omega) _⟩
end Go.Proofs.Ythaipemgndahfaa
