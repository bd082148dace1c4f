/- XorBits: the program's and the model's. -/
import Derived.Test.YtijlpbcgkecinaaGen
import Derived.Test.YtijlpbcgkecinaaPutF
namespace Go.Proofs.Ytijlpbcgkecinaa
open Go.RowKit

/-- What a function of two vectors keeps from call to call: both arguments' boxes and rows. -/
structure TS (w : World) (b0 b1 : Nat) (z : Int) (A : Option Addr) (n c : Nat) (X : Nat → Int) (y : Int) (B : Option Addr) (m d : Nat) (Y : Nat → Int) (wi : World) : Prop where
  below : Below w.heap.size w wi
  row0 : IRow wi A n X
  row1 : IRow wi B m Y
  box0 : Box wi b0 z A n c
  box1 : Box wi b1 y B m d
section
variable {w wi wj : World} {b0 b1 : Nat} {z y : Int} {A B : Option Addr} {n c m d : Nat} {X Y : Nat → Int}
theorem TS.step (h : TS w b0 b1 z A n c X y B m d Y wi) (hb : Below wi.heap.size wi wj) : TS w b0 b1 z A n c X y B m d Y wj :=
  ⟨h.below.trans (hb.mono h.below.size), h.row0.b hb, h.row1.b hb, h.box0.b hb, h.box1.b hb⟩
theorem TS.low (h : TS w b0 b1 z A n c X y B m d Y wi) {L : Nat} (hb : Below L wi wj) (hr : IRow w A n X) (hs : IRow w B m Y) (hw : w.heap.size ≤ L) (h0 : b0 < L) (h1 : b1 < L) : TS w b0 b1 z A n c X y B m d Y wj :=
  ⟨h.below.trans (hb.mono hw), hr.below (h.below.trans (hb.mono hw)) (Nat.le_refl _), hs.below (h.below.trans (hb.mono hw)) (Nat.le_refl _),
   ⟨Nat.lt_of_lt_of_le h.box0.1 hb.size, (hb.cell (p := ⟨b0, 0, none⟩) h0).trans h.box0.2.1, (hb.cell (p := ⟨b0, 1, none⟩) h0).trans h.box0.2.2⟩,
   ⟨Nat.lt_of_lt_of_le h.box1.1 hb.size, (hb.cell (p := ⟨b1, 0, none⟩) h1).trans h.box1.2.1, (hb.cell (p := ⟨b1, 1, none⟩) h1).trans h.box1.2.2⟩⟩
theorem TS.start (hr : IRow w A n X) (hs : IRow w B m Y) (t : TypeId) : TS w w.heap.size (w.heap.size + 1) z A n c X y B m d Y ((w.alloc (.cells #[.int .i64 z, .slice A n c] t)).alloc (.cells #[.int .i64 y, .slice B m d] t)) := by
  have h0 : Below w.heap.size w (w.alloc (.cells #[.int .i64 z, .slice A n c] t)) := (Below.refl _ _).alloc (Nat.le_refl _) _
  have h1 : Below (w.alloc (.cells #[.int .i64 z, .slice A n c] t)).heap.size (w.alloc (.cells #[.int .i64 z, .slice A n c] t)) ((w.alloc (.cells #[.int .i64 z, .slice A n c] t)).alloc (.cells #[.int .i64 y, .slice B m d] t)) := (Below.refl _ _).alloc (Nat.le_refl _) _
  have h2 := Box.new (w.alloc (.cells #[.int .i64 z, .slice A n c] t)) y B m d t
  simp only [World.size_alloc] at h2
  exact ⟨h0.trans (h1.mono h0.size), (hr.b h0).b h1, (hs.b h0).b h1, (Box.new w z A n c t).b h1, h2⟩
end

def xorF (X Y : Nat → Int) (z : Nat) (i : Nat) : Bool := decide (i < z) && (bitN (fun i => (X i).toNat) i != bitN (fun i => (Y i).toNat) i)

theorem TS.res (w : World) (oa ob : Obj) (t : TypeId) : RB w (w.heap.size + 2) (((w.alloc oa).alloc ob).alloc (.cells #[.int .i64 0, .slice none 0 0] t)) := by
  have h := Box.new ((w.alloc oa).alloc ob) 0 none 0 0 t
  have f := free_new ((w.alloc oa).alloc ob) #[.int .i64 0, .slice none 0 0] t
  simp only [World.size_alloc] at h f
  exact ⟨(((Below.refl _ _).alloc (Nat.le_refl _) _).alloc (by simp) _).alloc (by simp; omega) _, h, f⟩

theorem xor_w (x y : Nat) (hx : x < 65536) (hy : y < 65536) : bits .xor .i64 (x : Int) (y : Int) = ((x ^^^ y : Nat) : Int) := i64_xor_nat x y (by omega) (by omega)
theorem xor_words {z n : Nat} {X Y : Nat → Int} (hg : Good z n X) (hh : Good z n Y) {k : Nat} (hk : k < n) : (X k).toNat ^^^ (Y k).toNat = wordsOf (xorF X Y z) k := by
  have e1 : ∀ i, i < 16 * n → bitN (fun k => (X k).toNat ^^^ (Y k).toNat) i = (bitN (fun i => (X i).toNat) i != bitN (fun i => (Y i).toNat) i) := fun i _ => by
    unfold bitN; rw [Nat.testBit_xor]
  refine words_eq (W := fun k => (X k).toNat ^^^ (Y k).toNat) (m := n) (f := xorF X Y z) (fun i hi => ?_) (fun i hi => ?_) k hk
  · have h1 := hg.2.2.2 i hi; have h2 := hh.2.2.2 i hi; have h3 := cap_le z i
    exact Nat.xor_lt_two_pow (n := 16) (by omega) (by omega)
  · rw [e1 i hi]; unfold xorF
    by_cases c : i < z
    · simp [c]
    · rw [good_high hg (by omega) hi, good_high hh (by omega) hi]; simp [c]

theorem BS.step {w wi wj : World} {b0 b1 g z m k : Nat} {F : Nat → Bool} (h : BS w b0 b1 g z m k F wi) (hb : Below wi.heap.size wi wj) : BS w b0 b1 g z m k F wj :=
  ⟨h.below.trans (hb.mono h.below.size), h.box.b hb, h.rbox.b hb, free_below h.free h.rbox.1 hb, let ⟨W1, h1, h2, h3⟩ := h.words; ⟨W1, h1, h2, h3.b hb⟩⟩

set_option maxRecDepth 100000 in
set_option maxHeartbeats 1000000 in
theorem spec_biXor (z : Nat) (A B : Option Addr) (n c d : Nat) (X Y : Nat → Int) (w : World) (hn : n ≤ 1048576) (hr : IRow w A n X) (hs : IRow w B n Y) (hg : Good z n X) (hh : Good z n Y) :
    Calls Try.prog 103 #[.agg #[.int .i64 z, .slice A n c], .agg #[.int .i64 z, .slice B n d]] w (SomeIs z n (xorF X Y z) w) := by
  have T0 := Lib.hid (TS.start (z := (z : Int)) (y := (z : Int)) (c := c) (d := d) hr hs 55)
  have HG := Lib.hid hg
  have HH := Lib.hid hh
  have HR := Lib.hid hr
  have HS := Lib.hid hs
  have hz : z ≤ 4096 := by have := hg.2.1; omega
  have hnz : n = (z + 15) / 16 := by have := hg.2.2.1; omega
  have HNZ := Lib.hid hnz
  have hn2 : n ≤ 256 := by omega
  clear hg hh hr hs hnz
  go_enter Try.func103, Try.ntmps103
  go_wp2_with fail
  refine (spec_biNew z n _ hz HNZ.out).mono ?_; rintro e w1 ⟨g, rfl, hg, ho, hb⟩
  have hlow : w.heap.size + 3 ≤ g := by simp at hg; omega
  have hg3 := ho.lt
  have RB0 := Lib.hid (TS.res w (.cells #[.int .i64 z, .slice A n c] 55) (.cells #[.int .i64 z, .slice B n d] 55) 55)
  have RB1 := Lib.hid (RB0.out.b hb)
  have T1 := Lib.hid ((T0.out.step ((Below.refl _ _).alloc (Nat.le_refl _) (.cells #[.int .i64 0, .slice none 0 0] 55))).step hb)
  have HST := Lib.hid (show BS w (w.heap.size + 2) w1.heap.size g z n 0 (xorF X Y z) (w1.alloc (.cells #[.int .i64 z, .slice (some ⟨g, 0, none⟩) n n] 55)) from
    ⟨RB1.out.below.alloc RB1.out.below.size _, Box.new _ _ _ _ _ _, RB1.out.box.alloc _, free_below RB1.out.free RB1.out.box.1 ((Below.refl _ _).alloc (Nat.le_refl _) _), ⟨fun _ => 0, fun _ _ => (by show 0 < 65536; omega), fun i _ => by simp [bitN], ho.alloc _⟩⟩)
  have T2 := Lib.hid (T1.out.step ((Below.refl _ _).alloc (Nat.le_refl _) (.cells #[.int .i64 z, .slice (some ⟨g, 0, none⟩) n n] 55)))
  clear hb ho hg T0 T1 RB0 RB1
  go_wp2_with fail
  go_loopw [6] (fun i wr => ∃ k : Nat, k ≤ z ∧ i = .int .i64 k ∧ BS w (w.heap.size + 2) w1.heap.size g z n k (xorF X Y z) wr ∧ TS w w.heap.size (w.heap.size + 1) z A n c X z B n d Y wr) (fun i _ => z - (intOf i).toNat)
  case atStart => exact ⟨0, Nat.zero_le _, rfl, HST.out, T2.out⟩
  case round =>
    obtain ⟨k, hk, rfl, hbs, ht⟩ := hrel
    have HB3 := Lib.hid hbs
    have T3 := Lib.hid ht
    obtain ⟨hs1, c0, c1⟩ := ht.box0
    obtain ⟨hs2, c2, c3⟩ := ht.box1
    clear hbs ht HST T2
    by_cases hlt : k < z
    · have hkn : k < 16 * n := by have := HNZ.out; omega
      go_wp2_with fail
      go_region_held3 (fun w' => w'.cell? ⟨w.heap.size, 0, none⟩ = some (.int .i64 z) ∧ w'.cell? ⟨w.heap.size, 1, none⟩ = some (.slice A n c) ∧ w'.cell? ⟨w.heap.size + 1, 0, none⟩ = some (.int .i64 z) ∧ w'.cell? ⟨w.heap.size + 1, 1, none⟩ = some (.slice B n d))
        (first | go_keep | exact ⟨((T3.out.step hb6).step hb7).box0.2.1, ((T3.out.step hb6).step hb7).box0.2.2, ((T3.out.step hb6).step hb7).box1.2.1, ((T3.out.step hb6).step hb7).box1.2.2⟩ | exact ⟨(T3.out.step hb6).box0.2.1, (T3.out.step hb6).box0.2.2, (T3.out.step hb6).box1.2.1, (T3.out.step hb6).box1.2.2⟩)
        (first
          | (have hb := hb6; clear hb; go_at_call 101; refine (spec_biAt z B n d (fun i => (Y i).toNat) k _ hn ?_ hkn).mono ?_; exact good_row HH.out (T3.out.step hb6).row1; rintro e w7 ⟨rfl, hb7⟩)
          | (go_at_call 101; refine (spec_biAt z A n c (fun i => (X i).toNat) k _ hn ?_ hkn).mono ?_; exact good_row HG.out T3.out.row0; rintro e w6 ⟨rfl, hb6'⟩; have hb6 := of_drew hb6'; clear hb6'))
      have T5 := Lib.hid ((T3.out.step hb6).step hb7)
      have HB5 := Lib.hid ((HB3.out.step hb6).step hb7)
      clear hb6 hb7 T3 HB3 c0 c1 c2 c3 hs1 hs2
      obtain ⟨hbx, c0, c1⟩ := HB5.out.box
      obtain ⟨W1, hW1, hW2, hW3⟩ := HB5.out.words
      have HW2 := Lib.hid hW2
      have HW1 := Lib.hid hW1
      have HW3 := Lib.hid hW3
      clear hW1 hW2 hW3
      cases hF : xorF X Y z k with
      | true =>
        have hq : (!(bitN (fun i => (X i).toNat) k == bitN (fun i => (Y i).toNat) k)) = true := by
          unfold xorF at hF; simp only [hlt, decide_true, Bool.true_and] at hF; exact hF
        have HF := Lib.hid hF
        clear hF
        rw [hq]
        go_wp2_with fail
        refine (spec_biSet z g n n k W1 _ hn2 HW3.out HW1.out hkn).mono ?_; rintro e w8 ⟨rfl, ⟨W2, h1, h2, h3⟩, hgr⟩
        have HN := Lib.hid (show BS w (w.heap.size + 2) w1.heap.size g z n (k + 1) (xorF X Y z) w8 from
          ⟨HB5.out.below.trans (below_of_grown hgr HB5.out.below.size (by omega)), HB5.out.box.far' hgr (by omega), HB5.out.rbox.far' hgr (by omega), free_far HB5.out.free HB5.out.rbox.1 hgr (by omega), ⟨W2, h1, fun i hi => by
            rw [h2 i hi, HW2.out i hi]
            by_cases e : i = k
            · subst e; simp [HF.out]
            · simp [e, show (i < k + 1) = (i < k) by simp; omega], h3⟩⟩)
        have T6 := Lib.hid (T5.out.low (L := g) (below_of_grown hgr (by omega) (Nat.le_refl _)) HR.out HS.out (by omega) (by omega) (by omega))
        clear h1 h2 h3 hgr HB5 T5 c0 c1
        go_wp2_with fail
        go_roundw
        case rel => exact ⟨k + 1, by omega, by go_num, HN.out, T6.out⟩
        case measure => simp [intOf]; omega
      | false =>
        have hq : (!(bitN (fun i => (X i).toNat) k == bitN (fun i => (Y i).toNat) k)) = false := by
          unfold xorF at hF; simp only [hlt, decide_true, Bool.true_and] at hF; exact hF
        have HN := Lib.hid (show BS w (w.heap.size + 2) w1.heap.size g z n (k + 1) (xorF X Y z) w7 from
          ⟨HB5.out.below, HB5.out.box, HB5.out.rbox, HB5.out.free, ⟨W1, HW1.out, fun i hi => by
            rw [HW2.out i hi]
            by_cases e : i = k
            · subst e; simp [hF]
            · simp [show (i < k + 1) = (i < k) by simp; omega], HW3.out⟩⟩)
        clear hF HB5
        rw [hq]
        go_wp2_with fail
        go_roundw
        case rel => exact ⟨k + 1, by omega, by go_num, HN.out, T5.out⟩
        case measure => simp [intOf]; omega
    · obtain rfl : k = z := by omega
      obtain ⟨hr0, d0, d1⟩ := HB3.out.rbox
      obtain ⟨f0, f1⟩ := HB3.out.free
      obtain ⟨hbx, e0, e1⟩ := HB3.out.box
      go_wp2_with fail
      refine bodyPost_ret (v := .agg #[.int .i64 k, .slice (some ⟨g, 0, none⟩) n n]) (by simp [results, Try.results103, go_sem, d0, d1]) rfl ?_
      obtain ⟨W1, hW1, hW2, hW3⟩ := HB3.out.words
      have he := words_eq (f := xorF X Y k) hW1 (fun i hi => by
        rw [hW2 i hi]; unfold xorF
        by_cases c : i < k <;> simp [c])
      exact ⟨g, rfl, by omega, ((hW3.setAt (by omega) _).setAt (by omega) _).congr (fun i hi => by rw [he i hi]), below_setAt (below_setAt HB3.out.below (by omega) _) (by omega) _⟩

end Go.Proofs.Ytijlpbcgkecinaa
