/- The law FnBitTexts, walked. -/
import Derived.Test.YtglccgpiakadbaaJoinsAreCutWalk
import Derived.Test.YtglccgpiakadbaaText
import Derived.Test.YtglccgpiakadbaaParse
import Derived.Test.YtglccgpiakadbaaPutB
namespace Go.Proofs.Ytglccgpiakadbaa
open Go.RowKit

theorem textOf_size (f : Nat → Bool) (n : Nat) : (textOf f n).size = n := by simp [textOf, strOfNums_size]
theorem textOf_at (f : Nat → Bool) (n k : Nat) (h : k < (textOf f n).size) : (((textOf f n)[k]'h).toNat : Int) = digN (f k) := by
  have hk : k < n := by rw [textOf_size] at h; exact h
  have e : (textOf f n)[k]'h = UInt8.ofNat (digN (f k)).toNat := by
    show (textOf f n).data[k]'h = _
    simp [textOf, strOfNums]
  rw [e]; unfold digN; cases f k <;> rfl
theorem dash_list : ((⟨#[45]⟩ : ByteArray).toList == [45]) = true := by rw [ByteArray.toList_eq]; rfl
theorem digN_49 (b : Bool) : digN b = 49 ↔ b = true := by unfold digN; cases b <;> simp
theorem text_dash {f : Nat → Bool} {n : Nat} (h : 0 < n) : ((textOf f n).toList == [45]) = false := by
  have h0 : 0 < (textOf f n).size := by rw [textOf_size]; exact h
  have h1 := textOf_at f n 0 h0
  cases hh : (textOf f n).toList == [45] with
  | false => rfl
  | true =>
    exfalso
    have e : (textOf f n).toList = [45] := by simpa using hh
    have e2 : (textOf f n).data.toList = [45] := by rw [← ByteArray.toList_eq]; exact e
    have e3 : (textOf f n)[0]'h0 = 45 := by
      show (textOf f n).data[0]'h0 = _
      rw [← Array.getElem_toList]; simp [e2]
    rw [e3] at h1
    unfold digN at h1
    split at h1 <;> simp at h1
/-- The bits of a vector below k. -/
def lowF (X : Nat → Int) (k i : Nat) : Bool := decide (i < k) && bitN (fun i => (X i).toNat) i
def lowW (X : Nat → Int) (k i : Nat) : Int := (wordsOf (lowF X k) i : Int)
theorem lowW_bit (X : Nat → Int) (k i : Nat) : bitN (fun j => (lowW X k j).toNat) i = lowF X k i := bit_wordsI _ _
theorem lowW_good {X : Nat → Int} {z n k : Nat} (hz : z ≤ 4096) (hn : n = (z + 15) / 16) (hk : k ≤ z) : Good z n (lowW X k) :=
  good_of_words hz hn (fun i hi => by unfold lowF; simp only [show ¬ i < k by omega, decide_false, Bool.false_and])
theorem lowW_zero (X : Nat → Int) (i : Nat) : lowW X 0 i = 0 := by
  unfold lowW
  have : wordsOf (lowF X 0) i = 0 := by
    apply Nat.eq_of_testBit_eq
    intro j
    rw [wordsOf, ofB_bit]; simp [lowF]
  rw [this]; rfl
theorem words_congr {f g : Nat → Bool} (h : ∀ i, f i = g i) (k : Nat) : wordsOf f k = wordsOf g k := by
  have : f = g := funext h
  rw [this]
theorem lowW_on {X : Nat → Int} {z k : Nat} (hk : k < z) (hb : bitN (fun i => (X i).toNat) k = true) (i : Nat) : ((wordsOf (putF z (lowW X k) k 1 (if true = true then 1 else 0)) i : Nat) : Int) = lowW X (k + 1) i := by
  refine congrArg (fun x : Nat => (x : Int)) (words_congr (fun j => ?_) i)
  unfold putF
  rw [lowW_bit X k j]
  unfold lowF
  by_cases c : j = k
  · subst c
    simp [hk, hb]
  · by_cases c2 : j < k
    · have h1 : j < z := by omega
      have h2 : ¬ (k ≤ j ∧ j < k + 1) := by omega
      have h3 : j < k + 1 := by omega
      rw [if_neg h2]; simp [h1, h3, c2]
    · have h2 : ¬ (k ≤ j ∧ j < k + 1) := by omega
      have h3 : ¬ j < k + 1 := by omega
      rw [if_neg h2]; simp [h3, c2]
theorem lowW_off {X : Nat → Int} {k : Nat} (hb : bitN (fun i => (X i).toNat) k = false) (i : Nat) : lowW X k i = lowW X (k + 1) i := by
  refine congrArg (fun x : Nat => (x : Int)) (words_congr (fun j => ?_) i)
  unfold lowF
  by_cases c : j = k
  · subst c; simp [hb]
  · have : (j < k) = (j < k + 1) := by simp; omega
    simp [this]
theorem lowW_all {X : Nat → Int} {z n : Nat} (hg : Good z n X) {i : Nat} (hi : i < n) : lowW X z i = X i := good_words hg (fun _ _ => rfl) hi

set_option maxRecDepth 100000 in
set_option maxHeartbeats 1000000 in
theorem draw_bitsText (A : Option Addr) (n c : Nat) (D : Nat → Int) (w : World) (hn : n ≤ 1048576) (hr : GRow w A n (u8V D)) (hD : ∀ i, i < n → 0 ≤ D i ∧ D i < 256) :
    Calls Try.prog 43 #[.slice A n c] w fun e w' => ∃ (z : Int) (B : Option Addr) (m d : Nat) (X : Nat → Int), e = .returned (.agg #[.int .i64 z, .slice B m d]) ∧ VecIn w z B m d X w' ∧ Below w.heap.size w w' := by
  have h0 := (CurS.start (w := w.alloc (.cells #[.int .i64 0, .slice none 0 0] 26)) c (hr.al _) hD).still
  have hx := NBX.mk0 w #[.int .i64 0, .slice none 0 0] 26
  simp only [World.size_alloc] at h0
  have H0 := Lib.hid h0
  have HX := Lib.hid (hx.at1 (.cells #[.slice A n c, .int .i64 0, .int .u64 0] 81))
  have FB := Lib.hid (((At.start w).alloc (.cells #[.int .i64 0, .slice none 0 0] 26)).alloc (.cells #[.slice A n c, .int .i64 0, .int .u64 0] 81))
  clear h0 hx hr hD
  go_enter Try.func43, Try.ntmps43
  go_wp2_with fail
  refine (cur_anyBits H0.out.1 (by omega) hn).mono ?_; rintro e w1 ⟨z, m, d, B, X, z0, z1, hm, hmd, hdm, rfl, ho, hd⟩
  have HX1 := Lib.hid (HX.out.only hd.2 (by omega))
  have F1 := Lib.hid (FB.out.far hd.2 (.inl (by omega)))
  simp only [World.size_alloc] at ho
  have HO1 := Lib.hid (owned ho)
  clear hd ho H0 HX FB
  have c0 := HX1.out.cell 0 _ rfl
  have c1 := HX1.out.cell 1 _ rfl
  have f0 := HX1.out.free 0
  have f1 := HX1.out.free 1
  go_wp2_with fail
  refine bodyPost_ret (v := .agg #[.int .i64 z, .slice B m d]) (by simp [results, Try.results43, go_sem, c0, c1]) rfl ?_
  have HF := (HO1.out.setC (q := w.heap.size) (by omega) 0 (.int .i64 z)).setC (q := w.heap.size) (by omega) 1 (.slice B m d)
  exact ⟨z, B, m, d, X, rfl, ⟨z0, z1, hm, hmd, hdm, HF.now.mono (by omega) HF.top⟩, below_setAt (below_setAt F1.out.now (by omega) _) (by omega) _⟩

/-- What the text of a valid vector is to the law. -/
theorem text_facts {Z a : Nat} {P : Option Addr} {pc : Nat} {X : Nat → Int} (ha : a ≤ 257) (hg : Good Z a X) : ∃ s : ByteArray,
    (∀ v, IRow v P a X → Calls Try.prog 44 #[.agg #[.int .i64 Z, .slice P a pc]] v fun e w' => e = .returned (.tuple #[.string s, .bool true]) ∧ Below v.heap.size v w') ∧
    (∀ v, IRow v P a X → Calls Try.prog 45 #[.agg #[.int .i64 Z, .slice P a pc]] v fun e w' => e = .returned (.tuple #[.string s, .bool true]) ∧ Below v.heap.size v w') ∧
    (∀ v, Calls Try.prog 47 #[.string s] v fun e w' => ∃ C q, e = .returned (.tuple #[.agg #[.int .i64 Z, .slice C a q], .bool true]) ∧ Ow v.heap.size w'.heap.size 3 C a (intV X) w' ∧ Below v.heap.size v w') ∧
    (∀ k, k < Z → ∃ h : k < s.size, (s[k].toNat : Int) = digN (bitN (fun i => (X i).toNat) k)) := by
  have hz : Z ≤ 4096 := by have := hg.2.1; omega
  have haz : a = (Z + 15) / 16 := by have := hg.2.2.1; omega
  rcases Nat.eq_zero_or_pos Z with h0 | h0
  · subst h0
    obtain rfl : a = 0 := by omega
    refine ⟨⟨#[45]⟩, fun v hr => impl_text_zero P 0 pc X v (by omega) hr hg, fun v hr => spec_text 0 ⟨#[45]⟩ true P 0 pc X v (by omega) hr (by simpa using hg) (fun _ w _ => spec_biText_zero P 0 pc w) (by simp),
      fun v => (impl_parse_dash ⟨#[45]⟩ v dash_list).mono fun e w' ⟨C, q, he, hv, hb⟩ => ⟨C, q, he, (ow_of_vec hv).congr (fun i hi => absurd hi (by omega)), hb⟩, fun k hk => absurd hk (by omega)⟩
  · have hd := text_dash (f := bitN fun i => (X i).toNat) h0
    refine ⟨textOf (bitN fun i => (X i).toNat) Z, fun v hr => impl_text_yes Z P a pc X v (by omega) hr hg h0,
      fun v hr => spec_text Z _ true P a pc X v (by omega) hr (by simpa using hg) (fun _ w hr => spec_biText Z a pc P _ w (by omega) hz (by omega) h0 (good_row hg hr)) (by simp),
      fun v => (impl_parse_yes _ Z a v (textOf_size _ _).symm h0 hz haz hd (fun k h => by
        have e := textOf_at (bitN fun i => (X i).toNat) Z k h
        unfold digB; rw [e]; unfold digN; split <;> simp)).mono fun e w' ⟨C, q, he, hv, hb⟩ => ⟨C, q, he, (ow_of_vec hv).congr (fun i hi => congrArg (Value.int .i64) ?_), hb⟩,
      fun k hk => ⟨by rw [textOf_size]; exact hk, textOf_at _ _ _ _⟩⟩
    refine good_words hg (fun j _ => ?_) hi
    by_cases c : j < Z
    · have h := parseF_at (textOf (bitN fun i => (X i).toNat) Z) j (by rw [textOf_size]; exact c)
      rw [h, textOf_at]
      simp only [c, decide_true, Bool.true_and]
      cases hb : bitN (fun i => (X i).toNat) j <;> simp [digN]
    · have hl : ¬ j < (textOf (bitN fun i => (X i).toNat) Z).data.toList.length := by
        have := textOf_size (bitN fun i => (X i).toNat) Z
        have e : (textOf (bitN fun i => (X i).toNat) Z).data.toList.length = (textOf (bitN fun i => (X i).toNat) Z).size := by simp
        omega
      unfold parseF
      simp only [hl, c, decide_false, Bool.false_and]

/-- A box whose cells may be written. -/
theorem boxN (w : World) (cs : Array Value) (t : TypeId) : At w.heap.size (w.heap.size + 1) (NBX 0 w.heap.size cs t) (w.alloc (.cells cs t)) :=
  ⟨⟨Go.Deep.blk_alloc_new _ _, Nat.zero_le _⟩, by simp, fun v v' _ _ _ _ hk h => ⟨(hk _ (Nat.le_refl _) (by omega)).trans h.blk, h.ge⟩⟩
theorem nbx_lives (q : Nat) (cs : Array Value) (t : TypeId) : Lives q (q + 1) (NBX 0 q cs t) := fun v v' _ _ _ _ hk h => ⟨(hk _ (Nat.le_refl _) (by omega)).trans h.blk, h.ge⟩

theorem At.setD {lo hi q : Nat} {P : World → Prop} {w : World} (a : At lo hi P w) (h : hi ≤ q ∨ q + 1 ≤ lo) (i : Nat) (v : Value) : At lo hi P (w.setCell ⟨q, i, none⟩ v) := a.far (only_set w q i v) h
theorem nbx_set2 {q : Nat} {u v u' v' : Value} {t : TypeId} {w : World} (h : At q (q + 1) (NBX 0 q #[u, v] t) w) : At q (q + 1) (NBX 0 q #[u', v'] t) ((w.setCell ⟨q, 0, none⟩ u').setCell ⟨q, 1, none⟩ v') :=
  ⟨((h.now.set 0 u').set 1 v' : NBX 0 q ((#[u, v].setIfInBounds 0 u').setIfInBounds 1 v') t _), by have := h.top; simp; omega, nbx_lives _ _ _⟩

set_option maxRecDepth 100000 in
set_option maxHeartbeats 8000000 in
theorem walk_FnBitTexts (w : World) (A : Option Addr) (n c : Nat) (D : Nat → Int) (hn : n ≤ maxLen) (hr : URow w A n D) (B : Option Addr) (m d : Nat) (E : Nat → Int) (hm : m ≤ maxLen) (_hs : URow w B m E) :
    Calls Try.prog 6 #[.slice A n c, .slice B m d] w fun e w' => e = .returned (.bool true) ∧ Below w.heap.size w w' := by
  have HR := Lib.hid hr
  clear hr
  by_cases hbig : n + m ≤ 1048576
  rotate_left
  · have hb : (!decide (n + m ≤ 1048576)) = true := by simp; omega
    go_enter Try.func6, Try.ntmps6
    go_wp2_with fail
    refine (big_is A B n c m d w hn hm).mono ?_; rintro e w' ⟨rfl, rfl⟩
    rw [hb]
    go_wp2_with fail
    go_ret
    exact ⟨rfl, Below.refl _ _⟩
  have hb : (!decide (n + m ≤ 1048576)) = false := by simp; omega
  go_enter Try.func6, Try.ntmps6
  go_wp2_with fail
  refine (big_is A B n c m d w hn hm).mono ?_; rintro e w' ⟨rfl, rfl⟩
  rw [hb]
  clear hb
  have FB := Lib.hid (At.start w)
  go_wp2_with fail
  refine (draw_bitsText A n c D w (by omega) HR.out.1 HR.out.2).mono ?_; rintro e w1 ⟨z, P, a, pc, X, rfl, hx, hb⟩
  replace FB := Lib.hid (FB.out.b hb)
  have z_w1 : w.heap.size ≤ w1.heap.size := by have hsz := hb.size; first | omega | (simp at hsz; omega)
  obtain ⟨z0, z1, ha, _, _, ho1⟩ := hx
  have OX := Lib.hid (owned (ho1.mono (lo' := w.heap.size) (Nat.le_refl _) (Nat.le_refl _)))
  clear hb ho1
  by_cases hg : Good z a X
  rotate_left
  · have HG := Lib.hid hg
    clear hg
    replace FB := Lib.hid (FB.out.alloc (.cells #[.int .i64 z, .slice P a pc] 26))
    replace OX := Lib.hid (OX.out.alloc (.cells #[.int .i64 z, .slice P a pc] 26))
    have BX := Lib.hid (boxed w1 #[.int .i64 z, .slice P a pc] 26)
    have c_BX_0 := BX.out.now 0 _ rfl
    have c_BX_1 := BX.out.now 1 _ rfl
    go_wp2_with fail
    refine (impl_text_no z P a pc X _ (by omega) OX.out.orow HG.out).mono ?_; rintro e w2 ⟨rfl, hb⟩
    replace FB := Lib.hid (FB.out.b hb)
    replace OX := Lib.hid (OX.out.b hb)
    replace BX := Lib.hid (BX.out.b hb)
    have z_w2 : w1.heap.size + 1 ≤ w2.heap.size := by have hsz := hb.size; first | omega | (simp at hsz; omega)
    clear c_BX_0 c_BX_1
    clear hb
    have c_BX_0 := BX.out.now 0 _ rfl
    have c_BX_1 := BX.out.now 1 _ rfl
    go_wp2_with fail
    refine (spec_text z ⟨#[]⟩ false P a pc X _ (by omega) OX.out.orow (by simpa using HG.out) (by simp) (by simp)).mono ?_; rintro e w3 ⟨rfl, hb⟩
    replace FB := Lib.hid (FB.out.b hb)
    replace OX := Lib.hid (OX.out.b hb)
    replace BX := Lib.hid (BX.out.b hb)
    have z_w3 : w2.heap.size ≤ w3.heap.size := by have hsz := hb.size; first | omega | (simp at hsz; omega)
    clear c_BX_0 c_BX_1
    clear hb
    have c_BX_0 := BX.out.now 0 _ rfl
    have c_BX_1 := BX.out.now 1 _ rfl
    go_wp2_with fail
    refine (isBits_no (by omega) OX.out.orow HG.out).mono ?_; rintro e w4 ⟨rfl, hb⟩
    replace FB := Lib.hid (FB.out.b hb)
    replace OX := Lib.hid (OX.out.b hb)
    replace BX := Lib.hid (BX.out.b hb)
    have z_w4 : w3.heap.size ≤ w4.heap.size := by have hsz := hb.size; first | omega | (simp at hsz; omega)
    clear c_BX_0 c_BX_1
    clear hb
    go_wp2_with fail
    go_ret
    exact ⟨rfl, FB.out.now⟩
  obtain ⟨Z, rfl⟩ : ∃ Z : Nat, z = Z := ⟨z.toNat, by have := hg.1; omega⟩
  have haz : a = (Z + 15) / 16 := by have := hg.2.2.1; omega
  obtain ⟨s, hT, hS, hP, hdig⟩ := text_facts (P := P) (pc := pc) ha hg
  have HG := Lib.hid hg
  have HAZ := Lib.hid haz
  have HT := Lib.hid hT
  have HS := Lib.hid hS
  have HP := Lib.hid hP
  have HDIG := Lib.hid hdig
  clear hg haz hT hS hP hdig
  replace FB := Lib.hid (FB.out.alloc (.cells #[.int .i64 (Z : Int), .slice P a pc] 26))
  replace OX := Lib.hid (OX.out.alloc (.cells #[.int .i64 (Z : Int), .slice P a pc] 26))
  have BX := Lib.hid (boxed w1 #[.int .i64 (Z : Int), .slice P a pc] 26)
  have c_BX_0 := BX.out.now 0 _ rfl
  have c_BX_1 := BX.out.now 1 _ rfl
  go_wp2_with fail
  refine (HT.out _ OX.out.orow).mono ?_; rintro e w2 ⟨rfl, hb⟩
  replace FB := Lib.hid (FB.out.b hb)
  replace OX := Lib.hid (OX.out.b hb)
  replace BX := Lib.hid (BX.out.b hb)
  have z_w2 : w1.heap.size + 1 ≤ w2.heap.size := by have hsz := hb.size; first | omega | (simp at hsz; omega)
  clear c_BX_0 c_BX_1
  clear hb
  have c_BX_0 := BX.out.now 0 _ rfl
  have c_BX_1 := BX.out.now 1 _ rfl
  go_wp2_with fail
  refine (HS.out _ OX.out.orow).mono ?_; rintro e w3 ⟨rfl, hb⟩
  replace FB := Lib.hid (FB.out.b hb)
  replace OX := Lib.hid (OX.out.b hb)
  replace BX := Lib.hid (BX.out.b hb)
  have z_w3 : w2.heap.size ≤ w3.heap.size := by have hsz := hb.size; first | omega | (simp at hsz; omega)
  clear c_BX_0 c_BX_1
  clear hb
  have c_BX_0 := BX.out.now 0 _ rfl
  have c_BX_1 := BX.out.now 1 _ rfl
  go_wp2_with fail
  refine (isBits_yes (by omega) OX.out.orow HG.out).mono ?_; rintro e w4 ⟨rfl, hb⟩
  replace FB := Lib.hid (FB.out.b hb)
  replace OX := Lib.hid (OX.out.b hb)
  replace BX := Lib.hid (BX.out.b hb)
  have z_w4 : w3.heap.size ≤ w4.heap.size := by have hsz := hb.size; first | omega | (simp at hsz; omega)
  clear c_BX_0 c_BX_1
  clear hb
  go_wp2_with fail
  refine (HP.out _).mono ?_; rintro e w5 ⟨C, q, rfl, hv, hb⟩
  replace FB := Lib.hid (FB.out.b hb)
  replace OX := Lib.hid (OX.out.b hb)
  replace BX := Lib.hid (BX.out.b hb)
  have z_w5 : w4.heap.size ≤ w5.heap.size := by have hsz := hb.size; first | omega | (simp at hsz; omega)
  have OC := Lib.hid (owned (hv.mono (lo' := w4.heap.size) (Nat.le_refl _) (Nat.le_refl _)))
  clear hb hv
  replace FB := Lib.hid (FB.out.alloc (.cells #[.int .i64 (Z : Int), .slice C a q] 26))
  replace OX := Lib.hid (OX.out.alloc (.cells #[.int .i64 (Z : Int), .slice C a q] 26))
  replace BX := Lib.hid (BX.out.alloc (.cells #[.int .i64 (Z : Int), .slice C a q] 26))
  replace OC := Lib.hid (OC.out.alloc (.cells #[.int .i64 (Z : Int), .slice C a q] 26))
  have BC := Lib.hid (boxed w5 #[.int .i64 (Z : Int), .slice C a q] 26)
  have c_BX_0 := BX.out.now 0 _ rfl
  have c_BX_1 := BX.out.now 1 _ rfl
  go_wp2_with fail
  refine (impl_newBits_yes Z _ (by omega)).mono ?_; rintro e w6 ⟨N, nq, rfl, hv, hb⟩
  replace FB := Lib.hid (FB.out.b hb)
  replace OX := Lib.hid (OX.out.b hb)
  replace BX := Lib.hid (BX.out.b hb)
  replace OC := Lib.hid (OC.out.b hb)
  replace BC := Lib.hid (BC.out.b hb)
  have z_w6 : w5.heap.size + 1 ≤ w6.heap.size := by have hsz := hb.size; first | omega | (simp at hsz; omega)
  clear c_BX_0 c_BX_1
  rw [← HAZ.out] at hv
  rw [← HAZ.out]
  have ON := Lib.hid (owned ((show Ow _ _ _ N a (intV (lowW X 0)) _ from (ow_of_vec hv).congr (fun i _ => congrArg (Value.int .i64) (lowW_zero X i).symm)).mono (lo' := w5.heap.size + 1) (by simp) (Nat.le_refl _)))
  clear hb hv
  replace FB := Lib.hid (FB.out.alloc (.cells #[.int .i64 (Z : Int), .slice N a nq] 26))
  replace OX := Lib.hid (OX.out.alloc (.cells #[.int .i64 (Z : Int), .slice N a nq] 26))
  replace BX := Lib.hid (BX.out.alloc (.cells #[.int .i64 (Z : Int), .slice N a nq] 26))
  replace OC := Lib.hid (OC.out.alloc (.cells #[.int .i64 (Z : Int), .slice N a nq] 26))
  replace BC := Lib.hid (BC.out.alloc (.cells #[.int .i64 (Z : Int), .slice N a nq] 26))
  replace ON := Lib.hid (ON.out.alloc (.cells #[.int .i64 (Z : Int), .slice N a nq] 26))
  have BN := Lib.hid (boxN w6 #[.int .i64 (Z : Int), .slice N a nq] 26)
  have n0 := BN.out.now.cell 0 _ rfl
  have n1 := BN.out.now.cell 1 _ rfl
  have c_BC_0 := BC.out.now 0 _ rfl
  have c_BC_1 := BC.out.now 1 _ rfl
  have c_BX_0 := BX.out.now 0 _ rfl
  have c_BX_1 := BX.out.now 1 _ rfl
  by_cases h300 : (300 : Int) < (Z : Int)
  · skip
    go_wp2_with fail
    refine (pSame_yes (by omega) OC.out.orow OX.out.orow).mono ?_; rintro e w7 ⟨rfl, hb⟩
    replace FB := Lib.hid (FB.out.b hb)
    replace OX := Lib.hid (OX.out.b hb)
    replace BX := Lib.hid (BX.out.b hb)
    replace OC := Lib.hid (OC.out.b hb)
    replace BC := Lib.hid (BC.out.b hb)
    replace ON := Lib.hid (ON.out.b hb)
    replace BN := Lib.hid (BN.out.b hb)
    have z_w7 : w6.heap.size + 1 ≤ w7.heap.size := by have hsz := hb.size; first | omega | (simp at hsz; omega)
    clear c_BC_0 c_BC_1 c_BX_0 c_BX_1
    clear hb
    have c_BC_0 := BC.out.now 0 _ rfl
    have c_BC_1 := BC.out.now 1 _ rfl
    have c_BX_0 := BX.out.now 0 _ rfl
    have c_BX_1 := BX.out.now 1 _ rfl
    go_wp2_with fail
    refine (pSame_yes (by omega) OC.out.orow OX.out.orow).mono ?_; rintro e w8 ⟨rfl, hb⟩
    replace FB := Lib.hid (FB.out.b hb)
    replace OX := Lib.hid (OX.out.b hb)
    replace BX := Lib.hid (BX.out.b hb)
    replace OC := Lib.hid (OC.out.b hb)
    replace BC := Lib.hid (BC.out.b hb)
    replace ON := Lib.hid (ON.out.b hb)
    replace BN := Lib.hid (BN.out.b hb)
    have z_w8 : w7.heap.size ≤ w8.heap.size := by have hsz := hb.size; first | omega | (simp at hsz; omega)
    clear c_BC_0 c_BC_1 c_BX_0 c_BX_1
    clear hb
    go_wp2_with fail
    go_ret
    exact ⟨rfl, FB.out.now⟩
  go_wp2_with fail
  refine (pSame_yes (by omega) OC.out.orow OX.out.orow).mono ?_; rintro e w7 ⟨rfl, hb⟩
  replace FB := Lib.hid (FB.out.b hb)
  replace OX := Lib.hid (OX.out.b hb)
  replace BX := Lib.hid (BX.out.b hb)
  replace OC := Lib.hid (OC.out.b hb)
  replace BC := Lib.hid (BC.out.b hb)
  replace ON := Lib.hid (ON.out.b hb)
  replace BN := Lib.hid (BN.out.b hb)
  have z_w7 : w6.heap.size + 1 ≤ w7.heap.size := by have hsz := hb.size; first | omega | (simp at hsz; omega)
  clear c_BC_0 c_BC_1 c_BX_0 c_BX_1
  clear hb n0 n1
  clear OC BC
  have c_BX_0 := BX.out.now 0 _ rfl
  have c_BX_1 := BX.out.now 1 _ rfl
  go_wp2_with fail
  have z_bn : w6.heap.size + 1 ≤ w7.heap.size := BN.out.top
  have z_bx : w1.heap.size + 1 ≤ w7.heap.size := BX.out.top
  go_loopw [14] (fun i wr => ∃ k : Nat, k ≤ Z ∧ i = .int .i64 k ∧ At 0 w.heap.size (fun wi => Below w.heap.size w wi) wr ∧ At w.heap.size w1.heap.size (Ow w.heap.size w1.heap.size 3 P a (intV X)) wr ∧ At w1.heap.size (w1.heap.size + 1) (BoxC w1.heap.size [.int .i64 (Z : Int), .slice P a pc]) wr ∧
    (∃ (M : Option Addr) (mq lo hi : Nat), At w6.heap.size (w6.heap.size + 1) (NBX 0 w6.heap.size #[.int .i64 (Z : Int), .slice M a mq] 26) wr ∧ (hi ≤ w6.heap.size ∨ w6.heap.size + 1 ≤ lo) ∧ At lo hi (Ow lo hi 3 M a (intV (lowW X k))) wr)) (fun i _ => Z - (intOf i).toNat)
  case atStart => exact ⟨0, Nat.zero_le _, rfl, FB.out, OX.out, BX.out, N, nq, _, _, BN.out, .inl (by omega), ON.out⟩
  case round =>
    obtain ⟨k, hk, rfl, hfb, hox, hbx, M, mq, lo, hi, hbn, hlh, hom⟩ := hrel
    have FB1 := Lib.hid hfb
    have OX1 := Lib.hid hox
    have BX1 := Lib.hid hbx
    have BN1 := Lib.hid hbn
    have OM1 := Lib.hid hom
    have c0 := hbx.now 0 _ rfl
    have c1 := hbx.now 1 _ rfl
    have n0 := hbn.now.cell 0 _ rfl
    have n1 := hbn.now.cell 1 _ rfl
    have zt := hbn.top
    clear hfb hox hbx hbn hom FB OX BX BN ON
    by_cases hlt : k < Z
    · obtain ⟨hks, hdg⟩ := HDIG.out k hlt
      cases hbit : bitN (fun i => (X i).toNat) k with
      | false =>
        have e48 : (s[k].toNat : Int) = 48 := by rw [hdg, hbit]; rfl
        have b49 : ((s[k].toNat : Int) == 49) = false := by rw [e48]; rfl
        have b49' : ((s[k].toNat : Int) != 49) = true := by rw [e48]; rfl
        have HBIT := Lib.hid hbit
        clear hdg hbit e48
        go_wp2_with fail
        go_roundw
        case rel => exact ⟨k + 1, by omega, by go_num, FB1.out, OX1.out, BX1.out, M, mq, lo, hi, BN1.out, hlh, ⟨OM1.out.now.congr (fun i _ => congrArg (Value.int .i64) (lowW_off HBIT.out i)), OM1.out.top, Ow.lives _ _ _ _ _ _⟩⟩
        case measure => simp [intOf]; omega
      | true =>
        have e49 : (s[k].toNat : Int) = 49 := by rw [hdg, hbit]; rfl
        have b49 : ((s[k].toNat : Int) == 49) = true := by rw [e49]; rfl
        have b49' : ((s[k].toNat : Int) != 49) = false := by rw [e49]; rfl
        have HBIT := Lib.hid hbit
        have HROOM := Lib.hid (show Room Z a (lowW X k) k 1 from ⟨lowW_good (by omega) HAZ.out hk, by omega, by omega, by omega, by omega⟩)
        clear hdg hbit e49
        go_wp2_with fail
        refine (impl_putBit_yes Z M a mq (lowW X k) k true wr (by omega) OM1.out.orow HROOM.out).mono ?_; rintro e v5 ⟨M2, mq2, rfl, hv, hb⟩
        have OM2 := Lib.hid (owned ((ow_of_vec hv).congr (G := intV (lowW X (k + 1))) (fun i _ => congrArg (Value.int .i64) (lowW_on hlt HBIT.out i))))
        have FB2 := Lib.hid ((FB1.out.b hb).alloc (.cells #[.int .i64 (Z : Int), .slice M2 a mq2] 26))
        have OX2 := Lib.hid ((OX1.out.b hb).alloc (.cells #[.int .i64 (Z : Int), .slice M2 a mq2] 26))
        have BX2 := Lib.hid ((BX1.out.b hb).alloc (.cells #[.int .i64 (Z : Int), .slice M2 a mq2] 26))
        have BN2 := Lib.hid ((BN1.out.b hb).alloc (.cells #[.int .i64 (Z : Int), .slice M2 a mq2] 26))
        have OM3 := Lib.hid (OM2.out.alloc (.cells #[.int .i64 (Z : Int), .slice M2 a mq2] 26))
        have m0 := BN2.out.now.cell 0 _ rfl
        have m1 := BN2.out.now.cell 1 _ rfl
        have mf0 := BN2.out.now.free 0
        have mf1 := BN2.out.now.free 1
        have hsz := hb.size
        clear hv hb FB1 OX1 BX1 BN1 OM1 OM2 c0 c1 n0 n1
        go_wp2_with fail
        go_roundw
        case rel => exact ⟨k + 1, by omega, by go_num, (FB2.out.setD (.inl (by omega)) 0 _).setD (.inl (by omega)) 1 _, (OX2.out.setD (.inl (by omega)) 0 _).setD (.inl (by omega)) 1 _, (BX2.out.setD (.inl (by omega)) 0 _).setD (.inl (by omega)) 1 _, M2, mq2, _, _, nbx_set2 BN2.out, .inr (by omega), (OM3.out.setD (.inr (by omega)) 0 _).setD (.inr (by omega)) 1 _⟩
        case measure => simp [intOf]; omega
    · obtain rfl : k = Z := by omega
      have OM2 := Lib.hid (OM1.out.orow.congr (G := intV X) (fun i hi => congrArg (Value.int .i64) (lowW_all HG.out hi)))
      go_wp2_with fail
      refine (pSame_yes (by omega) OM2.out OX1.out.orow).mono ?_; rintro e v5 ⟨rfl, hb⟩
      have FB2 := Lib.hid (FB1.out.b hb)
      clear hb
      go_wp2_with fail
      go_ret
      exact ⟨rfl, FB2.out.now⟩
end Go.Proofs.Ytglccgpiakadbaa
