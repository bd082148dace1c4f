/- BloomOf: both sides. -/
import Derived.Test.YtpajbcgdoedleaaBlK
namespace Go.Proofs.Ytpajbcgdoedleaa
open Go.RowKit

theorem bitX_zero : bitX (fun _ => 0) = fun _ => false := by
  funext k; unfold bitX bitN; simp
theorem good_zero {z : Nat} (hz : z ≤ 512) : Good z ((z + 15) / 16) (fun _ => 0) :=
  ⟨by omega, by omega, by omega, fun i _ => ⟨show (0 : Int) ≤ 0 by omega, (two_bd (Nat.min_le_left 16 _)).1⟩⟩
/-- A filter in its own memory, beside a word. -/
def BlT (z0 p z : Int) (m : Nat) (F : Nat → Bool) (w : World) (e : Ending) (w' : World) : Prop :=
  ∃ g cc, e = .returned (.tuple #[.agg #[.int .i64 z0, .int .i64 p, .int .i64 z, .slice (some ⟨g, 0, none⟩) m cc], .bool true]) ∧ w.heap.size ≤ g ∧ OB w' g m F ∧ Below w.heap.size w w'
theorem BlT.ans {z0 p z : Int} {m : Nat} {F : Nat → Bool} {w w' : World} {e : Ending} (h : BlT z0 p z m F w e w') : BlAns z0 p z m (fun i => (wordsOf F i : Int)) true w e w' := by
  obtain ⟨g, cc, he, hg, ho, hb⟩ := h
  exact blAns_own he hg ho hb
section
variable {z0 z1 z2 : Int} {p z : Nat} {KA : Option Addr} {k kc : Nat} {S : Nat → ByteArray} {w : World}
set_option maxRecDepth 100000 in
set_option maxHeartbeats 2000000 in
theorem spec_bloomOf (h : fiB z0 p z = true) (hkb : keysB S k = true) (hk : k ≤ 1048576) (hs : ∀ i, i < k → (S i).size ≤ maxLen) (hK : GRow w KA k (strV S)) :
    Calls Try.prog 33 #[.int .i64 z0, .int .i64 p, .int .i64 z, .slice KA k kc] w (BlT z0 p z ((z + 15) / 16) (onK (fun _ => false) z0 p z S k) w) := by
  obtain ⟨h0, h1, h2⟩ := fiB_out h
  have hal := Lib.hid ((Below.refl w.heap.size w).alloc (Nat.le_refl _) (.cells #[.int .i64 0, .int .i64 0, .int .i64 0, .slice none 0 0] 31))
  have N1 := Lib.hid (nbx0 w #[.int .i64 0, .int .i64 0, .int .i64 0, .slice none 0 0] 31)
  have HK := Lib.hid (hK.b hal.out)
  clear hK
  have HG := Lib.hid (good_zero (z := z) (by omega))
  rw [← bitX_zero]
  obtain ⟨m, hm⟩ : ∃ m, m = (z + 15) / 16 := ⟨_, rfl⟩
  rw [← hm] at HG ⊢
  have HM := Lib.hid hm
  clear hm
  go_enter Try.func33, Try.ntmps33
  go_wp2_with fail
  refine (spec_fiSize z0 p z _).mono ?_; rintro e w1 ⟨rfl, rfl⟩
  rw [h]
  go_wp2_with fail
  refine (spec_biKeys KA k kc S _ hk hs HK.out).mono ?_; rintro e w1 ⟨rfl, rfl⟩
  rw [hkb]
  go_wp2_with fail
  refine (spec_fiNew (z0 := z0) (p := p) (z := z) (by omega)).mono ?_; rintro e w1 ⟨g, he, hgg, ho, hb⟩
  rw [← HM.out] at he ho
  subst he
  have R1 := Lib.hid ho.row
  have L1 := Lib.hid (hal.out.trans (hb.mono (by simp)))
  have K1 := Lib.hid (HK.out.b hb)
  replace N1 := Lib.hid (N1.out.b hb)
  clear hb ho hgg
  go_wp2_with fail
  refine (spec_fiAdd h HG.out R1.out hk hs K1.out).mono ?_; rintro e w2 ⟨g, cc, rfl, hgg, ho, hb⟩
  have L2 := Lib.hid (L1.out.trans (hb.mono L1.out.size))
  have hlt := N1.out.lt
  replace N1 := Lib.hid (N1.out.b hb)
  have O2 := Lib.hid ho
  clear hb ho
  have y0 := N1.out.cell 0 _ rfl
  have f0 := N1.out.free 0
  have y1 := N1.out.cell 1 _ rfl
  have f1 := N1.out.free 1
  have y2 := N1.out.cell 2 _ rfl
  have f2 := N1.out.free 2
  have y3 := N1.out.cell 3 _ rfl
  have f3 := N1.out.free 3
  go_wp2_with fail
  refine bodyPost_ret (v := .tuple #[.agg #[.int .i64 z0, .int .i64 p, .int .i64 z, .slice (some ⟨g, 0, none⟩) m cc], .bool true]) (by simp [results, Try.results33, go_sem, y0, y1, y2, y3]) rfl ?_
  exact ⟨g, cc, rfl, by omega, (((O2.out.setAt (by omega) _).setAt (by omega) _).setAt (by omega) _).setAt (by omega) _, below_setAt (below_setAt (below_setAt (below_setAt L2.out (by omega) _) (by omega) _) (by omega) _) (by omega) _⟩
set_option maxRecDepth 100000 in
set_option maxHeartbeats 2000000 in
theorem spec_bloomOf_no (h : (fiB z0 z1 z2 && keysB S k) = false) (hk : k ≤ 1048576) (hs : ∀ i, i < k → (S i).size ≤ maxLen) (hK : GRow w KA k (strV S)) :
    Calls Try.prog 33 #[.int .i64 z0, .int .i64 z1, .int .i64 z2, .slice KA k kc] w (BlAns 0 0 0 0 (fun _ => 0) false w) := by
  have L := Lib.hid ((Below.refl w.heap.size w).alloc (Nat.le_refl _) (.cells #[.int .i64 0, .int .i64 0, .int .i64 0, .slice none 0 0] 31))
  have N1 := Lib.hid (nbx0 w #[.int .i64 0, .int .i64 0, .int .i64 0, .slice none 0 0] 31)
  have HK := Lib.hid (hK.b L.out)
  clear hK
  have y0 := N1.out.cell 0 _ rfl
  have f0 := N1.out.free 0
  have y1 := N1.out.cell 1 _ rfl
  have f1 := N1.out.free 1
  have y2 := N1.out.cell 2 _ rfl
  have f2 := N1.out.free 2
  have y3 := N1.out.cell 3 _ rfl
  have f3 := N1.out.free 3
  cases hf : fiB z0 z1 z2 with
  | false =>
    clear h
    go_enter Try.func33, Try.ntmps33
    go_wp2_with fail
    refine (spec_fiSize z0 z1 z2 _).mono ?_; rintro e w1 ⟨rfl, rfl⟩
    rw [hf]
    go_wp2_with fail
    refine bodyPost_ret (v := .tuple #[.agg #[.int .i64 0, .int .i64 0, .int .i64 0, .slice none 0 0], .bool false]) (by simp [results, Try.results33, go_sem, y0, y1, y2, y3]) rfl ?_
    exact blAns_none rfl (by first | exact L.out | exact below_setAt (below_setAt (below_setAt (below_setAt L.out (by omega) _) (by omega) _) (by omega) _) (by omega) _)
  | true =>
    have hkb : keysB S k = false := by rw [hf, Bool.true_and] at h; exact h
    clear h
    go_enter Try.func33, Try.ntmps33
    go_wp2_with fail
    refine (spec_fiSize z0 z1 z2 _).mono ?_; rintro e w1 ⟨rfl, rfl⟩
    rw [hf]
    go_wp2_with fail
    refine (spec_biKeys KA k kc S _ hk hs HK.out).mono ?_; rintro e w1 ⟨rfl, rfl⟩
    rw [hkb]
    go_wp2_with fail
    refine bodyPost_ret (v := .tuple #[.agg #[.int .i64 0, .int .i64 0, .int .i64 0, .slice none 0 0], .bool false]) (by simp [results, Try.results33, go_sem, y0, y1, y2, y3]) rfl ?_
    exact blAns_none rfl (by first | exact L.out | exact below_setAt (below_setAt (below_setAt (below_setAt L.out (by omega) _) (by omega) _) (by omega) _) (by omega) _)
set_option maxRecDepth 100000 in
set_option maxHeartbeats 2000000 in
theorem impl_bloomOf_no (h : (fiB z0 z1 z2 && keysB S k) = false) (hk : k ≤ 1048576) (hs : ∀ i, i < k → (S i).size ≤ maxLen) (hK : GRow w KA k (strV S)) :
    Calls Try.prog 35 #[.int .i64 z0, .int .i64 z1, .int .i64 z2, .slice KA k kc] w (BlAns 0 0 0 0 (fun _ => 0) false w) := by
  have L := Lib.hid ((Below.refl w.heap.size w).alloc (Nat.le_refl _) (.cells #[.int .i64 0, .int .i64 0, .int .i64 0, .slice none 0 0] 31))
  have N1 := Lib.hid (nbx0 w #[.int .i64 0, .int .i64 0, .int .i64 0, .slice none 0 0] 31)
  have HK := Lib.hid (hK.b L.out)
  clear hK
  cases hf : fiB z0 z1 z2 with
  | false =>
    clear h
    go_enter Try.func35, Try.ntmps35
    go_wp2_with fail
    refine (impl_newBloom_no hf).mono ?_; rintro e w1 ⟨A0, c0, rfl, _, hb⟩
    have hb2 := hb.trans ((Below.refl w1.heap.size w1).alloc (Nat.le_refl _) (.cells #[.int .i64 0, .int .i64 0, .int .i64 0, .slice A0 0 c0] 31) |>.mono hb.size)
    replace N1 := Lib.hid (N1.out.b hb2)
    replace L := Lib.hid (L.out.trans (hb2.mono (by simp)))
    clear hb hb2 HK
    have y0 := N1.out.cell 0 _ rfl
    have f0 := N1.out.free 0
    have y1 := N1.out.cell 1 _ rfl
    have f1 := N1.out.free 1
    have y2 := N1.out.cell 2 _ rfl
    have f2 := N1.out.free 2
    have y3 := N1.out.cell 3 _ rfl
    have f3 := N1.out.free 3
    go_wp2_with fail
    refine bodyPost_ret (v := .tuple #[.agg #[.int .i64 0, .int .i64 0, .int .i64 0, .slice none 0 0], .bool false]) (by simp [results, Try.results35, go_sem, y0, y1, y2, y3]) rfl ?_
    exact blAns_none rfl (by first | exact L.out | exact below_setAt (below_setAt (below_setAt (below_setAt L.out (by omega) _) (by omega) _) (by omega) _) (by omega) _)
  | true =>
    have hkb : keysB S k = false := by rw [hf, Bool.true_and] at h; exact h
    clear h
    obtain ⟨p, z, rfl, rfl, q1, q2, q3, q4⟩ := fiB_nat hf
    go_enter Try.func35, Try.ntmps35
    go_wp2_with fail
    refine (impl_newBloomG hf).mono ?_; rintro e w1 ⟨g, rfl, _, _, hb⟩
    obtain ⟨m, hm⟩ : ∃ m, m = (z + 15) / 16 := ⟨_, rfl⟩
    rw [← hm]
    clear hm
    have hb2 := hb.trans ((Below.refl w1.heap.size w1).alloc (Nat.le_refl _) (.cells #[.int .i64 z0, .int .i64 p, .int .i64 z, .slice (some ⟨g, 0, none⟩) m m] 31) |>.mono hb.size)
    replace N1 := Lib.hid (N1.out.b hb2)
    replace L := Lib.hid (L.out.trans (hb2.mono (by simp)))
    replace HK := Lib.hid (HK.out.b hb2)
    clear hb hb2
    go_wp2_with fail
    refine (impl_areKeys KA k kc S _ hk hs HK.out).mono ?_; rintro e w2 ⟨rfl, rfl⟩
    rw [hkb]
    have y0 := N1.out.cell 0 _ rfl
    have f0 := N1.out.free 0
    have y1 := N1.out.cell 1 _ rfl
    have f1 := N1.out.free 1
    have y2 := N1.out.cell 2 _ rfl
    have f2 := N1.out.free 2
    have y3 := N1.out.cell 3 _ rfl
    have f3 := N1.out.free 3
    go_wp2_with fail
    refine bodyPost_ret (v := .tuple #[.agg #[.int .i64 0, .int .i64 0, .int .i64 0, .slice none 0 0], .bool false]) (by simp [results, Try.results35, go_sem, y0, y1, y2, y3]) rfl ?_
    exact blAns_none rfl (by first | exact L.out | exact below_setAt (below_setAt (below_setAt (below_setAt L.out (by omega) _) (by omega) _) (by omega) _) (by omega) _)
set_option maxRecDepth 100000 in
set_option maxHeartbeats 2000000 in
theorem impl_bloomOf (h : fiB z0 p z = true) (hkb : keysB S k = true) (hk : k ≤ 1048576) (hs : ∀ i, i < k → (S i).size ≤ maxLen) (hK : GRow w KA k (strV S)) :
    Calls Try.prog 35 #[.int .i64 z0, .int .i64 p, .int .i64 z, .slice KA k kc] w (BlT z0 p z ((z + 15) / 16) (onK (fun _ => false) z0 p z S k) w) := by
  obtain ⟨h0, h1, h2⟩ := fiB_out h
  have HK0 := Lib.hid hK
  have hal := Lib.hid ((Below.refl w.heap.size w).alloc (Nat.le_refl _) (.cells #[.int .i64 0, .int .i64 0, .int .i64 0, .slice none 0 0] 31))
  have N1 := Lib.hid (nbx0 w #[.int .i64 0, .int .i64 0, .int .i64 0, .slice none 0 0] 31)
  have HK := Lib.hid (hK.b hal.out)
  clear hK
  have HS := Lib.hid hs
  clear hs
  obtain ⟨m, hm⟩ : ∃ m, m = (z + 15) / 16 := ⟨_, rfl⟩
  rw [← hm]
  have HM := Lib.hid hm
  clear hm
  go_enter Try.func35, Try.ntmps35
  go_wp2_with fail
  refine (impl_newBloomG h).mono ?_; rintro e w1 ⟨g, he, hgg, ho, hb⟩
  rw [← HM.out] at he ho
  subst he
  rw [World.size_alloc] at hgg
  have hgl := ho.lt
  have hb2 := (Below.refl w1.heap.size w1).alloc (Nat.le_refl _) (.cells #[.int .i64 z0, .int .i64 p, .int .i64 z, .slice (some ⟨g, 0, none⟩) m m] 31)
  have B1 := Lib.hid (boxed w1 #[.int .i64 z0, .int .i64 p, .int .i64 z, .slice (some ⟨g, 0, none⟩) m m] 31)
  have O1 := Lib.hid ((ob_zero ho).alloc (.cells #[.int .i64 z0, .int .i64 p, .int .i64 z, .slice (some ⟨g, 0, none⟩) m m] 31))
  have L1 := Lib.hid ((hal.out.trans (hb.mono (by simp))).trans (hb2.mono (by have := hb.size; simp at this; omega)))
  have K1 := Lib.hid ((HK.out.b hb).b hb2)
  have hs1 := hb.size
  rw [World.size_alloc] at hs1
  replace N1 := Lib.hid ((N1.out.b hb).b hb2)
  clear hb hb2 ho hal HK
  go_wp2_with fail
  refine (impl_areKeys KA k kc S _ hk HS.out K1.out).mono ?_; rintro e w2 ⟨rfl, rfl⟩
  rw [hkb]
  go_wp2_with fail
  generalize hw2 : w1.alloc (.cells #[.int .i64 z0, .int .i64 p, .int .i64 z, .slice (some ⟨g, 0, none⟩) m m] 31) = w2 at *
  have hs2 : w1.heap.size + 1 ≤ w2.heap.size := by rw [← hw2]; simp
  clear hw2
  go_loopw [31] (fun i wr => ∃ t : Nat, t ≤ k ∧ i = .int .i64 t ∧ Hid (OB wr g m (onK (fun _ => false) z0 p z S t)) ∧ Hid (w2.grownBy wr (some g))) (fun i _ => k - (intOf i).toNat)
  case atStart => exact ⟨0, Nat.zero_le _, rfl, O1, Lib.hid (World.grownBy.refl w2 _)⟩
  case round =>
    obtain ⟨t, ht, rfl, HO, HGr⟩ := hrel
    have B2 := Lib.hid (B1.out.far (only_grown HGr.out) (by omega))
    have b0 := B2.out.now 0 _ rfl
    have b1 := B2.out.now 1 _ rfl
    have b2 := B2.out.now 2 _ rfl
    have b3 := B2.out.now 3 _ rfl
    have L2 := Lib.hid (L1.out.trans (below_of_grown HGr.out L1.out.size (by omega)))
    by_cases hlt : t < k
    · obtain ⟨bk, ok, hKA, _, hc⟩ := HK0.out.b L2.out (by omega)
      have hck := hc t hlt
      unfold strV at hck
      have HC := Lib.hid (impl_turnOn (z0 := z0) (p := p) (z := z) (c := m) h HM.out (HS.out t hlt) HO.out)
      clear hc
      subst hKA
      go_wp2_with fail
      refine HC.out.mono ?_; rintro e w5 ⟨rfl, ho5, hg5⟩
      have HO5 := Lib.hid (show OB w5 g m (onK (fun _ => false) z0 p z S (t + 1)) from ho5)
      have HG5 := Lib.hid (grown_two HGr.out hg5)
      clear ho5 hg5 b0 b1 b2 b3 hck
      go_wp2_with fail
      go_roundw
      case rel => exact ⟨t + 1, by omega, by go_num, HO5, HG5⟩
      case measure => simp [intOf]; omega
    · obtain rfl : t = k := by omega
      have N2 : NBX w.heap.size w.heap.size #[.int .i64 0, .int .i64 0, .int .i64 0, .slice none 0 0] 31 wr := ⟨(HGr.out.block _ (by have := N1.out.lt; omega) (by intro e; injection e with e; omega)).trans N1.out.blk, N1.out.ge⟩
      have y0 := N2.cell 0 _ rfl
      have f0 := N2.free 0
      have y1 := N2.cell 1 _ rfl
      have f1 := N2.free 1
      have y2 := N2.cell 2 _ rfl
      have f2 := N2.free 2
      have y3 := N2.cell 3 _ rfl
      have f3 := N2.free 3
      clear N2
      go_wp2_with fail
      refine bodyPost_ret (v := .tuple #[.agg #[.int .i64 z0, .int .i64 p, .int .i64 z, .slice (some ⟨g, 0, none⟩) m m], .bool true]) (by simp [results, Try.results35, go_sem, y0, y1, y2, y3]) rfl ?_
      exact ⟨g, m, rfl, by omega, (((HO.out.setAt (by omega) _).setAt (by omega) _).setAt (by omega) _).setAt (by omega) _, below_setAt (below_setAt (below_setAt (below_setAt L2.out (by omega) _) (by omega) _) (by omega) _) (by omega) _⟩
end
end Go.Proofs.Ytpajbcgdoedleaa
