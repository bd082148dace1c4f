/- BloomAdd and BloomOf: both sides. -/
import Derived.Test.YtpajbcgdoedleaaBlB
namespace Go.Proofs.Ytpajbcgdoedleaa
open Go.RowKit

theorem row_one (w : World) (s : ByteArray) : GRow (w.alloc (.cells #[.string s] 9)) (some ⟨w.heap.size, 0, none⟩) 1 (strV (fun _ => s)) := fun _ => ⟨w.heap.size, 0, rfl, by simp, fun k hk => by
  obtain rfl : k = 0 := by omega
  simp [strV, go_sem]⟩
theorem blAns_own {z0 p z : Int} {m cc g : Nat} {F : Nat → Bool} {w w' : World} {e : Ending} (he : e = .returned (.tuple #[.agg #[.int .i64 z0, .int .i64 p, .int .i64 z, .slice (some ⟨g, 0, none⟩) m cc], .bool true])) (hg : w.heap.size ≤ g) (ho : OB w' g m F) (hb : Below w.heap.size w w') : BlAns z0 p z m (fun i => (wordsOf F i : Int)) true w e w' :=
  ⟨_, _, he, ow_orow ho.own hg, hb⟩
section
variable {z0 z1 z2 : Int} {p z : Nat} {A : Option Addr} {n c : Nat} {X : Nat → Int} {s : ByteArray} {w : World}
set_option maxRecDepth 100000 in
set_option maxHeartbeats 2000000 in
theorem spec_bloomAdd_no (h : ¬ (BlV z0 z1 z2 n X ∧ isKeyB s.data.toList = true)) (hn : n ≤ 1048576) (hs : s.size ≤ maxLen) (hr : IRow w A n X) :
    Calls Try.prog 28 #[.agg #[.int .i64 z0, .int .i64 z1, .int .i64 z2, .slice A n c], .string s] w (BlAns 0 0 0 0 (fun _ => 0) false w) := by
  have S0 := BlC.start (z0 := z0) (z1 := z1) (z2 := z2) (c := c) hr
  have hal := (Below.refl (w.alloc (.cells #[.int .i64 z0, .int .i64 z1, .int .i64 z2, .slice A n c] 31)).heap.size (w.alloc (.cells #[.int .i64 z0, .int .i64 z1, .int .i64 z2, .slice A n c] 31))).alloc (Nat.le_refl _) (.cells #[.int .i64 0, .int .i64 0, .int .i64 0, .slice none 0 0] 31)
  have S1 := Lib.hid (S0.step hal)
  have N1 := Lib.hid (nbx0 (w.alloc (.cells #[.int .i64 z0, .int .i64 z1, .int .i64 z2, .slice A n c] 31)) #[.int .i64 0, .int .i64 0, .int .i64 0, .slice none 0 0] 31)
  rw [World.size_alloc] at N1
  clear hr hal S0
  go_enter Try.func28, Try.ntmps28
  have x0 := S1.out.box.cell 0 _ rfl
  have x1 := S1.out.box.cell 1 _ rfl
  have x2 := S1.out.box.cell 2 _ rfl
  have x3 := S1.out.box.cell 3 _ rfl
  by_cases hv : BlV z0 z1 z2 n X
  · have hk : isKeyB s.data.toList = false := by
      cases e : isKeyB s.data.toList
      · rfl
      · exact absurd ⟨hv, e⟩ h
    go_wp2_with fail
    refine (spec_fiGood (b := true) (by simp [hv]) hn S1.out.row).mono ?_; rintro e w2 ⟨rfl, hw⟩
    replace N1 := Lib.hid (N1.b hw)
    replace S1 := Lib.hid (S1.out.step hw)
    clear hw x0 x1 x2 x3
    have y0 := N1.out.cell 0 _ rfl
    have f0 := N1.out.free 0
    have y1 := N1.out.cell 1 _ rfl
    have f1 := N1.out.free 1
    have y2 := N1.out.cell 2 _ rfl
    have f2 := N1.out.free 2
    have y3 := N1.out.cell 3 _ rfl
    have f3 := N1.out.free 3
    go_wp2_with fail
    refine (spec_isKey _ _ hs).mono ?_; rintro e w3 ⟨rfl, rfl⟩
    rw [hk]
    go_wp2_with fail
    refine bodyPost_ret (v := .tuple #[.agg #[.int .i64 0, .int .i64 0, .int .i64 0, .slice none 0 0], .bool false]) (by simp [results, Try.results28, go_sem, y0, y1, y2, y3]) rfl ?_
    exact blAns_none rfl (by first | exact S1.out.below | exact below_setAt (below_setAt (below_setAt (below_setAt S1.out.below (by omega) _) (by omega) _) (by omega) _) (by omega) _)
  · go_wp2_with fail
    refine (spec_fiGood (b := false) (by simp [hv]) hn S1.out.row).mono ?_; rintro e w2 ⟨rfl, hw⟩
    replace N1 := Lib.hid (N1.b hw)
    replace S1 := Lib.hid (S1.out.step hw)
    clear hw x0 x1 x2 x3
    have y0 := N1.out.cell 0 _ rfl
    have f0 := N1.out.free 0
    have y1 := N1.out.cell 1 _ rfl
    have f1 := N1.out.free 1
    have y2 := N1.out.cell 2 _ rfl
    have f2 := N1.out.free 2
    have y3 := N1.out.cell 3 _ rfl
    have f3 := N1.out.free 3
    go_wp2_with fail
    refine bodyPost_ret (v := .tuple #[.agg #[.int .i64 0, .int .i64 0, .int .i64 0, .slice none 0 0], .bool false]) (by simp [results, Try.results28, go_sem, y0, y1, y2, y3]) rfl ?_
    exact blAns_none rfl (by first | exact S1.out.below | exact below_setAt (below_setAt (below_setAt (below_setAt S1.out.below (by omega) _) (by omega) _) (by omega) _) (by omega) _)
set_option maxRecDepth 100000 in
set_option maxHeartbeats 2000000 in
theorem impl_bloomAdd_no (h : ¬ (BlV z0 z1 z2 n X ∧ isKeyB s.data.toList = true)) (hn : n ≤ 1048576) (hs : s.size ≤ maxLen) (hr : IRow w A n X) :
    Calls Try.prog 29 #[.agg #[.int .i64 z0, .int .i64 z1, .int .i64 z2, .slice A n c], .string s] w (BlAns 0 0 0 0 (fun _ => 0) false w) := by
  have S0 := BlC.start (z0 := z0) (z1 := z1) (z2 := z2) (c := c) hr
  have hal := (Below.refl (w.alloc (.cells #[.int .i64 z0, .int .i64 z1, .int .i64 z2, .slice A n c] 31)).heap.size (w.alloc (.cells #[.int .i64 z0, .int .i64 z1, .int .i64 z2, .slice A n c] 31))).alloc (Nat.le_refl _) (.cells #[.int .i64 0, .int .i64 0, .int .i64 0, .slice none 0 0] 31)
  have S1 := Lib.hid (S0.step hal)
  have N1 := Lib.hid (nbx0 (w.alloc (.cells #[.int .i64 z0, .int .i64 z1, .int .i64 z2, .slice A n c] 31)) #[.int .i64 0, .int .i64 0, .int .i64 0, .slice none 0 0] 31)
  rw [World.size_alloc] at N1
  clear hr hal S0
  go_enter Try.func29, Try.ntmps29
  have x0 := S1.out.box.cell 0 _ rfl
  have x1 := S1.out.box.cell 1 _ rfl
  have x2 := S1.out.box.cell 2 _ rfl
  have x3 := S1.out.box.cell 3 _ rfl
  by_cases hv : BlV z0 z1 z2 n X
  · have hk : isKeyB s.data.toList = false := by
      cases e : isKeyB s.data.toList
      · rfl
      · exact absurd ⟨hv, e⟩ h
    go_wp2_with fail
    refine (impl_isBloom (b := true) (by simp [hv]) hn S1.out.row).mono ?_; rintro e w2 ⟨rfl, hw⟩
    replace N1 := Lib.hid (N1.b hw)
    replace S1 := Lib.hid (S1.out.step hw)
    clear hw x0 x1 x2 x3
    have y0 := N1.out.cell 0 _ rfl
    have f0 := N1.out.free 0
    have y1 := N1.out.cell 1 _ rfl
    have f1 := N1.out.free 1
    have y2 := N1.out.cell 2 _ rfl
    have f2 := N1.out.free 2
    have y3 := N1.out.cell 3 _ rfl
    have f3 := N1.out.free 3
    go_wp2_with fail
    refine (impl_isKey _ _ hs).mono ?_; rintro e w3 ⟨rfl, rfl⟩
    rw [hk]
    go_wp2_with fail
    refine bodyPost_ret (v := .tuple #[.agg #[.int .i64 0, .int .i64 0, .int .i64 0, .slice none 0 0], .bool false]) (by simp [results, Try.results29, go_sem, y0, y1, y2, y3]) rfl ?_
    exact blAns_none rfl (by first | exact S1.out.below | exact below_setAt (below_setAt (below_setAt (below_setAt S1.out.below (by omega) _) (by omega) _) (by omega) _) (by omega) _)
  · go_wp2_with fail
    refine (impl_isBloom (b := false) (by simp [hv]) hn S1.out.row).mono ?_; rintro e w2 ⟨rfl, hw⟩
    replace N1 := Lib.hid (N1.b hw)
    replace S1 := Lib.hid (S1.out.step hw)
    clear hw x0 x1 x2 x3
    have y0 := N1.out.cell 0 _ rfl
    have f0 := N1.out.free 0
    have y1 := N1.out.cell 1 _ rfl
    have f1 := N1.out.free 1
    have y2 := N1.out.cell 2 _ rfl
    have f2 := N1.out.free 2
    have y3 := N1.out.cell 3 _ rfl
    have f3 := N1.out.free 3
    go_wp2_with fail
    refine bodyPost_ret (v := .tuple #[.agg #[.int .i64 0, .int .i64 0, .int .i64 0, .slice none 0 0], .bool false]) (by simp [results, Try.results29, go_sem, y0, y1, y2, y3]) rfl ?_
    exact blAns_none rfl (by first | exact S1.out.below | exact below_setAt (below_setAt (below_setAt (below_setAt S1.out.below (by omega) _) (by omega) _) (by omega) _) (by omega) _)
set_option maxRecDepth 100000 in
set_option maxHeartbeats 2000000 in
theorem spec_bloomAdd (h : fiB z0 p z = true) (hg : Good z n X) (hk : isKeyB s.data.toList = true) (hn : n ≤ 1048576) (hs : s.size ≤ maxLen) (hr : IRow w A n X) :
    Calls Try.prog 28 #[.agg #[.int .i64 z0, .int .i64 p, .int .i64 z, .slice A n c], .string s] w (BlAns z0 p z n (fun i => (wordsOf (onP (bitX X) (prN z0 s z) p) i : Int)) true w) := by
  have S0 := BlC.start (z0 := z0) (z1 := p) (z2 := z) (c := c) hr
  have hal := (Below.refl (w.alloc (.cells #[.int .i64 z0, .int .i64 p, .int .i64 z, .slice A n c] 31)).heap.size (w.alloc (.cells #[.int .i64 z0, .int .i64 p, .int .i64 z, .slice A n c] 31))).alloc (Nat.le_refl _) (.cells #[.int .i64 0, .int .i64 0, .int .i64 0, .slice none 0 0] 31)
  have S1 := Lib.hid (S0.step hal)
  have N1 := Lib.hid (nbx0 (w.alloc (.cells #[.int .i64 z0, .int .i64 p, .int .i64 z, .slice A n c] 31)) #[.int .i64 0, .int .i64 0, .int .i64 0, .slice none 0 0] 31)
  rw [World.size_alloc] at N1
  clear hr hal S0
  go_enter Try.func28, Try.ntmps28
  have x0 := S1.out.box.cell 0 _ rfl
  have x1 := S1.out.box.cell 1 _ rfl
  have x2 := S1.out.box.cell 2 _ rfl
  have x3 := S1.out.box.cell 3 _ rfl
  go_wp2_with fail
  refine (spec_fiGood (b := true) (by simp [BlV, h, hg]) hn S1.out.row).mono ?_; rintro e w2 ⟨rfl, hw⟩
  replace N1 := Lib.hid (N1.b hw)
  replace S1 := Lib.hid (S1.out.step hw)
  clear hw x0 x1 x2 x3
  have x0 := S1.out.box.cell 0 _ rfl
  have x1 := S1.out.box.cell 1 _ rfl
  have x2 := S1.out.box.cell 2 _ rfl
  have x3 := S1.out.box.cell 3 _ rfl
  go_wp2_with fail
  refine (spec_isKey _ _ hs).mono ?_; rintro e w3 ⟨rfl, rfl⟩
  rw [hk]
  go_wp2_with fail
  have hA := (Below.refl w2.heap.size w2).alloc (Nat.le_refl _) (.cells #[.string s] 9)
  have hlt := N1.out.lt
  have HK := Lib.hid (row_one w2 s)
  refine (spec_fiAdd (S := fun _ => s) h hg (S1.out.step hA).row (by omega) (fun _ _ => hs) HK.out).mono ?_; rintro e w4 ⟨g, cc, rfl, hgg, ho, hb⟩
  have hb4 := hA.trans (hb.mono (by simp))
  have hgg2 : w2.heap.size < g := by simp at hgg; omega
  replace N1 := Lib.hid (N1.out.b hb4)
  have S2 := Lib.hid (S1.out.step hb4)
  have O2 := Lib.hid (show OB w4 g n (onP (bitX X) (prN z0 s z) p) from ho)
  clear hb hb4 hA ho x0 x1 x2 x3 HK
  have y0 := N1.out.cell 0 _ rfl
  have f0 := N1.out.free 0
  have y1 := N1.out.cell 1 _ rfl
  have f1 := N1.out.free 1
  have y2 := N1.out.cell 2 _ rfl
  have f2 := N1.out.free 2
  have y3 := N1.out.cell 3 _ rfl
  have f3 := N1.out.free 3
  go_wp2_with fail
  refine bodyPost_ret (v := .tuple #[.agg #[.int .i64 z0, .int .i64 p, .int .i64 z, .slice (some ⟨g, 0, none⟩) n cc], .bool true]) (by simp [results, Try.results28, go_sem, y0, y1, y2, y3]) rfl ?_
  exact blAns_own rfl (by have := S1.out.below.size; omega) ((((O2.out.setAt (by omega) _).setAt (by omega) _).setAt (by omega) _).setAt (by omega) _) (below_setAt (below_setAt (below_setAt (below_setAt S2.out.below (by omega) _) (by omega) _) (by omega) _) (by omega) _)
set_option maxRecDepth 100000 in
set_option maxHeartbeats 2000000 in
theorem impl_bloomAdd (h : fiB z0 p z = true) (hg : Good z n X) (hk : isKeyB s.data.toList = true) (hn : n ≤ 1048576) (hs : s.size ≤ maxLen) (hr : IRow w A n X) :
    Calls Try.prog 29 #[.agg #[.int .i64 z0, .int .i64 p, .int .i64 z, .slice A n c], .string s] w (BlAns z0 p z n (fun i => (wordsOf (onP (bitX X) (prN z0 s z) p) i : Int)) true w) := by
  obtain ⟨h0, h1, h2⟩ := fiB_out h
  have S0 := BlC.start (z0 := z0) (z1 := p) (z2 := z) (c := c) hr
  have hal := (Below.refl (w.alloc (.cells #[.int .i64 z0, .int .i64 p, .int .i64 z, .slice A n c] 31)).heap.size (w.alloc (.cells #[.int .i64 z0, .int .i64 p, .int .i64 z, .slice A n c] 31))).alloc (Nat.le_refl _) (.cells #[.int .i64 0, .int .i64 0, .int .i64 0, .slice none 0 0] 31)
  have S1 := Lib.hid (S0.step hal)
  have N1 := Lib.hid (nbx0 (w.alloc (.cells #[.int .i64 z0, .int .i64 p, .int .i64 z, .slice A n c] 31)) #[.int .i64 0, .int .i64 0, .int .i64 0, .slice none 0 0] 31)
  rw [World.size_alloc] at N1
  clear hr hal S0
  go_enter Try.func29, Try.ntmps29
  have x0 := S1.out.box.cell 0 _ rfl
  have x1 := S1.out.box.cell 1 _ rfl
  have x2 := S1.out.box.cell 2 _ rfl
  have x3 := S1.out.box.cell 3 _ rfl
  go_wp2_with fail
  refine (impl_isBloom (b := true) (by simp [BlV, h, hg]) hn S1.out.row).mono ?_; rintro e w2 ⟨rfl, hw⟩
  replace N1 := Lib.hid (N1.b hw)
  replace S1 := Lib.hid (S1.out.step hw)
  clear hw x0 x1 x2 x3
  have x0 := S1.out.box.cell 0 _ rfl
  have x1 := S1.out.box.cell 1 _ rfl
  have x2 := S1.out.box.cell 2 _ rfl
  have x3 := S1.out.box.cell 3 _ rfl
  go_wp2_with fail
  refine (impl_isKey _ _ hs).mono ?_; rintro e w3 ⟨rfl, rfl⟩
  rw [hk]
  go_wp2_with fail
  have hlt := N1.out.lt
  have hsz2 := S1.out.below.size
  have hnm : n = (z + 15) / 16 := by have := hg.2.2.1; omega
  have HNM := Lib.hid hnm
  refine (impl_cloneBloom (by omega) hg S1.out.row).mono ?_; rintro e w4 ⟨g, cc, rfl, hgg, ho, hb⟩
  replace N1 := Lib.hid (N1.out.b hb)
  have S2 := Lib.hid (S1.out.step hb)
  have hs4 := hb.size
  have hgl := ho.lt
  have O2 := Lib.hid (ho.alloc (.cells #[.int .i64 z0, .int .i64 p, .int .i64 z, .slice (some ⟨g, 0, none⟩) n cc] 31))
  have B2 := Lib.hid (boxed w4 #[.int .i64 z0, .int .i64 p, .int .i64 z, .slice (some ⟨g, 0, none⟩) n cc] 31)
  have hal4 := Lib.hid ((Below.refl w4.heap.size w4).alloc (Nat.le_refl _) (.cells #[.int .i64 z0, .int .i64 p, .int .i64 z, .slice (some ⟨g, 0, none⟩) n cc] 31))
  replace N1 := Lib.hid (N1.out.b hal4.out)
  have b0 := B2.out.now 0 _ rfl
  have b1 := B2.out.now 1 _ rfl
  have b2 := B2.out.now 2 _ rfl
  have b3 := B2.out.now 3 _ rfl
  clear hb ho x0 x1 x2 x3 hnm
  go_wp2_with fail
  refine (impl_turnOn h HNM.out hs O2.out).mono ?_; rintro e w5 ⟨rfl, ho5, hg5⟩
  have O5 := Lib.hid ho5
  have B5 := Lib.hid (B2.out.far (only_grown hg5) (by omega))
  have hlt5 := B5.out.top
  have L5 := Lib.hid (S2.out.below.trans ((hal4.out.mono (Nat.le_refl _)).mono (by omega) |>.trans (below_of_grown hg5 (by simp; omega) (show w.heap.size ≤ g by omega))))
  replace N1 := Lib.hid (show NBX (w.heap.size + 1) (w.heap.size + 1) #[.int .i64 0, .int .i64 0, .int .i64 0, .slice none 0 0] 31 w5 from ⟨(hg5.block _ (by simp; omega) (by intro e; injection e with e; omega)).trans N1.out.blk, N1.out.ge⟩)
  clear ho5 hg5 b0 b1 b2 b3 hal4
  have b0 := B5.out.now 0 _ rfl
  have b1 := B5.out.now 1 _ rfl
  have b2 := B5.out.now 2 _ rfl
  have b3 := B5.out.now 3 _ rfl
  have y0 := N1.out.cell 0 _ rfl
  have f0 := N1.out.free 0
  have y1 := N1.out.cell 1 _ rfl
  have f1 := N1.out.free 1
  have y2 := N1.out.cell 2 _ rfl
  have f2 := N1.out.free 2
  have y3 := N1.out.cell 3 _ rfl
  have f3 := N1.out.free 3
  go_wp2_with fail
  refine bodyPost_ret (v := .tuple #[.agg #[.int .i64 z0, .int .i64 p, .int .i64 z, .slice (some ⟨g, 0, none⟩) n cc], .bool true]) (by simp [results, Try.results29, go_sem, y0, y1, y2, y3]) rfl ?_
  exact blAns_own rfl (by omega) ((((O5.out.setAt (by omega) _).setAt (by omega) _).setAt (by omega) _).setAt (by omega) _) (below_setAt (below_setAt (below_setAt (below_setAt L5.out (by omega) _) (by omega) _) (by omega) _) (by omega) _)
end
end Go.Proofs.Ytpajbcgdoedleaa
