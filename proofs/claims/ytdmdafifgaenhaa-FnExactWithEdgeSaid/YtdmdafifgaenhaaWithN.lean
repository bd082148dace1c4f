/- WithEdge: what both refuse. -/
import Derived.Test.YtdmdafifgaenhaaWithM
namespace Go.Proofs.Ytdmdafifgaenhaa
open Go.RowKit

set_option maxRecDepth 100000 in
set_option maxHeartbeats 2000000 in
theorem impl_withEdge_no1 (z : Int) (A : Option Addr) (n c : Nat) (l : Nat → Nat) (X : Nat → Nat → Int) (EA : Option Addr) (m ec : Nat) (Y : Nat → Int) (w : World) (hn : n + sumL l n ≤ 1048576) (_hm : m ≤ 1048576) (hr : HRow w A n l X) (_he : IRow w EA m Y) (h : ¬ HyperOk z n l X) :
    Calls Try.prog 42 #[.agg #[.int .i64 z, .slice A n c], .slice EA m ec] w (HypNo w) := by
  obtain ⟨B, d, hr⟩ := hr
  have L0 := Lib.hid ((LH.start (z := z) (c := c) hr 27).step ((Below.refl _ _).alloc (Nat.le_refl _) (.cells #[.int .i64 0, .slice none 0 0] 27)))
  have N0 := Lib.hid (nbx_two' w (.cells #[.int .i64 z, .slice A n c] 27))
  have HG := Lib.hid h
  clear hr h
  go_enter Try.func42, Try.ntmps42
  go_wp2_with fail
  refine (impl_isHyper_is z A n c l X _ false hn ⟨B, d, L0.out.row⟩ (by simp only [Bool.false_eq_true, false_iff]; exact HG.out)).mono ?_; rintro e w1 ⟨rfl, hb⟩
  have L1 := Lib.hid (L0.out.step hb)
  have N1 := Lib.hid (N0.out.b hb)
  clear hb L0 N0
  obtain ⟨hsz, b0, b1⟩ := L1.out.box
  have r0 := N1.out.cell 0 _ rfl
  have r1 := N1.out.cell 1 _ rfl
  have f0 := N1.out.free 0
  have f1 := N1.out.free 1
  go_wp2_with fail
  refine bodyPost_ret (v := .tuple #[.agg #[.int .i64 0, .slice none 0 0], .bool false]) (by simp [results, Try.results42, go_sem, r0, r1]) rfl ?_
  exact ⟨rfl, by first | exact L1.out.below | exact below_setAt (below_setAt L1.out.below (by omega) _) (by omega) _⟩

set_option maxRecDepth 100000 in
set_option maxHeartbeats 2000000 in
theorem impl_withEdge_no2 (z : Int) (A : Option Addr) (n c : Nat) (l : Nat → Nat) (X : Nat → Nat → Int) (EA : Option Addr) (m ec : Nat) (Y : Nat → Int) (w : World) (hn : n + sumL l n ≤ 1048576) (_hm : m ≤ 1048576) (hr : HRow w A n l X) (_he : IRow w EA m Y) (h : HyperOk z n l X) (h40 : n = 40) :
    Calls Try.prog 42 #[.agg #[.int .i64 z, .slice A n c], .slice EA m ec] w (HypNo w) := by
  obtain ⟨B, d, hr⟩ := hr
  have L0 := Lib.hid ((LH.start (z := z) (c := c) hr 27).step ((Below.refl _ _).alloc (Nat.le_refl _) (.cells #[.int .i64 0, .slice none 0 0] 27)))
  have N0 := Lib.hid (nbx_two' w (.cells #[.int .i64 z, .slice A n c] 27))
  have HG := Lib.hid h
  have d0 : ((n : Int) == 40) = true := by simp; omega
  have H40 := Lib.hid h40
  clear hr h h40
  go_enter Try.func42, Try.ntmps42
  go_wp2_with fail
  refine (impl_isHyper_is z A n c l X _ true hn ⟨B, d, L0.out.row⟩ (by simp only [true_iff]; exact HG.out)).mono ?_; rintro e w1 ⟨rfl, hb⟩
  have L1 := Lib.hid (L0.out.step hb)
  have N1 := Lib.hid (N0.out.b hb)
  clear hb L0 N0
  obtain ⟨hsz, b0, b1⟩ := L1.out.box
  have r0 := N1.out.cell 0 _ rfl
  have r1 := N1.out.cell 1 _ rfl
  have f0 := N1.out.free 0
  have f1 := N1.out.free 1
  go_wp2_with fail
  refine bodyPost_ret (v := .tuple #[.agg #[.int .i64 0, .slice none 0 0], .bool false]) (by simp [results, Try.results42, go_sem, r0, r1]) rfl ?_
  exact ⟨rfl, by first | exact L1.out.below | exact below_setAt (below_setAt L1.out.below (by omega) _) (by omega) _⟩

set_option maxRecDepth 100000 in
set_option maxHeartbeats 2000000 in
theorem impl_withEdge_no3 (z : Int) (A : Option Addr) (n c : Nat) (l : Nat → Nat) (X : Nat → Nat → Int) (EA : Option Addr) (m ec : Nat) (Y : Nat → Int) (w : World) (hn : n + sumL l n ≤ 1048576) (hm : m ≤ 1048576) (hr : HRow w A n l X) (he : IRow w EA m Y) (h : HyperOk z n l X) (h40 : n ≠ 40) (hE : ¬ EdgeOk z m Y) :
    Calls Try.prog 42 #[.agg #[.int .i64 z, .slice A n c], .slice EA m ec] w (HypNo w) := by
  obtain ⟨B, d, hr⟩ := hr
  have L0 := Lib.hid ((LH.start (z := z) (c := c) hr 27).step ((Below.refl _ _).alloc (Nat.le_refl _) (.cells #[.int .i64 0, .slice none 0 0] 27)))
  have N0 := Lib.hid (nbx_two' w (.cells #[.int .i64 z, .slice A n c] 27))
  have HG := Lib.hid h
  have HEr := Lib.hid he
  have HE := Lib.hid hE
  have d0 : ((n : Int) == 40) = false := by simp; omega
  clear hr h hE he
  go_enter Try.func42, Try.ntmps42
  go_wp2_with fail
  refine (impl_isHyper_is z A n c l X _ true hn ⟨B, d, L0.out.row⟩ (by simp only [true_iff]; exact HG.out)).mono ?_; rintro e w1 ⟨rfl, hb⟩
  have L1 := Lib.hid (L0.out.step hb)
  have N1 := Lib.hid (N0.out.b hb)
  clear hb L0 N0
  obtain ⟨hsz, b0, b1⟩ := L1.out.box
  have r0 := N1.out.cell 0 _ rfl
  have r1 := N1.out.cell 1 _ rfl
  have f0 := N1.out.free 0
  have f1 := N1.out.free 1
  go_wp2_with fail
  refine (impl_isEdge EA m ec Y z w1 hm (HEr.out.b L1.out.below)).mono ?_; rintro e w2 ⟨b, rfl, hbb, k, rfl⟩
  obtain rfl : b = false := by
    cases b with
    | false => rfl
    | true => exact absurd (hbb.1 rfl) HE.out
  have L2 := Lib.hid (L1.out.drewN k)
  have N2 := Lib.hid (N1.out.b (below_drewN (Below.refl _ _) k))
  clear hbb L1 N1 b0 b1 hsz r0 r1 f0 f1
  obtain ⟨hsz, b0, b1⟩ := L2.out.box
  have r0 := N2.out.cell 0 _ rfl
  have r1 := N2.out.cell 1 _ rfl
  have f0 := N2.out.free 0
  have f1 := N2.out.free 1
  generalize w1.drewN k = w2 at *
  go_wp2_with fail
  refine bodyPost_ret (v := .tuple #[.agg #[.int .i64 0, .slice none 0 0], .bool false]) (by simp [results, Try.results42, go_sem, r0, r1]) rfl ?_
  exact ⟨rfl, by first | exact L2.out.below | exact below_setAt (below_setAt L2.out.below (by omega) _) (by omega) _⟩

set_option maxRecDepth 100000 in
set_option maxHeartbeats 2000000 in
theorem spec_withEdge_no1 (z : Int) (A : Option Addr) (n c : Nat) (l : Nat → Nat) (X : Nat → Nat → Int) (EA : Option Addr) (m ec : Nat) (Y : Nat → Int) (w : World) (hn : n + sumL l n ≤ 1048576) (_hm : m ≤ 1048576) (hr : HRow w A n l X) (_he : IRow w EA m Y) (h : ¬ HyperOk z n l X) :
    Calls Try.prog 40 #[.agg #[.int .i64 z, .slice A n c], .slice EA m ec] w (HypNo w) := by
  obtain ⟨B, d, hr⟩ := hr
  have L0 := Lib.hid ((LH.start (z := z) (c := c) hr 27).step ((Below.refl _ _).alloc (Nat.le_refl _) (.cells #[.int .i64 0, .slice none 0 0] 27)))
  have N0 := Lib.hid (nbx_two' w (.cells #[.int .i64 z, .slice A n c] 27))
  have HG := Lib.hid h
  clear hr h
  go_enter Try.func40, Try.ntmps40
  go_wp2_with fail
  refine (spec_peGood_is z A n c l X _ false hn ⟨B, d, L0.out.row⟩ (by simp only [Bool.false_eq_true, false_iff]; exact HG.out)).mono ?_; rintro e w1 ⟨rfl, hb⟩
  have L1 := Lib.hid (L0.out.step hb)
  have N1 := Lib.hid (N0.out.b hb)
  clear hb L0 N0
  obtain ⟨hsz, b0, b1⟩ := L1.out.box
  have r0 := N1.out.cell 0 _ rfl
  have r1 := N1.out.cell 1 _ rfl
  have f0 := N1.out.free 0
  have f1 := N1.out.free 1
  go_wp2_with fail
  refine bodyPost_ret (v := .tuple #[.agg #[.int .i64 0, .slice none 0 0], .bool false]) (by simp [results, Try.results40, go_sem, r0, r1]) rfl ?_
  exact ⟨rfl, by first | exact L1.out.below | exact below_setAt (below_setAt L1.out.below (by omega) _) (by omega) _⟩

set_option maxRecDepth 100000 in
set_option maxHeartbeats 2000000 in
theorem spec_withEdge_no2 (z : Int) (A : Option Addr) (n c : Nat) (l : Nat → Nat) (X : Nat → Nat → Int) (EA : Option Addr) (m ec : Nat) (Y : Nat → Int) (w : World) (hn : n + sumL l n ≤ 1048576) (hm : m ≤ 1048576) (hr : HRow w A n l X) (he : IRow w EA m Y) (h : HyperOk z n l X) (hE : ¬ EdgeOk z m Y) :
    Calls Try.prog 40 #[.agg #[.int .i64 z, .slice A n c], .slice EA m ec] w (HypNo w) := by
  obtain ⟨B, d, hr⟩ := hr
  have L0 := Lib.hid ((LH.start (z := z) (c := c) hr 27).step ((Below.refl _ _).alloc (Nat.le_refl _) (.cells #[.int .i64 0, .slice none 0 0] 27)))
  have N0 := Lib.hid (nbx_two' w (.cells #[.int .i64 z, .slice A n c] 27))
  have HG := Lib.hid h
  have HEr := Lib.hid he
  have HE := Lib.hid hE
  have hz72 : 1 ≤ z ∧ z ≤ 72 := ⟨h.1, h.2.1⟩
  clear hr h hE he
  go_enter Try.func40, Try.ntmps40
  go_wp2_with fail
  refine (spec_peGood_is z A n c l X _ true hn ⟨B, d, L0.out.row⟩ (by simp only [true_iff]; exact HG.out)).mono ?_; rintro e w1 ⟨rfl, hb⟩
  have L1 := Lib.hid (L0.out.step hb)
  have N1 := Lib.hid (N0.out.b hb)
  clear hb L0 N0
  obtain ⟨hsz, b0, b1⟩ := L1.out.box
  have r0 := N1.out.cell 0 _ rfl
  have r1 := N1.out.cell 1 _ rfl
  have f0 := N1.out.free 0
  have f1 := N1.out.free 1
  go_wp2_with fail
  refine (spec_peEdge EA m ec Y z w1 hm (HEr.out.b L1.out.below) ⟨by omega, by omega⟩).mono ?_; rintro e w2 ⟨b, rfl, hbb, k, rfl⟩
  obtain rfl : b = false := by
    cases b with
    | false => rfl
    | true => exact absurd (hbb.1 rfl) HE.out
  have L2 := Lib.hid (L1.out.drewN k)
  have N2 := Lib.hid (N1.out.b (below_drewN (Below.refl _ _) k))
  clear hbb L1 N1 b0 b1 hsz r0 r1 f0 f1
  obtain ⟨hsz, b0, b1⟩ := L2.out.box
  have r0 := N2.out.cell 0 _ rfl
  have r1 := N2.out.cell 1 _ rfl
  have f0 := N2.out.free 0
  have f1 := N2.out.free 1
  generalize w1.drewN k = w2 at *
  go_wp2_with fail
  refine bodyPost_ret (v := .tuple #[.agg #[.int .i64 0, .slice none 0 0], .bool false]) (by simp [results, Try.results40, go_sem, r0, r1]) rfl ?_
  exact ⟨rfl, by first | exact L2.out.below | exact below_setAt (below_setAt L2.out.below (by omega) _) (by omega) _⟩

set_option maxRecDepth 100000 in
set_option maxHeartbeats 2000000 in
theorem spec_withEdge_no3 (z : Int) (A : Option Addr) (n c : Nat) (l : Nat → Nat) (X : Nat → Nat → Int) (EA : Option Addr) (m ec : Nat) (Y : Nat → Int) (w : World) (hn : n + sumL l n ≤ 1048576) (hm : m ≤ 1048576) (hr : HRow w A n l X) (he : IRow w EA m Y) (h : HyperOk z n l X) (h40 : n = 40) (hE : EdgeOk z m Y) :
    Calls Try.prog 40 #[.agg #[.int .i64 z, .slice A n c], .slice EA m ec] w (HypNo w) := by
  obtain ⟨B, d, hr⟩ := hr
  have L0 := Lib.hid ((LH.start (z := z) (c := c) hr 27).step ((Below.refl _ _).alloc (Nat.le_refl _) (.cells #[.int .i64 0, .slice none 0 0] 27)))
  have N0 := Lib.hid (nbx_two' w (.cells #[.int .i64 z, .slice A n c] 27))
  have HG := Lib.hid h
  have HEr := Lib.hid he
  have HE := Lib.hid hE
  have hz72 : 1 ≤ z ∧ z ≤ 72 := ⟨h.1, h.2.1⟩
  have d0 : ((n : Int) == 40) = true := by simp; omega
  have H40 := Lib.hid h40
  clear hr h hE he h40
  go_enter Try.func40, Try.ntmps40
  go_wp2_with fail
  refine (spec_peGood_is z A n c l X _ true hn ⟨B, d, L0.out.row⟩ (by simp only [true_iff]; exact HG.out)).mono ?_; rintro e w1 ⟨rfl, hb⟩
  have L1 := Lib.hid (L0.out.step hb)
  have N1 := Lib.hid (N0.out.b hb)
  clear hb L0 N0
  obtain ⟨hsz, b0, b1⟩ := L1.out.box
  have r0 := N1.out.cell 0 _ rfl
  have r1 := N1.out.cell 1 _ rfl
  have f0 := N1.out.free 0
  have f1 := N1.out.free 1
  go_wp2_with fail
  refine (spec_peEdge EA m ec Y z w1 hm (HEr.out.b L1.out.below) ⟨by omega, by omega⟩).mono ?_; rintro e w2 ⟨b, rfl, hbb, k, rfl⟩
  have hb1 := hbb.2 HE.out
  subst hb1
  have L2 := Lib.hid (L1.out.drewN k)
  have N2 := Lib.hid (N1.out.b (below_drewN (Below.refl _ _) k))
  clear hbb L1 N1 b0 b1 hsz r0 r1 f0 f1
  obtain ⟨hsz, b0, b1⟩ := L2.out.box
  have r0 := N2.out.cell 0 _ rfl
  have r1 := N2.out.cell 1 _ rfl
  have f0 := N2.out.free 0
  have f1 := N2.out.free 1
  generalize w1.drewN k = w2 at *
  go_wp2_with fail
  refine bodyPost_ret (v := .tuple #[.agg #[.int .i64 0, .slice none 0 0], .bool false]) (by simp [results, Try.results40, go_sem, r0, r1]) rfl ?_
  exact ⟨rfl, by first | exact L2.out.below | exact below_setAt (below_setAt L2.out.below (by omega) _) (by omega) _⟩

end Go.Proofs.Ytdmdafifgaenhaa
