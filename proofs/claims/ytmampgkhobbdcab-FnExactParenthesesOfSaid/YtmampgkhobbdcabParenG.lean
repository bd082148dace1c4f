/- The balanced vector of a tree list: the model's answer. -/
import Derived.Test.YtmampgkhobbdcabParenF
import Derived.Test.YtmampgkhobbdcabObjInt
namespace Go.Proofs.Ytmampgkhobbdcab
open Go.RowKit

set_option maxRecDepth 100000 in
set_option maxHeartbeats 2000000 in
theorem spec_parens_no (A : Option Addr) (n c : Nat) (p : Nat → Int) (w : World) (hn : n ≤ 1048576) (hr : IRow w A n p) (h : ¬ IsTree n p) :
    Calls Try.prog 26 #[.slice A n c] w (VecIs 0 0 (fun _ => 0) false w) := by
  have hb0 : Below w.heap.size w (w.alloc (.cells #[.int .i64 0, .slice none 0 0] 28)) := (Below.refl _ _).alloc (Nat.le_refl _) _
  have HR := Lib.hid (hr.b hb0)
  have RB0 := Lib.hid (show RB w w.heap.size _ from ⟨hb0, Box.new w 0 none 0 0 28, free_new w _ _⟩)
  have H := Lib.hid h
  clear hr h hb0
  go_enter Try.func26, Try.ntmps26
  go_wp2_with fail
  refine (spec_raTree A n c p _ hn HR.out).mono ?_; rintro e w1 ⟨b, rfl, hb, hw⟩
  rw [hw] at RB0
  obtain rfl : b = false := by cases b; rfl; exact absurd (hb.1 rfl) H.out
  obtain ⟨hr4, d0, d1⟩ := RB0.out.box
  obtain ⟨f0, f1⟩ := RB0.out.free
  clear hb hw HR
  go_wp2_with fail
  refine bodyPost_ret (v := .tuple #[.agg #[.int .i64 0, .slice none 0 0], .bool false]) (by simp [results, Try.results26, go_sem, d0, d1]) rfl ?_
  exact ⟨none, 0, rfl, IRow.zero, below_setAt (below_setAt RB0.out.below (by omega) _) (by omega) _⟩

set_option maxRecDepth 100000 in
set_option maxHeartbeats 2000000 in
theorem spec_parens_yes (A : Option Addr) (n c m : Nat) (p : Nat → Int) (w : World) (hr : IRow w A n p) (h : IsTree n p) (hm : m = (2 * n + 15) / 16) :
    Calls Try.prog 26 #[.slice A n c] w (VecIs ((2 * n : Nat) : Int) m (fun k => (wordsOf (treeF p n) k : Int)) true w) := by
  have hb0 : Below w.heap.size w (w.alloc (.cells #[.int .i64 0, .slice none 0 0] 28)) := (Below.refl _ _).alloc (Nat.le_refl _) _
  have HR := Lib.hid (hr.b hb0)
  have RB0 := Lib.hid (show RB w w.heap.size _ from ⟨hb0, Box.new w 0 none 0 0 28, free_new w _ _⟩)
  have H := Lib.hid h
  have HM := Lib.hid hm
  have hn : n ≤ 64 := h.1
  clear hr h hb0 hm
  go_enter Try.func26, Try.ntmps26
  go_wp2_with fail
  refine (spec_raTree A n c p _ (by omega) HR.out).mono ?_; rintro e w1 ⟨b, rfl, hb, hw⟩
  rw [hw] at RB0 HR
  obtain rfl : b = true := hb.2 H.out
  clear hb hw
  go_wp2_with fail
  refine (spec_raFrom A n c m p _ HR.out H.out HM.out).mono ?_; rintro e w2 ⟨g, c', rfl, hg, hrow, hb⟩
  have RB2 := Lib.hid (RB0.out.b hb)
  have hgs := RB0.out.box.1
  obtain ⟨hr4, d0, d1⟩ := RB2.out.box
  obtain ⟨f0, f1⟩ := RB2.out.free
  have HW := Lib.hid hrow
  clear hb HR RB0 hrow
  go_wp2_with fail
  refine bodyPost_ret (v := .tuple #[.agg #[.int .i64 ((2 * n : Nat) : Int), .slice (some ⟨g, 0, none⟩) m c'], .bool true]) (by simp [results, Try.results26, go_sem, d0, d1]) rfl ?_
  refine ⟨some ⟨g, 0, none⟩, c', rfl, ?_, ?_⟩
  · exact (ORow.setAt (ORow.setAt HW.out (by omega) _) (by omega) _).row
  · exact below_setAt (below_setAt RB2.out.below (by omega) _) (by omega) _
end Go.Proofs.Ytmampgkhobbdcab
