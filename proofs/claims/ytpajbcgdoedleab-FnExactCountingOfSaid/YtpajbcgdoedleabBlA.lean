/- Copies of a filter, both sides; filters whose bits are off. -/
import Derived.Test.YtpajbcgdoedleabBlH
import Derived.Deep.DeepCutAuto
import Derived.Deep.RegionHeld3
import Derived.OrdersHeld
import Derived.Deep.RegionHeld
import Derived.Lib.SliceRun
namespace Go.Proofs.Ytpajbcgdoedleab
open Go.RowKit

theorem vec_posB {w : World} {B n c : Nat} {A : Option Addr} {F : Nat → Value} (h : w.ownsRow B 3 1 (.slice A n c) n (vals F n)) (h0 : 0 < n) : ∃ g, A = some ⟨g, 0, none⟩ ∧ B ≤ g ∧ GOwn w 3 g n F := by
  rcases owned_vec h with e | h
  · omega
  · exact h
theorem gvec_pos {w : World} {B n : Nat} {A : Option Addr} {F : Nat → Value} (h : GVec w B 3 A n F) (h0 : 0 < n) : ∃ g, A = some ⟨g, 0, none⟩ ∧ B ≤ g ∧ GOwn w 3 g n F := by
  rcases h with e | h
  · omega
  · exact h
theorem irow_al {w : World} {A : Option Addr} {n : Nat} {X : Nat → Int} (h : IRow w A n X) (o : Obj) : IRow (w.alloc o) A n X := h.b ((Below.refl _ _).alloc (Nat.le_refl _) o)
theorem irow_alD {w : World} {A : Option Addr} {n : Nat} {X : Nat → Int} (h : IRow w A n X) (o : Obj) : IRow (w.alloc o).drew A n X := irow_al h o
theorem irow_dal {w : World} {A : Option Addr} {n : Nat} {X : Nat → Int} (h : IRow w A n X) (o : Obj) : IRow (w.drew.alloc o) A n X := irow_al (w := w.drew) h o
set_option maxRecDepth 100000 in
set_option maxHeartbeats 1000000 in
theorem clone_row {A : Option Addr} {n c : Nat} {X : Nat → Int} {w : World} (hn : n ≤ 4096) (h0 : 0 < n) (hr : IRow w A n X) :
    Calls Try.prog 95 #[.slice A n c] w fun e w' => ∃ A' c', e = .returned (.slice A' n c') ∧ w'.ownsRow w.heap.size 3 1 (.slice A' n c') n (vals (intV X) n) ∧ Below w.heap.size w w' := by
  obtain ⟨b, off, rfl, _, _⟩ := hr h0
  have HR := Lib.hid (hr.b ((Below.refl _ _).alloc (Nat.le_refl _) (.cells #[] 3)))
  have HO := Lib.hid (World.ownsRow_made (e := 3) (size := 1) w #[] 0 (Nat.le_refl _) (by simp [maxLen]) (by simp))
  have hnil : ∀ W, (binOp .eql 22 (.slice (some ⟨b, off, none⟩) n c) (.slice none 0 0)).run Try.prog W = .ok (.bool false) W := fun W => Lib.run_eql_slice_nil W _ _ _ n c 0 0 Try.underlying22
  clear hr
  go_enter Try.func95, Try.ntmps95
  go_wp2_with (at_builtin; refine wpList_append_vals rfl _ _ 22 rfl w.heap.size 3 (.int .i64 0) 8 Try.underlying22 infoI rfl (F := intV X) (G := intV X) rfl rfl HO.out HR.out (fun _ _ => rfl) (by omega) (by omega) (by simp) ?_)
  intro A' c' w' hown hb
  have HO2 := Lib.hid hown
  have HB := Lib.hid (((Below.refl w.heap.size w).alloc (Nat.le_refl _) (.cells #[] 3)).trans hb)
  clear hown hb
  go_wp2_with fail
  go_ret
  refine ⟨A', c', by first | rfl | (rw [Nat.zero_add]), ?_, HB.out⟩
  have h := HO2.out
  rw [vals_congr (F := catV (intV X) (intV X) 0) (G := intV X) (fun i _ => by unfold catV; simp)] at h
  exact h
/-- A filter in its own memory, its bits F. -/
def BlO (z0 p z : Int) (m : Nat) (F : Nat → Bool) (w : World) (e : Ending) (w' : World) : Prop :=
  ∃ g cc, e = .returned (.agg #[.int .i64 z0, .int .i64 p, .int .i64 z, .slice (some ⟨g, 0, none⟩) m cc]) ∧ w.heap.size ≤ g ∧ OB w' g m F ∧ Below w.heap.size w w'
section
variable {z0 : Int} {p z : Nat} {A : Option Addr} {n c : Nat} {X : Nat → Int} {s : ByteArray} {w : World}
set_option maxRecDepth 100000 in
set_option maxHeartbeats 1000000 in
theorem spec_fiNew (hz : 1 ≤ z ∧ z ≤ 512) :
    Calls Try.prog 97 #[.int .i64 z0, .int .i64 p, .int .i64 z] w fun e w' => ∃ g, e = .returned (.agg #[.int .i64 z0, .int .i64 p, .int .i64 z, .slice (some ⟨g, 0, none⟩) ((z + 15) / 16) ((z + 15) / 16)]) ∧ w.heap.size ≤ g ∧ ORow w' g ((z + 15) / 16) (fun _ => 0) ∧ Below w.heap.size w w' := by
  have N1 := Lib.hid (nbx0 w #[.int .i64 0, .int .i64 0, .int .i64 0, .slice none 0 0] 44)
  have hal := Lib.hid ((Below.refl w.heap.size w).alloc (Nat.le_refl _) (.cells #[.int .i64 0, .int .i64 0, .int .i64 0, .slice none 0 0] 44))
  obtain ⟨m, hm⟩ : ∃ m, m = (z + 15) / 16 := ⟨_, rfl⟩
  rw [← hm]
  have HM := Lib.hid hm
  clear hm
  go_enter Try.func97, Try.ntmps97
  go_wp2_with fail
  refine (spec_biNew z m _ (by omega) HM.out).mono ?_; rintro e w1 ⟨g, rfl, hgg, ho, hb⟩
  rw [World.size_alloc] at hgg
  have NB := N1.out.b hb
  have HB := Lib.hid (hal.out.trans (hb.mono (by simp)))
  have O := Lib.hid ho
  have y0 := NB.cell 0 _ rfl
  have y1 := NB.cell 1 _ rfl
  have y2 := NB.cell 2 _ rfl
  have y3 := NB.cell 3 _ rfl
  have f0 := NB.free 0
  have f1 := NB.free 1
  have f2 := NB.free 2
  have f3 := NB.free 3
  clear hb ho NB
  go_wp2_with fail
  refine bodyPost_ret (v := .agg #[.int .i64 z0, .int .i64 p, .int .i64 z, .slice (some ⟨g, 0, none⟩) m m]) (by simp [results, Try.results97, go_sem, y0, y1, y2, y3]) rfl ?_
  exact ⟨g, rfl, by omega, (((O.out.setAt (by omega) _).setAt (by omega) _).setAt (by omega) _).setAt (by omega) _, below_setAt (below_setAt (below_setAt (below_setAt HB.out (by omega) _) (by omega) _) (by omega) _) (by omega) _⟩
end
end Go.Proofs.Ytpajbcgdoedleab
