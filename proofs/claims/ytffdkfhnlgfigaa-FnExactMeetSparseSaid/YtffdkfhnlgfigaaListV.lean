/- The model's SparseList, for any Sparse. -/
import Derived.Test.YtffdkfhnlgfigaaGoodT
import Derived.Test.YtffdkfhnlgfigaaListI
namespace Go.Proofs.Ytffdkfhnlgfigaa
open Go.RowKit

section
variable (A1 : Option Addr) (n1 c1 : Nat) (X1 : Nat → Int) (A2 : Option Addr) (n2 c2 : Nat) (X2 : Nat → Int) (w : World)
/-- spList of a valid Sparse. -/
theorem spList_valid (z0 z1 z2 z3 z4 : Int) (c L v : Nat) (f : Nat → Nat) (hn1 : n1 ≤ 1048576) (hn2 : n2 ≤ 1048576) (h1 : IRow w A1 n1 X1) (h2 : IRow w A2 n2 X2) (h : SpIs z0 z1 z2 z3 n1 X1 z4 n2 X2 c L v f) :
    Calls Try.prog 76 #[.agg (spC z0 z1 z2 z3 A1 n1 c1 z4 A2 n2 c2)] w fun e w' => ∃ A k, e = .returned (.slice A c k) ∧ Ow w.heap.size w'.heap.size 3 A c (intV (numI f)) w' ∧ c ≤ k ∧ Below w.heap.size w w' := by
  have g2 := h.goodh
  have e0 := h.ec
  have e2 := h.ew
  have e4 := h.eh
  subst e0 e2 e4
  refine (spec_spList c v (hzN c L v) z1 z3 A1 n1 c1 X1 A2 n2 c2 X2 w h.num.hc h.num.width hn1 hn2 h1 h2 h.goodl g2 h.el).mono ?_
  rintro e w' ⟨m, P, A, k, he, _, ⟨p, hp, ho, hf⟩, hr, hk, hb⟩
  have hm : m = c := by
    rcases hf with e | e
    · exact e
    · exact h.full ho e
  subst hm
  exact ⟨A, k, he, hr.congr (fun i hi => by unfold intV numI; rw [h.value ho hp hi]), hk, hb⟩
theorem good_yes {z0 z1 z2 z3 z4 : Int} (hn1 : n1 ≤ 1048576) (hn2 : n2 ≤ 1048576) (h1 : IRow w A1 n1 X1) (h2 : IRow w A2 n2 X2) (h : SpV z0 z1 z2 z3 n1 X1 z4 n2 X2) :
    Calls Try.prog 75 #[.agg (spC z0 z1 z2 z3 A1 n1 c1 z4 A2 n2 c2)] w fun e w' => e = .returned (.bool true) ∧ Below w.heap.size w w' := (BoolIs.two (spec_spGood z0 z1 z2 z3 z4 A1 n1 c1 X1 A2 n2 c2 X2 w hn1 hn2 h1 h2)).1 h
theorem good_no {z0 z1 z2 z3 z4 : Int} (hn1 : n1 ≤ 1048576) (hn2 : n2 ≤ 1048576) (h1 : IRow w A1 n1 X1) (h2 : IRow w A2 n2 X2) (h : ¬ SpV z0 z1 z2 z3 n1 X1 z4 n2 X2) :
    Calls Try.prog 75 #[.agg (spC z0 z1 z2 z3 A1 n1 c1 z4 A2 n2 c2)] w fun e w' => e = .returned (.bool false) ∧ Below w.heap.size w w' := (BoolIs.two (spec_spGood z0 z1 z2 z3 z4 A1 n1 c1 X1 A2 n2 c2 X2 w hn1 hn2 h1 h2)).2 h
set_option maxRecDepth 100000 in
set_option maxHeartbeats 1000000 in
theorem impl_isSparse (z0 z1 z2 z3 z4 : Int) (hn1 : n1 ≤ 1048576) (hn2 : n2 ≤ 1048576) (h1 : IRow w A1 n1 X1) (h2 : IRow w A2 n2 X2) :
    Calls Try.prog 14 #[.agg (spC z0 z1 z2 z3 A1 n1 c1 z4 A2 n2 c2)] w (BoolIs (SpV z0 z1 z2 z3 n1 X1 z4 n2 X2) w) := by
  have S0 := Lib.hid (SL.start (z0 := z0) (z1 := z1) (z2 := z2) (z3 := z3) (z4 := z4) (c1 := c1) (c2 := c2) h1 h2)
  clear h1 h2
  go_enter Try.func14, Try.ntmps14
  unfold spC
  go_wp2_with fail
  refine (impl_sparseList A1 n1 c1 X1 A2 n2 c2 X2 _ z0 z1 z2 z3 z4 hn1 hn2 S0.out.low S0.out.high).mono ?_; rintro e w1 ⟨⟨c, L, v, f, A, k, hs, rfl, _, _⟩ | ⟨hn, rfl⟩, hbl⟩
  · have HV := Lib.hid (show SpV z0 z1 z2 z3 n1 X1 z4 n2 X2 from ⟨c, L, v, f, hs⟩)
    have S1 := Lib.hid (S0.out.step hbl)
    clear hs hbl
    go_wp2_with fail
    go_ret
    exact ⟨true, rfl, by simp only [true_iff]; exact HV.out, S1.out.below⟩
  · have HV := Lib.hid hn
    have S1 := Lib.hid (S0.out.step hbl)
    clear hn hbl
    go_wp2_with fail
    go_ret
    exact ⟨false, rfl, by simp only [Bool.false_eq_true, false_iff]; exact HV.out, S1.out.below⟩
theorem specList_yes {z0 z1 z2 z3 z4 : Int} {n1 n2 : Nat} {X1 X2 : Nat → Int} {w : World} {c L v : Nat} {f : Nat → Nat} (h : SpIs z0 z1 z2 z3 n1 X1 z4 n2 X2 c L v f) (e : Ending) (w' : World)
    (ha : ((∃ c L v f A k, SpIs z0 z1 z2 z3 n1 X1 z4 n2 X2 c L v f ∧ e = .returned (.tuple #[.slice A c k, .bool true]) ∧ Ow w.heap.size w'.heap.size 3 A c (intV (numI f)) w') ∨ (¬ SpV z0 z1 z2 z3 n1 X1 z4 n2 X2 ∧ e = .returned (.tuple #[.slice none 0 0, .bool false]))) ∧ Below w.heap.size w w') :
    ∃ A k, e = .returned (.tuple #[.slice A c k, .bool true]) ∧ GRow w' A c (intV (numI f)) ∧ Below w.heap.size w w' := by
  obtain ⟨ha, hb⟩ := ha
  rcases ha with ⟨c', L', v', g, A, k, hg, he, ho⟩ | ⟨hn, _⟩
  · obtain ⟨rfl, rfl, rfl⟩ := h.uniq hg
    exact ⟨A, k, he, (ho.congr (fun i hi => by unfold intV numI; rw [hg.same h i hi])).rd.row (Nat.le_refl _), hb⟩
  · exact absurd ⟨c, L, v, f, h⟩ hn
theorem specList_no {z0 z1 z2 z3 z4 : Int} {n1 n2 : Nat} {X1 X2 : Nat → Int} {w : World} (h : ¬ SpV z0 z1 z2 z3 n1 X1 z4 n2 X2) (e : Ending) (w' : World)
    (ha : ((∃ c L v f A k, SpIs z0 z1 z2 z3 n1 X1 z4 n2 X2 c L v f ∧ e = .returned (.tuple #[.slice A c k, .bool true]) ∧ Ow w.heap.size w'.heap.size 3 A c (intV (numI f)) w') ∨ (¬ SpV z0 z1 z2 z3 n1 X1 z4 n2 X2 ∧ e = .returned (.tuple #[.slice none 0 0, .bool false]))) ∧ Below w.heap.size w w') :
    ∃ A k, e = .returned (.tuple #[.slice A 0 k, .bool false]) ∧ GRow w' A 0 (intV (fun _ => 0)) ∧ Below w.heap.size w w' := by
  obtain ⟨ha, hb⟩ := ha
  rcases ha with ⟨c', L', v', g, A, k, hg, _⟩ | ⟨_, he⟩
  · exact absurd ⟨c', L', v', g, hg⟩ h
  · exact ⟨none, 0, he, GRow.zero, hb⟩
end
end Go.Proofs.Ytffdkfhnlgfigaa
