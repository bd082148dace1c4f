/- The model's copies of words and of vectors. -/
import Derived.Test.YtpajbcgdoedleaaApp
import Derived.Test.YtpajbcgdoedleaaPutF
import Derived.Test.YtpajbcgdoedleaaObj
import Derived.Deep.RegionHeld3
namespace Go.Proofs.Ytpajbcgdoedleaa
open Go.RowKit

set_option maxRecDepth 100000 in
set_option maxHeartbeats 1000000 in
theorem spec_l1Own (A : Option Addr) (n c : Nat) (X : Nat → Int) (w : World) (hn : n ≤ 4096) (hr : IRow w A n X) :
    Calls Try.prog 106 #[.slice A n c] w fun e w' => ∃ A' c', e = .returned (.slice A' n c') ∧ GVec w' w.heap.size 3 A' n (intV X) ∧ Below w.heap.size w w' := by
  have HR := Lib.hid (hr.b ((Below.refl _ _).alloc (Nat.le_refl _) (.cells #[] 3)))
  have HO := Lib.hid (World.ownsRow_made (e := 3) (size := 1) w #[] 0 (Nat.le_refl _) (by simp [maxLen]) (by simp))
  clear hr
  go_enter Try.func106, Try.ntmps106
  go_wp2_with (at_builtin; refine wpList_append_vals rfl _ _ 22 rfl w.heap.size 3 (.int .i64 0) 8 Try.underlying22 infoI rfl (F := intV X) (G := intV X) rfl rfl HO.out HR.out (fun _ _ => rfl) (by omega) (by omega) (by simp) ?_)
  intro A' c' w' hown hb
  have HO2 := Lib.hid hown
  have HB := Lib.hid (((Below.refl w.heap.size w).alloc (Nat.le_refl _) (.cells #[] 3)).trans hb)
  clear hown hb
  go_wp2_with fail
  go_ret
  refine ⟨A', c', by first | rfl | (rw [Nat.zero_add]), ?_, HB.out⟩
  exact (owned_vec HO2.out).congr (fun i _ => by unfold catV; simp)
theorem gvec_set {w : World} {B n b o : Nat} {t : TypeId} {A : Option Addr} {F : Nat → Value} (h : GVec w B t A n F) (hb : b < B) (v : Value) : GVec (w.setCell ⟨b, o, none⟩ v) B t A n F := by
  rcases h with h | ⟨g, hA, hg, ho⟩
  · exact .inl h
  · exact .inr ⟨g, hA, hg, ho.setAt (by omega) v⟩
theorem gvec_low {w : World} {B B' n : Nat} {t : TypeId} {A : Option Addr} {F : Nat → Value} (h : GVec w B t A n F) (hb : B' ≤ B) : GVec w B' t A n F := by
  rcases h with h | ⟨g, hA, hg, ho⟩
  · exact .inl h
  · exact .inr ⟨g, hA, by omega, ho⟩
theorem gvec_below {w w' : World} {B C n : Nat} {t : TypeId} {A : Option Addr} {F : Nat → Value} (h : GVec w B t A n F) (hb : Below C w w') (hlt : ∀ g o, A = some ⟨g, o, none⟩ → 0 < n → g < C) : GVec w' B t A n F := by
  rcases h with h | ⟨g, hA, hg, ho⟩
  · exact .inl h
  · rcases Nat.eq_zero_or_pos n with h0 | h0
    · exact .inl h0
    · exact .inr ⟨g, hA, hg, ho.of_block (hb.block g (hlt g 0 hA h0))⟩
theorem gvec_lt {w : World} {B n : Nat} {t : TypeId} {A : Option Addr} {F : Nat → Value} (h : GVec w B t A n F) : ∀ g o, A = some ⟨g, o, none⟩ → 0 < n → g < w.heap.size := fun g o hA h0 => by
  rcases h with h | ⟨g', hA', _, ho⟩
  · omega
  · rw [hA] at hA'; injection hA' with e; injection e with e1 _; subst e1
    exact ho.lt

set_option maxRecDepth 100000 in
set_option maxHeartbeats 1000000 in
theorem spec_biOwn (z : Int) (A : Option Addr) (n c : Nat) (X : Nat → Int) (w : World) (hn : n ≤ 4096) (hr : IRow w A n X) :
    Calls Try.prog 93 #[.agg #[.int .i64 z, .slice A n c]] w fun e w' => ∃ A' c', e = .returned (.agg #[.int .i64 z, .slice A' n c']) ∧ GVec w' w.heap.size 3 A' n (intV X) ∧ Below w.heap.size w w' := by
  have hb0 := (Below.refl w.heap.size w).alloc (Nat.le_refl _) (.cells #[.int .i64 z, .slice A n c] 29)
  have L0 := Lib.hid ((LS.start (z := z) (c := c) hr 29).step ((Below.refl _ _).alloc (Nat.le_refl _) (.cells #[.int .i64 0, .slice none 0 0] 29)))
  have RB0 := Lib.hid (RB.start w (.cells #[.int .i64 z, .slice A n c] 29) 29)
  clear hr hb0
  go_enter Try.func93, Try.ntmps93
  go_wp2_with fail
  obtain ⟨hs0, c0, c1⟩ := L0.out.box
  obtain ⟨hr4, d0, d1⟩ := RB0.out.box
  obtain ⟨f0, f1⟩ := RB0.out.free
  go_region_held3 (fun w' => w'.cell? ⟨w.heap.size, 0, none⟩ = some (.int .i64 z) ∧ w'.cell? ⟨w.heap.size, 1, none⟩ = some (.slice A n c))
    (first | (go_keep; done) | exact ⟨(hk2.cell (p := ⟨w.heap.size, 0, none⟩) (by show w.heap.size < _; omega)).trans L1.out.box.2.1, (hk2.cell (p := ⟨w.heap.size, 1, none⟩) (by show w.heap.size < _; omega)).trans L1.out.box.2.2⟩ | exact ⟨L1.out.box.2.1, L1.out.box.2.2⟩)
    (first | (go_at_call 106; (first | refine (spec_l1Own A n c X _ hn L0.out.row).mono ?_ | refine (spec_l1Own A n c X _ hn (GRow.drew L0.out.row)).mono ?_); rintro e w1 ⟨A1, c1', rfl, ho1, hb1'⟩; have hb1 := of_drew hb1'; have L1 := Lib.hid (L0.out.step hb1); have RB1 := Lib.hid (RB0.out.b hb1); have O1 := Lib.hid ho1; have hsz1 := hb1.size; obtain ⟨hr5, g0, g1⟩ := RB1.out.box; obtain ⟨i0, i1⟩ := RB1.out.free; clear hb1 hb1' ho1))
  go_wp2_with fail
  refine bodyPost_ret (v := .agg #[.int .i64 z, .slice A1 n c1']) (by simp [results, Try.results93, go_sem, g0, g1]) rfl ?_
  refine ⟨A1, c1', rfl, gvec_low (gvec_set (gvec_set O1.out (by simp) _) (by simp) _) (by simp; omega), below_setAt (below_setAt RB1.out.below (by omega) _) (by omega) _⟩
end Go.Proofs.Ytpajbcgdoedleaa
