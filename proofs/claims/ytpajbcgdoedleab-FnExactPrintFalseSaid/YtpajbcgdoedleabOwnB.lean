/- The model's copies of words and of vectors. -/
import Derived.Test.YtpajbcgdoedleabApp
import Derived.Test.YtpajbcgdoedleabPutF
import Derived.Test.YtpajbcgdoedleabObj
import Derived.Deep.RegionHeld3
namespace Go.Proofs.Ytpajbcgdoedleab
open Go.RowKit

set_option maxRecDepth 100000 in
set_option maxHeartbeats 1000000 in
theorem spec_l1Own (A : Option Addr) (n c : Nat) (X : Nat → Int) (w : World) (hn : n ≤ 4096) (hr : IRow w A n X) :
    Calls Try.prog 92 #[.slice A n c] w fun e w' => ∃ A' c', e = .returned (.slice A' n c') ∧ GVec w' w.heap.size 3 A' n (intV X) ∧ Below w.heap.size w w' := by
  have HR := Lib.hid (hr.b ((Below.refl _ _).alloc (Nat.le_refl _) (.cells #[] 3)))
  have HO := Lib.hid (World.ownsRow_made (e := 3) (size := 1) w #[] 0 (Nat.le_refl _) (by simp [maxLen]) (by simp))
  clear hr
  go_enter Try.func92, Try.ntmps92
  go_wp2_with (at_builtin; refine wpList_append_vals rfl _ _ 22 rfl w.heap.size 3 (.int .i64 0) 8 Try.underlying22 infoI rfl (F := intV X) (G := intV X) rfl rfl HO.out HR.out (fun _ _ => rfl) (by omega) (by omega) (by simp) ?_)
  intro A' c' w' hown hb
  have HO2 := Lib.hid hown
  have HB := Lib.hid (((Below.refl w.heap.size w).alloc (Nat.le_refl _) (.cells #[] 3)).trans hb)
  clear hown hb
  go_wp2_with fail
  go_ret
  refine ⟨A', c', by first | rfl | (rw [Nat.zero_add]), ?_, HB.out⟩
  exact (owned_vec HO2.out).congr (fun i _ => by unfold catV; simp)
theorem gvec_set {w : World} {B n b o : Nat} {t : TypeId} {A : Option Addr} {F : Nat → Value} (h : GVec w B t A n F) (hb : b < B) (v : Value) : GVec (w.setCell ⟨b, o, none⟩ v) B t A n F := by
  rcases h with h | ⟨g, hA, hg, ho⟩
  · exact .inl h
  · exact .inr ⟨g, hA, hg, ho.setAt (by omega) v⟩
theorem gvec_low {w : World} {B B' n : Nat} {t : TypeId} {A : Option Addr} {F : Nat → Value} (h : GVec w B t A n F) (hb : B' ≤ B) : GVec w B' t A n F := by
  rcases h with h | ⟨g, hA, hg, ho⟩
  · exact .inl h
  · exact .inr ⟨g, hA, by omega, ho⟩
theorem gvec_below {w w' : World} {B C n : Nat} {t : TypeId} {A : Option Addr} {F : Nat → Value} (h : GVec w B t A n F) (hb : Below C w w') (hlt : ∀ g o, A = some ⟨g, o, none⟩ → 0 < n → g < C) : GVec w' B t A n F := by
  rcases h with h | ⟨g, hA, hg, ho⟩
  · exact .inl h
  · rcases Nat.eq_zero_or_pos n with h0 | h0
    · exact .inl h0
    · exact .inr ⟨g, hA, hg, ho.of_block (hb.block g (hlt g 0 hA h0))⟩
theorem gvec_lt {w : World} {B n : Nat} {t : TypeId} {A : Option Addr} {F : Nat → Value} (h : GVec w B t A n F) : ∀ g o, A = some ⟨g, o, none⟩ → 0 < n → g < w.heap.size := fun g o hA h0 => by
  rcases h with h | ⟨g', hA', _, ho⟩
  · omega
  · rw [hA] at hA'; injection hA' with e; injection e with e1 _; subst e1
    exact ho.lt

end Go.Proofs.Ytpajbcgdoedleab
