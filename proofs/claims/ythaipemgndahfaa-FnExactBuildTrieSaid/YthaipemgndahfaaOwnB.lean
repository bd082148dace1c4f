/- The model's copies of words and of vectors. -/
import Derived.Test.YthaipemgndahfaaApp
import Derived.Test.YthaipemgndahfaaPutF
import Derived.Test.YthaipemgndahfaaObj
import Derived.Deep.RegionHeld3
namespace Go.Proofs.Ythaipemgndahfaa
open Go.RowKit

theorem gvec_set {w : World} {B n b o : Nat} {t : TypeId} {A : Option Addr} {F : Nat → Value} (h : GVec w B t A n F) (hb : b < B) (v : Value) : GVec (w.setCell ⟨b, o, none⟩ v) B t A n F := by
  rcases h with h | ⟨g, hA, hg, ho⟩
  · exact .inl h
  · exact .inr ⟨g, hA, hg, ho.setAt (by omega) v⟩
theorem gvec_low {w : World} {B B' n : Nat} {t : TypeId} {A : Option Addr} {F : Nat → Value} (h : GVec w B t A n F) (hb : B' ≤ B) : GVec w B' t A n F := by
  rcases h with h | ⟨g, hA, hg, ho⟩
  · exact .inl h
  · exact .inr ⟨g, hA, by omega, ho⟩
theorem gvec_below {w w' : World} {B C n : Nat} {t : TypeId} {A : Option Addr} {F : Nat → Value} (h : GVec w B t A n F) (hb : Below C w w') (hlt : ∀ g o, A = some ⟨g, o, none⟩ → 0 < n → g < C) : GVec w' B t A n F := by
  rcases h with h | ⟨g, hA, hg, ho⟩
  · exact .inl h
  · rcases Nat.eq_zero_or_pos n with h0 | h0
    · exact .inl h0
    · exact .inr ⟨g, hA, hg, ho.of_block (hb.block g (hlt g 0 hA h0))⟩
theorem gvec_lt {w : World} {B n : Nat} {t : TypeId} {A : Option Addr} {F : Nat → Value} (h : GVec w B t A n F) : ∀ g o, A = some ⟨g, o, none⟩ → 0 < n → g < w.heap.size := fun g o hA h0 => by
  rcases h with h | ⟨g', hA', _, ho⟩
  · omega
  · rw [hA] at hA'; injection hA' with e; injection e with e1 _; subst e1
    exact ho.lt

end Go.Proofs.Ythaipemgndahfaa
