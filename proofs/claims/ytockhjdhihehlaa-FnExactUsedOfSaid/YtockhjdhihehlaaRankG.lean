/- Which Ranked is valid: both sides. -/
import Derived.Test.YtockhjdhihehlaaRankL
import Derived.Test.YtockhjdhihehlaaRaOf
namespace Go.Proofs.Ytockhjdhihehlaa
open Go.RowKit

section
variable {z : Int} {n s m : Nat} {X Y Z : Nat → Int}
theorem RankOk.size (h : RankOk z n X s Y m Z) : ∃ z' : Nat, z = z' ∧ z' ≤ 4096 ∧ n = (z' + 15) / 16 ∧ s = (z' + 63) / 64 ∧ m = n := by
  obtain ⟨⟨h0, h1, h2, _⟩, ⟨h3, _⟩, h4, _⟩ := h
  exact ⟨z.toNat, by omega, by omega, by omega, by omega, by omega⟩
theorem rankOk_same {z' : Nat} (hz : z = z') (hg : Good z n X) : SameI s Y ((z' + 63) / 64) (supI (wdR X)) → SameI m Z n (blkI (wdR X)) → RankOk z n X s Y m Z := fun h1 h2 =>
  ⟨hg, ⟨by have := h1.1; omega, h1.2⟩, by have := h2.1; have := hg.2.2.1; omega, h2.2⟩
theorem rankOk_not1 {z' : Nat} (hz : z = z') (h1 : ¬ SameI s Y ((z' + 63) / 64) (supI (wdR X))) : ¬ RankOk z n X s Y m Z := fun h => h1 ⟨by have := h.2.1.1; omega, h.2.1.2⟩
theorem rankOk_not2 (hg : Good z n X) (h1 : ¬ SameI m Z n (blkI (wdR X))) : ¬ RankOk z n X s Y m Z := fun h => h1 ⟨by have := h.2.2.1; have := hg.2.2.1; omega, h.2.2.2⟩
end

section
variable (z : Int) (A1 : Option Addr) (n c1 : Nat) (X : Nat → Int) (A2 : Option Addr) (s c2 : Nat) (Y : Nat → Int) (A3 : Option Addr) (m c3 : Nat) (Z : Nat → Int) (w : World)
end
theorem rkr_of {A1 A2 A3 : Option Addr} {n s m : Nat} {X Y Z : Nat → Int} {w : World} (h : n + s + m ≤ 1048576) (g1 : GRow w A1 n (intV X)) (g2 : GRow w A2 s (intV Y)) (g3 : GRow w A3 m (intV Z)) : RkR A1 n X A2 s Y A3 m Z w :=
  ⟨by omega, by omega, by omega, irow g1, irow g2, irow g3⟩
end Go.Proofs.Ytockhjdhihehlaa
