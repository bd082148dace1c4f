/- The laws' small functions on slices of slices of ints, and on a Hyper. -/
import Derived.Test.YthaipemgndahfaaRowSS
import Derived.Deep.RegionHeld3
namespace Go.Proofs.Ythaipemgndahfaa
open Go.RowKit

theorem infoSl : (Try.prog.info? 24).map (fun i => (i.zero, i.size, i.bytes)) = some (some (.slice none 0 0), 1, 24) := by kernel_rfl
theorem Ow2.part {lo hi n : Nat} {A : Option Addr} {l : Nat → Nat} {X : Nat → Nat → Int} {w : World} (h : Ow2 lo hi A n l X w) : ∃ B d, Ow lo hi 24 A n (sliceV B l d) w ∧ (∀ i, i < n → Ow lo hi 3 (B i) (l i) (intV (X i)) w) ∧ ∀ i j, i < n → j < n → i ≠ j → Apart (l i) (B i) (l j) (B j) := by
  obtain ⟨B, d, h1, h2, h3⟩ := h
  exact ⟨B, d, h1, h2, fun i j hi hj hne => by
    by_cases e : i < j
    · exact h3 i j e hj
    · exact (h3 j i (by omega) hi).symm⟩
/-! Hyper. -/
end Go.Proofs.Ythaipemgndahfaa
