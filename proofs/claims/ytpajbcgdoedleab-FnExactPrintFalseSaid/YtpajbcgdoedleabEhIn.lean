/- The places of a key lie below three segments. -/
import Derived.Test.YtpajbcgdoedleabHypM
namespace Go.Proofs.Ytpajbcgdoedleab
open Go.RowKit

theorem eH_in {seed : Int} {g : Nat} {S : Nat → ByteArray} {k : Nat} (h1 : 1 ≤ g) (h2 : g ≤ 24) : ∀ j, j < 3 → 0 ≤ eH seed g S k j ∧ eH seed g S k j < ((3 * g : Nat) : Int) := fun j hj => by
  obtain ⟨p0, p1, p2, p3⟩ := eH_bd (seed := seed) (S := S) (i := k) h1 h2 hj
  have h5 : eH seed g S k j = placeI seed j (S k).data.toList g + ((j * g : Nat) : Int) := by unfold eH; push_cast; rfl
  rw [h5]
  have h6 : j * g ≤ 2 * g := Nat.mul_le_mul (by omega) (Nat.le_refl _)
  omega
end Go.Proofs.Ytpajbcgdoedleab
