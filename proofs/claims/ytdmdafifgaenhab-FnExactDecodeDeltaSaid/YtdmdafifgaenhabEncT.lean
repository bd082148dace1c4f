/- The model's EncodeGamma and EncodeDelta. -/
import Derived.Test.YtdmdafifgaenhabEncS
import Derived.Test.YtdmdafifgaenhabFromG
namespace Go.Proofs.Ytdmdafifgaenhab
open Go.RowKit

def lgX (x : Int) : Nat := x.toNat.log2
theorem lgX_is {x : Int} (h : 1 ≤ x ∧ x ≤ 100000) : IsL x.toNat (lgX x) := ⟨Nat.log2_self_le (by omega), Nat.lt_log2_self⟩
def lgY (x : Int) : Nat := (lgX x + 1).log2
theorem lgY_is (x : Int) : IsL (lgX x + 1) (lgY x) := ⟨Nat.log2_self_le (by omega), Nat.lt_log2_self⟩
def gamS (X : Nat → Int) (k : Nat) : Nat := 2 * lgX (X k) + 1
def gamF (X : Nat → Int) (k i : Nat) : Bool := gamB (X k).toNat (lgX (X k)) i
def delS (X : Nat → Int) (k : Nat) : Nat := 2 * lgY (X k) + 1 + lgX (X k)
def delF (X : Nat → Int) (k i : Nat) : Bool := delB (X k).toNat (lgX (X k)) (lgY (X k)) i
theorem gamF_off {X : Nat → Int} {k i : Nat} (h : gamS X k ≤ i) : gamF X k i = false := gamB_off h
theorem delF_off {X : Nat → Int} {k i : Nat} (h : delS X k ≤ i) : delF X k i = false := delB_off h
theorem gamS_le {X : Nat → Int} {k : Nat} (h : 1 ≤ X k ∧ X k ≤ 100000) : gamS X k ≤ 64 := by
  have := isL_le (lgX_is h) (by omega); unfold gamS; omega
theorem delS_le {X : Nat → Int} {k : Nat} (h : 1 ≤ X k ∧ X k ≤ 100000) : delS X k ≤ 64 := by
  have h1 := isL_le (lgX_is h) (by omega)
  have h2 := isL_le (lgY_is (X k)) (by omega)
  unfold delS; omega
theorem catS_le {sz : Nat → Nat} : ∀ n, (∀ i, i < n → sz i ≤ 64) → catS sz n ≤ 64 * n
  | 0, _ => Nat.le_refl _
  | n + 1, h => by
    have h1 := catS_le (sz := sz) n (fun i hi => h i (by omega))
    have h2 := h n (by omega)
    rw [catS]; omega
end Go.Proofs.Ytdmdafifgaenhab
