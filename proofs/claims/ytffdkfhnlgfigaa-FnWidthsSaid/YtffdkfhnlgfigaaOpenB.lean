/- Slices of bytes opened; the laws' test of size. -/
import Derived.Test.YtffdkfhnlgfigaaOpen
import Derived.Test.YtffdkfhnlgfigaaCur
namespace Go.Proofs.Ytffdkfhnlgfigaa
open Go.ChangeShapes Go.WideShapes Go.ChangeAt Go.RowKit Go.Joins Go.Deep

/-- The slice value '.slice A n _' reads as the bytes D 0 .. D (n - 1). -/
def URow (w : World) (A : Option Addr) (n : Nat) (D : Nat → Int) : Prop := GRow w A n (u8V D) ∧ ∀ i, i < n → 0 ≤ D i ∧ D i < 256
theorem u8_wf {x : Int} (h : (Lit.int .u8 x).wf = true) : 0 ≤ x ∧ x < 256 := by
  simp [Lit.wf, IntKind.min, IntKind.max, IntKind.bits, IntKind.signed] at h
  omega
section
variable {H : Type} {enc : TypeId × Value → H} {P : Program} {w : World} {base : Nat} {spare : Nat → Bool} {held : Bool}
theorem bytesRow_of {t e : TypeId} {A : Option Addr} {n c : Nat} {d : DataW H} {p : List MemPlace} (ht : P.underlying t = some (.slice e)) (he : P.underlying e = some (.int .u8)) (hc : P.cellsOf e = 1)
    (h : DataW.Trod enc P w base spare held t (.slice A n c) d p) : n ≤ maxLen ∧ ∃ D, URow w A n D := by
  obtain ⟨fuel, hf⟩ := h
  obtain ⟨h1, X, h3, h2⟩ := ints_fuel ht he hc (by simpa [Value.cells] using hf)
  exact ⟨h1, X, h2, fun i hi => u8_wf (h3 i hi)⟩
end

theorem big_is (A B : Option Addr) (n c m d : Nat) (w : World) (hn : n ≤ maxLen) (hm : m ≤ maxLen) :
    Calls Try.prog 8 #[.slice A n c, .slice B m d] w fun e w' => e = .returned (.bool (!decide (n + m ≤ 1048576))) ∧ w = w' := by
  unfold maxLen at hn hm
  by_cases h1 : (1048576 : Int) < (n : Int)
  · have hb : (!decide (n + m ≤ 1048576)) = true := by simp; omega
    rw [hb]
    go_enter Try.func8, Try.ntmps8
    go_wp2_with fail
    go_ret
    exact ⟨rfl, rfl⟩
  · by_cases h2 : (1048576 : Int) - n < m
    · have hb : (!decide (n + m ≤ 1048576)) = true := by simp; omega
      rw [hb]
      go_enter Try.func8, Try.ntmps8
      go_wp2_with fail
      go_ret
      exact ⟨rfl, rfl⟩
    · have hb : (!decide (n + m ≤ 1048576)) = false := by simp; omega
      rw [hb]
      go_enter Try.func8, Try.ntmps8
      go_wp2_with fail
      go_ret
      exact ⟨rfl, rfl⟩
end Go.Proofs.Ytffdkfhnlgfigaa
