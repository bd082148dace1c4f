/- Arguments opened: a Front by value (an int, a slice of ints, a slice of strings); a Trie by value (two vectors that lie flat in it, a string). -/
import Derived.Test.YthaipemgndahfaaOpenCu
namespace Go.Proofs.Ythaipemgndahfaa
open Go.ChangeShapes Go.WideShapes Go.ChangeAt Go.RowKit Go.Joins Go.Deep

section
variable {H : Type} {enc : TypeId × Value → H} {P : Program} {w : World} {base : Nat} {spare : Nat → Bool} {held : Bool}
theorem frontRow_of {r : Reach} {b0 : Nat} {t e g : TypeId} {f0 f1 f2 : Field} {v : Value} {d : DataW H} {p : List MemPlace} (hs : P.underlying t = some (.struct #[f0, f1, f2])) (hone : oneCellFields P #[f0, f1, f2] = true) (hC : P.cellsOf t = 3)
    (h0 : P.underlying f0.type = some (.int .i64)) (h1 : P.underlying f1.type = some (.slice g)) (hg : P.underlying g = some (.int .i64)) (hcg : P.cellsOf g = 1) (h2 : P.underlying f2.type = some (.slice e)) (he : P.underlying e = some .string) (hc : P.cellsOf e = 1)
    (hv : Value.okWide P w r b0 t v) (h : DataW.Trod enc P w base spare held t v d p) :
    ∃ (z : Int) (A : Option Addr) (n c : Nat) (B : Option Addr) (m k : Nat), v = .agg #[.int .i64 z, .slice A n c, .slice B m k] ∧ (Lit.int .i64 z).wf = true ∧ (n ≤ maxLen ∧ ∃ X, IRow w A n X) ∧ (m ≤ maxLen ∧ ∃ S, SRow w B m S) := by
  obtain ⟨c0, c1, c2, y0, y1, y2, m, rfl, _, _, hy0, hy1, hy2⟩ := open_agg3 hs hone hC hv h
  obtain ⟨z0, e0, _, w0⟩ := DataW.trod_int h0 hy0
  obtain ⟨A, n, c, e1⟩ := slice_form h1 hy1
  obtain ⟨B, m', k, e2⟩ := slice_form h2 hy2
  simp at e0 e1 e2
  subst e0 e1 e2
  obtain ⟨hn, X, _, hX⟩ := ints_fuel h1 hg hcg hy1
  exact ⟨z0, A, n, c, B, m', k, rfl, w0, ⟨hn, X, hX⟩, strs_fuel h2 he hc hy2⟩
end
end Go.Proofs.Ythaipemgndahfaa
