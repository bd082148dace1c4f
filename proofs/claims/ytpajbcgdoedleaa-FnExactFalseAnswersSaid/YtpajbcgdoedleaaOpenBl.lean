/- Arguments opened: a Bloom filter by value (its vector lies flat in it). -/
import Derived.Test.YtpajbcgdoedleaaOpen
import Derived.Deep.Strs
namespace Go.Proofs.Ytpajbcgdoedleaa
open Go.ChangeShapes Go.WideShapes Go.ChangeAt Go.RowKit Go.Joins Go.Deep

section
variable {H : Type} {enc : TypeId × Value → H} {P : Program} {w : World} {base : Nat} {spare : Nat → Bool} {held : Bool}
/-- Where the fields of a struct lie whose last field is a struct of two cells, and the other two are of one cell. -/
def flat4b (P : Program) (f0 f1 f2 g0 g1 : Field) : Bool :=
  f0.offset == 0 && P.cellsOf f0.type == 1 && f1.offset == 1 && P.cellsOf f1.type == 1 && f2.offset == 2 && P.cellsOf f2.type == 2 && g0.offset == 0 && P.cellsOf g0.type == 1 && g1.offset == 1 && P.cellsOf g1.type == 1
theorem bloomRow_of {r : Reach} {b0 : Nat} {t e : TypeId} {f0 f1 f2 g0 g1 : Field} {v : Value} {d : DataW H} {p : List MemPlace} (hs : P.underlying t = some (.struct #[f0, f1, f2])) (h2 : P.underlying f2.type = some (.struct #[g0, g1])) (hflat : flat4b P f0 f1 f2 g0 g1 = true) (hC : P.cellsOf t = 4)
    (h0 : P.underlying f0.type = some (.int .i64)) (h1 : P.underlying f1.type = some (.int .i64)) (hg0 : P.underlying g0.type = some (.int .i64)) (hg1 : P.underlying g1.type = some (.slice e)) (he : P.underlying e = some (.int .i64)) (hc : P.cellsOf e = 1)
    (hv : Value.okWide P w r b0 t v) (h : DataW.Trod enc P w base spare held t v d p) :
    ∃ (z0 z1 z2 : Int) (A : Option Addr) (n c : Nat), v = .agg #[.int .i64 z0, .int .i64 z1, .int .i64 z2, .slice A n c] ∧ (Lit.int .i64 z0).wf = true ∧ (Lit.int .i64 z1).wf = true ∧ (Lit.int .i64 z2).wf = true ∧ n ≤ maxLen ∧ ∃ X, IRow w A n X := by
  simp only [flat4b, Bool.and_eq_true, beq_iff_eq] at hflat
  obtain ⟨⟨⟨⟨⟨⟨⟨⟨⟨o0, k0⟩, o1⟩, k1⟩, o2⟩, k2⟩, q0⟩, l0⟩, q1⟩, l1⟩ := hflat
  obtain ⟨cs, rfl, hsz⟩ := okWide_struct hs hv
  obtain ⟨c0, c1, c2, c3, rfl⟩ := array4 (hsz.trans hC)
  obtain ⟨fuel, hf⟩ := h
  obtain ⟨y0, y1, y2, m, _, _, j0, j1, j2⟩ := trod_struct3 hs hf
  have j0' : DataW.trod enc P w base spare held m f0.type [c0] = some y0 := by simpa [Value.cells, o0, k0] using j0
  have j1' : DataW.trod enc P w base spare held m f1.type [c1] = some y1 := by simpa [Value.cells, o1, k1] using j1
  have j2' : DataW.trod enc P w base spare held m f2.type [c2, c3] = some y2 := by simpa [Value.cells, o2, k2] using j2
  obtain ⟨u0, u1, m', _, _, i0, i1⟩ := trod_struct2 h2 j2'
  have i0' : DataW.trod enc P w base spare held m' g0.type [c2] = some u0 := by simpa [q0, l0] using i0
  have i1' : DataW.trod enc P w base spare held m' g1.type [c3] = some u1 := by simpa [q1, l1] using i1
  obtain ⟨z0, e0, _, w0⟩ := DataW.trod_int h0 j0'
  obtain ⟨z1, e1, _, w1⟩ := DataW.trod_int h1 j1'
  obtain ⟨z2, e2, _, w2⟩ := DataW.trod_int hg0 i0'
  obtain ⟨A, n, d, e3⟩ := slice_form hg1 i1'
  simp at e0 e1 e2 e3
  subst e0 e1 e2 e3
  obtain ⟨hn, X, _, hX⟩ := ints_fuel hg1 he hc i1'
  exact ⟨z0, z1, z2, A, n, d, rfl, w0, w1, w2, hn, X, hX⟩
end
end Go.Proofs.Ytpajbcgdoedleaa
