/- Arguments opened: a Ranked by value (its vector lies flat in it). -/
import Derived.Test.YtmampgkhobbdcaaOpen
import Derived.Deep.Strs
namespace Go.Proofs.Ytmampgkhobbdcaa
open Go.ChangeShapes Go.WideShapes Go.ChangeAt Go.RowKit Go.Joins Go.Deep

section
variable {H : Type} {enc : TypeId × Value → H} {P : Program} {w : World} {base : Nat} {spare : Nat → Bool} {held : Bool}
/-- Where the fields of a struct lie whose first field is a struct of two cells, and the other two are of one cell. -/
def flat4 (P : Program) (f0 f1 f2 g0 g1 : Field) : Bool :=
  f0.offset == 0 && P.cellsOf f0.type == 2 && f1.offset == 2 && P.cellsOf f1.type == 1 && f2.offset == 3 && P.cellsOf f2.type == 1 && g0.offset == 0 && P.cellsOf g0.type == 1 && g1.offset == 1 && P.cellsOf g1.type == 1
theorem rankedRow_of {r : Reach} {b0 : Nat} {t e : TypeId} {f0 f1 f2 g0 g1 : Field} {v : Value} {d : DataW H} {p : List MemPlace} (hs : P.underlying t = some (.struct #[f0, f1, f2])) (h0 : P.underlying f0.type = some (.struct #[g0, g1])) (hflat : flat4 P f0 f1 f2 g0 g1 = true) (hC : P.cellsOf t = 4)
    (hg0 : P.underlying g0.type = some (.int .i64)) (hg1 : P.underlying g1.type = some (.slice e)) (h1 : P.underlying f1.type = some (.slice e)) (h2 : P.underlying f2.type = some (.slice e)) (he : P.underlying e = some (.int .i64)) (hc : P.cellsOf e = 1)
    (hv : Value.okWide P w r b0 t v) (h : DataW.Trod enc P w base spare held t v d p) :
    ∃ (z : Int) (A1 : Option Addr) (n1 c1 : Nat) (A2 : Option Addr) (n2 c2 : Nat) (A3 : Option Addr) (n3 c3 : Nat), v = .agg #[.int .i64 z, .slice A1 n1 c1, .slice A2 n2 c2, .slice A3 n3 c3] ∧ (Lit.int .i64 z).wf = true ∧
      (n1 ≤ maxLen ∧ ∃ X, IRow w A1 n1 X) ∧ (n2 ≤ maxLen ∧ ∃ X, IRow w A2 n2 X) ∧ (n3 ≤ maxLen ∧ ∃ X, IRow w A3 n3 X) := by
  simp only [flat4, Bool.and_eq_true, beq_iff_eq] at hflat
  obtain ⟨⟨⟨⟨⟨⟨⟨⟨⟨o0, k0⟩, o1⟩, k1⟩, o2⟩, k2⟩, q0⟩, l0⟩, q1⟩, l1⟩ := hflat
  obtain ⟨cs, rfl, hsz⟩ := okWide_struct hs hv
  obtain ⟨c0, c1, c2, c3, rfl⟩ := array4 (hsz.trans hC)
  obtain ⟨fuel, hf⟩ := h
  obtain ⟨y0, y1, y2, m, _, _, j0, j1, j2⟩ := trod_struct3 hs hf
  have j0' : DataW.trod enc P w base spare held m f0.type [c0, c1] = some y0 := by simpa [Value.cells, o0, k0] using j0
  have j1' : DataW.trod enc P w base spare held m f1.type [c2] = some y1 := by simpa [Value.cells, o1, k1] using j1
  have j2' : DataW.trod enc P w base spare held m f2.type [c3] = some y2 := by simpa [Value.cells, o2, k2] using j2
  obtain ⟨u0, u1, m', _, _, i0, i1⟩ := trod_struct2 h0 j0'
  have i0' : DataW.trod enc P w base spare held m' g0.type [c0] = some u0 := by simpa [q0, l0] using i0
  have i1' : DataW.trod enc P w base spare held m' g1.type [c1] = some u1 := by simpa [q1, l1] using i1
  obtain ⟨z, e0, _, wz⟩ := DataW.trod_int hg0 i0'
  obtain ⟨A1, n1, d1, e1⟩ := slice_form hg1 i1'
  obtain ⟨A2, n2, d2, e2⟩ := slice_form h1 j1'
  obtain ⟨A3, n3, d3, e3⟩ := slice_form h2 j2'
  simp at e0 e1 e2 e3
  subst e0 e1 e2 e3
  obtain ⟨hn1, X1, _, hX1⟩ := ints_fuel hg1 he hc i1'
  obtain ⟨hn2, X2, _, hX2⟩ := ints_fuel h1 he hc j1'
  obtain ⟨hn3, X3, _, hX3⟩ := ints_fuel h2 he hc j2'
  exact ⟨z, A1, n1, d1, A2, n2, d2, A3, n3, d3, rfl, wz, ⟨hn1, X1, hX1⟩, ⟨hn2, X2, hX2⟩, ⟨hn3, X3, hX3⟩⟩
end
end Go.Proofs.Ytmampgkhobbdcaa
