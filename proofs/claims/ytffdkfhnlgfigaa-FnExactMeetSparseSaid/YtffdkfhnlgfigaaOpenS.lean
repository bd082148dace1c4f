/- Arguments opened: a Sparse by value (its two vectors lie flat in it). -/
import Derived.Test.YtffdkfhnlgfigaaOpen
import Derived.Deep.Strs
namespace Go.Proofs.Ytffdkfhnlgfigaa
open Go.ChangeShapes Go.WideShapes Go.ChangeAt Go.RowKit Go.Joins Go.Deep

section
variable {H : Type} {enc : TypeId × Value → H} {P : Program} {w : World} {base : Nat} {spare : Nat → Bool} {held : Bool}
theorem trod_struct5 {t : TypeId} {f0 f1 f2 f3 f4 : Field} {fuel : Nat} {cs : List Value} {x : DataW H × List MemPlace} (ht : P.underlying t = some (.struct #[f0, f1, f2, f3, f4])) (h : DataW.trod enc P w base spare held fuel t cs = some x) :
    ∃ y0 y1 y2 y3 y4 n, DataW.trod enc P w base spare held n f0.type ((cs.drop f0.offset).take (P.cellsOf f0.type)) = some y0 ∧ DataW.trod enc P w base spare held n f1.type ((cs.drop f1.offset).take (P.cellsOf f1.type)) = some y1 ∧
      DataW.trod enc P w base spare held n f2.type ((cs.drop f2.offset).take (P.cellsOf f2.type)) = some y2 ∧ DataW.trod enc P w base spare held n f3.type ((cs.drop f3.offset).take (P.cellsOf f3.type)) = some y3 ∧
      DataW.trod enc P w base spare held n f4.type ((cs.drop f4.offset).take (P.cellsOf f4.type)) = some y4 := by
  obtain ⟨xs, n, _, rfl, hl, hlen, hf⟩ := DataW.trod_struct ht h
  match xs, hlen with
  | [y0, y1, y2, y3, y4], _ => exact ⟨y0, y1, y2, y3, y4, n, by simpa using hf 0 f0 rfl, by simpa using hf 1 f1 rfl, by simpa using hf 2 f2 rfl, by simpa using hf 3 f3 rfl, by simpa using hf 4 f4 rfl⟩
theorem array7 (T : Array Value) (h : T.size = 7) : ∃ v0 v1 v2 v3 v4 v5 v6 : Value, T = #[v0, v1, v2, v3, v4, v5, v6] := by
  match T, h with
  | ⟨[v0, v1, v2, v3, v4, v5, v6]⟩, _ => exact ⟨v0, v1, v2, v3, v4, v5, v6, rfl⟩
/-- Where the fields of a Sparse lie. -/
def flat7 (P : Program) (f0 f1 f2 f3 f4 g0 g1 : Field) : Bool :=
  f0.offset == 0 && P.cellsOf f0.type == 1 && f1.offset == 1 && P.cellsOf f1.type == 1 && f2.offset == 2 && P.cellsOf f2.type == 1 && f3.offset == 3 && P.cellsOf f3.type == 2 && f4.offset == 5 && P.cellsOf f4.type == 2 &&
    g0.offset == 0 && P.cellsOf g0.type == 1 && g1.offset == 1 && P.cellsOf g1.type == 1
theorem sparseRow_of {r : Reach} {b0 : Nat} {t e : TypeId} {f0 f1 f2 f3 f4 g0 g1 : Field} {v : Value} {d : DataW H} {p : List MemPlace} (hs : P.underlying t = some (.struct #[f0, f1, f2, f3, f4])) (h3 : P.underlying f3.type = some (.struct #[g0, g1])) (h4 : P.underlying f4.type = some (.struct #[g0, g1]))
    (hflat : flat7 P f0 f1 f2 f3 f4 g0 g1 = true) (hC : P.cellsOf t = 7) (h0 : P.underlying f0.type = some (.int .i64)) (h1 : P.underlying f1.type = some (.int .i64)) (h2 : P.underlying f2.type = some (.int .i64))
    (hg0 : P.underlying g0.type = some (.int .i64)) (hg1 : P.underlying g1.type = some (.slice e)) (he : P.underlying e = some (.int .i64)) (hc : P.cellsOf e = 1)
    (hv : Value.okWide P w r b0 t v) (h : DataW.Trod enc P w base spare held t v d p) :
    ∃ (z0 z1 z2 z3 : Int) (A1 : Option Addr) (n1 c1 : Nat) (z4 : Int) (A2 : Option Addr) (n2 c2 : Nat), v = .agg #[.int .i64 z0, .int .i64 z1, .int .i64 z2, .int .i64 z3, .slice A1 n1 c1, .int .i64 z4, .slice A2 n2 c2] ∧
      (Lit.int .i64 z0).wf = true ∧ (Lit.int .i64 z1).wf = true ∧ (Lit.int .i64 z2).wf = true ∧ (Lit.int .i64 z3).wf = true ∧ (Lit.int .i64 z4).wf = true ∧
      (n1 ≤ maxLen ∧ ∃ X, IRow w A1 n1 X) ∧ (n2 ≤ maxLen ∧ ∃ X, IRow w A2 n2 X) := by
  simp only [flat7, Bool.and_eq_true, beq_iff_eq] at hflat
  obtain ⟨⟨⟨⟨⟨⟨⟨⟨⟨⟨⟨⟨⟨o0, k0⟩, o1⟩, k1⟩, o2⟩, k2⟩, o3⟩, k3⟩, o4⟩, k4⟩, q0⟩, l0⟩, q1⟩, l1⟩ := hflat
  obtain ⟨cs, rfl, hsz⟩ := okWide_struct hs hv
  obtain ⟨c0, c1, c2, c3, c4, c5, c6, rfl⟩ := array7 _ (hsz.trans hC)
  obtain ⟨fuel, hf⟩ := h
  obtain ⟨y0, y1, y2, y3, y4, m, j0, j1, j2, j3, j4⟩ := trod_struct5 hs hf
  have j0' : DataW.trod enc P w base spare held m f0.type [c0] = some y0 := by simpa [Value.cells, o0, k0] using j0
  have j1' : DataW.trod enc P w base spare held m f1.type [c1] = some y1 := by simpa [Value.cells, o1, k1] using j1
  have j2' : DataW.trod enc P w base spare held m f2.type [c2] = some y2 := by simpa [Value.cells, o2, k2] using j2
  have j3' : DataW.trod enc P w base spare held m f3.type [c3, c4] = some y3 := by simpa [Value.cells, o3, k3] using j3
  have j4' : DataW.trod enc P w base spare held m f4.type [c5, c6] = some y4 := by simpa [Value.cells, o4, k4] using j4
  obtain ⟨u0, u1, m', _, _, i0, i1⟩ := trod_struct2 h3 j3'
  have i0' : DataW.trod enc P w base spare held m' g0.type [c3] = some u0 := by simpa [q0, l0] using i0
  have i1' : DataW.trod enc P w base spare held m' g1.type [c4] = some u1 := by simpa [q1, l1] using i1
  obtain ⟨v0, v1, m2, _, _, r0, r1⟩ := trod_struct2 h4 j4'
  have r0' : DataW.trod enc P w base spare held m2 g0.type [c5] = some v0 := by simpa [q0, l0] using r0
  have r1' : DataW.trod enc P w base spare held m2 g1.type [c6] = some v1 := by simpa [q1, l1] using r1
  obtain ⟨z0, e0, _, w0⟩ := DataW.trod_int h0 j0'
  obtain ⟨z1, e1, _, w1⟩ := DataW.trod_int h1 j1'
  obtain ⟨z2, e2, _, w2⟩ := DataW.trod_int h2 j2'
  obtain ⟨z3, e3, _, w3⟩ := DataW.trod_int hg0 i0'
  obtain ⟨z4, e4, _, w4⟩ := DataW.trod_int hg0 r0'
  obtain ⟨A1, n1, d1, e5⟩ := slice_form hg1 i1'
  obtain ⟨A2, n2, d2, e6⟩ := slice_form hg1 r1'
  simp at e0 e1 e2 e3 e4 e5 e6
  subst e0 e1 e2 e3 e4 e5 e6
  obtain ⟨hn1, X1, _, hX1⟩ := ints_fuel hg1 he hc i1'
  obtain ⟨hn2, X2, _, hX2⟩ := ints_fuel hg1 he hc r1'
  exact ⟨z0, z1, z2, z3, A1, n1, d1, z4, A2, n2, d2, rfl, w0, w1, w2, w3, w4, ⟨hn1, X1, hX1⟩, ⟨hn2, X2, hX2⟩⟩
end
end Go.Proofs.Ytffdkfhnlgfigaa
