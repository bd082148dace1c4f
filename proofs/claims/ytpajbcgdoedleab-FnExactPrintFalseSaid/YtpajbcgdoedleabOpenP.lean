/- Arguments opened: structs of two or three ints and a slice of ints (Peeled, Displaced, Ordered, Table, Counting). -/
import Derived.Test.YtpajbcgdoedleabOpen
import Derived.Deep.Strs
namespace Go.Proofs.Ytpajbcgdoedleab
open Go.ChangeShapes Go.WideShapes Go.ChangeAt Go.RowKit Go.Joins Go.Deep

section
variable {H : Type} {enc : TypeId × Value → H} {P : Program} {w : World} {base : Nat} {spare : Nat → Bool} {held : Bool}
theorem agg3Row_of {r : Reach} {b0 : Nat} {t e : TypeId} {f0 f1 f2 : Field} {v : Value} {d : DataW H} {p : List MemPlace} (hs : P.underlying t = some (.struct #[f0, f1, f2])) (hone : oneCellFields P #[f0, f1, f2] = true) (hC : P.cellsOf t = 3)
    (h0 : P.underlying f0.type = some (.int .i64)) (h1 : P.underlying f1.type = some (.int .i64)) (h2 : P.underlying f2.type = some (.slice e)) (he : P.underlying e = some (.int .i64)) (hc : P.cellsOf e = 1)
    (hv : Value.okWide P w r b0 t v) (h : DataW.Trod enc P w base spare held t v d p) :
    ∃ (z0 z1 : Int) (A : Option Addr) (n c : Nat), v = .agg #[.int .i64 z0, .int .i64 z1, .slice A n c] ∧ (Lit.int .i64 z0).wf = true ∧ (Lit.int .i64 z1).wf = true ∧ n ≤ maxLen ∧ ∃ X, IRow w A n X := by
  obtain ⟨c0, c1, c2, y0, y1, y2, m, rfl, _, _, hy0, hy1, hy2⟩ := open_agg3 hs hone hC hv h
  obtain ⟨z0, e0, _, w0⟩ := DataW.trod_int h0 hy0
  obtain ⟨z1, e1, _, w1⟩ := DataW.trod_int h1 hy1
  obtain ⟨A, n, c, e2⟩ := slice_form h2 hy2
  simp at e0 e1 e2
  subst e0 e1 e2
  obtain ⟨hn, X, _, hX⟩ := ints_fuel h2 he hc hy2
  exact ⟨z0, z1, A, n, c, rfl, w0, w1, hn, X, hX⟩
theorem agg4Row_of {r : Reach} {b0 : Nat} {t e : TypeId} {f0 f1 f2 f3 : Field} {v : Value} {d : DataW H} {p : List MemPlace} (hs : P.underlying t = some (.struct #[f0, f1, f2, f3])) (hone : oneCellFields P #[f0, f1, f2, f3] = true) (hC : P.cellsOf t = 4)
    (h0 : P.underlying f0.type = some (.int .i64)) (h1 : P.underlying f1.type = some (.int .i64)) (h2 : P.underlying f2.type = some (.int .i64)) (h3 : P.underlying f3.type = some (.slice e)) (he : P.underlying e = some (.int .i64)) (hc : P.cellsOf e = 1)
    (hv : Value.okWide P w r b0 t v) (h : DataW.Trod enc P w base spare held t v d p) :
    ∃ (z0 z1 z2 : Int) (A : Option Addr) (n c : Nat), v = .agg #[.int .i64 z0, .int .i64 z1, .int .i64 z2, .slice A n c] ∧ (Lit.int .i64 z0).wf = true ∧ (Lit.int .i64 z1).wf = true ∧ (Lit.int .i64 z2).wf = true ∧ n ≤ maxLen ∧ ∃ X, IRow w A n X := by
  obtain ⟨c0, c1, c2, c3, y0, y1, y2, y3, m, rfl, _, _, hy0, hy1, hy2, hy3⟩ := open_agg4 hs hone hC hv h
  obtain ⟨z0, e0, _, w0⟩ := DataW.trod_int h0 hy0
  obtain ⟨z1, e1, _, w1⟩ := DataW.trod_int h1 hy1
  obtain ⟨z2, e2, _, w2⟩ := DataW.trod_int h2 hy2
  obtain ⟨A, n, c, e3⟩ := slice_form h3 hy3
  simp at e0 e1 e2 e3
  subst e0 e1 e2 e3
  obtain ⟨hn, X, _, hX⟩ := ints_fuel h3 he hc hy3
  exact ⟨z0, z1, z2, A, n, c, rfl, w0, w1, w2, hn, X, hX⟩
end
end Go.Proofs.Ytpajbcgdoedleab
