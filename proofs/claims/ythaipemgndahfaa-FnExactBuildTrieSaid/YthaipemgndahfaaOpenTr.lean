/- Arguments opened: a Trie by value (two vectors that lie flat in it, a string). -/
import Derived.Test.YthaipemgndahfaaOpen
import Derived.Deep.Strs
namespace Go.Proofs.Ythaipemgndahfaa
open Go.ChangeShapes Go.WideShapes Go.ChangeAt Go.RowKit Go.Joins Go.Deep

section
variable {H : Type} {enc : TypeId × Value → H} {P : Program} {w : World} {base : Nat} {spare : Nat → Bool} {held : Bool}
theorem array5 (T : Array Value) (h : T.size = 5) : ∃ v0 v1 v2 v3 v4 : Value, T = #[v0, v1, v2, v3, v4] := by
  match T, h with
  | ⟨[v0, v1, v2, v3, v4]⟩, _ => exact ⟨v0, v1, v2, v3, v4, rfl⟩
/-- Where the fields of a struct lie whose first two fields are structs of two cells, and the last one is of one cell. -/
def flat5t (P : Program) (f0 f1 f2 g0 g1 : Field) : Bool :=
  f0.offset == 0 && P.cellsOf f0.type == 2 && f1.offset == 2 && P.cellsOf f1.type == 2 && f2.offset == 4 && P.cellsOf f2.type == 1 && g0.offset == 0 && P.cellsOf g0.type == 1 && g1.offset == 1 && P.cellsOf g1.type == 1
theorem trieRow_of {r : Reach} {b0 : Nat} {t e : TypeId} {f0 f1 f2 g0 g1 : Field} {v : Value} {d : DataW H} {p : List MemPlace} (hs : P.underlying t = some (.struct #[f0, f1, f2])) (h0 : P.underlying f0.type = some (.struct #[g0, g1])) (h1 : P.underlying f1.type = some (.struct #[g0, g1])) (hflat : flat5t P f0 f1 f2 g0 g1 = true) (hC : P.cellsOf t = 5)
    (h2 : P.underlying f2.type = some .string) (hg0 : P.underlying g0.type = some (.int .i64)) (hg1 : P.underlying g1.type = some (.slice e)) (he : P.underlying e = some (.int .i64)) (hc : P.cellsOf e = 1)
    (hv : Value.okWide P w r b0 t v) (h : DataW.Trod enc P w base spare held t v d p) :
    ∃ (z0 : Int) (A : Option Addr) (n c : Nat) (z1 : Int) (B : Option Addr) (m k : Nat) (s : ByteArray), v = .agg #[.int .i64 z0, .slice A n c, .int .i64 z1, .slice B m k, .string s] ∧ (Lit.int .i64 z0).wf = true ∧ (Lit.int .i64 z1).wf = true ∧
      (n ≤ maxLen ∧ ∃ X, IRow w A n X) ∧ (m ≤ maxLen ∧ ∃ X, IRow w B m X) ∧ s.size ≤ maxLen := by
  simp only [flat5t, Bool.and_eq_true, beq_iff_eq] at hflat
  obtain ⟨⟨⟨⟨⟨⟨⟨⟨⟨o0, k0⟩, o1⟩, k1⟩, o2⟩, k2⟩, q0⟩, l0⟩, q1⟩, l1⟩ := hflat
  obtain ⟨cs, rfl, hsz⟩ := okWide_struct hs hv
  obtain ⟨c0, c1, c2, c3, c4, rfl⟩ := array5 _ (hsz.trans hC)
  obtain ⟨fuel, hf⟩ := h
  obtain ⟨y0, y1, y2, m, _, _, j0, j1, j2⟩ := trod_struct3 hs hf
  have j0' : DataW.trod enc P w base spare held m f0.type [c0, c1] = some y0 := by simpa [Value.cells, o0, k0] using j0
  have j1' : DataW.trod enc P w base spare held m f1.type [c2, c3] = some y1 := by simpa [Value.cells, o1, k1] using j1
  have j2' : DataW.trod enc P w base spare held m f2.type [c4] = some y2 := by simpa [Value.cells, o2, k2] using j2
  obtain ⟨u0, u1, m', _, _, i0, i1⟩ := trod_struct2 h0 j0'
  have i0' : DataW.trod enc P w base spare held m' g0.type [c0] = some u0 := by simpa [q0, l0] using i0
  have i1' : DataW.trod enc P w base spare held m' g1.type [c1] = some u1 := by simpa [q1, l1] using i1
  obtain ⟨v0, v1, m2, _, _, r0, r1⟩ := trod_struct2 h1 j1'
  have r0' : DataW.trod enc P w base spare held m2 g0.type [c2] = some v0 := by simpa [q0, l0] using r0
  have r1' : DataW.trod enc P w base spare held m2 g1.type [c3] = some v1 := by simpa [q1, l1] using r1
  obtain ⟨z0, e0, _, w0⟩ := DataW.trod_int hg0 i0'
  obtain ⟨z1, e1, _, w1⟩ := DataW.trod_int hg0 r0'
  obtain ⟨s, e2, _, w2⟩ := DataW.trod_string h2 j2'
  obtain ⟨A, n, d, e3⟩ := slice_form hg1 i1'
  obtain ⟨B, n2, d2, e4⟩ := slice_form hg1 r1'
  simp at e0 e1 e2 e3 e4
  subst e0 e1 e2 e3 e4
  obtain ⟨hn, X, _, hX⟩ := ints_fuel hg1 he hc i1'
  obtain ⟨hn2, X2, _, hX2⟩ := ints_fuel hg1 he hc r1'
  exact ⟨z0, A, n, d, z1, B, n2, d2, s, rfl, w0, w1, ⟨hn, X, hX⟩, ⟨hn2, X2, hX2⟩, w2⟩
end
end Go.Proofs.Ythaipemgndahfaa
