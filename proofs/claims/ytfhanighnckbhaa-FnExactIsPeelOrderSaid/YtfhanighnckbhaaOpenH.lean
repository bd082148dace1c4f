/- Arguments opened: a slice of slices of ints, a Hyper by value. -/
import Derived.Test.YtfhanighnckbhaaOpen
import Derived.Test.YtfhanighnckbhaaRowSS
import Derived.Deep.Strs
namespace Go.Proofs.Ytfhanighnckbhaa
open Go.ChangeShapes Go.WideShapes Go.ChangeAt Go.RowKit Go.Joins Go.Deep

section
variable {H : Type} {enc : TypeId × Value → H} {P : Program} {w : World} {base : Nat} {spare : Nat → Bool} {held : Bool}
theorem rows_fuel {t e e1 : TypeId} {fuel : Nat} {A : Option Addr} {n c : Nat} {x : DataW H × List MemPlace} (ht : P.underlying t = some (.slice e)) (he : P.underlying e = some (.slice e1)) (hc : P.cellsOf e = 1) (he1 : P.underlying e1 = some (.int .i64)) (hc1 : P.cellsOf e1 = 1)
    (h : DataW.trod enc P w base spare held fuel t [.slice A n c] = some x) : n ≤ maxLen ∧ ∃ l X, (∀ i, i < n → l i ≤ maxLen) ∧ HRow w A n l X := by
  rcases DataW.trod_slice ht h with ⟨hcs, _⟩ | ⟨a, len, cap, elems, rest, m, _, hcs, rfl, hb, hl, hm, hlen, hel, _, _⟩
  · simp at hcs
    obtain ⟨rfl, rfl, rfl⟩ := hcs
    exact ⟨by simp [maxLen], fun _ => 0, fun _ _ => 0, fun i hi => absurd hi (by omega), fun _ => none, fun _ => 0, fun h => absurd h (by omega), fun i hi => absurd hi (by omega)⟩
  · simp at hcs
    obtain ⟨rfl, rfl, rfl⟩ := hcs
    have each : ∀ i, ∃ q : Option Addr × Nat × Nat × (Nat → Int), i < n → w.cell? (a.add i) = some (.slice q.1 q.2.1 q.2.2.1) ∧ q.2.1 ≤ maxLen ∧ IRow w q.1 q.2.1 q.2.2.2 := fun i => by
      by_cases hi : i < n
      · have hb' := hel i hi
        rw [List.getElem?_eq_getElem (by omega), hc, Nat.mul_one, Option.bind_eq_some_iff] at hb'
        obtain ⟨cs', hcs, hy⟩ := hb'
        obtain ⟨B, l, d, e1⟩ := slice_form he hy
        subst e1
        obtain ⟨h1, X, _, h2⟩ := ints_fuel he he1 hc1 hy
        exact ⟨(B, l, d, X), fun _ => ⟨cell_of_cells?_one hcs, h1, h2⟩⟩
      · exact ⟨(none, 0, 0, fun _ => 0), fun h => absurd h hi⟩
    obtain ⟨f, hf⟩ := Classical.axiomOfChoice each
    refine ⟨by omega, fun i => (f i).2.1, fun i => (f i).2.2.2, fun i hi => (hf i hi).2.1, fun i => (f i).1, fun i => (f i).2.2.1, fun hn => ?_, fun i hi => (hf i hi).2.2⟩
    obtain ⟨b, off, rfl⟩ := addr_of (hf 0 hn).1
    exact ⟨b, off, rfl, World.block_lt_of_cell? w _ (hf 0 hn).1, fun k hk => by have := (hf k hk).1; rwa [add_none] at this⟩
theorem hyperRow_of {r : Reach} {b0 : Nat} {t e e1 : TypeId} {f0 f1 : Field} {v : Value} {d : DataW H} {p : List MemPlace} (hs : P.underlying t = some (.struct #[f0, f1])) (hone : oneCellFields P #[f0, f1] = true) (hC : P.cellsOf t = 2)
    (h0 : P.underlying f0.type = some (.int .i64)) (h1 : P.underlying f1.type = some (.slice e)) (he : P.underlying e = some (.slice e1)) (hc : P.cellsOf e = 1) (he1 : P.underlying e1 = some (.int .i64)) (hc1 : P.cellsOf e1 = 1)
    (hv : Value.okWide P w r b0 t v) (h : DataW.Trod enc P w base spare held t v d p) :
    ∃ (z : Int) (A : Option Addr) (n c : Nat), v = .agg #[.int .i64 z, .slice A n c] ∧ (Lit.int .i64 z).wf = true ∧ n ≤ maxLen ∧ ∃ l X, (∀ i, i < n → l i ≤ maxLen) ∧ HRow w A n l X := by
  obtain ⟨c0, c1, y0, y1, m, rfl, _, _, hy0, hy1⟩ := open_agg2 hs hone hC hv h
  obtain ⟨z, e0, _, wz⟩ := DataW.trod_int h0 hy0
  obtain ⟨A, n, c, e2⟩ := slice_form h1 hy1
  simp at e0 e2
  subst e0 e2
  obtain ⟨hn, l, X, hl, hX⟩ := rows_fuel h1 he hc he1 hc1 hy1
  exact ⟨z, A, n, c, rfl, wz, hn, l, X, hl, hX⟩
end
end Go.Proofs.Ytfhanighnckbhaa
