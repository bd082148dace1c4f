/- Arguments opened: a slice of bit vectors, a slice of bools, a System by value. -/
import Derived.Test.YtijlpbcgkecinaaOpen
import Derived.Test.YtijlpbcgkecinaaRowBS
import Derived.Deep.Strs
namespace Go.Proofs.Ytijlpbcgkecinaa
open Go.ChangeShapes Go.WideShapes Go.ChangeAt Go.RowKit Go.Joins Go.Deep

section
variable {H : Type} {enc : TypeId × Value → H} {P : Program} {w : World} {base : Nat} {spare : Nat → Bool} {held : Bool}
theorem bools_fuel {t e : TypeId} {fuel : Nat} {A : Option Addr} {n c : Nat} {x : DataW H × List MemPlace} (ht : P.underlying t = some (.slice e)) (he : P.underlying e = some .bool) (hc : P.cellsOf e = 1)
    (h : DataW.trod enc P w base spare held fuel t [.slice A n c] = some x) : n ≤ maxLen ∧ ∃ X : Nat → Bool, GRow w A n (boolV X) := by
  rcases DataW.trod_slice ht h with ⟨hcs, _⟩ | ⟨a, len, cap, elems, rest, m, _, hcs, rfl, hb, hl, hm, hlen, hel, _, _⟩
  · simp at hcs
    obtain ⟨rfl, rfl, rfl⟩ := hcs
    exact ⟨by simp [maxLen], fun _ => false, fun h => absurd h (by omega)⟩
  · simp at hcs
    obtain ⟨rfl, rfl, rfl⟩ := hcs
    have each : ∀ i, ∃ q : Bool, i < n → w.cell? (a.add i) = some (.bool q) := fun i => by
      by_cases hi : i < n
      · have hb' := hel i hi
        rw [List.getElem?_eq_getElem (by omega), hc, Nat.mul_one, Option.bind_eq_some_iff] at hb'
        obtain ⟨cs', hcs, hy⟩ := hb'
        obtain ⟨b, e1, _⟩ := DataW.trod_bool he hy
        subst e1
        exact ⟨b, fun _ => cell_of_cells?_one hcs⟩
      · exact ⟨false, fun h => absurd h hi⟩
    obtain ⟨f, hf⟩ := Classical.axiomOfChoice each
    refine ⟨by omega, f, fun hn => ?_⟩
    obtain ⟨b, off, rfl⟩ := addr_of (hf 0 hn)
    exact ⟨b, off, rfl, World.block_lt_of_cell? w _ (hf 0 hn), fun k hk => by have := hf k hk; rwa [add_none] at this⟩
theorem vec_cells {e e1 : TypeId} {f0 f1 : Field} {fuel : Nat} {cs : List Value} {x : DataW H × List MemPlace} (hs : P.underlying e = some (.struct #[f0, f1])) (hone : oneCellFields P #[f0, f1] = true) (h0 : P.underlying f0.type = some (.int .i64)) (h1 : P.underlying f1.type = some (.slice e1)) (he1 : P.underlying e1 = some (.int .i64)) (hc1 : P.cellsOf e1 = 1) (hl : cs.length = 2)
    (h : DataW.trod enc P w base spare held fuel e cs = some x) : ∃ (a : Int) (B : Option Addr) (l d : Nat) (X : Nat → Int), cs = [.int .i64 a, .slice B l d] ∧ l ≤ maxLen ∧ IRow w B l X := by
  match cs, hl with
  | [c0, c1], _ =>
    obtain ⟨y0, y1, n, _, _, j0, j1⟩ := trod_struct2 hs h
    obtain ⟨o0, k0⟩ := hone_of hone 0 f0 rfl
    obtain ⟨o1, k1⟩ := hone_of hone 1 f1 rfl
    have j0' : DataW.trod enc P w base spare held n f0.type [c0] = some y0 := by simpa [o0, k0] using j0
    have j1' : DataW.trod enc P w base spare held n f1.type [c1] = some y1 := by simpa [o1, k1] using j1
    obtain ⟨z0, e0, _, _⟩ := DataW.trod_int h0 j0'
    obtain ⟨B, l, d, e2⟩ := slice_form h1 j1'
    simp at e0 e2
    subst e0 e2
    obtain ⟨hn, X, _, hX⟩ := ints_fuel h1 he1 hc1 j1'
    exact ⟨z0, B, l, d, X, rfl, hn, hX⟩
theorem vecs_fuel {t e e1 : TypeId} {f0 f1 : Field} {fuel : Nat} {A : Option Addr} {n c : Nat} {x : DataW H × List MemPlace} (ht : P.underlying t = some (.slice e)) (hs : P.underlying e = some (.struct #[f0, f1])) (hone : oneCellFields P #[f0, f1] = true) (hC : P.cellsOf e = 2) (h0 : P.underlying f0.type = some (.int .i64)) (h1 : P.underlying f1.type = some (.slice e1)) (he1 : P.underlying e1 = some (.int .i64)) (hc1 : P.cellsOf e1 = 1)
    (hf : DataW.trod enc P w base spare held fuel t [.slice A n c] = some x) : n ≤ maxLen ∧ ∃ V : Nat → BV, (∀ i, i < n → (V i).l ≤ maxLen) ∧ VRow w A n V := by
  rcases DataW.trod_slice ht hf with ⟨hcs, _⟩ | ⟨a, len, cap, elems, rest, m, _, hcs, rfl, hb, hl, hm, hlen, hel, _, _⟩
  · simp at hcs
    obtain ⟨rfl, rfl, rfl⟩ := hcs
    exact ⟨by simp [maxLen], fun _ => ⟨0, 0, fun _ => 0⟩, fun i hi => absurd hi (by omega), fun _ => none, fun _ => 0, fun h => absurd h (by omega), fun i hi => absurd hi (by omega)⟩
  · simp at hcs
    obtain ⟨rfl, rfl, rfl⟩ := hcs
    have each : ∀ i, ∃ q : BV × Option Addr × Nat, i < n → w.cell? (a.add (i * 2)) = some (.int .i64 q.1.z) ∧ w.cell? ((a.add (i * 2)).add 1) = some (.slice q.2.1 q.1.l q.2.2) ∧ q.1.l ≤ maxLen ∧ IRow w q.2.1 q.1.l q.1.x := fun i => by
      by_cases hi : i < n
      · have hb' := hel i hi
        rw [List.getElem?_eq_getElem (by omega), hC, Option.bind_eq_some_iff] at hb'
        obtain ⟨cs', hcs, hy⟩ := hb'
        obtain ⟨_, hlen2, hcell⟩ := World.cells?_some hcs
        obtain ⟨z, B, l, d, X, rfl, hl2, hX⟩ := vec_cells hs hone h0 h1 he1 hc1 hlen2 hy
        have q0 := hcell 0 (by omega)
        have q1 := hcell 1 (by omega)
        refine ⟨(⟨z, l, X⟩, B, d), fun _ => ⟨?_, by simpa using q1, hl2, hX⟩⟩
        have : (a.add (i * 2)).add 0 = a.add (i * 2) := by unfold Addr.add; split <;> simp_all
        rw [this] at q0
        simpa using q0
      · exact ⟨(⟨0, 0, fun _ => 0⟩, none, 0), fun h => absurd h hi⟩
    obtain ⟨f, hf⟩ := Classical.axiomOfChoice each
    refine ⟨by omega, fun i => (f i).1, fun i hi => (hf i hi).2.2.1, fun i => (f i).2.1, fun i => (f i).2.2, fun hn => ?_, fun i hi => (hf i hi).2.2.2⟩
    have q0 := (hf 0 (by omega)).1
    rw [Nat.zero_mul] at q0
    obtain ⟨b, off, rfl⟩ := addr_of q0
    refine ⟨b, off, rfl, World.block_lt_of_cell? w _ q0, fun k hk => ?_⟩
    obtain ⟨g0, g1, _, _⟩ := hf (k / 2) (by omega)
    rw [add_none] at g0
    rw [add_none, add_none] at g1
    unfold bsV
    rcases Nat.mod_two_eq_zero_or_one k with e | e
    · rw [show off + k = off + k / 2 * 2 by omega, g0]; simp [e]
    · rw [show off + k = off + k / 2 * 2 + 1 by omega, g1]; simp [e]
theorem systemRow_of {r : Reach} {b0 : Nat} {t e e1 e2 : TypeId} {f0 f1 f2 h0 h1 : Field} {v : Value} {d : DataW H} {p : List MemPlace} (hs : P.underlying t = some (.struct #[f0, f1, f2])) (hone : oneCellFields P #[f0, f1, f2] = true) (hC : P.cellsOf t = 3)
    (u0 : P.underlying f0.type = some (.int .i64)) (u1 : P.underlying f1.type = some (.slice e)) (hs1 : P.underlying e = some (.struct #[h0, h1])) (hone1 : oneCellFields P #[h0, h1] = true) (hC1 : P.cellsOf e = 2) (v0 : P.underlying h0.type = some (.int .i64)) (v1 : P.underlying h1.type = some (.slice e1)) (he1 : P.underlying e1 = some (.int .i64)) (hc1 : P.cellsOf e1 = 1)
    (u2 : P.underlying f2.type = some (.slice e2)) (he2 : P.underlying e2 = some .bool) (hc2 : P.cellsOf e2 = 1)
    (hv : Value.okWide P w r b0 t v) (h : DataW.Trod enc P w base spare held t v d p) :
    ∃ (z : Int) (A : Option Addr) (n c : Nat) (B : Option Addr) (m k : Nat), v = .agg #[.int .i64 z, .slice A n c, .slice B m k] ∧ (Lit.int .i64 z).wf = true ∧ (n ≤ maxLen ∧ ∃ V : Nat → BV, (∀ i, i < n → (V i).l ≤ maxLen) ∧ VRow w A n V) ∧ (m ≤ maxLen ∧ ∃ X : Nat → Bool, GRow w B m (boolV X)) := by
  obtain ⟨c0, c1, c2, y0, y1, y2, m, rfl, _, _, hy0, hy1, hy2⟩ := open_agg3 hs hone hC hv h
  obtain ⟨z0, e0, _, w0⟩ := DataW.trod_int u0 hy0
  obtain ⟨A, n, c, e3⟩ := slice_form u1 hy1
  obtain ⟨B, m', k, e4⟩ := slice_form u2 hy2
  simp at e0 e3 e4
  subst e0 e3 e4
  exact ⟨z0, A, n, c, B, m', k, rfl, w0, vecs_fuel u1 hs1 hone1 hC1 v0 v1 he1 hc1 hy1, bools_fuel u2 he2 hc2 hy2⟩
end
end Go.Proofs.Ytijlpbcgkecinaa
