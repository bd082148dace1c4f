/- Arguments opened: a slice of peel steps, two ints each. -/
import Derived.Test.YtfhanighnckbhaaOpen
import Derived.Test.YtfhanighnckbhaaObj
import Derived.Deep.Strs
namespace Go.Proofs.Ytfhanighnckbhaa
open Go.ChangeShapes Go.WideShapes Go.ChangeAt Go.RowKit Go.Joins Go.Deep

section
variable {H : Type} {enc : TypeId × Value → H} {P : Program} {w : World} {base : Nat} {spare : Nat → Bool} {held : Bool}
theorem step_cells {e : TypeId} {f0 f1 : Field} {fuel : Nat} {cs : List Value} {x : DataW H × List MemPlace} (hs : P.underlying e = some (.struct #[f0, f1])) (hone : oneCellFields P #[f0, f1] = true) (h0 : P.underlying f0.type = some (.int .i64)) (h1 : P.underlying f1.type = some (.int .i64)) (hl : cs.length = 2)
    (h : DataW.trod enc P w base spare held fuel e cs = some x) : ∃ a b : Int, cs = [.int .i64 a, .int .i64 b] := by
  match cs, hl with
  | [c0, c1], _ =>
    obtain ⟨y0, y1, n, _, _, j0, j1⟩ := trod_struct2 hs h
    obtain ⟨o0, k0⟩ := hone_of hone 0 f0 rfl
    obtain ⟨o1, k1⟩ := hone_of hone 1 f1 rfl
    have j0' : DataW.trod enc P w base spare held n f0.type [c0] = some y0 := by simpa [o0, k0] using j0
    have j1' : DataW.trod enc P w base spare held n f1.type [c1] = some y1 := by simpa [o1, k1] using j1
    obtain ⟨z0, e0, _, _⟩ := DataW.trod_int h0 j0'
    obtain ⟨z1, e1, _, _⟩ := DataW.trod_int h1 j1'
    simp at e0 e1
    exact ⟨z0, z1, by rw [e0, e1]⟩
theorem stepsRow_of {t e : TypeId} {f0 f1 : Field} {A : Option Addr} {n c : Nat} {d : DataW H} {p : List MemPlace} (ht : P.underlying t = some (.slice e)) (hs : P.underlying e = some (.struct #[f0, f1])) (hone : oneCellFields P #[f0, f1] = true) (hC : P.cellsOf e = 2)
    (h0 : P.underlying f0.type = some (.int .i64)) (h1 : P.underlying f1.type = some (.int .i64)) (h : DataW.Trod enc P w base spare held t (.slice A n c) d p) : n ≤ maxLen ∧ ∃ X : Nat → Int, GRow w A (2 * n) (intV X) := by
  obtain ⟨fuel, hf⟩ := h
  rcases DataW.trod_slice ht hf with ⟨hcs, _⟩ | ⟨a, len, cap, elems, rest, m, _, hcs, _, hb, hl, hm, hlen, hel, _, _⟩
  · simp [Value.cells] at hcs
    obtain ⟨rfl, rfl, rfl⟩ := hcs
    exact ⟨by simp [maxLen], fun _ => 0, fun h => absurd h (by omega)⟩
  · simp [Value.cells] at hcs
    obtain ⟨rfl, rfl, rfl⟩ := hcs
    have each : ∀ i, ∃ q : Int × Int, i < n → w.cell? (a.add (i * 2)) = some (.int .i64 q.1) ∧ w.cell? ((a.add (i * 2)).add 1) = some (.int .i64 q.2) := fun i => by
      by_cases hi : i < n
      · have hb' := hel i hi
        rw [List.getElem?_eq_getElem (by omega), hC, Option.bind_eq_some_iff] at hb'
        obtain ⟨cs', hcs, hy⟩ := hb'
        obtain ⟨_, hlen2, hcell⟩ := World.cells?_some hcs
        obtain ⟨x, y, rfl⟩ := step_cells hs hone h0 h1 hlen2 hy
        have q0 := hcell 0 (by omega)
        have q1 := hcell 1 (by omega)
        refine ⟨(x, y), fun _ => ⟨?_, by simpa using q1⟩⟩
        have : (a.add (i * 2)).add 0 = a.add (i * 2) := by unfold Addr.add; split <;> simp_all
        rw [this] at q0
        simpa using q0
      · exact ⟨(0, 0), fun h => absurd h hi⟩
    obtain ⟨f, hf⟩ := Classical.axiomOfChoice each
    refine ⟨by omega, fun i => if i % 2 = 0 then (f (i / 2)).1 else (f (i / 2)).2, fun hn => ?_⟩
    have q0 := (hf 0 (by omega)).1
    rw [Nat.zero_mul] at q0
    obtain ⟨b, off, rfl⟩ := addr_of q0
    refine ⟨b, off, rfl, World.block_lt_of_cell? w _ q0, fun k hk => ?_⟩
    obtain ⟨g0, g1⟩ := hf (k / 2) (by omega)
    rw [add_none] at g0
    rw [add_none, add_none] at g1
    unfold intV
    rcases Nat.mod_two_eq_zero_or_one k with e | e
    · rw [show off + k = off + k / 2 * 2 by omega, g0]; simp [e]
    · rw [show off + k = off + k / 2 * 2 + 1 by omega, g1]; simp [e]
end
end Go.Proofs.Ytfhanighnckbhaa
