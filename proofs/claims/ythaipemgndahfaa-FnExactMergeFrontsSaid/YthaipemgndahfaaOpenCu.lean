/- Arguments opened: a struct of an int and two slices of strings (Cuckoo). -/
import Derived.Test.YthaipemgndahfaaOpen
import Derived.Deep.Strs
namespace Go.Proofs.Ythaipemgndahfaa
open Go.ChangeShapes Go.WideShapes Go.ChangeAt Go.RowKit Go.Joins Go.Deep

section
variable {H : Type} {enc : TypeId × Value → H} {P : Program} {w : World} {base : Nat} {spare : Nat → Bool} {held : Bool}
theorem strs_fuel {t e : TypeId} {fuel : Nat} {A : Option Addr} {n c : Nat} {x : DataW H × List MemPlace} (ht : P.underlying t = some (.slice e)) (he : P.underlying e = some .string) (hc : P.cellsOf e = 1)
    (hf : DataW.trod enc P w base spare held fuel t [.slice A n c] = some x) : n ≤ maxLen ∧ ∃ S, SRow w A n S := by
  rcases open_strings ht he hc hf with ⟨hcs, _⟩ | ⟨a, l, c', ss, hcs, _, hl, hm, hz, _, hcell, hwz⟩
  · simp at hcs
    obtain ⟨rfl, rfl, rfl⟩ := hcs
    exact ⟨by simp [maxLen], fun _ => ByteArray.empty, fun h => absurd h (by omega)⟩
  · simp at hcs
    obtain ⟨rfl, rfl, rfl⟩ := hcs
    have hlen : n ≤ ss.length := by rw [hz]; split <;> omega
    refine ⟨by omega, fun i => ss.getD i ByteArray.empty, fun hn => ?_⟩
    obtain ⟨b, off, rfl⟩ := addr_of (hcell 0 (by omega))
    refine ⟨b, off, rfl, World.block_lt_of_cell? w _ (hcell 0 (by omega)), fun i hi => ⟨?_, hwz _ ?_⟩⟩
    · have := hcell i (by omega); rwa [add_none] at this
    · simp only []; rw [List.getD_eq_getElem?_getD, List.getElem?_eq_getElem (by omega)]; exact List.getElem_mem _
theorem cuckooRow_of {r : Reach} {b0 : Nat} {t e : TypeId} {f0 f1 f2 : Field} {v : Value} {d : DataW H} {p : List MemPlace} (hs : P.underlying t = some (.struct #[f0, f1, f2])) (hone : oneCellFields P #[f0, f1, f2] = true) (hC : P.cellsOf t = 3)
    (h0 : P.underlying f0.type = some (.int .i64)) (h1 : P.underlying f1.type = some (.slice e)) (h2 : P.underlying f2.type = some (.slice e)) (he : P.underlying e = some .string) (hc : P.cellsOf e = 1)
    (hv : Value.okWide P w r b0 t v) (h : DataW.Trod enc P w base spare held t v d p) :
    ∃ (z : Int) (A : Option Addr) (n c : Nat) (B : Option Addr) (m k : Nat), v = .agg #[.int .i64 z, .slice A n c, .slice B m k] ∧ (Lit.int .i64 z).wf = true ∧ (n ≤ maxLen ∧ ∃ S, SRow w A n S) ∧ (m ≤ maxLen ∧ ∃ S, SRow w B m S) := by
  obtain ⟨c0, c1, c2, y0, y1, y2, m, rfl, _, _, hy0, hy1, hy2⟩ := open_agg3 hs hone hC hv h
  obtain ⟨z0, e0, _, w0⟩ := DataW.trod_int h0 hy0
  obtain ⟨A, n, c, e1⟩ := slice_form h1 hy1
  obtain ⟨B, m', k, e2⟩ := slice_form h2 hy2
  simp at e0 e1 e2
  subst e0 e1 e2
  exact ⟨z0, A, n, c, B, m', k, rfl, w0, strs_fuel h1 he hc hy1, strs_fuel h2 he hc hy2⟩
end
end Go.Proofs.Ythaipemgndahfaa
