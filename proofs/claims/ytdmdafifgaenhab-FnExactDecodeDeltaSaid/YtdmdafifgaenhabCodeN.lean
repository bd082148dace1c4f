/- The model's codes: lists of bits. -/
import Derived.Test.YtdmdafifgaenhabCodeL
import Derived.Test.YtdmdafifgaenhabApp
namespace Go.Proofs.Ytdmdafifgaenhab
open Go.RowKit

def TailIs (l : Nat) (f : Nat → Bool) (w : World) (e : Ending) (w' : World) : Prop := ∃ A c, e = .returned (.slice A l c) ∧ GRow w' A l (boolV f) ∧ Below w.heap.size w w'
def LstIs (z : Nat) (f : Nat → Bool) (w : World) (e : Ending) (w' : World) : Prop := ∃ A c, e = .returned (.slice A z c) ∧ w'.ownsRow w.heap.size 4 1 (.slice A z c) z (vals (boolV f) z) ∧ Below w.heap.size w w'
theorem run_make_bools (n : Nat) (hn : n ≤ 4096) (W : World) : (Instr.makeSlice 77 (.int .i64 n) (.int .i64 n)).run Try.prog W = .ok (.slice (some ⟨W.heap.size, 0, none⟩) n n) (W.alloc (.cells (madeCells #[.bool false] n) 4)) :=
  run_make_row' (P := Try.prog) 77 4 (.bool false) 1 Try.underlying77 infoB rfl .i64 .i64 n (by omega) (by omega) W
theorem made_bools (w : World) (n : Nat) : ORowB (w.alloc (.cells (madeCells #[.bool false] n) 4)) w.heap.size n (fun _ => false) :=
  ⟨_, Go.Deep.blk_alloc_new _ _, by simp [madeCells], fun i hi => by simp [madeCells, hi, Nat.mod_one]⟩
theorem made_vals (n : Nat) : (madeCells #[Value.bool false] n).toList = vals (boolV fun _ => false) n := by
  unfold vals boolV
  apply List.ext_getElem?
  intro i
  rw [Array.getElem?_toList, range_at (fun _ => Value.bool false)]
  by_cases h : i < n
  · simp [madeCells, h, Nat.mod_one]
  · rw [if_neg h]; simp [madeCells, h]
end Go.Proofs.Ytdmdafifgaenhab
