/- HyperOf: both sides. -/
import Derived.Test.YtockhjdhihehlaaHypM
import Derived.Test.YtockhjdhihehlaaIsHyp
import Derived.Test.YtockhjdhihehlaaIdxF
namespace Go.Proofs.Ytockhjdhihehlaa
open Go.RowKit

section
variable {w wr wj : World} {z : Int} {V : Nat → Nat → Int} {n rb ob hb k : Nat} {G : Nat → Nat}
end
set_option maxRecDepth 100000 in
set_option maxHeartbeats 2000000 in
theorem impl_edgeOf (seed : Int) (g : Nat) (S : Nat → ByteArray) (k : Nat) (w : World) (hs : (S k).size ≤ maxLen) (hsd : seedB seed 0 = true) (h1 : 1 ≤ g) (h2 : g ≤ 24) :
    Calls Try.prog 117 #[.int .i64 seed, .string (S k), .int .i64 g] w fun e w' => ∃ b, e = .returned (.slice (some ⟨b, 0, none⟩) 3 3) ∧ w.heap.size ≤ b ∧ ORow w' b 3 (eH seed g S k) ∧ Below w.heap.size w w' := by
  have hmk3 : ∀ W, (Instr.makeSlice 22 (.int .i64 3) (.int .i64 3)).run Try.prog W = .ok (.slice (some ⟨W.heap.size, 0, none⟩) 3 3) (W.alloc (.cells (madeCells #[.int .i64 0] 3) 3)) := fun W => run_make_row' (P := Try.prog) 22 3 (.int .i64 0) 8 Try.underlying22 infoI rfl .i64 .i64 3 (by omega) (by omega) W
  have O1 := Lib.hid (ORow.made w 3)
  have B1 := Lib.hid ((Below.refl w.heap.size w).alloc (Nat.le_refl _) (.cells (madeCells #[.int .i64 0] 3) 3))
  go_enter Try.func117, Try.ntmps117
  go_wp2_with fail
  go_loopw [12] (fun i wi => ∃ j : Nat, j ≤ 3 ∧ i = .int .i64 j ∧ Hid (ORow wi w.heap.size 3 (fun t => if t < j then eH seed g S k t else 0)) ∧ Hid (Below w.heap.size w wi)) (fun i _ => 3 - (intOf i).toNat)
  case atStart => exact ⟨0, by omega, rfl, Lib.hid (O1.out.congr (fun i _ => by simp)), B1⟩
  case round =>
    obtain ⟨j, hj, rfl, HO, HI2⟩ := hrel
    by_cases hlj : j < 3
    · obtain ⟨p0, p1, p2, p3⟩ := eH_bd (seed := seed) (S := S) (i := k) h1 h2 hlj
      have hsj := seedB_part hsd j hlj
      have e2 : IntKind.i64.wrap ((j : Int) * (g : Int)) = ((j * g : Nat) : Int) := by rw [← Int.natCast_mul]; exact IntWalk.i64_in _ (by omega)
      have HV := Lib.hid (show eH seed g S k j = placeI seed j (S k).data.toList g + ((j * g : Nat) : Int) by unfold eH; push_cast; rfl)
      have HC := Lib.hid (fun W => impl_placeKey seed j g (S k) W hs hsj (by omega) (by omega))
      generalize placeI seed (j : Int) (S k).data.toList (g : Int) = v at HV HC p0 p1
      generalize j * g = u at HV e2 p2 p3
      have e3 : IntKind.i64.wrap (v + (u : Int)) = v + (u : Int) := IntWalk.i64_in _ (by omega)
      have hco := HO.out.cell hlj
      have hfo := HO.out.frozen j
      go_wp2_with fail
      refine (HC.out _).mono ?_; rintro e w2 ⟨rfl, rfl⟩
      go_wp2_with fail
      go_roundw
      case rel =>
        refine ⟨j + 1, by omega, by go_num, Lib.hid ((HO.out.set j _).congr (fun i _ => ?_)), Lib.hid (below_setAt HI2.out (Nat.le_refl _) _)⟩
        by_cases e : i = j
        · subst e; rw [if_pos rfl, if_pos (by omega), HV.out]
        · rw [if_neg e]
          by_cases e2 : i < j
          · rw [if_pos e2, if_pos (by omega)]
          · rw [if_neg e2, if_neg (by omega)]
      case measure => simp [intOf]; omega
    · obtain rfl : j = 3 := by omega
      go_wp2_with fail
      go_ret
      exact ⟨_, rfl, Nat.le_refl _, HO.out.congr (fun i hi => by rw [if_pos hi]), HI2.out⟩

end Go.Proofs.Ytockhjdhihehlaa
