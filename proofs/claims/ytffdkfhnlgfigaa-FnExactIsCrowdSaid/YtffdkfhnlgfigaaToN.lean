/- The laws' copy of a row of ints: its capacity is its length. -/
import Derived.Test.YtffdkfhnlgfigaaObjInt
namespace Go.Proofs.Ytffdkfhnlgfigaa
open Go.RowKit

theorem to_IntSn {A : Option Addr} {n c : Nat} {X : Nat → Int} {w : World} (hn : n ≤ 1048576) (hr : GRow w A n (intV X)) :
    Calls Try.prog 18 #[.slice A n c] w fun e w' => ∃ A', e = .returned (.slice A' n n) ∧ Ow w.heap.size w'.heap.size 3 A' n (intV X) w' ∧ Below w.heap.size w w' :=
  (toIntS_any A n c X w hn hr).mono fun _ _ ⟨_, he, hg, ho, hb⟩ => ⟨_, he, ow_of_own (m := n) ho hg (Nat.le_refl _), hb⟩
end Go.Proofs.Ytffdkfhnlgfigaa
