/- The code's counts before a place. -/
import Derived.Test.YtpmedeefoaoabaaRankG
import Derived.Test.YtpmedeefoaoabaaSelS
import Derived.BigQuiet
namespace Go.Proofs.Ytpmedeefoaoabaa
open Go.RowKit

/-- The answer (v, b). -/
def AnsI (v : Int) (b : Bool) (w : World) (e : Ending) (w' : World) : Prop := e = .returned (.tuple #[.int .i64 v, .bool b]) ∧ Below w.heap.size w w'
def kindI (on : Bool) : Int := if on then 1 else 0
section
variable {z' n s m i : Nat} {X Y Z : Nat → Int}
theorem rank_parts (h : RankOk z' n X s Y m Z) (h0 : 0 < i) (h1 : i ≤ z') :
    (i - 1) / 16 / 4 < s ∧ (i - 1) / 16 < m ∧ 0 ≤ Y ((i - 1) / 16 / 4) ∧ Y ((i - 1) / 16 / 4) ≤ 4096 ∧ 0 ≤ Z ((i - 1) / 16) ∧ Z ((i - 1) / 16) ≤ 4096 ∧
      Y ((i - 1) / 16 / 4) + Z ((i - 1) / 16) + pcF (fieldN (wdR X) ((i - 1) / 16 * 16) (i - (i - 1) / 16 * 16)) = (cntN (wdR X) 0 i : Int) := by
  obtain ⟨zz, e1, e2, e3, e4, e5⟩ := h.size
  have ez : z' = zz := by omega
  subst ez
  have hs : (i - 1) / 16 / 4 < s := by omega
  have hm : (i - 1) / 16 < m := by omega
  have hy := h.2.1.2 _ hs
  have hz := h.2.2.2 _ hm
  have hb := blk_val (wdR X) ((i - 1) / 16)
  have hp := pc_field (wdR X) (i - (i - 1) / 16 * 16) (by omega) ((i - 1) / 16 * 16)
  have hc := cntN_add (wdR X) ((i - 1) / 16 * 16) (i - (i - 1) / 16 * 16) 0
  rw [Nat.zero_add, show (i - 1) / 16 * 16 + (i - (i - 1) / 16 * 16) = i by omega] at hc
  rw [show 16 * ((i - 1) / 16) = (i - 1) / 16 * 16 by omega] at hb
  have l1 := cntN_le (wdR X) (64 * ((i - 1) / 16 / 4)) 0
  have l2 := cntN_le (wdR X) (16 * ((i - 1) / 16) - 64 * ((i - 1) / 16 / 4)) (64 * ((i - 1) / 16 / 4))
  rw [hy, hz, hp]
  refine ⟨hs, hm, ?_, ?_, ?_, ?_, ?_⟩
  · unfold supI; omega
  · unfold supI; omega
  · unfold blkI; omega
  · unfold blkI; omega
  · rw [hc]; push_cast; omega
end

section
variable (z : Nat) (A1 : Option Addr) (n c1 : Nat) (X : Nat → Int) (A2 : Option Addr) (s c2 : Nat) (Y : Nat → Int) (A3 : Option Addr) (m c3 : Nat) (Z : Nat → Int) (w : World)
end
end Go.Proofs.Ytpmedeefoaoabaa
