/- Two captured variables in boxes. -/
import Derived.Test.YtfjimjbndkhkcabObjTch
namespace Go.Proofs.Ytfjimjbndkhkcab
open Go.RowKit

/-- The boxes of two captured variables. -/
structure Cap2 (w : World) (v0 v1 : Value) (KA : Option Addr) (n : Nat) (S : Nat → ByteArray) (W : World) : Prop where
  below : Below w.heap.size w W
  c0 : W.cell? ⟨w.heap.size, 0, none⟩ = some v0
  c1 : W.cell? ⟨w.heap.size + 1, 0, none⟩ = some v1
  big : w.heap.size + 1 + 1 ≤ W.heap.size
  row : GRow W KA n (strV S)
theorem Cap2.start {w : World} {KA : Option Addr} {n : Nat} {S : Nat → ByteArray} (h : GRow w KA n (strV S)) (v0 v1 : Value) (t0 t1 : TypeId) : Cap2 w v0 v1 KA n S ((w.alloc (.cells #[v0] t0)).alloc (.cells #[v1] t1)) := by
  have hb := (Below.refl w.heap.size w).alloc (Nat.le_refl _) (.cells #[v0] t0)
  have hb2 := (Below.refl (w.alloc (.cells #[v0] t0)).heap.size (w.alloc (.cells #[v0] t0))).alloc (Nat.le_refl _) (.cells #[v1] t1)
  have n0 := (nbx0 w #[v0] t0).b hb2
  have n1 := nbx0 (w.alloc (.cells #[v0] t0)) #[v1] t1
  simp only [World.size_alloc] at n1
  exact ⟨hb.trans (hb2.mono (by simp)), n0.cell 0 _ rfl, n1.cell 0 _ rfl, by simp, (h.al _).al _⟩
theorem Cap2.b {w W W2 : World} {v0 v1 : Value} {KA : Option Addr} {n : Nat} {S : Nat → ByteArray} (h : Cap2 w v0 v1 KA n S W) (hb : Below W.heap.size W W2) : Cap2 w v0 v1 KA n S W2 := by
  have hs := h.big
  exact ⟨h.below.trans (hb.mono (by omega)), (hb.cell (p := ⟨w.heap.size, 0, none⟩) (show w.heap.size < _ by omega)).trans h.c0, (hb.cell (p := ⟨w.heap.size + 1, 0, none⟩) (show w.heap.size + 1 < _ by omega)).trans h.c1, Nat.le_trans hs hb.size, h.row.b hb⟩
end Go.Proofs.Ytfjimjbndkhkcab
