/- fieldBits and joinCodes of the program. -/
import Derived.Test.YtdmdafifgaenhabCodeM
import Derived.Test.YtdmdafifgaenhabObj
namespace Go.Proofs.Ytdmdafifgaenhab
open Go.RowKit

theorem nbx_far {w w' : World} {base q l h : Nat} {cs : Array Value} {t : TypeId} (x : NBX base q cs t w) (ho : Only l h w w') (hd : q < l ∨ h ≤ q) : NBX base q cs t w' := ⟨(ho.block q x.lt hd).trans x.blk, x.ge⟩
def fldB (v wd i : Nat) : Bool := decide (i < wd) && v.testBit i
def VecA (z m : Nat) (f : Nat → Bool) (w : World) (e : Ending) (w' : World) : Prop :=
  ∃ A c, e = .returned (.agg #[.int .i64 z, .slice A m c]) ∧ OVec w' w.heap.size A m (fun i => (wordsOf f i : Int)) ∧ Below w.heap.size w w'
/-- A list of vectors in memory: sizes and bits. -/
def CRow (w : World) (A : Option Addr) (n : Nat) (sz : Nat → Nat) (F : Nat → Nat → Bool) : Prop :=
  0 < n → ∃ b off, A = some ⟨b, off, none⟩ ∧ b < w.heap.size ∧ ∀ k, k < n → ∃ (B : Option Addr) (c : Nat), w.cell? ⟨b, off + k * 2, none⟩ = some (.int .i64 (sz k : Nat)) ∧ w.cell? ⟨b, off + k * 2 + 1, none⟩ = some (.slice B ((sz k + 15) / 16) c) ∧ IRow w B ((sz k + 15) / 16) (fun i => (wordsOf (F k) i : Int))
theorem CRow.b {w w' : World} {A : Option Addr} {n : Nat} {sz : Nat → Nat} {F : Nat → Nat → Bool} (h : CRow w A n sz F) (hb : Below w.heap.size w w') : CRow w' A n sz F := fun hn => by
  obtain ⟨b, off, hA, hl, hc⟩ := h hn
  refine ⟨b, off, hA, Nat.lt_of_lt_of_le hl hb.size, fun k hk => ?_⟩
  obtain ⟨B, c, h1, h2, h3⟩ := hc k hk
  exact ⟨B, c, (hb.cell (p := ⟨b, off + k * 2, none⟩) hl).trans h1, (hb.cell (p := ⟨b, off + k * 2 + 1, none⟩) hl).trans h2, h3.b hb⟩
/-- What joinCodes holds: the box of its answer, and that of what has been joined. -/
structure JC (w : World) (z m : Nat) (f : Nat → Bool) (wr : World) : Prop where
  below : Below w.heap.size w wr
  res : NBX w.heap.size w.heap.size #[.int .i64 0, .slice none 0 0] 30 wr
  cur : ∃ A c, NBX w.heap.size (w.heap.size + 1) #[.int .i64 z, .slice A m c] 30 wr ∧ OVec wr (w.heap.size + 2) A m (fun i => (wordsOf f i : Int))
end Go.Proofs.Ytdmdafifgaenhab
