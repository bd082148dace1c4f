/- Memory of int slices: what a slice reads as, what the call owns. -/
import Derived.Test.YthaipemgndahfaaBase
import Derived.Deep.OwnRows
import Derived.Deep.Draws
import Derived.Deep.QuietTactic
import Derived.BigQuiet
namespace Go.Proofs.Ythaipemgndahfaa
open Go.RowKit

/-- The slice value '.slice A n _' reads as X 0 .. X (n - 1). -/
def IRow (w : World) (A : Option Addr) (n : Nat) (X : Nat → Int) : Prop :=
  0 < n → ∃ b off, A = some ⟨b, off, none⟩ ∧ b < w.heap.size ∧ ∀ k, k < n → w.cell? ⟨b, off + k, none⟩ = some (.int .i64 (X k))
/-- Block g holds ints, none frozen, the first n of them X. -/
def ORow (w : World) (g n : Nat) (X : Nat → Int) : Prop :=
  ∃ c : Array Value, w.heap[g]? = some (.cells c 3 (0, 0)) ∧ n ≤ c.size ∧ ∀ i, i < n → c[i]? = some (.int .i64 (X i))

section
variable {w w' : World} {A : Option Addr} {n g : Nat} {X Y : Nat → Int}
theorem IRow.below (h : IRow w A n X) {B : Nat} (hb : Below B w w') (hB : w.heap.size ≤ B) : IRow w' A n X := fun hn => by
  obtain ⟨b, off, hA, hlt, hc⟩ := h hn
  exact ⟨b, off, hA, Nat.lt_of_lt_of_le hlt hb.size, fun k hk => by rw [hb.cell (show (⟨b, off + k, none⟩ : Addr).block < B by show b < B; omega)]; exact hc k hk⟩
theorem IRow.b (h : IRow w A n X) (hb : Below w.heap.size w w') : IRow w' A n X := h.below hb (Nat.le_refl _)
theorem IRow.congr (h : IRow w A n X) (e : ∀ i, i < n → X i = Y i) : IRow w A n Y := fun hn => by
  obtain ⟨b, off, hA, hlt, hc⟩ := h hn
  exact ⟨b, off, hA, hlt, fun k hk => by rw [hc k hk, e k hk]⟩
theorem IRow.zero : IRow w A 0 X := fun h => absurd h (by omega)
theorem ORow.lt (h : ORow w g n X) : g < w.heap.size := by
  obtain ⟨c, hb, _⟩ := h
  exact (Array.getElem?_eq_some_iff.1 hb).1
theorem ORow.cell (h : ORow w g n X) {i : Nat} (hi : i < n) : w.cell? ⟨g, i, none⟩ = some (.int .i64 (X i)) := by
  obtain ⟨c, hb, _, hc⟩ := h
  simp [World.cell?, hb, hc i hi]
theorem ORow.frozen (h : ORow w g n X) (i : Nat) : w.frozen? ⟨g, i, none⟩ = false := by
  obtain ⟨c, hb, _, _⟩ := h
  simp [World.frozen?, hb]
theorem ORow.row (h : ORow w g n X) : IRow w (some ⟨g, 0, none⟩) n X := fun _ => ⟨g, 0, rfl, h.lt, fun k hk => by rw [Nat.zero_add]; exact h.cell hk⟩
theorem ORow.of_block (h : ORow w g n X) (e : w'.heap[g]? = w.heap[g]?) : ORow w' g n X := by
  obtain ⟨c, hb, hn, hc⟩ := h
  exact ⟨c, e.trans hb, hn, hc⟩
theorem ORow.b (h : ORow w g n X) (hb : Below w.heap.size w w') : ORow w' g n X := h.of_block (hb.block g h.lt)
theorem ORow.congr (h : ORow w g n X) (e : ∀ i, i < n → X i = Y i) : ORow w g n Y := by
  obtain ⟨c, hb, hn, hc⟩ := h
  exact ⟨c, hb, hn, fun i hi => by rw [hc i hi, e i hi]⟩
theorem ORow.mono (h : ORow w g n X) {m : Nat} (hm : m ≤ n) : ORow w g m X := by
  obtain ⟨c, hb, hn, hc⟩ := h
  exact ⟨c, hb, by omega, fun i hi => hc i (by omega)⟩
theorem ORow.set (h : ORow w g n X) (i : Nat) (x : Int) : ORow (w.setCell ⟨g, i, none⟩ (.int .i64 x)) g n (fun j => if j = i then x else X j) := by
  obtain ⟨c, hb, hn, hc⟩ := h
  refine ⟨c.setIfInBounds i (.int .i64 x), ?_, by simpa using hn, fun j hj => ?_⟩
  · simp [World.setCell, Array.getElem?_modify, hb]
  · rw [Array.getElem?_setIfInBounds]
    by_cases e : j = i
    · subst e
      have : j < c.size := by omega
      simp [this]
    · rw [if_neg (fun h => e h.symm)]
      show c[j]? = some (.int .i64 (if j = i then x else X j))
      rw [if_neg e]
      exact hc j hj
theorem ORow.setOther (h : ORow w g n X) {a : Addr} (ha : g ≠ a.block) (v : Value) : ORow (w.setCell a v) g n X := h.of_block (Go.Deep.blk_setCell_other _ _ _ _ ha)
theorem ORow.setAt (h : ORow w g n X) {b o : Nat} (ha : g ≠ b) (v : Value) : ORow (w.setCell ⟨b, o, none⟩ v) g n X := h.setOther ha v
theorem below_setAt {B b o : Nat} {a w : World} (h : Below B a w) (hb : B ≤ b) (v : Value) : Below B a (w.setCell ⟨b, o, none⟩ v) := h.setCell (p := ⟨b, o, none⟩) hb v
theorem ORow.alloc (h : ORow w g n X) (o : Obj) : ORow (w.alloc o) g n X := h.of_block (Go.Deep.blk_alloc_lt _ _ _ h.lt)
theorem ORow.grown (h : ORow w g n X) {row : Option Nat} (hg : w.grownBy w' row) (hne : some g ≠ row) : ORow w' g n X := h.of_block (hg.block g h.lt hne)
theorem ORow.made (w : World) (n : Nat) : ORow (w.alloc (.cells (madeCells #[.int .i64 0] n) 3)) w.heap.size n (fun _ => 0) :=
  ⟨_, Go.Deep.blk_alloc_new _ _, by simp [madeCells], fun i hi => by simp [madeCells, hi, Nat.mod_one]⟩
theorem below_drewN {B : Nat} {a w : World} (h : Below B a w) (n : Nat) : Below B a (w.drewN n) := ⟨h.os, h.tape, h.output, h.size, h.block⟩
theorem ORow.drewN (h : ORow w g n X) (k : Nat) : ORow (w.drewN k) g n X := h
theorem Below.two {a b c : World} (h : Below a.heap.size a b) (k : Below b.heap.size b c) : Below a.heap.size a c := h.trans (k.mono h.size)
theorem grown_two {a b c : World} {g : Nat} (h : a.grownBy b (some g)) (k : b.grownBy c (some g)) : a.grownBy c (some g) :=
  ⟨k.os.trans h.os, k.tape.trans h.tape, k.output.trans h.output, Nat.le_trans h.size k.size, fun i hi hne => (k.block i (Nat.lt_of_lt_of_le hi h.size) hne).trans (h.block i hi hne)⟩
theorem grown_of_below {a b : World} (h : Below a.heap.size a b) (r : Option Nat) : a.grownBy b r := ⟨h.os, h.tape, h.output, h.size, fun i hi _ => h.block i hi⟩
theorem below_of_grown {a b : World} {B g : Nat} (h : a.grownBy b (some g)) (hB : B ≤ a.heap.size) (hg : B ≤ g) : Below B a b :=
  ⟨h.os, h.tape, h.output, h.size, fun i hi => h.block i (by omega) (fun e => by injection e; omega)⟩
theorem grown_setCell {a w : World} {g : Nat} (h : a.grownBy w (some g)) (i : Nat) (u : Value) : a.grownBy (w.setCell ⟨g, i, none⟩ u) (some g) :=
  ⟨h.os, h.tape, h.output, by simpa [World.setCell] using h.size, fun k hk hne => (Below.heap_setCell w _ u k (fun e => hne (by rw [e]))).trans (h.block k hk hne)⟩
end

theorem of_drew {w w' : World} (h : Below w.drew.heap.size w.drew w') : Below w.heap.size w w' := ⟨h.os, h.tape, h.output, h.size, h.block⟩
/-- A contract that leaves the world alone, offered inside a region that draws its order. -/
theorem quiet_left {P : Program} {f : FuncId} {args : Array Value} {w : World} {n : Nat} {v : Value}
    (h : Calls P f args (w.drewN n) fun e w' => e = .returned v ∧ w.drewN n = w') : Calls P f args (w.drewN n) fun e w' => e = .returned v ∧ ∃ m, w' = w.drewN m :=
  h.mono fun _ _ ⟨he, hm⟩ => ⟨he, n, hm.symm⟩
theorem quiet_more {P : Program} {f : FuncId} {args : Array Value} {w : World} {a n : Nat} {v : Value}
    (h : Calls P f args (w.drewN (a + n)) fun e w' => e = .returned v ∧ w.drewN (a + n) = w') : Calls P f args (w.drewN (a + n)) fun e w'' => e = .returned v ∧ ∃ m, w'' = w.drewN (a + m) :=
  h.mono fun _ _ ⟨he, hm⟩ => ⟨he, n, hm.symm⟩
end Go.Proofs.Ythaipemgndahfaa
