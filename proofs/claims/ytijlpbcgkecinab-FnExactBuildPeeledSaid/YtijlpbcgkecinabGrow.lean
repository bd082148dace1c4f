/- New memory for words. -/
import Derived.Test.YtijlpbcgkecinabRead
import Derived.Laws.CopyOwn
import Derived.Lib.AppendZerosOnto
import Derived.Lib.Walk
import Derived.Lib.SliceRun
namespace Go.Proofs.Ytijlpbcgkecinab
open Go.RowKit

theorem zeroCells_int (m i : Nat) (h : i < m) : (Builtin.zeroCells #[Value.int .i64 0] m)[i]? = some (.int .i64 0) := by
  simp [Builtin.zeroCells, h, Nat.mod_one]

def GrownTo (w : World) (n : Nat) (e : Ending) (w' : World) : Prop :=
  ∃ g cap, e = .returned (.slice (some ⟨g, 0, none⟩) 0 cap) ∧ n ≤ cap ∧ cap ≤ 9223372036854775807 ∧ w.heap.size ≤ g ∧ ORow w' g n (fun _ => 0) ∧ Below w.heap.size w w'

theorem zeroI (w : World) : (zeroValue 3).run Try.prog w = .ok (.int .i64 0) w := by kernel_rfl
theorem sizeI : (Try.prog.info? 3).map (·.size) = some 1 := by kernel_rfl

theorem range_at (f : Nat → Value) (n j : Nat) : ((List.range n).map f)[j]? = if j < n then some (f j) else none := by
  by_cases h : j < n
  · rw [if_pos h, List.getElem?_eq_getElem (by simpa using h)]; simp
  · rw [if_neg h, List.getElem?_eq_none (by simpa using h)]
theorem addr_add (b off j : Nat) : (⟨b, off, none⟩ : Addr).add j = ⟨b, off + j, none⟩ := by unfold Addr.add; split <;> simp_all

/-- copy from a slice of ints into a row of the call's own. -/
theorem copy_words (w : World) (g m c0 n c : Nat) (A : Option Addr) (X Y : Nat → Int) (ho : ORow w g m Y) (hr : IRow w A n X) (hn : n ≤ m) :
    ∃ w2, (∀ ty, (Builtin.copy_ #[22, 22] ty #[.slice (some ⟨g, 0, none⟩) m c0, .slice A n c]).run Try.prog w = .ok (.int .i64 n) w2) ∧
      ORow w2 g m (fun i => if i < n then X i else Y i) ∧ w.grownBy w2 (some g) := by
  rcases Nat.eq_zero_or_pos n with h0 | h0
  · subst h0
    exact ⟨w, fun ty => run_copy_none w _ _ ty 3 _ _ _ _ _ _ Try.underlying22 sizeI (by simp), ho.congr (fun i _ => by simp), World.grownBy.refl w _⟩
  · obtain ⟨b, off, rfl, _, hc⟩ := hr h0
    obtain ⟨cs, hb, hm, hcs⟩ := ho
    have hl : ((List.range n).map fun i => Value.int .i64 (X i)).length = n := by simp
    have hrun := fun ty => run_copy_row (P := Try.prog) w 22 22 ty 3 g 0 m c0 ⟨b, off, none⟩ n c cs 3 ((List.range n).map fun i => Value.int .i64 (X i)) Try.underlying22 sizeI hb (by rw [hl]; exact (Nat.min_eq_left hn).symm)
      (fun j v hv => by
        rw [range_at] at hv
        by_cases h : j < n
        · rw [if_pos h] at hv
          injection hv with hv
          subst hv
          rw [addr_add]; exact hc j h
        · rw [if_neg h] at hv; cases hv)
      (by rw [hl]; omega) (fun v hv => by
        rw [List.mem_map] at hv
        obtain ⟨k, _, rfl⟩ := hv
        rfl)
    rw [hl] at hrun
    refine ⟨_, hrun, ⟨_, setRow_heap w g cs _ 3 (0, 0) hb, ?_, fun i hi => ?_⟩, ⟨rfl, rfl, rfl, by simp, fun k _ hk => setRow_other w g k _ (fun e => hk (by rw [e]))⟩⟩
    · simp; omega
    · rw [List.getElem?_toArray, List.take_zero, List.nil_append, List.getElem?_append]
      by_cases h : i < n
      · rw [if_pos (by rw [hl]; exact h), range_at, if_pos h]; simp [h]
      · rw [if_neg (by rw [hl]; exact h), hl, List.getElem?_drop, show 0 + n + (i - n) = i by omega]
        have := hcs i hi
        simp [h]
        simpa using this

theorem setCells_row (g : Nat) : ∀ (r o m : Nat) (w : World) (Y : Nat → Int), ORow w g m Y → o + r ≤ m →
    ORow (w.setCells g o (List.replicate r (.int .i64 0))) g m (fun i => if o ≤ i ∧ i < o + r then 0 else Y i) ∧ w.grownBy (w.setCells g o (List.replicate r (.int .i64 0))) (some g)
  | 0, o, m, w, Y, h, _ => ⟨h.congr (fun i _ => by rw [if_neg (by omega)]), World.grownBy.refl w _⟩
  | r + 1, o, m, w, Y, h, hm => by
    rw [List.replicate_succ, World.setCells]
    obtain ⟨h1, h2⟩ := setCells_row g r (o + 1) m _ _ (h.set o 0) (by omega)
    refine ⟨h1.congr (fun i _ => ?_), grown_two (grown_setCell (World.grownBy.refl w _) o _) h2⟩
    by_cases e : i = o
    · subst e; simp
    · by_cases e2 : o + 1 ≤ i ∧ i < o + 1 + r
      · rw [if_pos e2, if_pos (by omega)]
      · rw [if_neg e2, if_neg e, if_neg (by omega)]

/-- clear of the tail of a row of the call's own. -/
theorem clear_words (w : World) (g m n c : Nat) (Y : Nat → Int) (ho : ORow w g m Y) (hn : n < m) :
    ∃ w2, (∀ ty, (Builtin.clear_ #[22] ty #[.slice (some ⟨g, n, none⟩) (m - n) c]).run Try.prog w = .ok (.tuple #[]) w2) ∧
      ORow w2 g m (fun i => if i < n then Y i else 0) ∧ w.grownBy w2 (some g) := by
  obtain ⟨h1, h2⟩ := setCells_row g (m - n) n m w Y ho (by omega)
  refine ⟨_, fun ty => Lib.run_clear_slice w 22 3 ty (.int .i64 0) Try.underlying22 zeroI rfl rfl g n (m - n) c (by omega) (fun j hj => by rw [ho.cell (by omega)]; rfl) (fun j _ => ho.frozen _), h1.congr (fun i hi => ?_), h2⟩
  by_cases e : i < n
  · rw [if_pos e, if_neg (by omega)]
  · rw [if_neg e, if_pos (by omega)]
theorem clear_none (w : World) (A : Option Addr) (c : Nat) (ty : TypeId) : (Builtin.clear_ #[22] ty #[.slice A 0 c]).run Try.prog w = .ok (.tuple #[]) w := by
  cases A <;> simp [Builtin.clear_, run_underlying Try.underlying22]

/-- A vector of words of the call's own: nil if there are none, else the head of a row from block B on. -/
def OVec (w : World) (B : Nat) (A : Option Addr) (m : Nat) (X : Nat → Int) : Prop :=
  (m = 0 ∧ A = none) ∨ ∃ g, A = some ⟨g, 0, none⟩ ∧ B ≤ g ∧ ORow w g m X
section
variable {w w' : World} {B m : Nat} {A : Option Addr} {X Y : Nat → Int}
theorem OVec.row (h : OVec w B A m X) : IRow w A m X := by
  rcases h with ⟨rfl, rfl⟩ | ⟨g, rfl, _, ho⟩
  · exact IRow.zero
  · exact ho.row
theorem OVec.b (h : OVec w B A m X) (hb : Below w.heap.size w w') : OVec w' B A m X := by
  rcases h with h | ⟨g, hA, hg, ho⟩
  · exact .inl h
  · exact .inr ⟨g, hA, hg, ho.b hb⟩
theorem OVec.congr (h : OVec w B A m X) (e : ∀ i, i < m → X i = Y i) : OVec w B A m Y := by
  rcases h with h | ⟨g, hA, hg, ho⟩
  · exact .inl h
  · exact .inr ⟨g, hA, hg, ho.congr e⟩
theorem OVec.low (h : OVec w B A m X) {B' : Nat} (hB : B' ≤ B) : OVec w B' A m X := by
  rcases h with h | ⟨g, hA, hg, ho⟩
  · exact .inl h
  · exact .inr ⟨g, hA, Nat.le_trans hB hg, ho⟩
theorem OVec.setAt (h : OVec w B A m X) {b o : Nat} (hb : b < B) (v : Value) : OVec (w.setCell ⟨b, o, none⟩ v) B A m X := by
  rcases h with h | ⟨g, hA, hg, ho⟩
  · exact .inl h
  · exact .inr ⟨g, hA, hg, ho.setAt (by omega) v⟩
theorem OVec.grown (h : OVec w B A m X) {g : Nat} (hg : w.grownBy w' (some g)) (hlt : g < B) : OVec w' B A m X := by
  rcases h with h | ⟨g', hA, hg', ho⟩
  · exact .inl h
  · exact .inr ⟨g', hA, hg', ho.grown hg (fun e => by injection e; omega)⟩
end

theorem markIntS_none (c : Nat) (k0 : Int) (w : World) : Calls Try.prog 31 #[.slice none 0 c, .int .i64 k0] w fun e w' => e = .returned (.int .i64 k0) ∧ w = w' := by
  go_enter Try.func31, Try.ntmps31
  go_wp2_with fail
  refine wp_loop_rounds 1 ?_
  rw [rounds_succ]
  go_wp2_with fail
  go_ret
  exact ⟨rfl, rfl⟩
/-- All blocks that were there are as they were, but for the one at whose head A is. -/
def Rest (A : Option Addr) (w w' : World) : Prop := w.heap.size ≤ w'.heap.size ∧ ∀ k, k < w.heap.size → A ≠ some ⟨k, 0, none⟩ → w'.heap[k]? = w.heap[k]?
theorem Box.rest {w w' : World} {b : Nat} {z : Int} {A D : Option Addr} {n c : Nat} (h : Box w b z A n c) (hr : Rest D w w') (hne : D ≠ some ⟨b, 0, none⟩) : Box w' b z A n c :=
  ⟨Nat.lt_of_lt_of_le h.1 hr.1, (World.cell?_of_block (a := ⟨b, 0, none⟩) (hr.2 b h.1 hne)).trans h.2.1, (World.cell?_of_block (a := ⟨b, 1, none⟩) (hr.2 b h.1 hne)).trans h.2.2⟩
theorem OVec.ne_high {w : World} {B m b : Nat} {A : Option Addr} {X : Nat → Int} (h : OVec w B A m X) (hb : w.heap.size ≤ b) : A ≠ some ⟨b, 0, none⟩ := by
  rcases h with ⟨_, rfl⟩ | ⟨g, rfl, _, ho⟩
  · simp
  · have := ho.lt; intro e; injection e with e; injection e with e; omega
theorem OVec.ne_low {w : World} {B m b : Nat} {A : Option Addr} {X : Nat → Int} (h : OVec w B A m X) (hb : b < B) : A ≠ some ⟨b, 0, none⟩ := by
  rcases h with ⟨_, rfl⟩ | ⟨g, rfl, hg, _⟩
  · simp
  · intro e; injection e with e; injection e with e; omega
/-- A bit vector and a word whether it is one: what the model hands back, what the program does. -/
def VecIs (z : Int) (m : Nat) (Y : Nat → Int) (b : Bool) (w : World) (e : Ending) (w' : World) : Prop :=
  ∃ A c, e = .returned (.tuple #[.agg #[.int .i64 z, .slice A m c], .bool b]) ∧ IRow w' A m Y ∧ Below w.heap.size w w'
def OwnIs (z : Int) (m : Nat) (Y : Nat → Int) (b : Bool) (w : World) (e : Ending) (w' : World) : Prop :=
  ∃ A c, e = .returned (.tuple #[.agg #[.int .i64 z, .slice A m c], .bool b]) ∧ OVec w' w.heap.size A m Y ∧ Below w.heap.size w w'

theorem box_cells {w w1 : World} {z : Int} {t : TypeId} (hb : Below (w.alloc (.cells #[.int .i64 z, .slice none 0 0] t)).heap.size (w.alloc (.cells #[.int .i64 z, .slice none 0 0] t)) w1) :
    w1.cell? ⟨w.heap.size, 0, none⟩ = some (.int .i64 z) ∧ w1.cell? ⟨w.heap.size, 1, none⟩ = some (.slice none 0 0) ∧ w1.frozen? ⟨w.heap.size, 0, none⟩ = false ∧ w1.frozen? ⟨w.heap.size, 1, none⟩ = false ∧ w.heap.size < w1.heap.size :=
  ⟨(hb.cell (p := ⟨w.heap.size, 0, none⟩) (by simp)).trans (by simp [go_sem]), (hb.cell (p := ⟨w.heap.size, 1, none⟩) (by simp)).trans (by simp [go_sem]),
   (hb.frozen (p := ⟨w.heap.size, 0, none⟩) (by simp)).trans (by simp [go_sem]), (hb.frozen (p := ⟨w.heap.size, 1, none⟩) (by simp)).trans (by simp [go_sem]), by have := hb.size; simp at this; omega⟩

end Go.Proofs.Ytijlpbcgkecinab
