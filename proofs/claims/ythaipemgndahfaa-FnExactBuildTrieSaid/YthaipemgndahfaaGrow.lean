/- New memory for words. -/
import Derived.Test.YthaipemgndahfaaRead
import Derived.Laws.CopyOwn
import Derived.Lib.AppendZerosOnto
import Derived.Lib.Walk
import Derived.Lib.SliceRun
namespace Go.Proofs.Ythaipemgndahfaa
open Go.RowKit

theorem zeroCells_int (m i : Nat) (h : i < m) : (Builtin.zeroCells #[Value.int .i64 0] m)[i]? = some (.int .i64 0) := by
  simp [Builtin.zeroCells, h, Nat.mod_one]

def GrownTo (w : World) (n : Nat) (e : Ending) (w' : World) : Prop :=
  ∃ g cap, e = .returned (.slice (some ⟨g, 0, none⟩) 0 cap) ∧ n ≤ cap ∧ cap ≤ 9223372036854775807 ∧ w.heap.size ≤ g ∧ ORow w' g n (fun _ => 0) ∧ Below w.heap.size w w'

set_option maxRecDepth 100000 in
set_option maxHeartbeats 1000000 in
theorem grow_some (n : Nat) (w : World) (h0 : 0 < n) (h1 : n ≤ 4096) :
    Calls Try.prog 84 #[.slice none 0 0, .int .i64 n] w (GrownTo w n) := by
  obtain ⟨i0, hi0, hz0, hs0, hb0⟩ := info_parts infoI
  have hrz : ∀ ty, (Builtin.append_ #[24, 3] ty #[.slice none 0 0, .int .i64 (n : Int)]).run Try.prog w =
      .ok (.slice (some ⟨w.heap.size, 0, none⟩) n (grownCap w n 0 3)) (w.drew.alloc (.cells (#[] ++ Builtin.zeroCells (Value.int .i64 0).cells n ++ Builtin.zeroCells (Value.int .i64 0).cells (grownCap w n 0 3 - n)) 3)) := fun ty => by
    have h := Lib.run_append_grow_zeros w 24 3 ty 3 i0 (.int .i64 0) .i64 .i64 Try.underlying24 Try.underlying3 hi0 hz0 none 0 0 [] (run_firstCells_none w.drew i0.size 0 0 0) n (by omega) (by omega) (by omega) (by omega)
      (by rw [hb0]; omega)
      (by rw [Nat.zero_add]; exact growslice_fits h0 (by rw [hb0]; omega))
    rw [Nat.zero_add] at h
    exact h
  have hGn : n ≤ grownCap w n 0 3 := grownCap_ge w _ _ _
  have hG63 : grownCap w n 0 3 ≤ 9223372036854775807 := by
    have := grownCap_le_maxLen w n 0 3 (by unfold maxLen; omega)
    unfold maxLen at this
    omega
  generalize grownCap w n 0 3 = G at *
  have HO : ORow (w.alloc (.cells (Builtin.zeroCells #[Value.int .i64 0] n ++ Builtin.zeroCells #[Value.int .i64 0] (G - n)) 3)).drew w.heap.size n (fun _ => 0) := by
    refine ⟨_, Go.Deep.blk_alloc_new w _, ?_, fun i hi => ?_⟩
    · simp [Builtin.zeroCells]
    · rw [Array.getElem?_append_left (by simp [Builtin.zeroCells]; omega)]
      exact zeroCells_int n i hi
  have HO := Lib.hid HO
  go_enter Try.func84, Try.ntmps84
  go_wp2_with (at_builtin; refine Lib.wpList_append_run _ rfl _ _ _ _ rfl _ _ rfl rfl _ _ (hrz _) ?_)
  go_ret
  exact ⟨_, _, rfl, hGn, hG63, Nat.le_refl _, HO.out, ((Below.refl _ _).alloc (Nat.le_refl _) _).drew⟩

theorem zeroI (w : World) : (zeroValue 3).run Try.prog w = .ok (.int .i64 0) w := by kernel_rfl
theorem sizeI : (Try.prog.info? 3).map (·.size) = some 1 := by kernel_rfl

theorem range_at (f : Nat → Value) (n j : Nat) : ((List.range n).map f)[j]? = if j < n then some (f j) else none := by
  by_cases h : j < n
  · rw [if_pos h, List.getElem?_eq_getElem (by simpa using h)]; simp
  · rw [if_neg h, List.getElem?_eq_none (by simpa using h)]
theorem addr_add (b off j : Nat) : (⟨b, off, none⟩ : Addr).add j = ⟨b, off + j, none⟩ := by unfold Addr.add; split <;> simp_all

/-- copy from a slice of ints into a row of the call's own. -/
theorem copy_words (w : World) (g m c0 n c : Nat) (A : Option Addr) (X Y : Nat → Int) (ho : ORow w g m Y) (hr : IRow w A n X) (hn : n ≤ m) :
    ∃ w2, (∀ ty, (Builtin.copy_ #[24, 24] ty #[.slice (some ⟨g, 0, none⟩) m c0, .slice A n c]).run Try.prog w = .ok (.int .i64 n) w2) ∧
      ORow w2 g m (fun i => if i < n then X i else Y i) ∧ w.grownBy w2 (some g) := by
  rcases Nat.eq_zero_or_pos n with h0 | h0
  · subst h0
    exact ⟨w, fun ty => run_copy_none w _ _ ty 3 _ _ _ _ _ _ Try.underlying24 sizeI (by simp), ho.congr (fun i _ => by simp), World.grownBy.refl w _⟩
  · obtain ⟨b, off, rfl, _, hc⟩ := hr h0
    obtain ⟨cs, hb, hm, hcs⟩ := ho
    have hl : ((List.range n).map fun i => Value.int .i64 (X i)).length = n := by simp
    have hrun := fun ty => run_copy_row (P := Try.prog) w 24 24 ty 3 g 0 m c0 ⟨b, off, none⟩ n c cs 3 ((List.range n).map fun i => Value.int .i64 (X i)) Try.underlying24 sizeI hb (by rw [hl]; exact (Nat.min_eq_left hn).symm)
      (fun j v hv => by
        rw [range_at] at hv
        by_cases h : j < n
        · rw [if_pos h] at hv
          injection hv with hv
          subst hv
          rw [addr_add]; exact hc j h
        · rw [if_neg h] at hv; cases hv)
      (by rw [hl]; omega) (fun v hv => by
        rw [List.mem_map] at hv
        obtain ⟨k, _, rfl⟩ := hv
        rfl)
    rw [hl] at hrun
    refine ⟨_, hrun, ⟨_, setRow_heap w g cs _ 3 (0, 0) hb, ?_, fun i hi => ?_⟩, ⟨rfl, rfl, rfl, by simp, fun k _ hk => setRow_other w g k _ (fun e => hk (by rw [e]))⟩⟩
    · simp; omega
    · rw [List.getElem?_toArray, List.take_zero, List.nil_append, List.getElem?_append]
      by_cases h : i < n
      · rw [if_pos (by rw [hl]; exact h), range_at, if_pos h]; simp [h]
      · rw [if_neg (by rw [hl]; exact h), hl, List.getElem?_drop, show 0 + n + (i - n) = i by omega]
        have := hcs i hi
        simp [h]
        simpa using this

theorem setCells_row (g : Nat) : ∀ (r o m : Nat) (w : World) (Y : Nat → Int), ORow w g m Y → o + r ≤ m →
    ORow (w.setCells g o (List.replicate r (.int .i64 0))) g m (fun i => if o ≤ i ∧ i < o + r then 0 else Y i) ∧ w.grownBy (w.setCells g o (List.replicate r (.int .i64 0))) (some g)
  | 0, o, m, w, Y, h, _ => ⟨h.congr (fun i _ => by rw [if_neg (by omega)]), World.grownBy.refl w _⟩
  | r + 1, o, m, w, Y, h, hm => by
    rw [List.replicate_succ, World.setCells]
    obtain ⟨h1, h2⟩ := setCells_row g r (o + 1) m _ _ (h.set o 0) (by omega)
    refine ⟨h1.congr (fun i _ => ?_), grown_two (grown_setCell (World.grownBy.refl w _) o _) h2⟩
    by_cases e : i = o
    · subst e; simp
    · by_cases e2 : o + 1 ≤ i ∧ i < o + 1 + r
      · rw [if_pos e2, if_pos (by omega)]
      · rw [if_neg e2, if_neg e, if_neg (by omega)]

/-- clear of the tail of a row of the call's own. -/
theorem clear_words (w : World) (g m n c : Nat) (Y : Nat → Int) (ho : ORow w g m Y) (hn : n < m) :
    ∃ w2, (∀ ty, (Builtin.clear_ #[24] ty #[.slice (some ⟨g, n, none⟩) (m - n) c]).run Try.prog w = .ok (.tuple #[]) w2) ∧
      ORow w2 g m (fun i => if i < n then Y i else 0) ∧ w.grownBy w2 (some g) := by
  obtain ⟨h1, h2⟩ := setCells_row g (m - n) n m w Y ho (by omega)
  refine ⟨_, fun ty => Lib.run_clear_slice w 24 3 ty (.int .i64 0) Try.underlying24 zeroI rfl rfl g n (m - n) c (by omega) (fun j hj => by rw [ho.cell (by omega)]; rfl) (fun j _ => ho.frozen _), h1.congr (fun i hi => ?_), h2⟩
  by_cases e : i < n
  · rw [if_pos e, if_neg (by omega)]
  · rw [if_neg e, if_pos (by omega)]
theorem clear_none (w : World) (A : Option Addr) (c : Nat) (ty : TypeId) : (Builtin.clear_ #[24] ty #[.slice A 0 c]).run Try.prog w = .ok (.tuple #[]) w := by
  cases A <;> simp [Builtin.clear_, run_underlying Try.underlying24]

set_option maxRecDepth 100000 in
set_option maxHeartbeats 1000000 in
theorem growWords_some (z m : Nat) (A : Option Addr) (n c : Nat) (X : Nat → Int) (w : World) (hz : z ≤ 4096) (hm : m = (z + 15) / 16) (h0 : 0 < m) (hn : n ≤ m) (hr : IRow w A n X) :
    Calls Try.prog 77 #[.slice A n c, .int .i64 z] w fun e w' => ∃ g, e = .returned (.slice (some ⟨g, 0, none⟩) m m) ∧ w.heap.size ≤ g ∧ ORow w' g m (fun i => if i < n then X i else 0) ∧ Below w.heap.size w w' := by
  have hM := Lib.hid hm
  have hm2 : m ≤ 256 := by omega
  have HR := Lib.hid hr
  clear hr
  have hmz : ((z : Int) + 15) / 16 = (m : Int) := by omega
  have HMZ := Lib.hid hmz
  clear hm hmz
  go_enter Try.func77, Try.ntmps77
  go_wp2_with fail
  refine (impl_wordCount _ _ (by omega) (by omega)).mono ?_; rintro e w' ⟨rfl, rfl⟩
  rw [HMZ.out]
  go_wp2_with fail
  refine (grow_some m _ h0 (by omega)).mono ?_; rintro e w1 ⟨g, cap, rfl, hc1, hc2, hg, ho, hb⟩
  obtain ⟨w2, hcp, ho2, hg2⟩ := copy_words w1 g m m n c A X _ ho (HR.out.b hb) hn
  have HB2 := Lib.hid (hb.trans (below_of_grown hg2 hb.size hg))
  have HO2 := Lib.hid ho2
  clear ho hb ho2 hg2
  by_cases hlt : n < m
  · obtain ⟨w3, hcl, ho3, hg3⟩ := clear_words w2 g m n (m - n) _ HO2.out hlt
    have HB3 := Lib.hid (HB2.out.trans (below_of_grown hg3 HB2.out.size hg))
    have HO3 := Lib.hid ho3
    clear ho3 hg3 HB2 HO2
    go_wp2_with fail
    go_ret
    exact ⟨g, rfl, hg, HO3.out.congr (fun i _ => by by_cases e : i < n <;> simp [e]), HB3.out⟩
  · obtain rfl : n = m := by omega
    have hcl := clear_none w2
    go_wp2_with fail
    go_ret
    exact ⟨g, rfl, hg, HO2.out.congr (fun i _ => by by_cases e : i < n <;> simp [e]), HB2.out⟩

set_option maxRecDepth 100000 in
set_option maxHeartbeats 1000000 in
theorem growWords_none (A : Option Addr) (c : Nat) (w : World) :
    Calls Try.prog 77 #[.slice A 0 c, .int .i64 0] w fun e w' => e = .returned (.slice none 0 0) ∧ Below w.heap.size w w' := by
  have hcl := fun w => clear_none w
  have hcp := fun (w : World) ty => run_copy_none (P := Try.prog) w 24 24 ty 3 none A 0 0 0 c Try.underlying24 sizeI (by simp)
  go_enter Try.func77, Try.ntmps77
  go_wp2_with fail
  refine (impl_wordCount _ _ (by omega) (by omega)).mono ?_; rintro e w' ⟨rfl, rfl⟩
  go_wp2
  go_ret
  exact ⟨rfl, Below.refl _ _⟩

/-- A vector of words of the call's own: nil if there are none, else the head of a row from block B on. -/
def OVec (w : World) (B : Nat) (A : Option Addr) (m : Nat) (X : Nat → Int) : Prop :=
  (m = 0 ∧ A = none) ∨ ∃ g, A = some ⟨g, 0, none⟩ ∧ B ≤ g ∧ ORow w g m X
section
variable {w w' : World} {B m : Nat} {A : Option Addr} {X Y : Nat → Int}
theorem OVec.row (h : OVec w B A m X) : IRow w A m X := by
  rcases h with ⟨rfl, rfl⟩ | ⟨g, rfl, _, ho⟩
  · exact IRow.zero
  · exact ho.row
theorem OVec.b (h : OVec w B A m X) (hb : Below w.heap.size w w') : OVec w' B A m X := by
  rcases h with h | ⟨g, hA, hg, ho⟩
  · exact .inl h
  · exact .inr ⟨g, hA, hg, ho.b hb⟩
theorem OVec.congr (h : OVec w B A m X) (e : ∀ i, i < m → X i = Y i) : OVec w B A m Y := by
  rcases h with h | ⟨g, hA, hg, ho⟩
  · exact .inl h
  · exact .inr ⟨g, hA, hg, ho.congr e⟩
theorem OVec.low (h : OVec w B A m X) {B' : Nat} (hB : B' ≤ B) : OVec w B' A m X := by
  rcases h with h | ⟨g, hA, hg, ho⟩
  · exact .inl h
  · exact .inr ⟨g, hA, Nat.le_trans hB hg, ho⟩
theorem OVec.setAt (h : OVec w B A m X) {b o : Nat} (hb : b < B) (v : Value) : OVec (w.setCell ⟨b, o, none⟩ v) B A m X := by
  rcases h with h | ⟨g, hA, hg, ho⟩
  · exact .inl h
  · exact .inr ⟨g, hA, hg, ho.setAt (by omega) v⟩
theorem OVec.grown (h : OVec w B A m X) {g : Nat} (hg : w.grownBy w' (some g)) (hlt : g < B) : OVec w' B A m X := by
  rcases h with h | ⟨g', hA, hg', ho⟩
  · exact .inl h
  · exact .inr ⟨g', hA, hg', ho.grown hg (fun e => by injection e; omega)⟩
end

theorem growWords_any (z m : Nat) (A : Option Addr) (n c : Nat) (X : Nat → Int) (w : World) (hz : z ≤ 4096) (hm : m = (z + 15) / 16) (hn : n ≤ m) (hr : IRow w A n X) :
    Calls Try.prog 77 #[.slice A n c, .int .i64 z] w fun e w' => ∃ A', e = .returned (.slice A' m m) ∧ OVec w' w.heap.size A' m (fun i => if i < n then X i else 0) ∧ Below w.heap.size w w' := by
  rcases Nat.eq_zero_or_pos m with h0 | h0
  · obtain rfl : z = 0 := by omega
    obtain rfl : n = 0 := by omega
    subst h0
    exact (growWords_none A c w).mono fun e w' ⟨he, hb⟩ => ⟨none, he, .inl ⟨rfl, rfl⟩, hb⟩
  · exact (growWords_some z m A n c X w hz hm h0 hn hr).mono fun e w' ⟨g, he, hg, ho, hb⟩ => ⟨_, he, .inr ⟨g, rfl, hg, ho⟩, hb⟩

theorem markIntS_none (c : Nat) (k0 : Int) (w : World) : Calls Try.prog 46 #[.slice none 0 c, .int .i64 k0] w fun e w' => e = .returned (.int .i64 k0) ∧ w = w' := by
  go_enter Try.func46, Try.ntmps46
  go_wp2_with fail
  refine wp_loop_rounds 1 ?_
  rw [rounds_succ]
  go_wp2_with fail
  go_ret
  exact ⟨rfl, rfl⟩
theorem markBits_none (z : Int) (c : Nat) (k0 : Int) (w : World) :
    Calls Try.prog 63 #[.agg #[.int .i64 z, .slice none 0 c], .int .i64 k0] w fun e w' => e = .returned (.int .i64 k0) ∧ Below w.heap.size w w' := by
  go_enter Try.func63, Try.ntmps63
  go_wp2_with fail
  refine (markIntS_none _ _ _).mono ?_; rintro e w1 ⟨rfl, rfl⟩
  go_wp2_with fail
  go_ret
  exact ⟨rfl, (Below.refl _ _).alloc (Nat.le_refl _) _⟩
theorem markBits_own (z : Int) (A : Option Addr) (m c B : Nat) (X : Nat → Int) (k0 : Int) (w : World) (hm : m ≤ 1048576) (hx : OVec w B A m X) (hB : B ≤ w.heap.size) (h0 : 0 ≤ k0) (h1 : k0 ≤ 16777216) :
    Calls Try.prog 63 #[.agg #[.int .i64 z, .slice A m c], .int .i64 k0] w fun e w' => e = .returned (.int .i64 (k0 + m)) ∧ OVec w' B A m (fun i => k0 + i) ∧ Below B w w' := by
  rcases hx with ⟨rfl, rfl⟩ | ⟨g, rfl, hg, ho⟩
  · exact (markBits_none z c k0 w).mono fun e w' ⟨he, hb⟩ => ⟨by rw [he]; simp, .inl ⟨rfl, rfl⟩, hb.mono hB⟩
  · exact (markBits_any z g m c X k0 w hm ho h0 h1).mono fun e w' ⟨he, ho', hgr⟩ => ⟨he, .inr ⟨g, rfl, hg, ho'⟩, below_of_grown hgr hB hg⟩

/-- All blocks that were there are as they were, but for the one at whose head A is. -/
def Rest (A : Option Addr) (w w' : World) : Prop := w.heap.size ≤ w'.heap.size ∧ ∀ k, k < w.heap.size → A ≠ some ⟨k, 0, none⟩ → w'.heap[k]? = w.heap[k]?
theorem Box.rest {w w' : World} {b : Nat} {z : Int} {A D : Option Addr} {n c : Nat} (h : Box w b z A n c) (hr : Rest D w w') (hne : D ≠ some ⟨b, 0, none⟩) : Box w' b z A n c :=
  ⟨Nat.lt_of_lt_of_le h.1 hr.1, (World.cell?_of_block (a := ⟨b, 0, none⟩) (hr.2 b h.1 hne)).trans h.2.1, (World.cell?_of_block (a := ⟨b, 1, none⟩) (hr.2 b h.1 hne)).trans h.2.2⟩
theorem OVec.ne_high {w : World} {B m b : Nat} {A : Option Addr} {X : Nat → Int} (h : OVec w B A m X) (hb : w.heap.size ≤ b) : A ≠ some ⟨b, 0, none⟩ := by
  rcases h with ⟨_, rfl⟩ | ⟨g, rfl, _, ho⟩
  · simp
  · have := ho.lt; intro e; injection e with e; injection e with e; omega
theorem OVec.ne_low {w : World} {B m b : Nat} {A : Option Addr} {X : Nat → Int} (h : OVec w B A m X) (hb : b < B) : A ≠ some ⟨b, 0, none⟩ := by
  rcases h with ⟨_, rfl⟩ | ⟨g, rfl, hg, _⟩
  · simp
  · intro e; injection e with e; injection e with e; omega
theorem mark_rest (z : Int) (A : Option Addr) (m c B : Nat) (X : Nat → Int) (k0 : Int) (w : World) (hm : m ≤ 1048576) (hx : OVec w B A m X) (hB : B ≤ w.heap.size) (h0 : 0 ≤ k0) (h1 : k0 ≤ 16777216) :
    Calls Try.prog 63 #[.agg #[.int .i64 z, .slice A m c], .int .i64 k0] w fun e w' => e = .returned (.int .i64 (k0 + m)) ∧ OVec w' B A m (fun i => k0 + i) ∧ Below B w w' ∧ Rest A w w' := by
  rcases hx with ⟨rfl, rfl⟩ | ⟨g, rfl, hg, ho⟩
  · exact (markBits_none z c k0 w).mono fun e w' ⟨he, hb⟩ => ⟨by rw [he]; simp, .inl ⟨rfl, rfl⟩, hb.mono hB, hb.size, fun k hk _ => hb.block k hk⟩
  · exact (markBits_any z g m c X k0 w hm ho h0 h1).mono fun e w' ⟨he, ho', hgr⟩ => ⟨he, .inr ⟨g, rfl, hg, ho'⟩, below_of_grown hgr hB hg, hgr.size, fun k hk hne => hgr.block k hk (fun e => hne (by injection e with e; rw [e]))⟩

/-- A bit vector and a word whether it is one: what the model hands back, what the program does. -/
def VecIs (z : Int) (m : Nat) (Y : Nat → Int) (b : Bool) (w : World) (e : Ending) (w' : World) : Prop :=
  ∃ A c, e = .returned (.tuple #[.agg #[.int .i64 z, .slice A m c], .bool b]) ∧ IRow w' A m Y ∧ Below w.heap.size w w'
def OwnIs (z : Int) (m : Nat) (Y : Nat → Int) (b : Bool) (w : World) (e : Ending) (w' : World) : Prop :=
  ∃ A c, e = .returned (.tuple #[.agg #[.int .i64 z, .slice A m c], .bool b]) ∧ OVec w' w.heap.size A m Y ∧ Below w.heap.size w w'

theorem box_cells {w w1 : World} {z : Int} {t : TypeId} (hb : Below (w.alloc (.cells #[.int .i64 z, .slice none 0 0] t)).heap.size (w.alloc (.cells #[.int .i64 z, .slice none 0 0] t)) w1) :
    w1.cell? ⟨w.heap.size, 0, none⟩ = some (.int .i64 z) ∧ w1.cell? ⟨w.heap.size, 1, none⟩ = some (.slice none 0 0) ∧ w1.frozen? ⟨w.heap.size, 0, none⟩ = false ∧ w1.frozen? ⟨w.heap.size, 1, none⟩ = false ∧ w.heap.size < w1.heap.size :=
  ⟨(hb.cell (p := ⟨w.heap.size, 0, none⟩) (by simp)).trans (by simp [go_sem]), (hb.cell (p := ⟨w.heap.size, 1, none⟩) (by simp)).trans (by simp [go_sem]),
   (hb.frozen (p := ⟨w.heap.size, 0, none⟩) (by simp)).trans (by simp [go_sem]), (hb.frozen (p := ⟨w.heap.size, 1, none⟩) (by simp)).trans (by simp [go_sem]), by have := hb.size; simp at this; omega⟩

set_option maxHeartbeats 400000 in
theorem spec_biNew (z m : Nat) (w : World) (hz : z ≤ 4096) (hm : m = (z + 15) / 16) :
    Calls Try.prog 81 #[.int .i64 z] w fun e w' => ∃ g, e = .returned (.agg #[.int .i64 z, .slice (some ⟨g, 0, none⟩) m m]) ∧ w.heap.size ≤ g ∧ ORow w' g m (fun _ => 0) ∧ Below w.heap.size w w' := by
  have hmk := fun W => run_make_row' (P := Try.prog) 24 3 (.int .i64 0) 8 Try.underlying24 infoI rfl .i64 .i64 m (by omega) (by omega) W
  have e1 : ((z : Int) + 15) / 16 = (m : Int) := by omega
  have hm2 : m ≤ 256 := by omega
  clear hm
  go_enter Try.func81, Try.ntmps81
  go_wp2_with fail
  refine bodyPost_ret (v := .agg #[.int .i64 z, .slice (some ⟨w.heap.size + 1, 0, none⟩) m m]) (by simp [results, Try.results81, go_sem]) rfl ?_
  have ho := ORow.made (w.alloc (.cells #[.int .i64 z, .slice (some ⟨w.heap.size + 1, 0, none⟩) m m] 51)) m
  simp only [World.size_alloc] at ho
  exact ⟨w.heap.size + 1, rfl, by omega, ho, ((Below.refl _ _).alloc (Nat.le_refl _) _).alloc (by simp) _⟩

end Go.Proofs.Ythaipemgndahfaa
