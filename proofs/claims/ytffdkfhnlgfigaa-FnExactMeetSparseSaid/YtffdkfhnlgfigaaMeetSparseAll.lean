/- Several texts in one: SliceS, MrgS, MergeS, Deg, IsHyp, DegM, HypDeg, Loads, Coll, ContI, Cont, PutL, MeetM, CmpI, MeetI, MeetN. -/
import Derived.Test.YtffdkfhnlgfigaaListV
import Derived.Test.YtffdkfhnlgfigaaMrgM
import Derived.Test.YtffdkfhnlgfigaaApp
import Derived.Test.YtffdkfhnlgfigaaEdge
import Derived.BigQuiet
import Derived.Test.YtffdkfhnlgfigaaKeyRow
import Derived.Test.YtffdkfhnlgfigaaHas
import Derived.Test.YtffdkfhnlgfigaaObj
import Derived.Lib.SliceRun
import Derived.Laws.IdiomCopy

/- SliceSparse: both ways. -/
namespace Go.Proofs.Ytffdkfhnlgfigaa
open Go.RowKit

def subA (A : Option Addr) (a k : Nat) : Option Addr := if k = a then A else A.map (·.add a)
theorem run_slice_ints (A : Option Addr) (n k a u : Nat) (hau : a ≤ u) (hu : u ≤ n) (hnk : n ≤ k) (W : World) :
    (Instr.slice 28 (.slice A n k) (some (.int .i64 a)) (some (.int .i64 u)) none).run Try.prog W = .ok (.slice (subA A a k) (u - a) (k - a)) W := by
  have h1 : u ≤ k := by omega
  unfold Instr.slice
  simp [go_sem, Instr.sliceBounds, Instr.sliceBound, run_underlying Try.underlying28, h1, hau, subA]
theorem subA_row {w : World} {A : Option Addr} {n k a u : Nat} {X : Nat → Int} (h : IRow w A n X) (hu : u ≤ n) (hnk : n ≤ k) : IRow w (subA A a k) (u - a) (fun i => X (a + i)) := fun h0 => by
  obtain ⟨b, off, rfl, hl, hc⟩ := h (by omega)
  refine ⟨b, off + a, ?_, hl, fun i hi => ?_⟩
  · unfold subA; rw [if_neg (by omega)]; simp [addr_add]
  · rw [show off + a + i = off + (a + i) by omega]; exact hc (a + i) (by omega)
theorem run_slice_as (A : Option Addr) (n k a u m : Nat) (hau : a ≤ u) (hu : u ≤ n) (hnk : n ≤ k) (hm : m = u - a) (W : World) :
    (Instr.slice 28 (.slice A n k) (some (.int .i64 a)) (some (.int .i64 u)) none).run Try.prog W = .ok (.slice (subA A a k) m (k - a)) W := by rw [hm]; exact run_slice_ints A n k a u hau hu hnk W
theorem subA_as {w : World} {A : Option Addr} {n k a u m : Nat} {f g : Nat → Nat} (h : IRow w A n (numI f)) (hu : u ≤ n) (hnk : n ≤ k) (hm : m = u - a) (hg : g = fun i => f (a + i)) : IRow w (subA A a k) m (numI g) := by rw [hm, hg]; exact subA_row h hu hnk
theorem SpN.sub {c L w : Nat} {f : Nat → Nat} (h : SpN c L w f) {a u : Nat} (_hau : a ≤ u) (hu : u ≤ c) : ∃ v, SpN (u - a) L v (fun i => f (a + i)) := by
  obtain ⟨v, hv⟩ := isW_ex (u - a) L
  exact ⟨v, by have := h.hc; omega, h.h1, h.hL, hv, fun i hi => h.low _ (by omega), fun i hi => h.up _ (by omega)⟩

section
variable (A1 : Option Addr) (n1 c1 : Nat) (X1 : Nat → Int) (A2 : Option Addr) (n2 c2 : Nat) (X2 : Nat → Int) (w : World)
variable {z0 z1 z2 z3 z4 : Int} {c L v : Nat} {f : Nat → Nat}
theorem nbx_above {w : World} (o : Obj) : NBX w.heap.size (w.heap.size + 1) (spC 0 0 0 0 none 0 0 0 none 0 0) 32 ((w.alloc o).alloc (.cells (spC 0 0 0 0 none 0 0 0 none 0 0) 32)) :=
  ⟨by have := Go.Deep.blk_alloc_new (w.alloc o) (.cells (spC 0 0 0 0 none 0 0 0 none 0 0) 32); simpa using this, by omega⟩
end
end Go.Proofs.Ytffdkfhnlgfigaa

/- The merge of two sorted lists: the program's and the model's. -/
namespace Go.Proofs.Ytffdkfhnlgfigaa
open Go.RowKit

theorem run_slice_tail (A : Option Addr) (n k : Nat) (W : World) :
    (Instr.slice 28 (.slice A (n + 1) k) (some (.int .i64 1)) none none).run Try.prog W = .ok (.slice (subA A 1 k) n (k - 1)) W := by
  unfold Instr.slice
  simp [go_sem, Instr.sliceBounds, Instr.sliceBound, run_underlying Try.underlying28, subA]
  intro h; omega
theorem tail_row {w : World} {A : Option Addr} {n k : Nat} {X : Nat → Int} (h : IRow w A (n + 1) X) (hnk : n + 1 ≤ k) : IRow w (subA A 1 k) n (fun i => X (i + 1)) :=
  (subA_row (a := 1) (u := n + 1) h (Nat.le_refl _) hnk).congr (fun i _ => by rw [Nat.add_comm])
theorem row_low {w w' : World} {A : Option Addr} {n B : Nat} {X : Nat → Int} (h : IRow w A n X) (hb : Below B w w') (h0 : ∀ b o, A = some ⟨b, o, none⟩ → 0 < n → b < B) : IRow w' A n X := fun hn => by
  obtain ⟨b, off, rfl, hlt, hc⟩ := h hn
  exact ⟨b, off, rfl, Nat.lt_of_lt_of_le hlt hb.size, fun k hk => by rw [hb.cell (show (⟨b, off + k, none⟩ : Addr).block < B from h0 b off rfl hn)]; exact hc k hk⟩
/-- A row that lies below block B. -/
def LRow (w : World) (B : Nat) (A : Option Addr) (n : Nat) (X : Nat → Int) : Prop := 0 < n → ∃ b off, A = some ⟨b, off, none⟩ ∧ b < B ∧ ∀ k, k < n → w.cell? ⟨b, off + k, none⟩ = some (.int .i64 (X k))
section
variable {w w' : World} {A : Option Addr} {n B : Nat} {X : Nat → Int}
theorem LRow.of (h : IRow w A n X) : LRow w w.heap.size A n X := h
theorem LRow.row (h : LRow w B A n X) (hB : B ≤ w.heap.size) : IRow w A n X := fun hn => by
  obtain ⟨b, off, hA, hl, hc⟩ := h hn
  exact ⟨b, off, hA, by omega, hc⟩
theorem LRow.b (h : LRow w B A n X) (hb : Below B w w') : LRow w' B A n X := fun hn => by
  obtain ⟨b, off, hA, hl, hc⟩ := h hn
  exact ⟨b, off, hA, hl, fun k hk => by rw [hb.cell (show (⟨b, off + k, none⟩ : Addr).block < B from hl)]; exact hc k hk⟩
theorem LRow.tail {k : Nat} (h : LRow w B A (n + 1) X) (hnk : n + 1 ≤ k) : LRow w B (subA A 1 k) n (fun i => X (i + 1)) := fun h0 => by
  obtain ⟨b, off, rfl, hl, hc⟩ := h (by omega)
  refine ⟨b, off + 1, ?_, hl, fun i hi => ?_⟩
  · unfold subA; rw [if_neg (by omega)]; simp [addr_add]
  · rw [show off + 1 + i = off + (i + 1) by omega]; exact hc (i + 1) (by omega)
end
theorem run_make_cap (N : Nat) (hN : N ≤ 4096) (W : World) : (Instr.makeSlice 28 (.int .i64 0) (.int .i64 N)).run Try.prog W = .ok (.slice (some ⟨W.heap.size, 0, none⟩) 0 N) (W.alloc (.cells (madeCells #[.int .i64 0] N) 3)) := by
  obtain ⟨i0, hi, hz0, hz1, hz2⟩ := info_parts infoI
  have h := run_makeSlice (P := Try.prog) (w := W) 28 3 i0 (.int .i64 0) Try.underlying28 hi hz0 .i64 .i64 0 (N : Int)
  rw [hz1, hz2, show (Value.int .i64 0).cells = #[.int .i64 0] from rfl] at h
  simpa using h (by omega) (by omega) (by omega) (by omega) (by omega)
theorem owned_putI {w : World} {B k c : Nat} {A : Option Addr} {M : Nat → Int} (x : Int) (h : w.ownsRow B 3 1 (.slice A k c) k (vals (intV M) k)) : w.ownsRow B 3 1 (.slice A k c) k (vals (intV (putI M k x)) k) := by
  rw [vals_congr (F := intV (putI M k x)) (G := intV M) (fun i hi => by unfold intV; rw [putI_lt hi])]; exact h
def lenOf (v : Value) : Nat := match v with | .slice _ n _ => n | _ => 0
def MrgIs (N : Nat) (M : Nat → Int) (w : World) (e : Ending) (w' : World) : Prop := ∃ A k, e = .returned (.slice A N k) ∧ Ow w.heap.size w'.heap.size 3 A N (intV M) w' ∧ N ≤ k ∧ Below w.heap.size w w'

theorem mrg_vals {n m k n' m' N : Nat} {F G M F' G' Mt : Nat → Int} (ht : MrgOf n F m G Mt) (h : Mrg n F m G k M n' F' m' G') (hN : N = n + m) (h0 : n' = 0 ∨ m' = 0) : ∀ i, i < N → catV (catV (intV M) (intV F') k) (intV G') (k + n') i = intV Mt i := fun i hi => by
  have e := h.len
  rcases h0 with e0 | e0
  · subst e0
    have := (h.swap.done).same ht i (by omega)
    unfold intV at *
    rw [← this]
    unfold catV catI
    by_cases c : i < k
    · rw [if_pos (show i < k + 0 by omega), if_pos c, if_pos c]
    · rw [if_neg (show ¬ i < k + 0 by omega), if_neg c, show i - (k + 0) = i - k by omega]
  · subst e0
    have := h.done.same ht i (by omega)
    unfold intV at *
    rw [← this]
    unfold catV catI
    rw [if_pos (show i < k + n' by omega)]
    by_cases c : i < k
    · rw [if_pos c, if_pos c]
    · rw [if_neg c, if_neg c]
theorem mrg_end {n m k n' m' N : Nat} {F G M F' G' Mt : Nat → Int} {w w4 : World} {A4 : Option Addr} {k4 : Nat} (ht : MrgOf n F m G Mt) (h : Mrg n F m G k M n' F' m' G') (hN : N = n + m)
    (ho : w4.ownsRow w.heap.size 3 1 (.slice A4 (k + n' + m') k4) (k + n' + m') (vals (catV (catV (intV M) (intV F') k) (intV G') (k + n')) (k + n' + m'))) (hb : Below w.heap.size w w4) (h0 : n' = 0 ∨ m' = 0) :
    MrgIs N Mt w (.returned (.slice A4 (k + n' + m') k4)) w4 := by
  have e := h.len
  obtain rfl : N = k + n' + m' := by omega
  exact ⟨A4, k4, rfl, (ow_of_gvec (owned_vec ho) (Nat.le_refl _)).congr (mrg_vals ht h hN h0), owned_cap ho, hb⟩
theorem at_one (F : Nat → Int) (i : Nat) : (fun j => F (i + (j + 1))) = fun j => F (i + 1 + j) := by funext j; congr 1; omega
theorem Mrg.takeA {n m k n' m' i q : Nat} {F G M P Q : Nat → Int} (h : Mrg n F m G k M (n' + 1) (fun j => P (i + j)) m' (fun j => Q (q + j))) (hle : 0 < m' → P i ≤ Q q) : Mrg n F m G (k + 1) (putI M k (P i)) n' (fun j => P (i + 1 + j)) m' (fun j => Q (q + j)) := by
  have := h.take (by simpa using hle)
  simp only [Nat.add_zero] at this
  rw [at_one] at this; exact this
end Go.Proofs.Ytffdkfhnlgfigaa

/- MergeSparse: both ways. -/
namespace Go.Proofs.Ytffdkfhnlgfigaa
open Go.RowKit

/-- What a function that is handed two Sparses keeps. -/
structure DL (w : World) (z0 z1 z2 z3 : Int) (A1 : Option Addr) (n1 c1 : Nat) (X1 : Nat → Int) (z4 : Int) (A2 : Option Addr) (n2 c2 : Nat) (X2 : Nat → Int) (y0 y1 y2 y3 : Int) (B1 : Option Addr) (p1 d1 : Nat) (Y1 : Nat → Int) (y4 : Int) (B2 : Option Addr) (p2 d2 : Nat) (Y2 : Nat → Int) (wi : World) : Prop where
  below : Below w.heap.size w wi
  l1 : IRow wi A1 n1 X1
  h1 : IRow wi A2 n2 X2
  l2 : IRow wi B1 p1 Y1
  h2 : IRow wi B2 p2 Y2
  b1 : NBX w.heap.size w.heap.size (spC z0 z1 z2 z3 A1 n1 c1 z4 A2 n2 c2) 32 wi
  b2 : NBX w.heap.size (w.heap.size + 1) (spC y0 y1 y2 y3 B1 p1 d1 y4 B2 p2 d2) 32 wi
section
variable {w wi wj : World} {z0 z1 z2 z3 z4 y0 y1 y2 y3 y4 : Int} {A1 A2 B1 B2 : Option Addr} {n1 c1 n2 c2 p1 d1 p2 d2 : Nat} {X1 X2 Y1 Y2 : Nat → Int}
theorem nbx_two {w : World} (o : Obj) (cs : Array Value) (t : TypeId) : NBX w.heap.size (w.heap.size + 1) cs t ((w.alloc o).alloc (.cells cs t)) :=
  ⟨by have := Go.Deep.blk_alloc_new (w.alloc o) (.cells cs t); simpa using this, by omega⟩
theorem DL.start (h1 : IRow w A1 n1 X1) (h2 : IRow w A2 n2 X2) (h3 : IRow w B1 p1 Y1) (h4 : IRow w B2 p2 Y2) : DL w z0 z1 z2 z3 A1 n1 c1 X1 z4 A2 n2 c2 X2 y0 y1 y2 y3 B1 p1 d1 Y1 y4 B2 p2 d2 Y2 ((w.alloc (.cells (spC z0 z1 z2 z3 A1 n1 c1 z4 A2 n2 c2) 32)).alloc (.cells (spC y0 y1 y2 y3 B1 p1 d1 y4 B2 p2 d2) 32)) := by
  have hb := ((Below.refl w.heap.size w).alloc (Nat.le_refl _) (.cells (spC z0 z1 z2 z3 A1 n1 c1 z4 A2 n2 c2) 32)).alloc (by simp) (.cells (spC y0 y1 y2 y3 B1 p1 d1 y4 B2 p2 d2) 32)
  exact ⟨hb, h1.b hb, h2.b hb, h3.b hb, h4.b hb, NBX.b ⟨Go.Deep.blk_alloc_new _ _, Nat.le_refl _⟩ ((Below.refl _ _).alloc (Nat.le_refl _) _), nbx_two _ _ _⟩
theorem DL.step (h : DL w z0 z1 z2 z3 A1 n1 c1 X1 z4 A2 n2 c2 X2 y0 y1 y2 y3 B1 p1 d1 Y1 y4 B2 p2 d2 Y2 wi) (hb : Below wi.heap.size wi wj) : DL w z0 z1 z2 z3 A1 n1 c1 X1 z4 A2 n2 c2 X2 y0 y1 y2 y3 B1 p1 d1 Y1 y4 B2 p2 d2 Y2 wj := ⟨h.below.trans (hb.mono h.below.size), h.l1.b hb, h.h1.b hb, h.l2.b hb, h.h2.b hb, h.b1.b hb, h.b2.b hb⟩
theorem DL.drew (h : DL w z0 z1 z2 z3 A1 n1 c1 X1 z4 A2 n2 c2 X2 y0 y1 y2 y3 B1 p1 d1 Y1 y4 B2 p2 d2 Y2 wi) : DL w z0 z1 z2 z3 A1 n1 c1 X1 z4 A2 n2 c2 X2 y0 y1 y2 y3 B1 p1 d1 Y1 y4 B2 p2 d2 Y2 wi.drew := h.step (Below.drew (Below.refl _ _))
theorem DL.al (h : DL w z0 z1 z2 z3 A1 n1 c1 X1 z4 A2 n2 c2 X2 y0 y1 y2 y3 B1 p1 d1 Y1 y4 B2 p2 d2 Y2 wi) (o : Obj) : DL w z0 z1 z2 z3 A1 n1 c1 X1 z4 A2 n2 c2 X2 y0 y1 y2 y3 B1 p1 d1 Y1 y4 B2 p2 d2 Y2 (wi.alloc o) := h.step ((Below.refl _ _).alloc (Nat.le_refl _) _)
theorem DL.cells (h : DL w z0 z1 z2 z3 A1 n1 c1 X1 z4 A2 n2 c2 X2 y0 y1 y2 y3 B1 p1 d1 Y1 y4 B2 p2 d2 Y2 wi) : wi.cell? ⟨w.heap.size, 0, none⟩ = some (.int .i64 z0) ∧ wi.cell? ⟨w.heap.size, 1, none⟩ = some (.int .i64 z1) ∧ wi.cell? ⟨w.heap.size, 2, none⟩ = some (.int .i64 z2) ∧ wi.cell? ⟨w.heap.size, 3, none⟩ = some (.int .i64 z3) ∧ wi.cell? ⟨w.heap.size, 4, none⟩ = some (.slice A1 n1 c1) ∧ wi.cell? ⟨w.heap.size, 5, none⟩ = some (.int .i64 z4) ∧ wi.cell? ⟨w.heap.size, 6, none⟩ = some (.slice A2 n2 c2) ∧ wi.cell? ⟨w.heap.size + 1, 0, none⟩ = some (.int .i64 y0) ∧ wi.cell? ⟨w.heap.size + 1, 1, none⟩ = some (.int .i64 y1) ∧ wi.cell? ⟨w.heap.size + 1, 2, none⟩ = some (.int .i64 y2) ∧ wi.cell? ⟨w.heap.size + 1, 3, none⟩ = some (.int .i64 y3) ∧ wi.cell? ⟨w.heap.size + 1, 4, none⟩ = some (.slice B1 p1 d1) ∧ wi.cell? ⟨w.heap.size + 1, 5, none⟩ = some (.int .i64 y4) ∧ wi.cell? ⟨w.heap.size + 1, 6, none⟩ = some (.slice B2 p2 d2) :=
  ⟨h.b1.cell 0 _ rfl, h.b1.cell 1 _ rfl, h.b1.cell 2 _ rfl, h.b1.cell 3 _ rfl, h.b1.cell 4 _ rfl, h.b1.cell 5 _ rfl, h.b1.cell 6 _ rfl, h.b2.cell 0 _ rfl, h.b2.cell 1 _ rfl, h.b2.cell 2 _ rfl, h.b2.cell 3 _ rfl, h.b2.cell 4 _ rfl, h.b2.cell 5 _ rfl, h.b2.cell 6 _ rfl⟩
theorem DL.far (h : DL w z0 z1 z2 z3 A1 n1 c1 X1 z4 A2 n2 c2 X2 y0 y1 y2 y3 B1 p1 d1 Y1 y4 B2 p2 d2 Y2 wi) {l k : Nat} (ho : Only l k wi wj) (hl : w.heap.size + 1 < l) (h1 : IRow w A1 n1 X1) (h2 : IRow w A2 n2 X2) (h3 : IRow w B1 p1 Y1) (h4 : IRow w B2 p2 Y2) : DL w z0 z1 z2 z3 A1 n1 c1 X1 z4 A2 n2 c2 X2 y0 y1 y2 y3 B1 p1 d1 Y1 y4 B2 p2 d2 Y2 wj := by
  have hb : Below l wi wj ∨ True := .inr trivial
  clear hb
  have hB : Below w.heap.size wi wj := ho.below h.below.size (by omega)
  exact ⟨h.below.trans hB, (LRow.row ((LRow.of h1).b (h.below.trans hB)) (h.below.trans hB).size), (LRow.row ((LRow.of h2).b (h.below.trans hB)) (h.below.trans hB).size), (LRow.row ((LRow.of h3).b (h.below.trans hB)) (h.below.trans hB).size), (LRow.row ((LRow.of h4).b (h.below.trans hB)) (h.below.trans hB).size), h.b1.far ho (.inl (by omega)), h.b2.far ho (.inl (by omega))⟩
theorem DL.kept (h : DL w z0 z1 z2 z3 A1 n1 c1 X1 z4 A2 n2 c2 X2 y0 y1 y2 y3 B1 p1 d1 Y1 y4 B2 p2 d2 Y2 wi) (v0 v1 v2 v3 v4 v5 v6 : Value) : ((((((((wi).setCell ⟨w.heap.size + 1 + 1, 0, none⟩ v0).setCell ⟨w.heap.size + 1 + 1, 1, none⟩ v1).setCell ⟨w.heap.size + 1 + 1, 2, none⟩ v2).setCell ⟨w.heap.size + 1 + 1, 3, none⟩ v3).setCell ⟨w.heap.size + 1 + 1, 4, none⟩ v4).setCell ⟨w.heap.size + 1 + 1, 5, none⟩ v5).setCell ⟨w.heap.size + 1 + 1, 6, none⟩ v6).cell? ⟨w.heap.size, 0, none⟩ = some (.int .i64 z0) ∧ ((((((((wi).setCell ⟨w.heap.size + 1 + 1, 0, none⟩ v0).setCell ⟨w.heap.size + 1 + 1, 1, none⟩ v1).setCell ⟨w.heap.size + 1 + 1, 2, none⟩ v2).setCell ⟨w.heap.size + 1 + 1, 3, none⟩ v3).setCell ⟨w.heap.size + 1 + 1, 4, none⟩ v4).setCell ⟨w.heap.size + 1 + 1, 5, none⟩ v5).setCell ⟨w.heap.size + 1 + 1, 6, none⟩ v6).cell? ⟨w.heap.size, 1, none⟩ = some (.int .i64 z1) ∧ ((((((((wi).setCell ⟨w.heap.size + 1 + 1, 0, none⟩ v0).setCell ⟨w.heap.size + 1 + 1, 1, none⟩ v1).setCell ⟨w.heap.size + 1 + 1, 2, none⟩ v2).setCell ⟨w.heap.size + 1 + 1, 3, none⟩ v3).setCell ⟨w.heap.size + 1 + 1, 4, none⟩ v4).setCell ⟨w.heap.size + 1 + 1, 5, none⟩ v5).setCell ⟨w.heap.size + 1 + 1, 6, none⟩ v6).cell? ⟨w.heap.size, 2, none⟩ = some (.int .i64 z2) ∧ ((((((((wi).setCell ⟨w.heap.size + 1 + 1, 0, none⟩ v0).setCell ⟨w.heap.size + 1 + 1, 1, none⟩ v1).setCell ⟨w.heap.size + 1 + 1, 2, none⟩ v2).setCell ⟨w.heap.size + 1 + 1, 3, none⟩ v3).setCell ⟨w.heap.size + 1 + 1, 4, none⟩ v4).setCell ⟨w.heap.size + 1 + 1, 5, none⟩ v5).setCell ⟨w.heap.size + 1 + 1, 6, none⟩ v6).cell? ⟨w.heap.size, 3, none⟩ = some (.int .i64 z3) ∧ ((((((((wi).setCell ⟨w.heap.size + 1 + 1, 0, none⟩ v0).setCell ⟨w.heap.size + 1 + 1, 1, none⟩ v1).setCell ⟨w.heap.size + 1 + 1, 2, none⟩ v2).setCell ⟨w.heap.size + 1 + 1, 3, none⟩ v3).setCell ⟨w.heap.size + 1 + 1, 4, none⟩ v4).setCell ⟨w.heap.size + 1 + 1, 5, none⟩ v5).setCell ⟨w.heap.size + 1 + 1, 6, none⟩ v6).cell? ⟨w.heap.size, 4, none⟩ = some (.slice A1 n1 c1) ∧ ((((((((wi).setCell ⟨w.heap.size + 1 + 1, 0, none⟩ v0).setCell ⟨w.heap.size + 1 + 1, 1, none⟩ v1).setCell ⟨w.heap.size + 1 + 1, 2, none⟩ v2).setCell ⟨w.heap.size + 1 + 1, 3, none⟩ v3).setCell ⟨w.heap.size + 1 + 1, 4, none⟩ v4).setCell ⟨w.heap.size + 1 + 1, 5, none⟩ v5).setCell ⟨w.heap.size + 1 + 1, 6, none⟩ v6).cell? ⟨w.heap.size, 5, none⟩ = some (.int .i64 z4) ∧ ((((((((wi).setCell ⟨w.heap.size + 1 + 1, 0, none⟩ v0).setCell ⟨w.heap.size + 1 + 1, 1, none⟩ v1).setCell ⟨w.heap.size + 1 + 1, 2, none⟩ v2).setCell ⟨w.heap.size + 1 + 1, 3, none⟩ v3).setCell ⟨w.heap.size + 1 + 1, 4, none⟩ v4).setCell ⟨w.heap.size + 1 + 1, 5, none⟩ v5).setCell ⟨w.heap.size + 1 + 1, 6, none⟩ v6).cell? ⟨w.heap.size, 6, none⟩ = some (.slice A2 n2 c2) ∧ ((((((((wi).setCell ⟨w.heap.size + 1 + 1, 0, none⟩ v0).setCell ⟨w.heap.size + 1 + 1, 1, none⟩ v1).setCell ⟨w.heap.size + 1 + 1, 2, none⟩ v2).setCell ⟨w.heap.size + 1 + 1, 3, none⟩ v3).setCell ⟨w.heap.size + 1 + 1, 4, none⟩ v4).setCell ⟨w.heap.size + 1 + 1, 5, none⟩ v5).setCell ⟨w.heap.size + 1 + 1, 6, none⟩ v6).cell? ⟨w.heap.size + 1, 0, none⟩ = some (.int .i64 y0) ∧ ((((((((wi).setCell ⟨w.heap.size + 1 + 1, 0, none⟩ v0).setCell ⟨w.heap.size + 1 + 1, 1, none⟩ v1).setCell ⟨w.heap.size + 1 + 1, 2, none⟩ v2).setCell ⟨w.heap.size + 1 + 1, 3, none⟩ v3).setCell ⟨w.heap.size + 1 + 1, 4, none⟩ v4).setCell ⟨w.heap.size + 1 + 1, 5, none⟩ v5).setCell ⟨w.heap.size + 1 + 1, 6, none⟩ v6).cell? ⟨w.heap.size + 1, 1, none⟩ = some (.int .i64 y1) ∧ ((((((((wi).setCell ⟨w.heap.size + 1 + 1, 0, none⟩ v0).setCell ⟨w.heap.size + 1 + 1, 1, none⟩ v1).setCell ⟨w.heap.size + 1 + 1, 2, none⟩ v2).setCell ⟨w.heap.size + 1 + 1, 3, none⟩ v3).setCell ⟨w.heap.size + 1 + 1, 4, none⟩ v4).setCell ⟨w.heap.size + 1 + 1, 5, none⟩ v5).setCell ⟨w.heap.size + 1 + 1, 6, none⟩ v6).cell? ⟨w.heap.size + 1, 2, none⟩ = some (.int .i64 y2) ∧ ((((((((wi).setCell ⟨w.heap.size + 1 + 1, 0, none⟩ v0).setCell ⟨w.heap.size + 1 + 1, 1, none⟩ v1).setCell ⟨w.heap.size + 1 + 1, 2, none⟩ v2).setCell ⟨w.heap.size + 1 + 1, 3, none⟩ v3).setCell ⟨w.heap.size + 1 + 1, 4, none⟩ v4).setCell ⟨w.heap.size + 1 + 1, 5, none⟩ v5).setCell ⟨w.heap.size + 1 + 1, 6, none⟩ v6).cell? ⟨w.heap.size + 1, 3, none⟩ = some (.int .i64 y3) ∧ ((((((((wi).setCell ⟨w.heap.size + 1 + 1, 0, none⟩ v0).setCell ⟨w.heap.size + 1 + 1, 1, none⟩ v1).setCell ⟨w.heap.size + 1 + 1, 2, none⟩ v2).setCell ⟨w.heap.size + 1 + 1, 3, none⟩ v3).setCell ⟨w.heap.size + 1 + 1, 4, none⟩ v4).setCell ⟨w.heap.size + 1 + 1, 5, none⟩ v5).setCell ⟨w.heap.size + 1 + 1, 6, none⟩ v6).cell? ⟨w.heap.size + 1, 4, none⟩ = some (.slice B1 p1 d1) ∧ ((((((((wi).setCell ⟨w.heap.size + 1 + 1, 0, none⟩ v0).setCell ⟨w.heap.size + 1 + 1, 1, none⟩ v1).setCell ⟨w.heap.size + 1 + 1, 2, none⟩ v2).setCell ⟨w.heap.size + 1 + 1, 3, none⟩ v3).setCell ⟨w.heap.size + 1 + 1, 4, none⟩ v4).setCell ⟨w.heap.size + 1 + 1, 5, none⟩ v5).setCell ⟨w.heap.size + 1 + 1, 6, none⟩ v6).cell? ⟨w.heap.size + 1, 5, none⟩ = some (.int .i64 y4) ∧ ((((((((wi).setCell ⟨w.heap.size + 1 + 1, 0, none⟩ v0).setCell ⟨w.heap.size + 1 + 1, 1, none⟩ v1).setCell ⟨w.heap.size + 1 + 1, 2, none⟩ v2).setCell ⟨w.heap.size + 1 + 1, 3, none⟩ v3).setCell ⟨w.heap.size + 1 + 1, 4, none⟩ v4).setCell ⟨w.heap.size + 1 + 1, 5, none⟩ v5).setCell ⟨w.heap.size + 1 + 1, 6, none⟩ v6).cell? ⟨w.heap.size + 1, 6, none⟩ = some (.slice B2 p2 d2) := by
  have hon := fin7_only wi (w.heap.size + 1 + 1) v0 v1 v2 v3 v4 v5 v6
  unfold fin7 at hon
  have k1 := h.b1.far hon (.inl (by omega))
  have k2 := h.b2.far hon (.inl (by omega))
  exact ⟨k1.cell 0 _ rfl, k1.cell 1 _ rfl, k1.cell 2 _ rfl, k1.cell 3 _ rfl, k1.cell 4 _ rfl, k1.cell 5 _ rfl, k1.cell 6 _ rfl, k2.cell 0 _ rfl, k2.cell 1 _ rfl, k2.cell 2 _ rfl, k2.cell 3 _ rfl, k2.cell 4 _ rfl, k2.cell 5 _ rfl, k2.cell 6 _ rfl⟩
end
theorem SpN.srtN {c L w : Nat} {f : Nat → Nat} (h : SpN c L w f) : SrtN c (numI f) := fun i j hij hj => by unfold numI; have := h.mono hij hj; omega
section
variable (A1 : Option Addr) (n1 c1 : Nat) (X1 : Nat → Int) (A2 : Option Addr) (n2 c2 : Nat) (X2 : Nat → Int) (B1 : Option Addr) (p1 d1 : Nat) (Y1 : Nat → Int) (B2 : Option Addr) (p2 d2 : Nat) (Y2 : Nat → Int) (w : World) {z0 z1 z2 z3 z4 y0 y1 y2 y3 y4 : Int} {c L v c' L' v' : Nat} {f f' : Nat → Nat}
theorem nbx_three (w : World) (o o' : Obj) : NBX w.heap.size (w.heap.size + 1 + 1) (spC 0 0 0 0 none 0 0 0 none 0 0) 32 (((w.alloc o).alloc o').alloc (.cells (spC 0 0 0 0 none 0 0 0 none 0 0) 32)) :=
  ⟨by have := Go.Deep.blk_alloc_new ((w.alloc o).alloc o') (.cells (spC 0 0 0 0 none 0 0 0 none 0 0) 32); simpa using this, by omega⟩
theorem SpAns.any {z0 z1 z2 z3 z4 : Int} {n1 n2 : Nat} {X1 X2 : Nat → Int} {w : World} (e : Ending) (w' : World) (ha : SpAns z0 z1 z2 z3 n1 X1 z4 n2 X2 w e w') : ∃ A n k b, e = .returned (.tuple #[.slice A n k, .bool b]) ∧ Below w.heap.size w w' := by
  obtain ⟨ha, hb⟩ := ha
  rcases ha with ⟨c', L', v', g, A, k, _, he, _⟩ | ⟨_, he⟩
  · exact ⟨A, _, k, true, he, hb⟩
  · exact ⟨none, 0, 0, false, he, hb⟩
end
end Go.Proofs.Ytffdkfhnlgfigaa

/- Degrees: both sides. -/
namespace Go.Proofs.Ytffdkfhnlgfigaa
open Go.RowKit

/-- How many of the first k numbers are p. -/
def cntE (X : Nat → Int) (p : Int) : Nat → Nat
  | 0 => 0
  | k + 1 => cntE X p k + (if X k = p then 1 else 0)
/-- How many of the first k edges, taken by E, have p. -/
def degN (E : Nat → Nat) (l : Nat → Nat) (X : Nat → Nat → Int) (p : Int) : Nat → Nat
  | 0 => 0
  | k + 1 => degN E l X p k + cntE (X (E k)) p (l (E k))
theorem cntE_le (X : Nat → Int) (p : Int) : ∀ k, cntE X p k ≤ k
  | 0 => Nat.le_refl _
  | k + 1 => by have := cntE_le X p k; unfold cntE; split <;> omega
theorem degN_le {E : Nat → Nat} {l : Nat → Nat} {X : Nat → Nat → Int} {p : Int} : ∀ k, (∀ i, i < k → l (E i) = 3) → degN E l X p k ≤ 3 * k
  | 0, _ => Nat.le_refl _
  | k + 1, h => by
    have h1 := degN_le (E := E) (l := l) (X := X) (p := p) k (fun i hi => h i (by omega))
    have h2 := cntE_le (X (E k)) p (l (E k))
    have h3 := h k (by omega)
    unfold degN; omega
theorem risT_in {h : Int} {n : Nat} {X : Nat → Int} (hr : RisT h n X) {i : Nat} (hi : i < n) : 0 ≤ X i ∧ X i ≤ h := ⟨(hr i hi).1, (hr i hi).2.1⟩
/-- Degrees at a point of the two loops. -/
def dgF (E : Nat → Nat) (l : Nat → Nat) (X : Nat → Nat → Int) (k j : Nat) (p : Nat) : Int := ((degN E l X p k + cntE (X (E k)) p j : Nat) : Int)
theorem dgF_step {E : Nat → Nat} {l : Nat → Nat} {X : Nat → Nat → Int} {k j x : Nat} (hx : X (E k) j = (x : Int)) (p : Nat) : (if p = x then dgF E l X k j x + 1 else dgF E l X k j p) = dgF E l X k (j + 1) p := by
  unfold dgF
  rw [cntE]
  by_cases e : p = x
  · subst e
    rw [if_pos rfl, if_pos hx]; push_cast; omega
  · rw [if_neg e, if_neg (by rw [hx]; omega)]; simp
theorem dgF_next {E : Nat → Nat} {l : Nat → Nat} {X : Nat → Nat → Int} (k : Nat) (p : Nat) : dgF E l X k (l (E k)) p = dgF E l X (k + 1) 0 p := by
  unfold dgF; rw [degN]; simp [cntE]
theorem dgF_end {E : Nat → Nat} {l : Nat → Nat} {X : Nat → Nat → Int} (k : Nat) (p : Nat) : dgF E l X k 0 p = ((degN E l X p k : Nat) : Int) := by unfold dgF; simp [cntE]

end Go.Proofs.Ytffdkfhnlgfigaa

/- IsHyper: both sides, whatever the argument. -/
namespace Go.Proofs.Ytffdkfhnlgfigaa
open Go.RowKit

theorem len_le {l : Nat → Nat} {n i : Nat} (h : n + sumL l n ≤ 1048576) (hi : i < n) : l i ≤ 1048576 := by have := sumL_at l hi; omega
end Go.Proofs.Ytffdkfhnlgfigaa

/- The model's degrees; HyperDegrees of both sides. -/
namespace Go.Proofs.Ytffdkfhnlgfigaa
open Go.RowKit

/-- A row of indices of edges. -/
def EdIdx (n m : Nat) (E : Nat → Nat) : Prop := ∀ t, t < m → E t < n
def idxV (E : Nat → Nat) (t : Nat) : Int := ((E t : Nat) : Int)
end Go.Proofs.Ytffdkfhnlgfigaa

/- HyperDegrees: both sides. -/
namespace Go.Proofs.Ytffdkfhnlgfigaa
open Go.RowKit

theorem HyperOk.three {z : Int} {n : Nat} {l : Nat → Nat} {X : Nat → Nat → Int} (h : HyperOk z n l X) : ∀ i, i < n → l i = 3 := fun i hi => (h.2.2.2 i hi).1
theorem HyperOk.inn {z : Int} {n : Nat} {l : Nat → Nat} {X : Nat → Nat → Int} (h : HyperOk z n l X) : ∀ i, i < n → ∀ j, j < l i → 0 ≤ X i j ∧ X i j < z := fun i hi j hj => by
  have := risT_in (h.2.2.2 i hi).2 hj; omega
def allE (t : Nat) : Nat := t
theorem intsOwn_row {n : Nat} {X : Nat → Int} {b : Bool} {w : World} (e : Ending) (w' : World) (h : IntsOwn n X b w e w') : ∃ A c, e = .returned (.tuple #[.slice A n c, .bool b]) ∧ GRow w' A n (intV X) ∧ Below w.heap.size w w' := by
  obtain ⟨A, c, h1, h2, h3⟩ := h
  exact ⟨A, c, h1, h2.rd.row (Nat.le_refl _), h3⟩
theorem HyperOk.nat {z : Int} {n : Nat} {l : Nat → Nat} {X : Nat → Nat → Int} (h : HyperOk z n l X) : ∃ k : Nat, z = k := ⟨z.toNat, by have := h.1; omega⟩
end Go.Proofs.Ytffdkfhnlgfigaa

/- LoadsOf: the program's and the model's. -/
namespace Go.Proofs.Ytffdkfhnlgfigaa
open Go.RowKit

def plF (seed part : Int) (S : Nat → ByteArray) (P : Int) (i : Nat) : Int := placeI seed part (S i).data.toList P
theorem plF_bd (seed part : Int) (S : Nat → ByteArray) (P : Nat) (i : Nat) (h : 1 ≤ P) : ∃ q : Nat, plF seed part S P i = (q : Int) ∧ q < P := by
  obtain ⟨h0, h1⟩ := placeI_bd seed part (S i).data.toList P (by omega)
  exact ⟨(plF seed part S P i).toNat, (Int.toNat_of_nonneg h0).symm, by unfold plF; omega⟩
def cnt (F : Nat → Int) : Nat → Nat → Int
  | 0, _ => 0
  | k + 1, p => cnt F k p + (if F k = p then 1 else 0)
theorem cnt_bd (F : Nat → Int) (k p : Nat) : 0 ≤ cnt F k p ∧ cnt F k p ≤ k := by
  induction k with
  | zero => simp [cnt]
  | succ k ih => simp only [cnt]; split <;> omega
def LoadsOk (seed part : Int) (S : Nat → ByteArray) (n : Nat) (P : Int) : Prop := seedB seed part = true ∧ keysB S n = true ∧ 1 ≤ P ∧ P ≤ 64
/-- A slice of ints of the call's own and a word whether it is one. -/
def RowIs (m : Nat) (Y : Nat → Int) (b : Bool) (w : World) (e : Ending) (w' : World) : Prop :=
  ∃ A c, e = .returned (.tuple #[.slice A m c, .bool b]) ∧ Ow w.heap.size w'.heap.size 3 A m (intV Y) w' ∧ Below w.heap.size w w'

def NoRow (w : World) (e : Ending) (w' : World) : Prop := e = .returned (.tuple #[.slice none 0 0, .bool false]) ∧ w = w'
theorem RowIs.post {m : Nat} {Y : Nat → Int} {b : Bool} {w : World} (e : Ending) (w' : World) (h : RowIs m Y b w e w') :
    ∃ A c, e = .returned (.tuple #[.slice A m c, .bool b]) ∧ Ow w.heap.size w'.heap.size 3 A m (intV Y) w' ∧ Below w.heap.size w w' := h
theorem RowIs.read {m : Nat} {Y : Nat → Int} {b : Bool} {w : World} (e : Ending) (w' : World) (h : RowIs m Y b w e w') :
    ∃ A c, e = .returned (.tuple #[.slice A m c, .bool b]) ∧ GRow w' A m (intV Y) ∧ Below w.heap.size w w' := by
  obtain ⟨A, c, he, ho, hb⟩ := h
  exact ⟨A, c, he, ho.rd.row (Nat.le_refl _), hb⟩
theorem NoRow.is {w : World} (e : Ending) (w' : World) (h : NoRow w e w') : RowIs 0 (fun _ => 0) false w e w' := by
  obtain ⟨he, rfl⟩ := h
  exact ⟨none, 0, he, ow_zero _ _ _ _ _ _, Below.refl _ _⟩
end Go.Proofs.Ytffdkfhnlgfigaa

/- CollisionOf: the program's and the model's. -/
namespace Go.Proofs.Ytffdkfhnlgfigaa
open Go.RowKit

def seek (F : Nat → Int) (x : Int) : Nat → Nat → Option Nat
  | _, 0 => none
  | a, m + 1 => if F a = x then some a else seek F x (a + 1) m
def coll (F : Nat → Int) : Nat → Nat → Option (Nat × Nat)
  | _, 0 => none
  | i, m + 1 => match seek F (F i) (i + 1) m with
    | some k => some (i, k)
    | none => coll F (i + 1) m
theorem seek_hit {F : Nat → Int} {x : Int} {k n : Nat} (hk : k < n) (h : F k = x) : seek F x k (n - k) = some k := by
  obtain ⟨m, hm⟩ : ∃ m, n - k = m + 1 := ⟨n - k - 1, by omega⟩
  rw [hm, seek, if_pos h]
theorem seek_miss {F : Nat → Int} {x : Int} {k n : Nat} (hk : k < n) (h : F k ≠ x) : seek F x k (n - k) = seek F x (k + 1) (n - (k + 1)) := by
  obtain ⟨m, hm⟩ : ∃ m, n - k = m + 1 := ⟨n - k - 1, by omega⟩
  rw [hm, seek, if_neg h, show n - (k + 1) = m by omega]
theorem seek_end (F : Nat → Int) (x : Int) (n : Nat) : seek F x n (n - n) = none := by rw [Nat.sub_self, seek]
theorem seek_lt {F : Nat → Int} {x : Int} : ∀ {m a k}, seek F x a m = some k → k < a + m := by
  intro m
  induction m with
  | zero => intro a k h; simp [seek] at h
  | succ m ih =>
    intro a k h
    simp only [seek] at h
    split at h
    · injection h with h; omega
    · have := ih h; omega
theorem seek_shift (F : Nat → Int) (x : Int) (a : Nat) : ∀ m b, seek F x (a + b) m = (seek (fun j => F (a + j)) x b m).map (a + ·) := by
  intro m
  induction m with
  | zero => intro b; rfl
  | succ m ih =>
    intro b
    simp only [seek]
    by_cases h : F (a + b) = x
    · simp [h]
    · simp only [h, if_false]
      rw [Nat.add_assoc, ih]
theorem coll_hit {F : Nat → Int} {i k n : Nat} (hi : i < n) (h : seek F (F i) (i + 1) (n - (i + 1)) = some k) : coll F i (n - i) = some (i, k) := by
  obtain ⟨m, hm⟩ : ∃ m, n - i = m + 1 := ⟨n - i - 1, by omega⟩
  rw [show n - (i + 1) = m by omega] at h
  rw [hm, coll, h]
theorem coll_miss {F : Nat → Int} {i n : Nat} (hi : i < n) (h : seek F (F i) (i + 1) (n - (i + 1)) = none) : coll F i (n - i) = coll F (i + 1) (n - (i + 1)) := by
  obtain ⟨m, hm⟩ : ∃ m, n - i = m + 1 := ⟨n - i - 1, by omega⟩
  rw [show n - (i + 1) = m by omega] at h
  rw [hm, coll, h, show n - (i + 1) = m by omega]
theorem coll_end (F : Nat → Int) (n : Nat) : coll F n (n - n) = none := by rw [Nat.sub_self, coll]
def collV (o : Option (Nat × Nat)) : Value := match o with
  | some (i, k) => .tuple #[.int .i64 i, .int .i64 k, .bool true]
  | none => .tuple #[.int .i64 0, .int .i64 0, .bool false]
def seekI (o : Option Nat) : Int := match o with
  | some k => k
  | none => -1
def CollOk (seed part : Int) (S : Nat → ByteArray) (n : Nat) (P : Int) : Prop := seedB seed part = true ∧ keysB S n = true ∧ 1 ≤ P ∧ P ≤ 4096

def NoPair (w : World) (e : Ending) (w' : World) : Prop := e = .returned (.tuple #[.int .i64 0, .int .i64 0, .bool false]) ∧ w = w'
end Go.Proofs.Ytffdkfhnlgfigaa

/- slices.Contains of ints. -/
namespace Go.Proofs.Ytffdkfhnlgfigaa
open Go.RowKit

theorem seek_from {X : Nat → Int} {x : Int} : ∀ (m a : Nat), 0 ≤ seekI (seek X x a m) ↔ ∃ i, a ≤ i ∧ i < a + m ∧ X i = x
  | 0, a => by simp [seek, seekI]; intros; omega
  | m + 1, a => by
    rw [seek]
    by_cases h : X a = x
    · rw [if_pos h]; simp only [seekI]; exact ⟨fun _ => ⟨a, Nat.le_refl _, by omega, h⟩, fun _ => by omega⟩
    · rw [if_neg h, seek_from m (a + 1)]
      constructor
      · rintro ⟨i, h1, h2, h3⟩; exact ⟨i, by omega, by omega, h3⟩
      · rintro ⟨i, h1, h2, h3⟩
        by_cases e : i = a
        · subst e; exact absurd h3 h
        · exact ⟨i, by omega, by omega, h3⟩
theorem seek_some {X : Nat → Int} {x : Int} {m : Nat} : 0 ≤ seekI (seek X x 0 m) ↔ ∃ i, i < m ∧ X i = x := by
  rw [seek_from]
  constructor
  · rintro ⟨i, _, h2, h3⟩; exact ⟨i, by omega, h3⟩
  · rintro ⟨i, h2, h3⟩; exact ⟨i, by omega, by omega, h3⟩
end Go.Proofs.Ytffdkfhnlgfigaa

/- slices.Contains, slices.Clone of ints; lists of numbers as rows. -/
namespace Go.Proofs.Ytffdkfhnlgfigaa
open Go.RowKit

/-- A list of numbers as a row. -/
def lstV (L : List Nat) (t : Nat) : Int := ((L.getD t 0 : Nat) : Int)
theorem lstV_old (L : List Nat) (x t : Nat) (h : t < L.length) : lstV (L ++ [x]) t = lstV L t := by
  unfold lstV
  rw [List.getD_eq_getElem?_getD, List.getD_eq_getElem?_getD, List.getElem?_append_left h]
theorem lstV_new (L : List Nat) (x : Nat) : lstV (L ++ [x]) L.length = (x : Int) := by
  unfold lstV
  rw [List.getD_eq_getElem?_getD, List.getElem?_append_right (Nat.le_refl _)]; simp
theorem cntE_pos {X : Nat → Int} {p : Int} : ∀ k, 0 < cntE X p k ↔ ∃ j, j < k ∧ X j = p
  | 0 => by simp [cntE]
  | k + 1 => by
    have ih := cntE_pos (X := X) (p := p) k
    rw [cntE]
    constructor
    · intro h
      by_cases e : X k = p
      · exact ⟨k, by omega, e⟩
      · rw [if_neg e] at h
        obtain ⟨j, hj, hx⟩ := ih.1 h
        exact ⟨j, by omega, hx⟩
    · rintro ⟨j, hj, hx⟩
      by_cases e : j = k
      · subst e; rw [if_pos hx]; omega
      · have := ih.2 ⟨j, by omega, hx⟩; omega
/-- The indices below k of the rows that have p. -/
def atL (l : Nat → Nat) (X : Nat → Nat → Int) (p : Int) : Nat → List Nat
  | 0 => []
  | k + 1 => if 0 < cntE (X k) p (l k) then atL l X p k ++ [k] else atL l X p k
theorem atL_len (l : Nat → Nat) (X : Nat → Nat → Int) (p : Int) : ∀ k, (atL l X p k).length ≤ k
  | 0 => Nat.le_refl _
  | k + 1 => by
    have := atL_len l X p k
    rw [atL]; split
    · simp; omega
    · omega
theorem push_lst {w : World} {B : Nat} {A : Option Addr} {k1 x : Nat} {L : List Nat} (h : w.ownsRow B 3 1 (.slice A L.length k1) L.length (vals (intV (lstV L)) L.length)) :
    w.ownsRow B 3 1 (.slice A L.length k1) L.length (vals (intV (lstV (L ++ [x]))) L.length) := by
  rwa [vals_congr (F := intV (lstV (L ++ [x]))) (G := intV (lstV L)) (fun i hi => by unfold intV; rw [lstV_old L x i hi])]
end Go.Proofs.Ytffdkfhnlgfigaa

/- The model's insertion of a number into an increasing list. -/
namespace Go.Proofs.Ytffdkfhnlgfigaa
open Go.RowKit

def insV (X : Nat → Int) (k : Nat) (x : Int) (i : Nat) : Int := if i < k then X i else if i = k then x else X (i - 1)
def subP (A : Option Addr) (a k : Nat) : Option Addr := if k = a then A else A.map (·.add a)
theorem run_headP (A : Option Addr) (n k u : Nat) (hu : u ≤ k) (W : World) :
    (Instr.slice 28 (.slice A n k) none (some (.int .i64 u)) none).run Try.prog W = .ok (.slice A u k) W := by
  unfold Instr.slice
  simp [go_sem, Instr.sliceBounds, Instr.sliceBound, run_underlying Try.underlying28, hu]
theorem run_tailP (A : Option Addr) (n k a : Nat) (ha : a ≤ n) (_hnk : n ≤ k) (W : World) :
    (Instr.slice 28 (.slice A n k) (some (.int .i64 a)) none none).run Try.prog W = .ok (.slice (subP A a k) (n - a) (k - a)) W := by
  unfold Instr.slice
  simp [go_sem, Instr.sliceBounds, Instr.sliceBound, run_underlying Try.underlying28, subP, ha]
  try omega
theorem tail_rowP {w : World} {A : Option Addr} {n k a : Nat} {X : Nat → Int} (h : IRow w A n X) (ha : a ≤ n) (hnk : n ≤ k) : IRow w (subP A a k) (n - a) (fun i => X (a + i)) := fun h0 => by
  obtain ⟨b, off, rfl, hl, hc⟩ := h (by omega)
  refine ⟨b, off + a, ?_, hl, fun i hi => ?_⟩
  · unfold subP; rw [if_neg (by omega)]; simp [addr_add]
  · rw [show off + a + i = off + (a + i) by omega]; exact hc (a + i) (by omega)
section
variable (A : Option Addr) (n c : Nat) (X : Nat → Int) (x : Int) (k : Nat) (w : World)
set_option maxRecDepth 100000 in
set_option maxHeartbeats 2000000 in
theorem spec_l1Put_has (hn : n ≤ 4096) (hr : IRow w A n X) (hk : k < n) (h1 : ∀ i, i < k → X i < x) (hx : X k = x) :
    Calls Try.prog 78 #[.slice A n c, .int .i64 x] w fun e w' => e = .returned (.slice A n c) ∧ w = w' := by
  have H1 := Lib.hid h1
  have HX := Lib.hid hx
  obtain ⟨b, off, rfl, hbl, hcc⟩ := hr (by omega)
  have HC := Lib.hid hcc
  clear h1 hx hr hcc
  go_enter Try.func78, Try.ntmps78
  go_wp2_with fail
  go_loop [5] (fun i => ∃ q : Nat, q ≤ k ∧ i = .int .i64 q) (fun i => k - (intOf i).toNat)
  case atStart => exact ⟨0, Nat.zero_le _, rfl⟩
  case round =>
    obtain ⟨q, hq, rfl⟩ := hrel
    have hqn : q < n := by omega
    have hxq := HC.out q hqn
    by_cases hlt : q < k
    · have d1 : decide (X q < x) = true := by simpa using H1.out q hlt
      go_wp2_with fail
      go_round
      case rel => exact ⟨q + 1, by omega, by go_num⟩
      case measure => simp [intOf]; omega
    · obtain rfl : q = k := by omega
      rw [HX.out] at hxq
      have d1 : decide (x < x) = false := by simp
      go_wp2_with fail
      go_ret
      exact ⟨rfl, rfl⟩
set_option maxRecDepth 100000 in
set_option maxHeartbeats 4000000 in
theorem spec_l1Put_new (hn : n ≤ 4096) (hnc : n ≤ c) (hr : IRow w A n X) (hk : k ≤ n) (h1 : ∀ i, i < k → X i < x) (h2 : k < n → x < X k) :
    Calls Try.prog 78 #[.slice A n c, .int .i64 x] w fun e w' => ∃ A' c', e = .returned (.slice A' (n + 1) c') ∧ w'.ownsRow w.heap.size 3 1 (.slice A' (n + 1) c') (n + 1) (vals (intV (insV X k x)) (n + 1)) ∧ Below w.heap.size w w' := by
  have H1 := Lib.hid h1
  have H2 := Lib.hid h2
  have HR := Lib.hid hr
  have HRA := Lib.hid (show IRow (w.alloc (.cells #[] 3)) A k X from IRow.b (fun h0 => by obtain ⟨b, off, hA, hl, hc⟩ := hr (by omega); exact ⟨b, off, hA, hl, fun i hi => hc i (by omega)⟩) ((Below.refl _ _).alloc (Nat.le_refl _) _))
  have HO := Lib.hid (World.ownsRow_made (e := 3) (size := 1) w #[] 0 (Nat.le_refl _) (by simp [maxLen]) (by simp))
  have hhd := fun W => run_headP A n c k (by omega) W
  have htl := fun W => run_tailP A n c k hk hnc W
  clear h1 h2 hr
  go_enter Try.func78, Try.ntmps78
  go_wp2_with fail
  go_loop [5] (fun i => ∃ q : Nat, q ≤ k ∧ i = .int .i64 q) (fun i => k - (intOf i).toNat)
  case atStart => exact ⟨0, Nat.zero_le _, rfl⟩
  case round =>
    obtain ⟨q, hq, rfl⟩ := hrel
    by_cases hlt : q < k
    · obtain ⟨b, off, rfl, hbl, hcc⟩ := HR.out (by omega)
      have hxq := hcc q (by omega)
      have hqn : q < n := by omega
      have d1 : decide (X q < x) = true := by simpa using H1.out q hlt
      clear hcc
      go_wp2_with fail
      go_round
      case rel => exact ⟨q + 1, by omega, by go_num⟩
      case measure => simp [intOf]; omega
    · obtain rfl : q = k := by omega
      have hall : ∀ (A1 : Option Addr) (c1 : Nat) (w1 : World), w1.ownsRow w.heap.size 3 1 (.slice A1 (q) c1) (q) (vals (catV (intV X) (intV X) 0) (q)) → w1.ownsRow w.heap.size 3 1 (.slice A1 (q) c1) (q) (vals (intV (insV X q x)) (q)) := fun A1 c1 w1 h => by
        rw [vals_congr (F := catV (intV X) (intV X) 0) (G := intV (insV X q x)) (fun i hi => by unfold catV intV insV; rw [if_neg (by omega), Nat.sub_zero, if_pos (by omega)])] at h
        exact h
      have HALL := Lib.hid hall
      have HF := Lib.hid (show intV (insV X q x) (q) = .int .i64 x by unfold intV insV; rw [if_neg (by omega), if_pos (by omega)])
      have hfin : ∀ (A1 : Option Addr) (c1 : Nat) (w1 : World), w1.ownsRow w.heap.size 3 1 (.slice A1 (q + 1 + (n - q)) c1) (q + 1 + (n - q)) (vals (catV (intV (insV X q x)) (intV fun i => X (q + i)) (q + 1)) (q + 1 + (n - q))) → w1.ownsRow w.heap.size 3 1 (.slice A1 (n + 1) c1) (n + 1) (vals (intV (insV X q x)) (n + 1)) := fun A1 c1 w1 h => by
        rw [show q + 1 + (n - q) = n + 1 by omega, vals_congr (F := catV (intV (insV X q x)) (intV fun i => X (q + i)) (q + 1)) (G := intV (insV X q x)) (fun i hi => by
          unfold catV
          by_cases e : i < q + 1
          · rw [if_pos e]
          · rw [if_neg e]; show Value.int .i64 (X (q + (i - (q + 1)))) = Value.int .i64 (insV X q x i); unfold insV; rw [if_neg (by omega), if_neg (by omega), show q + (i - (q + 1)) = i - 1 by omega])] at h
        exact h
      have HFIN := Lib.hid hfin
      clear hall hfin
      have key : ∀ (a0 : Bool), True := fun _ => trivial
      clear key
      by_cases hqn : q < n
      all_goals first
        | (obtain ⟨b, off, hA, hbl, hcc⟩ := HR.out (show 0 < n by omega)
           have hxq := hcc q hqn
           have hlx := H2.out hqn
           have d1 : decide (X q < x) = false := by simp; omega
           have d2 : (X q == x) = false := by simp; omega
           clear hcc hlx)
        | (have dn : decide ((q : Int) < (n : Int)) = false := by simp; omega
           have dm : decide (q < n) = false := by simp; omega)
      all_goals
        try subst hA
        go_wp2_with (at_builtin; refine wpList_append_vals rfl _ _ 28 rfl w.heap.size 3 (.int .i64 0) 8 Try.underlying28 infoI rfl (F := intV X) (G := intV X) rfl rfl HO.out HRA.out (fun _ _ => rfl) (by omega) (by omega) (by simp) ?_)
        intro A1 c1 w1 ho1 hb1
        have O1 := Lib.hid (HALL.out _ _ _ ho1)
        have HB1 := Lib.hid (((Below.refl w.heap.size w).alloc (Nat.le_refl _) (.cells #[] 3)).trans hb1)
        have hs1 := HB1.out.size
        clear ho1 hb1
        go_wp2_with (at_builtin; refine wpList_push rfl _ _ 28 rfl w.heap.size 3 (.int .i64 0) 8 Try.underlying28 infoI rfl A1 _ c1 (intV (insV X _ x)) (.int .i64 x) w1 rfl O1.out rfl HF.out rfl (by omega) (by omega) hs1 ?_)
        intro A2 c2 w2 ho2 hb2
        have O2 := Lib.hid ho2
        have HB2 := Lib.hid (HB1.out.trans hb2)
        have hs2 := HB2.out.size
        clear ho2 hb2
        have HT := Lib.hid (tail_rowP (k := c) (HR.out.b HB2.out) hk hnc)
        go_wp2_with (at_builtin; refine wpList_append_vals rfl _ _ 28 rfl w.heap.size 3 (.int .i64 0) 8 Try.underlying28 infoI rfl rfl rfl O2.out HT.out (fun _ _ => rfl) (by omega) (by omega) hs2 ?_)
        intro A3 c3 w3 ho3 hb3
        have O3 := Lib.hid (HFIN.out _ _ _ ho3)
        have HB3 := Lib.hid (HB2.out.trans hb3)
        clear ho3 hb3
        go_wp2_with fail
        go_ret
        exact ⟨A3, c3, by rw [show q + 1 + (n - q) = n + 1 by omega]; rfl, O3.out, HB3.out⟩
end
end Go.Proofs.Ytffdkfhnlgfigaa

/- MeetSparse: the model's. -/
namespace Go.Proofs.Ytffdkfhnlgfigaa
open Go.RowKit

open Classical in
/-- What is in both of the first k numbers of f and a property, each once. -/
noncomputable def mtL (f : Nat → Nat) (P : Nat → Prop) : Nat → List Nat
  | 0 => []
  | k + 1 => if P (f k) ∧ ¬ (0 < k ∧ f (k - 1) = f k) then mtL f P k ++ [f k] else mtL f P k
theorem mt_mem {f : Nat → Nat} {P : Nat → Prop} {x : Nat} : ∀ k, x ∈ mtL f P k → ∃ i, i < k ∧ x = f i
  | 0, h => by simp [mtL] at h
  | k + 1, h => by
    rw [mtL] at h
    split at h
    · rcases List.mem_append.1 h with h | h
      · obtain ⟨i, hi, e⟩ := mt_mem k h; exact ⟨i, by omega, e⟩
      · exact ⟨k, by omega, List.mem_singleton.1 h⟩
    · obtain ⟨i, hi, e⟩ := mt_mem k h; exact ⟨i, by omega, e⟩
theorem mt_len (f : Nat → Nat) (P : Nat → Prop) : ∀ k, (mtL f P k).length ≤ k
  | 0 => Nat.le_refl _
  | k + 1 => by
    have := mt_len f P k
    rw [mtL]; split
    · simp; omega
    · omega
/-- All numbers before are less, but where the last one came before already. -/
theorem mt_less {f : Nat → Nat} {P : Nat → Prop} {k : Nat} (hm : ∀ i j, i ≤ j → j ≤ k → f i ≤ f j) (h : ¬ (0 < k ∧ f (k - 1) = f k)) : ∀ x, x ∈ mtL f P k → x < f k := fun x hx => by
  obtain ⟨i, hi, e⟩ := mt_mem k hx
  have h1 := hm i (k - 1) (by omega) (by omega)
  have h2 := hm (k - 1) k (by omega) (Nat.le_refl _)
  have h3 : f (k - 1) ≠ f k := fun e2 => h ⟨by omega, e2⟩
  omega
theorem mt_last {f : Nat → Nat} {P : Nat → Prop} : ∀ k, 0 < k → (∀ i j, i ≤ j → j ≤ k - 1 → f i ≤ f j) → P (f (k - 1)) → ∃ L, mtL f P k = L ++ [f (k - 1)] ∧ ∀ x, x ∈ L → x < f (k - 1)
  | 0, h, _, _ => absurd h (by omega)
  | k + 1, _, hm, hp => by
    rw [Nat.add_sub_cancel] at hm hp ⊢
    by_cases hd : 0 < k ∧ f (k - 1) = f k
    · obtain ⟨L, h1, h2⟩ := mt_last (P := P) k hd.1 (fun i j a b => hm i j a (by omega)) (by rw [hd.2]; exact hp)
      refine ⟨L, ?_, fun x hx => by rw [← hd.2]; exact h2 x hx⟩
      rw [mtL, if_neg (fun h => h.2 hd), h1, hd.2]
    · refine ⟨mtL f P k, ?_, mt_less hm hd⟩
      rw [mtL, if_pos ⟨hp, hd⟩]
/-- Which numbers a list has. -/
def InP (g : Nat → Nat) (n x : Nat) : Prop := ∃ j, j < n ∧ g j = x
theorem lst_at {L : List Nat} {i : Nat} (h : i < L.length) : ∃ x, x ∈ L ∧ lstV L i = (x : Int) := by
  refine ⟨L[i], List.getElem_mem h, ?_⟩
  unfold lstV
  rw [List.getD_eq_getElem?_getD, List.getElem?_eq_getElem h]; rfl
theorem ins_end (L : List Nat) (x : Nat) : ∀ i, i < L.length + 1 → insV (lstV L) L.length (x : Int) i = lstV (L ++ [x]) i := fun i hi => by
  unfold insV
  by_cases e : i < L.length
  · rw [if_pos e, lstV_old L x i e]
  · obtain rfl : i = L.length := by omega
    rw [if_neg e, if_pos rfl, lstV_new]
section
variable (A1 : Option Addr) (n1 c1 : Nat) (X1 : Nat → Int) (A2 : Option Addr) (n2 c2 : Nat) (X2 : Nat → Int) (B1 : Option Addr) (p1 d1 : Nat) (Y1 : Nat → Int) (B2 : Option Addr) (p2 d2 : Nat) (Y2 : Nat → Int) (w : World) {z0 z1 z2 z3 z4 y0 y1 y2 y3 y4 : Int} {c L v c' L' v' : Nat} {f f' : Nat → Nat}
set_option maxRecDepth 100000 in
set_option maxHeartbeats 4000000 in
theorem spec_meet_yes (hn1 : n1 ≤ 1048576) (hn2 : n2 ≤ 1048576) (hp1 : p1 ≤ 1048576) (hp2 : p2 ≤ 1048576) (h1 : IRow w A1 n1 X1) (h2 : IRow w A2 n2 X2) (h3 : IRow w B1 p1 Y1) (h4 : IRow w B2 p2 Y2) (ha : SpIs z0 z1 z2 z3 n1 X1 z4 n2 X2 c L v f) (hb : SpIs y0 y1 y2 y3 p1 Y1 y4 p2 Y2 c' L' v' f') (h : SpV z0 z1 z2 z3 n1 X1 z4 n2 X2) (h' : SpV y0 y1 y2 y3 p1 Y1 y4 p2 Y2) :
    Calls Try.prog 27 #[.agg (spC z0 z1 z2 z3 A1 n1 c1 z4 A2 n2 c2), .agg (spC y0 y1 y2 y3 B1 p1 d1 y4 B2 p2 d2)] w fun e w' => ∃ A k, e = .returned (.tuple #[.slice A (mtL f (InP f' c') c).length k, .bool true]) ∧ GRow w' A (mtL f (InP f' c') c).length (intV (lstV (mtL f (InP f' c') c))) ∧ Below w.heap.size w w' := by
  have HVA := Lib.hid h
  have HVB := Lib.hid h'
  have HA := Lib.hid ha
  have HB := Lib.hid hb
  have hc : c ≤ 60 := ha.num.hc
  have hc' : c' ≤ 60 := hb.num.hc
  have HM := Lib.hid (show ∀ i j, i ≤ j → j < c → f i ≤ f j from fun i j a b => ha.num.mono a b)
  have F5 := Lib.hid (show ∀ k, k < c → ¬ (0 < k ∧ f (k - 1) = f k) → ∀ x, x ∈ mtL f (InP f' c') k → x < f k from fun k hk hd => mt_less (P := InP f' c') (fun i j a b => HM.out i j a (by omega)) hd)
  have F6 := Lib.hid (show ∀ k, k < c → 0 < k → f (k - 1) = f k → InP f' c' (f k) → ∃ M, mtL f (InP f' c') k = M ++ [f k] ∧ ∀ x, x ∈ M → x < f k from fun k hk h0 hd hp => by
    obtain ⟨M, h1, h2⟩ := mt_last (P := InP f' c') k h0 (fun i j a b => HM.out i j a (by omega)) (by rw [hd]; exact hp)
    rw [hd] at h1 h2
    exact ⟨M, h1, h2⟩)
  have F4 := Lib.hid (show ∀ k, InP f' c' (f k) → ¬ (0 < k ∧ f (k - 1) = f k) → mtL f (InP f' c') (k + 1) = mtL f (InP f' c') k ++ [f k] from fun k hp hd => by rw [mtL, if_pos ⟨hp, hd⟩])
  have F3 := Lib.hid (show ∀ k, (0 < k ∧ f (k - 1) = f k) → mtL f (InP f' c') (k + 1) = mtL f (InP f' c') k from fun k hd => by rw [mtL, if_neg (fun h => h.2 hd)])
  have F2 := Lib.hid (show ∀ k, ¬ InP f' c' (f k) → mtL f (InP f' c') (k + 1) = mtL f (InP f' c') k from fun k hp => by rw [mtL, if_neg (fun h => hp h.1)])
  have F1 := Lib.hid (show ∀ k, (mtL f (InP f' c') k).length ≤ k from fun k => mt_len f (InP f' c') k)
  have F0 := Lib.hid (show mtL f (InP f' c') 0 = [] from rfl)
  generalize mtL f (InP f' c') = G at F0 F1 F2 F3 F4 F5 F6 ⊢
  have T0 := Lib.hid (DL.start (z0 := z0) (z1 := z1) (z2 := z2) (z3 := z3) (z4 := z4) (y0 := y0) (y1 := y1) (y2 := y2) (y3 := y3) (y4 := y4) (c1 := c1) (c2 := c2) (d1 := d1) (d2 := d2) h1 h2 h3 h4)
  clear h1 h2 h3 h4 h h' ha hb
  obtain ⟨q0, q1, q2, q3, q4, q5, q6, q7, q8, q9, q10, q11, q12, q13⟩ := T0.out.cells
  clear q7 q8 q9 q10 q11 q12 q13
  go_enter Try.func27, Try.ntmps27
  unfold spC
  go_wp2_with fail
  refine (good_yes A1 n1 c1 X1 A2 n2 c2 X2 _ hn1 hn2 T0.out.l1 T0.out.h1 HVA.out).mono ?_; rintro e w1 ⟨rfl, hb⟩
  have T1 := Lib.hid (T0.out.step hb)
  clear hb T0 q0 q1 q2 q3 q4 q5 q6
  obtain ⟨q0, q1, q2, q3, q4, q5, q6, q7, q8, q9, q10, q11, q12, q13⟩ := T1.out.cells
  clear q0 q1 q2 q3 q4 q5 q6
  go_wp2_with fail
  refine (good_yes B1 p1 d1 Y1 B2 p2 d2 Y2 _ hp1 hp2 T1.out.l2 T1.out.h2 HVB.out).mono ?_; rintro e w2 ⟨rfl, hb⟩
  have T2 := Lib.hid (T1.out.step hb)
  clear hb T1 q7 q8 q9 q10 q11 q12 q13
  obtain ⟨q0, q1, q2, q3, q4, q5, q6, q7, q8, q9, q10, q11, q12, q13⟩ := T2.out.cells
  clear q7 q8 q9 q10 q11 q12 q13
  go_wp2_with fail
  refine (spList_valid A1 n1 c1 X1 A2 n2 c2 X2 _ z0 z1 z2 z3 z4 c L v f hn1 hn2 T2.out.l1 T2.out.h1 HA.out).mono ?_; rintro e w3 ⟨FA, fk, rfl, hof, hfk, hb⟩
  have T3 := Lib.hid (T2.out.step hb)
  have HFA := Lib.hid (show IRow w3 FA c (numI f) from hof.rd.row (Nat.le_refl _))
  clear hb hof T2 q0 q1 q2 q3 q4 q5 q6
  go_wp2_with fail
  go_loopw [6, 20] (fun vv i wr => ∃ (k : Nat) (A0 : Option Addr) (k0 : Nat), k ≤ c ∧ i = .int .i64 k ∧ vv = .slice A0 (G k).length k0 ∧ Hid (wr.ownsRow w.heap.size 3 1 (.slice A0 (G k).length k0) (G k).length (vals (intV (lstV (G k))) (G k).length)) ∧ Hid (IRow wr FA c (numI f)) ∧ Hid (DL w z0 z1 z2 z3 A1 n1 c1 X1 z4 A2 n2 c2 X2 y0 y1 y2 y3 B1 p1 d1 Y1 y4 B2 p2 d2 Y2 wr)) (fun _ i _ => c - (intOf i).toNat)
  case atStart => exact ⟨0, none, 0, Nat.zero_le _, rfl, by rw [F0.out]; rfl, by rw [F0.out]; exact Lib.hid (World.ownsRow_nil _ _ _ _), HFA, T3⟩
  case round =>
    obtain ⟨k, A0, k0, hk, rfl, rfl, HO, HF, HT⟩ := hrel
    have hlen := F1.out k
    by_cases hlt : k < c
    · obtain ⟨b, off, rfl, _, hcc⟩ := HF.out (by omega)
      have hx := hcc k hlt
      unfold numI at hx
      clear hcc
      obtain ⟨q0, q1, q2, q3, q4, q5, q6, q7, q8, q9, q10, q11, q12, q13⟩ := HT.out.cells
      clear q0 q1 q2 q3 q4 q5 q6
      go_wp2_with fail
      refine (spList_valid B1 p1 d1 Y1 B2 p2 d2 Y2 _ y0 y1 y2 y3 y4 c' L' v' f' hp1 hp2 HT.out.l2 HT.out.h2 HB.out).mono ?_; rintro e w4 ⟨GA, gk, rfl, hog, hgk, hb⟩
      have T4 := Lib.hid (HT.out.step hb)
      have HF4 := Lib.hid (HF.out.b hb)
      have HO4 := Lib.hid (owned_b HO.out hb)
      have HGA := Lib.hid (show IRow w4 GA c' (numI f') from hog.rd.row (Nat.le_refl _))
      clear hb hog q7 q8 q9 q10 q11 q12 q13
      go_wp2_with fail
      refine (spec_l1Has GA c' gk (numI f') ((f k : Nat) : Int) _ (by omega) HGA.out).mono ?_; rintro e w5 ⟨r, rfl, hrr, rfl⟩
      have hin : r = true ↔ InP f' c' (f k) := hrr.trans ⟨fun ⟨j, a, b⟩ => ⟨j, a, by unfold numI at b; omega⟩, fun ⟨j, a, b⟩ => ⟨j, a, by unfold numI; omega⟩⟩
      have HIN := Lib.hid hin
      clear hrr hin
      have hcap := owned_slice HO4.out
      cases r with
      | false =>
        have HE := Lib.hid (show G (k + 1) = G k from F2.out k (fun h => by have := HIN.out.2 h; cases this))
        clear hcap
        go_wp2_with fail
        go_roundw
        case rel => exact ⟨k + 1, A0, k0, by omega, by go_num, by rw [HE.out], by rw [HE.out]; exact HO4, HF4, T4⟩
        case measure => simp [intOf]; omega
      | true =>
        have hpf := HIN.out.1 rfl
        obtain ⟨_, _, hs0, hcap, _⟩ := hcap
        injection hs0 with hs1 hs2 hs3
        subst hs3
        clear hs1 hs2
        by_cases hd : 0 < k ∧ f (k - 1) = f k
        · have HE := Lib.hid (show G (k + 1) = G k from F3.out k hd)
          obtain ⟨M, hM, hMl⟩ := F6.out k hlt hd.1 hd.2 hpf
          have hlm : (G k).length = M.length + 1 := by rw [hM]; simp
          have HP := Lib.hid (spec_l1Put_has A0 (G k).length k0 (lstV (G k)) ((f k : Nat) : Int) M.length w4 (by omega) (owned_vec HO4.out).row (by omega) (fun i hi => by
            rw [hM, lstV_old M (f k) i hi]
            obtain ⟨x, hx1, hx2⟩ := lst_at hi
            rw [hx2]
            have := hMl x hx1
            omega) (by rw [hM, lstV_new]))
          clear hM hMl hlm hd hpf
          go_wp2_with fail
          refine HP.out.mono ?_; rintro e w6 ⟨rfl, rfl⟩
          go_wp2_with fail
          go_roundw
          case rel => exact ⟨k + 1, A0, k0, by omega, by go_num, by rw [HE.out], by rw [HE.out]; exact HO4, HF4, T4⟩
          case measure => simp [intOf]; omega
        · have HE := Lib.hid (show G (k + 1) = G k ++ [f k] from F4.out k hpf hd)
          have hless := F5.out k hlt hd
          have HP := Lib.hid (spec_l1Put_new A0 (G k).length k0 (lstV (G k)) ((f k : Nat) : Int) (G k).length w4 (by omega) hcap (owned_vec HO4.out).row (Nat.le_refl _) (fun i hi => by
            obtain ⟨x, hx1, hx2⟩ := lst_at hi
            rw [hx2]
            have := hless x hx1
            omega) (fun h => absurd h (by omega)))
          have HEL := Lib.hid (show (G k).length + 1 = (G (k + 1)).length by rw [HE.out]; simp)
          clear hless hd hpf
          go_wp2_with fail
          refine HP.out.mono ?_; rintro e w6 ⟨A6, k6, rfl, ho6, hb⟩
          have T6 := Lib.hid (T4.out.step hb)
          have HF6 := Lib.hid (HF4.out.b hb)
          have HO6 := Lib.hid (show w6.ownsRow w.heap.size 3 1 (.slice A6 (G (k + 1)).length k6) (G (k + 1)).length (vals (intV (lstV (G (k + 1)))) (G (k + 1)).length) from by
            have h0 := owned_low ho6 T4.out.below.size
            rw [vals_congr (G := intV (lstV (G k ++ [f k]))) (fun i hi => by unfold intV; rw [ins_end _ _ i hi])] at h0
            rw [← HEL.out, HE.out]
            exact h0)
          clear ho6 hb
          go_wp2_with fail
          go_roundw
          case rel => exact ⟨k + 1, A6, k6, by omega, by go_num, by rw [← HEL.out], HO6, HF6, T6⟩
          case measure => simp [intOf]; omega
    · obtain rfl : k = c := by omega
      go_wp2_with fail
      go_ret2
      exact ⟨A0, k0, rfl, (owned_vec HO.out).row, HT.out.below⟩
end
end Go.Proofs.Ytffdkfhnlgfigaa

/- slices.Compact of ints that do not fall, in a row of the call's own. -/
namespace Go.Proofs.Ytffdkfhnlgfigaa
open Go.RowKit

/-- Each of the first k numbers once. -/
def cmL (f : Nat → Nat) : Nat → List Nat
  | 0 => []
  | k + 1 => if 0 < k ∧ f (k - 1) = f k then cmL f k else cmL f k ++ [f k]
theorem cm_len (f : Nat → Nat) : ∀ k, (cmL f k).length ≤ k
  | 0 => Nat.le_refl _
  | k + 1 => by
    have := cm_len f k
    rw [cmL]; split
    · omega
    · simp; omega
theorem cm_all {f : Nat → Nat} : ∀ k, (∀ j, 0 < j → j < k → f (j - 1) ≠ f j) → (cmL f k).length = k ∧ ∀ i, i < k → lstV (cmL f k) i = (f i : Int)
  | 0, _ => ⟨rfl, fun i h => absurd h (by omega)⟩
  | k + 1, h => by
    obtain ⟨h1, h2⟩ := cm_all k (fun j a b => h j a (by omega))
    have e : cmL f (k + 1) = cmL f k ++ [f k] := by rw [cmL, if_neg (fun hd => h k hd.1 (by omega) hd.2)]
    rw [e]
    refine ⟨by simp [h1], fun i hi => ?_⟩
    by_cases hi2 : i < k
    · rw [lstV_old _ _ _ (by omega), h2 i hi2]
    · obtain rfl : i = k := by omega
      have := lstV_new (cmL f i) (f i)
      rw [h1] at this
      exact this
/-- n ints lie in a block from an offset on. -/
def RwAt (w : World) (g off n : Nat) (Z : Nat → Int) : Prop := ∃ cs, w.heap[g]? = some (.cells cs 3) ∧ off + n ≤ cs.size ∧ ∀ k, k < n → cs[off + k]? = some (.int .i64 (Z k))
section
variable {w w' : World} {g off n : Nat} {Z : Nat → Int}
theorem RwAt.lt (h : RwAt w g off n Z) : g < w.heap.size := by
  obtain ⟨cs, hb, _⟩ := h
  exact (Array.getElem?_eq_some_iff.1 hb).1
theorem RwAt.cell (h : RwAt w g off n Z) {i : Nat} (hi : i < n) : w.cell? ⟨g, off + i, none⟩ = some (.int .i64 (Z i)) := by
  obtain ⟨cs, hb, _, hc⟩ := h
  simp [World.cell?, hb, hc i hi]
theorem RwAt.free (h : RwAt w g off n Z) (i : Nat) : w.frozen? ⟨g, i, none⟩ = false := by
  obtain ⟨cs, hb, _⟩ := h
  simp [World.frozen?, hb]
theorem RwAt.row (h : RwAt w g off n Z) : IRow w (some ⟨g, off, none⟩) n Z := fun _ => ⟨g, off, rfl, h.lt, fun _ hk => h.cell hk⟩
theorem RwAt.drewN (h : RwAt w g off n Z) (k : Nat) : RwAt (w.drewN k) g off n Z := h
theorem RwAt.congr (h : RwAt w g off n Z) {Y : Nat → Int} (e : ∀ i, i < n → Z i = Y i) : RwAt w g off n Y := by
  obtain ⟨cs, hb, h1, hc⟩ := h
  exact ⟨cs, hb, h1, fun k hk => by rw [hc k hk, e k hk]⟩
theorem RwAt.set (h : RwAt w g off n Z) (i : Nat) (x : Int) : RwAt (w.setCell ⟨g, off + i, none⟩ (.int .i64 x)) g off n (fun j => if j = i then x else Z j) := by
  obtain ⟨c, hb, hn, hc⟩ := h
  refine ⟨c.setIfInBounds (off + i) (.int .i64 x), ?_, by simpa using hn, fun j hj => ?_⟩
  · simp [World.setCell, Array.getElem?_modify, hb]
  · rw [Array.getElem?_setIfInBounds]
    by_cases e : j = i
    · subst e
      have : off + j < c.size := by omega
      simp [this]
    · rw [if_neg (by omega)]
      show c[off + j]? = some (.int .i64 (if j = i then x else Z j))
      rw [if_neg e]
      exact hc j hj
theorem only_drewC {l k : Nat} (h : Only l k w w') (q : Nat) : Only l k w (w'.drewN q) := ⟨h.os, h.tape, h.output, h.size, h.block⟩
end
theorem run_tailC (g off n c k : Nat) (hk : k ≤ n) (hkc : k < c) (W : World) :
    (Instr.slice 28 (.slice (some ⟨g, off, none⟩) n c) (some (.int .i64 k)) none none).run Try.prog W = .ok (.slice (some ⟨g, off + k, none⟩) (n - k) (c - k)) W := by
  unfold Instr.slice
  simp [go_sem, Instr.sliceBounds, Instr.sliceBound, run_underlying Try.underlying28, hk, addr_add, show ¬ c = k by omega]
  try omega
theorem run_headK (A : Option Addr) (n k u : Nat) (hu : u ≤ k) (W : World) :
    (Instr.slice 28 (.slice A n k) none (some (.int .i64 u)) none).run Try.prog W = .ok (.slice A u k) W := by
  unfold Instr.slice
  simp [go_sem, Instr.sliceBounds, Instr.sliceBound, run_underlying Try.underlying28, hu]
theorem only_cells (g : Nat) : ∀ (vs : List Value) (o : Nat) (w : World), Only g (g + 1) w (w.setCells g o vs)
  | [], _, w => Only.refl _ _ w
  | v :: r, o, w => by rw [World.setCells]; exact (only_set w g o v).trans (only_cells g r (o + 1) _)
theorem RwAt.cut {w : World} {g off n m : Nat} {Z : Nat → Int} (h : RwAt w g off n Z) (hm : m ≤ n) (vs : List Value) : IRow (w.setCells g (off + m) vs) (some ⟨g, off, none⟩) m Z := fun _ => ⟨g, off, rfl, by have := h.lt; have := (only_cells g vs (off + m) w).size; omega, fun k hk => by
  rw [World.cell?_setCells_out g vs (off + m) w _ (fun _ _ => Or.inl (by show off + k < off + m; omega))]
  exact h.cell (by omega)⟩
theorem infoZ (w : World) : (zeroValue 3).run Try.prog w = .ok (.int .i64 0) w := by
  obtain ⟨i, hi, hz, _, _⟩ := info_parts infoI
  unfold zeroValue typeInfo
  simp [go_sem, hi, hz]
set_option maxRecDepth 100000 in
set_option maxHeartbeats 4000000 in
theorem compact_is (g off n c : Nat) (f : Nat → Nat) (w : World) (hn : n ≤ 60) (hnc : n ≤ c) (hr : RwAt w g off n (numI f)) :
    Calls Try.prog 80 #[.slice (some ⟨g, off, none⟩) n c] w fun e w' => e = .returned (.slice (some ⟨g, off, none⟩) (cmL f n).length c) ∧ IRow w' (some ⟨g, off, none⟩) (cmL f n).length (lstV (cmL f n)) ∧ Only g (g + 1) w w' := by
  have HR := Lib.hid hr
  have hnm : ((n : Int) < 2) ↔ n < 2 := by omega
  clear hr
  by_cases h2 : n < 2
  · obtain ⟨hl, hv⟩ := cm_all (f := f) n (fun j a b => by omega)
    have HV := Lib.hid (show IRow w (some ⟨g, off, none⟩) (cmL f n).length (lstV (cmL f n)) from by rw [hl]; exact HR.out.row.congr (fun i hi => (hv i hi).symm))
    have HL := Lib.hid hl
    have d1 : decide ((n : Int) < 2) = true := by simp; omega
    have d2 : decide (n < 2) = true := by simp; omega
    clear hl hv hnm
    go_enter Try.func80, Try.ntmps80
    go_wp2_with fail
    go_ret
    exact ⟨by rw [HL.out]; rfl, HV.out, Only.refl _ _ _⟩
  have d1 : decide ((n : Int) < 2) = false := by simp; omega
  have d2 : decide (n < 2) = false := by simp; omega
  clear hnm
  go_enter Try.func80, Try.ntmps80
  go_wp2_with fail
  go_loopw [3] (fun i wr => ∃ k : Nat, k + 1 ≤ n ∧ i = .int .i64 ((k + 1 : Nat) : Int) ∧ Hid (∀ j, 0 < j → j < k + 1 → f (j - 1) ≠ f j) ∧ Hid (RwAt wr g off n (numI f)) ∧ Hid (Only g (g + 1) w wr)) (fun i _ => n - (intOf i).toNat)
  case atStart => exact ⟨0, by omega, rfl, Lib.hid (fun j a b => by omega), HR, Lib.hid (Only.refl _ _ _)⟩
  case round =>
    obtain ⟨k, hk, rfl, HN, HW, HO⟩ := hrel
    by_cases hlt : k + 1 < n
    · have hx1 := HW.out.cell hlt
      have hx0 := HW.out.cell (show k < n by omega)
      unfold numI at hx1 hx0
      have ek : IntKind.i64.wrap (((k + 1 : Nat) : Int) - 1) = (k : Int) := by rw [show ((k + 1 : Nat) : Int) - 1 = (k : Int) by push_cast; omega]; exact IntWalk.i64_in _ (by omega)
      have dk : decide (((k + 1 : Nat) : Int) < (n : Int)) = true := by simp; omega
      by_cases hd : f k = f (k + 1)
      · have htl := fun W => run_tailC g off n c (k + 1) (by omega) (by omega) W
        rw [← hd] at hx1
        have HC0 := Lib.hid (show cmL f (k + 1 + (0 + 1)) = cmL f (k + 1) by rw [Nat.zero_add, cmL, if_pos ⟨by omega, by rw [Nat.add_sub_cancel]; exact hd⟩])
        obtain ⟨hl0, hv0⟩ := cm_all (f := f) (k + 1) HN.out
        have HL0 := Lib.hid hl0
        have HV0 := Lib.hid hv0
        obtain ⟨K, hK⟩ : ∃ K, K = k + 1 := ⟨_, rfl⟩
        have HKk := Lib.hid hK
        clear hd hl0 hv0
        generalize f k = u0 at hx0 hx1
        go_wp2_with fail
        go_quiet (fail)
        go_wp2_with fail
        clear hx0 hx1 ek dk htl
        rw [← hK]
        have hKn : K < n := by omega
        have hKc : K < c := by omega
        clear hK
        go_loopw [3, 5] (fun mi ti w2 => ∃ (m t : Nat) (Z : Nat → Int), t + 1 ≤ n - K ∧ mi = .int .i64 (m : Int) ∧ ti = .int .i64 ((t + 1 : Nat) : Int) ∧ m ≤ K + t ∧ Hid ((cmL f (K + (t + 1))).length = m) ∧ Hid (RwAt w2 g off n Z) ∧ Hid (∀ i, i < m → Z i = lstV (cmL f (K + (t + 1))) i) ∧ Hid (∀ i, K + t ≤ i → i < n → Z i = numI f i) ∧ Hid (Only g (g + 1) w w2)) (fun _ ti _ => n - (intOf ti).toNat)
        case atStart => exact ⟨K, 0, numI f, by omega, by first | rfl | (rw [HKk.out]) | (rw [HKk.out]; push_cast; rfl), by first | rfl | simp, by omega, Lib.hid (by rw [HKk.out, HC0.out, HL0.out]), Lib.hid (HW.out.drewN nq), Lib.hid (fun i hi => by rw [HKk.out, HC0.out, HV0.out i (by have := HKk.out; omega)]; rfl), Lib.hid (fun i _ _ => rfl), Lib.hid (only_drewC HO.out nq)⟩
        case round =>
          obtain ⟨m, t, Z, ht, rfl, rfl, hm, HL, HZ, HV, HU, HQ⟩ := hrel
          by_cases hlt2 : t + 1 < n - K
          · have hy1 := HZ.out.cell (show K + (t + 1) < n by omega)
            have hy0 := HZ.out.cell (show K + t < n by omega)
            rw [HU.out _ (by omega) (by omega), show off + (K + (t + 1)) = off + K + (t + 1) by omega] at hy1
            rw [HU.out _ (by omega) (by omega), show off + (K + t) = off + K + t by omega] at hy0
            unfold numI at hy1 hy0
            have et : IntKind.i64.wrap (((t + 1 : Nat) : Int) - 1) = (t : Int) := by rw [show ((t + 1 : Nat) : Int) - 1 = (t : Int) by push_cast; omega]; exact IntWalk.i64_in _ (by omega)
            have dt : decide (((t + 1 : Nat) : Int) < ((n - K : Nat) : Int)) = true := by simp; omega
            have hmn : m < n := by omega
            by_cases he : f (K + t) = f (K + (t + 1))
            · have HC := Lib.hid (show cmL f (K + (t + 1 + 1)) = cmL f (K + (t + 1)) by rw [show K + (t + 1 + 1) = K + (t + 1) + 1 by omega, cmL, if_pos ⟨by omega, by rw [show K + (t + 1) - 1 = K + t by omega]; exact he⟩])
              rw [← he] at hy1
              clear he
              generalize f (K + t) = u2 at hy0 hy1
              go_wp2_with fail
              go_quiet (fail)
              go_wp2_with fail
              go_roundw
              case rel => exact ⟨m, t + 1, Z, by omega, rfl, by go_num, by omega, Lib.hid (by rw [HC.out, HL.out]), Lib.hid (HZ.out.drewN nq), Lib.hid (fun i hi => by rw [HC.out]; exact HV.out i hi), Lib.hid (fun i a b => HU.out i (by omega) b), Lib.hid (only_drewC HQ.out nq)⟩
              case measure => simp [intOf]; omega
            · have HC := Lib.hid (show cmL f (K + (t + 1 + 1)) = cmL f (K + (t + 1)) ++ [f (K + (t + 1))] by rw [show K + (t + 1 + 1) = K + (t + 1) + 1 by omega, cmL, if_neg (fun hd => he (by have := hd.2; rw [show K + (t + 1) - 1 = K + t by omega] at this; exact this))])
              have dn : (((f (K + (t + 1)) : Nat) : Int) != ((f (K + t) : Nat) : Int)) = true := by simp; omega
              have dn2 : (((f (K + (t + 1)) : Nat) : Int) == ((f (K + t) : Nat) : Int)) = false := by simp; omega
              have dn3 : (f (K + (t + 1)) == f (K + t)) = false := by simp; omega
              have hzm := HZ.out.cell hmn
              have hfm := HZ.out.free (off + m)
              clear he
              generalize f (K + t) = u2 at hy0 dn dn2 dn3
              generalize f (K + (t + 1)) = u3 at hy1 dn dn2 dn3 HC
              go_wp2_with fail
              go_quiet (fail)
              go_wp2_with fail
              go_roundw
              case rel =>
                refine ⟨m + 1, t + 1, _, by omega, by go_num, by go_num, by omega, Lib.hid (by rw [HC.out]; simp [HL.out]), Lib.hid ((HZ.out.drewN nq).set m ((u3 : Nat) : Int)), Lib.hid (fun i hi => ?_), Lib.hid (fun i a b => by rw [if_neg (by omega)]; exact HU.out i (by omega) b), Lib.hid ((only_drewC HQ.out nq).trans (only_set _ _ _ _))⟩
                rw [HC.out]
                by_cases e : i = m
                · subst e
                  rw [if_pos rfl]
                  have := lstV_new (cmL f (K + (t + 1))) u3
                  rw [HL.out] at this
                  exact this.symm
                · rw [if_neg e, lstV_old _ _ _ (by rw [HL.out]; omega)]
                  exact HV.out i (by omega)
              case measure => simp [intOf]; omega
          · have htn : n = K + (t + 1) := by omega
            have dt : decide (((t + 1 : Nat) : Int) < ((n - K : Nat) : Int)) = false := by simp; omega
            have htl := fun W => run_tailC g off n c m (by omega) (by omega) W
            have hhd := fun W => run_headK (some ⟨g, off, none⟩) n c m (by omega) W
            have hcl := fun ty => Lib.run_clear_slice wr 28 3 ty (.int .i64 0) Try.underlying28 infoZ rfl rfl g (off + m) (n - m) (c - m) (by omega) (fun j hj => by rw [show off + m + j = off + (m + j) by omega, HZ.out.cell (show m + j < n by omega)]; rfl) (fun j hj => HZ.out.free _)
            have HE := Lib.hid (show (cmL f n).length = m by rw [htn]; exact HL.out)
            have HX := Lib.hid (show ∀ vs, IRow (wr.setCells g (off + m) vs) (some ⟨g, off, none⟩) (cmL f n).length (lstV (cmL f n)) from fun vs => by
              rw [HE.out]
              exact (HZ.out.cut (by omega) vs).congr (fun i hi => by rw [HV.out i hi, htn]))
            clear htn
            go_wp2_with fail
            go_ret
            exact ⟨by rw [HE.out]; rfl, HX.out _, HQ.out.trans (only_cells _ _ _ _)⟩
      · have HN2 := Lib.hid (show ∀ j, 0 < j → j < k + 1 + 1 → f (j - 1) ≠ f j from fun j a b => by
          by_cases e : j = k + 1
          · subst e; rw [Nat.add_sub_cancel]; exact hd
          · exact HN.out j a (by omega))
        have de : (((f (k + 1) : Nat) : Int) == ((f k : Nat) : Int)) = false := by simp; omega
        generalize f k = u0 at *
        generalize f (k + 1) = u1 at *
        go_wp2_with fail
        go_quiet (fail)
        go_wp2_with fail
        go_roundw
        case rel => exact ⟨k + 1, by omega, by go_num, HN2, Lib.hid (HW.out.drewN nq), Lib.hid (only_drewC HO.out nq)⟩
        case measure => simp [intOf]; omega
    · obtain rfl : n = k + 1 := by omega
      obtain ⟨hl, hv⟩ := cm_all (f := f) (k + 1) HN.out
      have HV := Lib.hid (show IRow wr (some ⟨g, off, none⟩) (cmL f (k + 1)).length (lstV (cmL f (k + 1))) from by rw [hl]; exact HW.out.row.congr (fun i hi => (hv i hi).symm))
      have HL := Lib.hid hl
      have dk : decide (((k + 1 : Nat) : Int) < ((k + 1 : Nat) : Int)) = false := by simp
      clear hl hv
      go_wp2_with fail
      go_ret
      exact ⟨by rw [HL.out]; rfl, HV.out, HO.out⟩
end Go.Proofs.Ytffdkfhnlgfigaa

/- MeetSparse: the program's. -/
namespace Go.Proofs.Ytffdkfhnlgfigaa
open Go.RowKit

open Classical in
/-- Those of the first numbers of a list that have a property. -/
noncomputable def ftL (L : List Nat) (P : Nat → Prop) : Nat → List Nat
  | 0 => []
  | q + 1 => if P (L.getD q 0) then ftL L P q ++ [L.getD q 0] else ftL L P q
theorem ft_app {L : List Nat} {x : Nat} {P : Nat → Prop} : ∀ q, q ≤ L.length → ftL (L ++ [x]) P q = ftL L P q
  | 0, _ => rfl
  | q + 1, h => by
    have e : (L ++ [x]).getD q 0 = L.getD q 0 := by
      rw [List.getD_eq_getElem?_getD, List.getD_eq_getElem?_getD, List.getElem?_append_left (by omega)]
    rw [ftL, ftL, e, ft_app q (by omega)]
theorem ft_mt {f : Nat → Nat} {P : Nat → Prop} : ∀ k, ftL (cmL f k) P (cmL f k).length = mtL f P k
  | 0 => rfl
  | k + 1 => by
    have ih := ft_mt (f := f) (P := P) k
    by_cases hd : 0 < k ∧ f (k - 1) = f k
    · rw [cmL, if_pos hd, mtL, if_neg (fun h => h.2 hd)]
      exact ih
    · have e : (cmL f k ++ [f k]).getD (cmL f k).length 0 = f k := by
        rw [List.getD_eq_getElem?_getD, List.getElem?_append_right (Nat.le_refl _)]; simp
      rw [cmL, if_neg hd, mtL, show (cmL f k ++ [f k]).length = (cmL f k).length + 1 by simp, ftL, e, ft_app _ (Nat.le_refl _), ih]
      by_cases hp : P (f k)
      · rw [if_pos hp, if_pos ⟨hp, hd⟩]
      · rw [if_neg hp, if_neg (fun h => hp h.1)]
theorem ft_len (L : List Nat) (P : Nat → Prop) : ∀ q, (ftL L P q).length ≤ q
  | 0 => Nat.le_refl _
  | q + 1 => by
    have := ft_len L P q
    rw [ftL]; split
    · simp; omega
    · omega
theorem row_onlyN {w w' : World} {A : Option Addr} {n g : Nat} {X : Nat → Int} (h : IRow w A n X) (ho : Only g (g + 1) w w') (hne : ∀ b o, A = some ⟨b, o, none⟩ → 0 < n → b ≠ g) : IRow w' A n X := fun h0 => by
  obtain ⟨b, off, hA, hlt, hc⟩ := h h0
  have hb := hne b off hA h0
  have := ho.size
  exact ⟨b, off, hA, by omega, fun k hk => (World.cell?_of_block (a := ⟨b, off + k, none⟩) (ho.block b hlt (by omega))).trans (hc k hk)⟩
theorem ow_ofC {w : World} {B n c : Nat} {A : Option Addr} {X : Nat → Int} (h : w.ownsRow B 3 1 (.slice A n c) n (vals (intV X) n)) : Ow B w.heap.size 3 A n (intV X) w := by
  rcases owned_vec h with rfl | ⟨g, rfl, hg, ho⟩
  · exact ow_zero _ _ _ _ _ _
  · exact ow_of_own ho hg (Nat.le_refl n)
set_option maxRecDepth 100000 in
set_option maxHeartbeats 1000000 in
/-- slices.Compact of what SparseList told. -/
theorem compact_any (A : Option Addr) (n c lo hi : Nat) (f : Nat → Nat) (w : World) (hn : n ≤ 60) (hnc : n ≤ c) (hr : Ow lo hi 3 A n (intV (numI f)) w) (hl : lo ≤ w.heap.size) :
    Calls Try.prog 80 #[.slice A n c] w fun e w' => e = .returned (.slice A (cmL f n).length c) ∧ IRow w' A (cmL f n).length (lstV (cmL f n)) ∧ Below lo w w' ∧ ∃ g, (0 < n → g < hi) ∧ Only g (g + 1) w w' := by
  by_cases h0 : 0 < n
  · obtain ⟨g, off, cs, rfl, h1, h2, h3, h4, h5⟩ := hr h0
    exact (compact_is g off n c f w hn hnc ⟨cs, h3, h4, h5⟩).mono fun e w' ⟨he, hrow, ho⟩ => ⟨he, hrow, ho.below hl h1, g, fun _ => h2, ho⟩
  · obtain rfl : n = 0 := by omega
    go_enter Try.func80, Try.ntmps80
    go_wp2_with fail
    go_ret
    exact ⟨rfl, IRow.zero, Below.refl _ _, w.heap.size, fun h => absurd h (by omega), Only.refl _ _ _⟩
section
variable (A1 : Option Addr) (n1 c1 : Nat) (X1 : Nat → Int) (A2 : Option Addr) (n2 c2 : Nat) (X2 : Nat → Int) (B1 : Option Addr) (p1 d1 : Nat) (Y1 : Nat → Int) (B2 : Option Addr) (p2 d2 : Nat) (Y2 : Nat → Int) (w : World) {z0 z1 z2 z3 z4 y0 y1 y2 y3 y4 : Int} {c L v c' L' v' : Nat} {f f' : Nat → Nat}
set_option maxRecDepth 100000 in
set_option maxHeartbeats 4000000 in
theorem impl_meet_yes (hn1 : n1 ≤ 1048576) (hn2 : n2 ≤ 1048576) (hp1 : p1 ≤ 1048576) (hp2 : p2 ≤ 1048576) (h1 : IRow w A1 n1 X1) (h2 : IRow w A2 n2 X2) (h3 : IRow w B1 p1 Y1) (h4 : IRow w B2 p2 Y2) (ha : SpIs z0 z1 z2 z3 n1 X1 z4 n2 X2 c L v f) (hb : SpIs y0 y1 y2 y3 p1 Y1 y4 p2 Y2 c' L' v' f') :
    Calls Try.prog 29 #[.agg (spC z0 z1 z2 z3 A1 n1 c1 z4 A2 n2 c2), .agg (spC y0 y1 y2 y3 B1 p1 d1 y4 B2 p2 d2)] w fun e w' => ∃ A k, e = .returned (.tuple #[.slice A (mtL f (InP f' c') c).length k, .bool true]) ∧ Ow w.heap.size w'.heap.size 3 A (mtL f (InP f' c') c).length (intV (lstV (mtL f (InP f' c') c))) w' ∧ Below w.heap.size w w' := by
  have HA := Lib.hid ha
  have HB := Lib.hid hb
  have hc : c ≤ 60 := ha.num.hc
  have hc' : c' ≤ 60 := hb.num.hc
  have HS := Lib.hid (SpN.srtN hb.num)
  have T0 := Lib.hid (DL.start (z0 := z0) (z1 := z1) (z2 := z2) (z3 := z3) (z4 := z4) (y0 := y0) (y1 := y1) (y2 := y2) (y3 := y3) (y4 := y4) (c1 := c1) (c2 := c2) (d1 := d1) (d2 := d2) h1 h2 h3 h4)
  clear h1 h2 h3 h4 ha hb
  obtain ⟨q0, q1, q2, q3, q4, q5, q6, q7, q8, q9, q10, q11, q12, q13⟩ := T0.out.cells
  go_enter Try.func29, Try.ntmps29
  unfold spC
  go_wp2_with fail
  refine (impl_sparseList A1 n1 c1 X1 A2 n2 c2 X2 _ z0 z1 z2 z3 z4 hn1 hn2 T0.out.l1 T0.out.h1).mono ?_; intro e w1 hans
  obtain ⟨FA, fk, rfl, hof, hfk, hb⟩ := SpAns.yes _ _ _ _ _ HA.out e w1 hans
  have T1 := Lib.hid (T0.out.step hb)
  have hs0 := hb.size
  have HOF := Lib.hid hof
  clear hb hof hans T0 q0 q1 q2 q3 q4 q5 q6 q7 q8 q9 q10 q11 q12 q13
  obtain ⟨q0, q1, q2, q3, q4, q5, q6, q7, q8, q9, q10, q11, q12, q13⟩ := T1.out.cells
  go_wp2_with fail
  refine (impl_sparseList B1 p1 d1 Y1 B2 p2 d2 Y2 _ y0 y1 y2 y3 y4 hp1 hp2 T1.out.l2 T1.out.h2).mono ?_; intro e w2 hans
  obtain ⟨GA, gk, rfl, hog, hgk, hb⟩ := SpAns.yes _ _ _ _ _ HB.out e w2 hans
  have T2 := Lib.hid (T1.out.step hb)
  have HF2 := Lib.hid (show Ow w.heap.size w1.heap.size 3 FA c (intV (numI f)) w2 from fun h0 => by
    obtain ⟨g, off, cs, k1, k2, k3, k4, k5⟩ := HOF.out h0
    have hs := T1.out.below.size
    exact ⟨g, off, cs, k1, by have := k2; simp only [World.size_alloc] at this; omega, k3, (hb.block g k3).trans k4, k5⟩)
  have HGA := Lib.hid (show IRow w2 GA c' (numI f') from hog.rd.row (Nat.le_refl _))
  have HGB := Lib.hid (show ∀ b o, GA = some ⟨b, o, none⟩ → 0 < c' → w1.heap.size ≤ b from fun b o e1 e2 => by
    obtain ⟨g, off, cs, k1, k2, _⟩ := hog e2
    rw [k1] at e1
    injection e1 with e1; injection e1 with e1 _
    omega)
  clear hb hog hans T1 q0 q1 q2 q3 q4 q5 q6 q7 q8 q9 q10 q11 q12 q13 HOF
  go_wp2_with fail
  refine (compact_any FA c fk w.heap.size w1.heap.size f w2 hc hfk HF2.out T2.out.below.size).mono ?_; rintro e w3 ⟨rfl, hrow, hbl, g, hg, hon⟩
  have HR3 := Lib.hid hrow
  have HB3 := Lib.hid (T2.out.below.trans hbl)
  have HG3 := Lib.hid (show 0 < c → IRow w3 GA c' (numI f') from fun h0 => row_onlyN HGA.out hon (fun b o e1 e2 => by have := HGB.out b o e1 e2; have := hg h0; omega))
  have hcl := cm_len f c
  clear hrow hbl hg hon T2 HF2
  have HMT := Lib.hid (ft_mt (f := f) (P := InP f' c') c)
  have HC0 := Lib.hid (show 0 < (cmL f c).length → 0 < c from fun h => by omega)
  generalize cmL f c = M at *
  go_wp2_with fail
  go_loopw [10, 34] (fun vv i wr => ∃ (q : Nat) (A0 : Option Addr) (k0 : Nat), q ≤ M.length ∧ i = .int .i64 q ∧ vv = .slice A0 (ftL M (InP f' c') q).length k0 ∧ Hid (wr.ownsRow w3.heap.size 3 1 (.slice A0 (ftL M (InP f' c') q).length k0) (ftL M (InP f' c') q).length (vals (intV (lstV (ftL M (InP f' c') q))) (ftL M (InP f' c') q).length)) ∧ Hid (Below w3.heap.size w3 wr)) (fun _ i _ => M.length - (intOf i).toNat)
  case atStart => exact ⟨0, none, 0, Nat.zero_le _, rfl, rfl, Lib.hid (World.ownsRow_nil _ _ _ _), Lib.hid (Below.refl _ _)⟩
  case round =>
    obtain ⟨q, A0, k0, hq, rfl, rfl, HO, HL⟩ := hrel
    have hlen := ft_len M (InP f' c') q
    have hsz := HL.out.size
    by_cases hlt : q < M.length
    · obtain ⟨b, off, hFA, _, hcc⟩ := (HR3.out.b HL.out) (by omega)
      have hx := hcc q hlt
      have hGr := (HG3.out (HC0.out (by omega))).b HL.out
      have HGr := Lib.hid hGr
      have HXV := Lib.hid (show lstV M q = ((M.getD q 0 : Nat) : Int) from rfl)
      rw [HXV.out] at hx
      subst hFA
      clear hcc hGr
      obtain ⟨y, hy⟩ : ∃ y, y = M.getD q 0 := ⟨_, rfl⟩
      have HFT := Lib.hid (show (InP f' c' y → ftL M (InP f' c') (q + 1) = ftL M (InP f' c') q ++ [y]) ∧ (¬ InP f' c' y → ftL M (InP f' c') (q + 1) = ftL M (InP f' c') q) from by
        rw [hy, ftL]
        exact ⟨fun h => if_pos h, fun h => if_neg h⟩)
      rw [← hy] at hx
      clear hy HXV
      go_wp2_with fail
      refine (bin_search GA c' gk (numI f') (y : Int) _ (by omega) HGr.out HS.out).mono ?_
      rintro e w5 ⟨r, rfl, hrr, rfl⟩
      have HIN := Lib.hid (show r = true ↔ InP f' c' y from hrr.trans ⟨fun ⟨j, a, b⟩ => ⟨j, a, by unfold numI at b; omega⟩, fun ⟨j, a, b⟩ => ⟨j, a, by unfold numI; omega⟩⟩)
      clear hrr
      generalize ltN (numI f') (y : Int) c' = lv at *
      cases r with
      | false =>
        have HE := Lib.hid (HFT.out.2 (fun h => by have := HIN.out.2 h; cases this))
        go_wp2_with fail
        go_roundw
        case rel => exact ⟨q + 1, A0, k0, by omega, by go_num, by rw [HE.out], by rw [HE.out]; exact HO, HL⟩
        case measure => simp [intOf]; omega
      | true =>
        have HE := Lib.hid (HFT.out.1 (HIN.out.1 rfl))
        have HP := Lib.hid (push_lst (x := y) HO.out)
        have HW := Lib.hid (show intV (lstV (ftL M (InP f' c') q ++ [y])) (ftL M (InP f' c') q).length = .int .i64 (y : Int) by unfold intV; rw [lstV_new])
        go_wp2_with (at_builtin; refine wpList_push rfl _ _ 28 rfl w3.heap.size 3 (.int .i64 0) 8 Try.underlying28 infoI rfl A0 (ftL M (InP f' c') q).length k0 (intV (lstV (ftL M (InP f' c') q ++ [y]))) (.int .i64 (y : Int)) _ rfl HP.out rfl HW.out rfl (by omega) (by omega) (by omega) ?_)
        intro A5 k5 w6 hown' hb6
        have L6 := Lib.hid (HL.out.trans hb6)
        have hlen1 : (ftL M (InP f' c') q).length + 1 = (ftL M (InP f' c') (q + 1)).length := by rw [HE.out]; simp
        rw [← HE.out] at hown'
        have HO6 := Lib.hid hown'
        clear hown' hb6 HO HL HP
        go_wp2_with fail
        go_roundw
        case rel => exact ⟨q + 1, A5, k5, by omega, by go_num, by rw [← hlen1], by rw [← hlen1]; exact HO6, L6⟩
        case measure => simp [intOf]; omega
    · obtain rfl : q = M.length := by omega
      have HE := HMT.out
      go_wp2_with fail
      go_ret2
      rw [← HMT.out]
      exact ⟨A0, k0, rfl, ow_ofC (owned_low HO.out HB3.out.size), HB3.out.trans (HL.out.mono HB3.out.size)⟩
end
end Go.Proofs.Ytffdkfhnlgfigaa

/- MeetSparse: what both sides refuse. -/
namespace Go.Proofs.Ytffdkfhnlgfigaa
open Go.RowKit

section
variable (A1 : Option Addr) (n1 c1 : Nat) (X1 : Nat → Int) (A2 : Option Addr) (n2 c2 : Nat) (X2 : Nat → Int) (B1 : Option Addr) (p1 d1 : Nat) (Y1 : Nat → Int) (B2 : Option Addr) (p2 d2 : Nat) (Y2 : Nat → Int) (w : World) {z0 z1 z2 z3 z4 y0 y1 y2 y3 y4 : Int} {c L v : Nat} {f : Nat → Nat}
set_option maxRecDepth 100000 in
set_option maxHeartbeats 4000000 in
theorem spec_meet_no (hn1 : n1 ≤ 1048576) (hn2 : n2 ≤ 1048576) (hp1 : p1 ≤ 1048576) (hp2 : p2 ≤ 1048576) (h1 : IRow w A1 n1 X1) (h2 : IRow w A2 n2 X2) (h3 : IRow w B1 p1 Y1) (h4 : IRow w B2 p2 Y2) (h : ¬ (SpV z0 z1 z2 z3 n1 X1 z4 n2 X2 ∧ SpV y0 y1 y2 y3 p1 Y1 y4 p2 Y2)) :
    Calls Try.prog 27 #[.agg (spC z0 z1 z2 z3 A1 n1 c1 z4 A2 n2 c2), .agg (spC y0 y1 y2 y3 B1 p1 d1 y4 B2 p2 d2)] w fun e w' => e = .returned (.tuple #[.slice none 0 0, .bool false]) ∧ Below w.heap.size w w' := by
  have T0 := Lib.hid (DL.start (z0 := z0) (z1 := z1) (z2 := z2) (z3 := z3) (z4 := z4) (y0 := y0) (y1 := y1) (y2 := y2) (y3 := y3) (y4 := y4) (c1 := c1) (c2 := c2) (d1 := d1) (d2 := d2) h1 h2 h3 h4)
  clear h1 h2 h3 h4
  obtain ⟨q0, q1, q2, q3, q4, q5, q6, q7, q8, q9, q10, q11, q12, q13⟩ := T0.out.cells
  by_cases hv : SpV z0 z1 z2 z3 n1 X1 z4 n2 X2
  · have HVA := Lib.hid hv
    have HVB := Lib.hid (show ¬ SpV y0 y1 y2 y3 p1 Y1 y4 p2 Y2 from fun g => h ⟨hv, g⟩)
    clear hv h
    go_enter Try.func27, Try.ntmps27
    unfold spC
    go_wp2_with fail
    refine (good_yes A1 n1 c1 X1 A2 n2 c2 X2 _ hn1 hn2 T0.out.l1 T0.out.h1 HVA.out).mono ?_; rintro e w1 ⟨rfl, hb⟩
    have T1 := Lib.hid (T0.out.step hb)
    clear hb T0 q0 q1 q2 q3 q4 q5 q6 q7 q8 q9 q10 q11 q12 q13
    obtain ⟨q0, q1, q2, q3, q4, q5, q6, q7, q8, q9, q10, q11, q12, q13⟩ := T1.out.cells
    go_wp2_with fail
    refine (good_no B1 p1 d1 Y1 B2 p2 d2 Y2 _ hp1 hp2 T1.out.l2 T1.out.h2 HVB.out).mono ?_; rintro e w2 ⟨rfl, hb⟩
    have T2 := Lib.hid (T1.out.step hb)
    clear hb T1 q0 q1 q2 q3 q4 q5 q6 q7 q8 q9 q10 q11 q12 q13
    go_wp2_with fail
    go_ret2
    exact ⟨rfl, T2.out.below⟩
  · have HVA := Lib.hid hv
    clear hv h
    go_enter Try.func27, Try.ntmps27
    unfold spC
    go_wp2_with fail
    refine (good_no A1 n1 c1 X1 A2 n2 c2 X2 _ hn1 hn2 T0.out.l1 T0.out.h1 HVA.out).mono ?_; rintro e w1 ⟨rfl, hb⟩
    have T1 := Lib.hid (T0.out.step hb)
    clear hb T0 q0 q1 q2 q3 q4 q5 q6 q7 q8 q9 q10 q11 q12 q13
    go_wp2_with fail
    go_ret2
    exact ⟨rfl, T1.out.below⟩
set_option maxRecDepth 100000 in
set_option maxHeartbeats 4000000 in
theorem impl_meet_no (hn1 : n1 ≤ 1048576) (hn2 : n2 ≤ 1048576) (hp1 : p1 ≤ 1048576) (hp2 : p2 ≤ 1048576) (h1 : IRow w A1 n1 X1) (h2 : IRow w A2 n2 X2) (h3 : IRow w B1 p1 Y1) (h4 : IRow w B2 p2 Y2) (h : ¬ (SpV z0 z1 z2 z3 n1 X1 z4 n2 X2 ∧ SpV y0 y1 y2 y3 p1 Y1 y4 p2 Y2)) :
    Calls Try.prog 29 #[.agg (spC z0 z1 z2 z3 A1 n1 c1 z4 A2 n2 c2), .agg (spC y0 y1 y2 y3 B1 p1 d1 y4 B2 p2 d2)] w fun e w' => e = .returned (.tuple #[.slice none 0 0, .bool false]) ∧ Below w.heap.size w w' := by
  have T0 := Lib.hid (DL.start (z0 := z0) (z1 := z1) (z2 := z2) (z3 := z3) (z4 := z4) (y0 := y0) (y1 := y1) (y2 := y2) (y3 := y3) (y4 := y4) (c1 := c1) (c2 := c2) (d1 := d1) (d2 := d2) h1 h2 h3 h4)
  clear h1 h2 h3 h4
  obtain ⟨q0, q1, q2, q3, q4, q5, q6, q7, q8, q9, q10, q11, q12, q13⟩ := T0.out.cells
  by_cases hv : SpV z0 z1 z2 z3 n1 X1 z4 n2 X2
  · have HVB := Lib.hid (show ¬ SpV y0 y1 y2 y3 p1 Y1 y4 p2 Y2 from fun g => h ⟨hv, g⟩)
    clear h
    obtain ⟨c', L', v', f', hf⟩ := hv
    have HF := Lib.hid hf
    clear hf
    go_enter Try.func29, Try.ntmps29
    unfold spC
    go_wp2_with fail
    refine (impl_sparseList A1 n1 c1 X1 A2 n2 c2 X2 _ z0 z1 z2 z3 z4 hn1 hn2 T0.out.l1 T0.out.h1).mono ?_; intro e w1 hans
    obtain ⟨FA, fk, rfl, _, _, hb⟩ := SpAns.yes _ _ _ _ _ HF.out e w1 hans
    have T1 := Lib.hid (T0.out.step hb)
    clear hb hans T0 q0 q1 q2 q3 q4 q5 q6 q7 q8 q9 q10 q11 q12 q13
    obtain ⟨q0, q1, q2, q3, q4, q5, q6, q7, q8, q9, q10, q11, q12, q13⟩ := T1.out.cells
    go_wp2_with fail
    refine (impl_sparseList B1 p1 d1 Y1 B2 p2 d2 Y2 _ y0 y1 y2 y3 y4 hp1 hp2 T1.out.l2 T1.out.h2).mono ?_; intro e w2 hans
    obtain ⟨rfl, hb⟩ := SpAns.not _ _ _ _ _ HVB.out e w2 hans
    have T2 := Lib.hid (T1.out.step hb)
    clear hb hans T1 q0 q1 q2 q3 q4 q5 q6 q7 q8 q9 q10 q11 q12 q13
    go_wp2_with fail
    go_ret2
    exact ⟨rfl, T2.out.below⟩
  · have HVA := Lib.hid hv
    clear hv h
    go_enter Try.func29, Try.ntmps29
    unfold spC
    go_wp2_with fail
    refine (impl_sparseList A1 n1 c1 X1 A2 n2 c2 X2 _ z0 z1 z2 z3 z4 hn1 hn2 T0.out.l1 T0.out.h1).mono ?_; intro e w1 hans
    obtain ⟨rfl, hb⟩ := SpAns.not _ _ _ _ _ HVA.out e w1 hans
    have T1 := Lib.hid (T0.out.step hb)
    clear hb hans T0 q0 q1 q2 q3 q4 q5 q6 q7 q8 q9 q10 q11 q12 q13
    obtain ⟨q0, q1, q2, q3, q4, q5, q6, q7, q8, q9, q10, q11, q12, q13⟩ := T1.out.cells
    go_wp2_with fail
    refine (impl_sparseList B1 p1 d1 Y1 B2 p2 d2 Y2 _ y0 y1 y2 y3 y4 hp1 hp2 T1.out.l2 T1.out.h2).mono ?_; intro e w2 hans
    obtain ⟨GA, gn, gk, gb, rfl, hb⟩ := SpAns.any e w2 hans
    have T2 := Lib.hid (T1.out.step hb)
    clear hb hans T1 q0 q1 q2 q3 q4 q5 q6 q7 q8 q9 q10 q11 q12 q13
    go_wp2_with fail
    go_ret2
    exact ⟨rfl, T2.out.below⟩
end
end Go.Proofs.Ytffdkfhnlgfigaa
