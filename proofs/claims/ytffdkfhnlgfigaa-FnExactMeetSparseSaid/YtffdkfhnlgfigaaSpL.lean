/- Two bit vectors compared, both ways; what a function that is handed a Sparse holds. -/
import Derived.Test.YtffdkfhnlgfigaaSameI
import Derived.Test.YtffdkfhnlgfigaaBuildV
import Derived.Test.YtffdkfhnlgfigaaListM
import Derived.Test.YtffdkfhnlgfigaaNext
import Derived.Test.YtffdkfhnlgfigaaApp
import Derived.StillTailTactics
namespace Go.Proofs.Ytffdkfhnlgfigaa
open Go.RowKit

set_option maxRecDepth 100000 in
set_option maxHeartbeats 1000000 in
theorem impl_equalBits (z y : Int) (A B : Option Addr) (n c m d : Nat) (X Y : Nat → Int) (w : World) (hn : n ≤ 1048576) (hm : m ≤ 1048576) (hx : IRow w A n X) (hy : IRow w B m Y) :
    Calls Try.prog 95 #[.agg #[.int .i64 z, .slice A n c], .agg #[.int .i64 y, .slice B m d]] w (BoolIs (z = y ∧ SameI n X m Y) w) := by
  have HB := Lib.hid (((Below.refl w.heap.size w).alloc (Nat.le_refl _) (.cells #[.int .i64 z, .slice A n c] 30)).alloc (by simp) (.cells #[.int .i64 y, .slice B m d] 30))
  have HX := Lib.hid (hx.b HB.out)
  have HY := Lib.hid (hy.b HB.out)
  clear hx hy
  by_cases e : z = y
  · have d1 : (z == y) = true := by simpa using e
    have HE := Lib.hid e
    clear e
    go_enter Try.func95, Try.ntmps95
    go_wp2_with fail
    refine (slices_equal A B n c m d X Y _ hn hm HX.out HY.out).mono ?_; rintro e w1 ⟨b, rfl, hb, hbl⟩
    have HS := Lib.hid hb
    have HL := Lib.hid (HB.out.trans (hbl.mono (by simp; omega)))
    clear hb hbl
    go_wp2_with fail
    go_ret
    exact ⟨b, rfl, by rw [HS.out]; exact ⟨fun h => ⟨HE.out, h⟩, fun h => h.2⟩, HL.out⟩
  · have d1 : (z == y) = false := by simpa using e
    have HE := Lib.hid e
    clear e
    go_enter Try.func95, Try.ntmps95
    go_wp2_with fail
    go_ret
    exact ⟨false, rfl, by simp only [Bool.false_eq_true, false_iff]; exact fun h => HE.out h.1, HB.out⟩

set_option maxRecDepth 100000 in
set_option maxHeartbeats 1000000 in
theorem spec_biSame (z y : Int) (A B : Option Addr) (n c m d : Nat) (X Y : Nat → Int) (w : World) (hn : n ≤ 1048576) (hm : m ≤ 1048576) (hx : IRow w A n X) (hy : IRow w B m Y) :
    Calls Try.prog 106 #[.agg #[.int .i64 z, .slice A n c], .agg #[.int .i64 y, .slice B m d]] w (BoolIs (z = y ∧ SameI n X m Y) w) := by
  have HB := Lib.hid (((Below.refl w.heap.size w).alloc (Nat.le_refl _) (.cells #[.int .i64 z, .slice A n c] 30)).alloc (by simp) (.cells #[.int .i64 y, .slice B m d] 30))
  have HX := Lib.hid (hx.b HB.out)
  have HY := Lib.hid (hy.b HB.out)
  clear hx hy
  by_cases e : z = y
  · have d1 : (z == y) = true := by simpa using e
    have HE := Lib.hid e
    clear e
    go_enter Try.func106, Try.ntmps106
    go_wp2_with fail
    refine (spec_l1Same A B n c m d X Y _ hn hm HX.out HY.out).mono ?_; rintro e w1 ⟨b, rfl, hb, hbl⟩
    have HS := Lib.hid hb
    have HL := Lib.hid (HB.out.trans (hbl.mono (by simp; omega)))
    clear hb hbl
    go_wp2_with fail
    go_ret
    exact ⟨b, rfl, by rw [HS.out]; exact ⟨fun h => ⟨HE.out, h⟩, fun h => h.2⟩, HL.out⟩
  · have d1 : (z == y) = false := by simpa using e
    have HE := Lib.hid e
    clear e
    go_enter Try.func106, Try.ntmps106
    go_wp2_with fail
    go_ret
    exact ⟨false, rfl, by simp only [Bool.false_eq_true, false_iff]; exact fun h => HE.out h.1, HB.out⟩

/-- What a function that is handed a Sparse keeps while it goes from call to call. -/
structure SL (w : World) (z0 z1 z2 z3 : Int) (A1 : Option Addr) (n1 c1 : Nat) (X1 : Nat → Int) (z4 : Int) (A2 : Option Addr) (n2 c2 : Nat) (X2 : Nat → Int) (wi : World) : Prop where
  below : Below w.heap.size w wi
  low : IRow wi A1 n1 X1
  high : IRow wi A2 n2 X2
  box : NBX w.heap.size w.heap.size (spC z0 z1 z2 z3 A1 n1 c1 z4 A2 n2 c2) 32 wi
section
variable {w wi wj : World} {z0 z1 z2 z3 z4 : Int} {A1 A2 : Option Addr} {n1 c1 n2 c2 : Nat} {X1 X2 : Nat → Int}
theorem SL.start (h1 : IRow w A1 n1 X1) (h2 : IRow w A2 n2 X2) : SL w z0 z1 z2 z3 A1 n1 c1 X1 z4 A2 n2 c2 X2 (w.alloc (.cells (spC z0 z1 z2 z3 A1 n1 c1 z4 A2 n2 c2) 32)) :=
  ⟨(Below.refl _ _).alloc (Nat.le_refl _) _, h1.b ((Below.refl _ _).alloc (Nat.le_refl _) _), h2.b ((Below.refl _ _).alloc (Nat.le_refl _) _), ⟨Go.Deep.blk_alloc_new _ _, Nat.le_refl _⟩⟩
theorem SL.step (h : SL w z0 z1 z2 z3 A1 n1 c1 X1 z4 A2 n2 c2 X2 wi) (hb : Below wi.heap.size wi wj) : SL w z0 z1 z2 z3 A1 n1 c1 X1 z4 A2 n2 c2 X2 wj :=
  ⟨h.below.trans (hb.mono h.below.size), h.low.b hb, h.high.b hb, h.box.b hb⟩
theorem SL.drew (h : SL w z0 z1 z2 z3 A1 n1 c1 X1 z4 A2 n2 c2 X2 wi) : SL w z0 z1 z2 z3 A1 n1 c1 X1 z4 A2 n2 c2 X2 wi.drew := h.step (Below.drew (Below.refl _ _))
theorem SL.drewN (h : SL w z0 z1 z2 z3 A1 n1 c1 X1 z4 A2 n2 c2 X2 wi) (k : Nat) : SL w z0 z1 z2 z3 A1 n1 c1 X1 z4 A2 n2 c2 X2 (wi.drewN k) := h.step (below_drewN (Below.refl _ _) k)
theorem row_only {A : Option Addr} {n : Nat} {X : Nat → Int} {W : World} {B : Nat} (h : IRow wi A n X) (h0 : ∀ b o, A = some ⟨b, o, none⟩ → 0 < n → b < B) (hb : Below B wi W) : IRow W A n X := fun hn => by
  obtain ⟨b, off, rfl, hlt, hc⟩ := h hn
  exact ⟨b, off, rfl, Nat.lt_of_lt_of_le hlt hb.size, fun k hk => by rw [hb.cell (show (⟨b, off + k, none⟩ : Addr).block < B from h0 b off rfl hn)]; exact hc k hk⟩
/-- A step that may write into blocks made since. -/
theorem SL.low' (h : SL w z0 z1 z2 z3 A1 n1 c1 X1 z4 A2 n2 c2 X2 wi) (h1 : IRow w A1 n1 X1) (h2 : IRow w A2 n2 X2) {B : Nat} (hB : w.heap.size < B) (hb : Below B wi wj) : SL w z0 z1 z2 z3 A1 n1 c1 X1 z4 A2 n2 c2 X2 wj :=
  ⟨h.below.trans (hb.mono (by omega)), row_only h.low (fun b o e hn => by obtain ⟨b', o', e', hlt, _⟩ := h1 hn; rw [e] at e'; injection e' with e'; injection e'; omega) hb, row_only h.high (fun b o e hn => by obtain ⟨b', o', e', hlt, _⟩ := h2 hn; rw [e] at e'; injection e' with e'; injection e'; omega) hb, ⟨(hb.block _ hB).trans h.box.blk, h.box.ge⟩⟩
theorem SL.cells (h : SL w z0 z1 z2 z3 A1 n1 c1 X1 z4 A2 n2 c2 X2 wi) : wi.cell? ⟨w.heap.size, 0, none⟩ = some (.int .i64 z0) ∧ wi.cell? ⟨w.heap.size, 1, none⟩ = some (.int .i64 z1) ∧ wi.cell? ⟨w.heap.size, 2, none⟩ = some (.int .i64 z2) ∧ wi.cell? ⟨w.heap.size, 3, none⟩ = some (.int .i64 z3) ∧
    wi.cell? ⟨w.heap.size, 4, none⟩ = some (.slice A1 n1 c1) ∧ wi.cell? ⟨w.heap.size, 5, none⟩ = some (.int .i64 z4) ∧ wi.cell? ⟨w.heap.size, 6, none⟩ = some (.slice A2 n2 c2) :=
  ⟨h.box.cell 0 _ rfl, h.box.cell 1 _ rfl, h.box.cell 2 _ rfl, h.box.cell 3 _ rfl, h.box.cell 4 _ rfl, h.box.cell 5 _ rfl, h.box.cell 6 _ rfl⟩
end
theorem SL.al {w wi : World} {z0 z1 z2 z3 z4 : Int} {A1 A2 : Option Addr} {n1 c1 n2 c2 : Nat} {X1 X2 : Nat → Int} (h : SL w z0 z1 z2 z3 A1 n1 c1 X1 z4 A2 n2 c2 X2 wi) (o : Obj) : SL w z0 z1 z2 z3 A1 n1 c1 X1 z4 A2 n2 c2 X2 (wi.alloc o) := h.step ((Below.refl _ _).alloc (Nat.le_refl _) _)
theorem SL.three {w wi : World} {z0 z1 z2 z3 z4 : Int} {A1 A2 : Option Addr} {n1 c1 n2 c2 : Nat} {X1 X2 : Nat → Int} (h : SL w z0 z1 z2 z3 A1 n1 c1 X1 z4 A2 n2 c2 X2 wi) : wi.cell? ⟨w.heap.size, 2, none⟩ = some (.int .i64 z2) ∧ wi.cell? ⟨w.heap.size, 3, none⟩ = some (.int .i64 z3) ∧ wi.cell? ⟨w.heap.size, 4, none⟩ = some (.slice A1 n1 c1) :=
  ⟨h.cells.2.2.1, h.cells.2.2.2.1, h.cells.2.2.2.2.1⟩
/-- One element put behind a row of the call's own, at a step of a region that draws its order. -/
theorem step_push {ops : Array Oper} {o : Oper} {a : Act} {K : Act → World → Prop} {Q : Exit → Act → World → Prop} {E : Prop} (hgd : o.guard = none) (s x : Operand) (t : TypeId)
    (ho : o.op = .call { callee := .builtin .append, args := #[s, x], argTypes := #[t, t] }) (B : Nat) (e : TypeId) (z : Value) (bytes : Nat)
    (ht : Try.prog.underlying t = some (.slice e)) (hinfo : (Try.prog.info? e).map (fun i => (i.zero, i.size, i.bytes)) = some (some z, 1, bytes)) (hz1 : z.cells.size = 1)
    (A : Option Addr) (k c : Nat) (F : Nat → Value) (u : Value) (wr : World) (hs : a.eval s = .slice A k c) (hown : wr.ownsRow B e 1 (.slice A k c) k (vals F k))
    (hx : a.eval x = .slice (some ⟨wr.heap.size, 0, none⟩) 1 1) (hF : F k = u) (hu : u.oneCell' = true) (hk : (k + 1) * bytes ≤ 140737488355328) (hk2 : k < 16777216) (hB : B ≤ wr.heap.size)
    (h : ∀ A' c' w3, w3.ownsRow B e 1 (.slice A' (k + 1) c') (k + 1) (vals F (k + 1)) → Below B wr w3 → K (a.put o.dst (.slice A' (k + 1) c')) w3) :
    if Region.wanted o (yielded ops a.tmps) = true then Oper.wp Try.prog o a (wr.alloc (.cells #[u] e)) K Q else E := by
  have hw : Region.wanted o (yielded ops a.tmps) = true := by simp [Region.wanted, hgd]
  rw [if_pos hw]
  refine wp_append_vals s x t ho B e z bytes ht hinfo hz1 (G := fun _ => u) hs hx (hown.alloc _) ?_ (fun _ _ => hu) (by omega) hk (by simp; omega) ?_
  · intro _
    exact ⟨wr.heap.size, 0, rfl, by simp, fun j hj => by
      obtain rfl : j = 0 := by omega
      simp⟩
  · intro A' c' w3 ho' hb
    refine h A' c' w3 ?_ (((Below.refl _ _).alloc hB _).trans hb)
    have e1 : vals (catV F (fun _ => u) k) (k + 1) = vals F (k + 1) := vals_congr (fun i hi => by
      unfold catV
      by_cases c : i < k
      · rw [if_pos c]
      · obtain rfl : i = k := by omega
        rw [if_neg c, hF])
    rw [e1] at ho'; exact ho'
end Go.Proofs.Ytffdkfhnlgfigaa
