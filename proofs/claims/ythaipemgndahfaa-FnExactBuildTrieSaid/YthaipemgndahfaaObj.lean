/- What lies where: facts that hang on some blocks alone, carried from call to call. -/
import Derived.Test.YthaipemgndahfaaGen
import Derived.Test.YthaipemgndahfaaBitsFns
namespace Go.Proofs.Ythaipemgndahfaa
open Go.RowKit

/-- Nothing but blocks lo .. hi - 1 has turned, and new blocks. -/
structure Only (lo hi : Nat) (w w' : World) : Prop where
  os : w'.os = w.os
  tape : w'.tape = w.tape
  output : w'.output = w.output
  size : w.heap.size ≤ w'.heap.size
  block : ∀ k, k < w.heap.size → (k < lo ∨ hi ≤ k) → w'.heap[k]? = w.heap[k]?
/-- P hangs on blocks lo .. hi - 1 alone. -/
def Lives (lo hi : Nat) (P : World → Prop) : Prop :=
  ∀ w w' : World, w'.os = w.os → w'.tape = w.tape → w'.output = w.output → w.heap.size ≤ w'.heap.size → (∀ k, lo ≤ k → k < hi → w'.heap[k]? = w.heap[k]?) → P w → P w'
structure At (lo hi : Nat) (P : World → Prop) (w : World) : Prop where
  now : P w
  top : hi ≤ w.heap.size
  lives : Lives lo hi P
section
variable {w w' : World} {lo hi l h B : Nat} {P Q : World → Prop}
theorem At.low (a : At lo hi P w) (hb : Below B w w') (hB : hi ≤ B) : At lo hi P w' :=
  ⟨a.lives w w' hb.os hb.tape hb.output hb.size (fun k _ hk => hb.block k (by omega)) a.now, Nat.le_trans a.top hb.size, a.lives⟩
theorem At.b (a : At lo hi P w) (hb : Below w.heap.size w w') : At lo hi P w' := a.low hb a.top
theorem At.far (a : At lo hi P w) (ho : Only l h w w') (hd : hi ≤ l ∨ h ≤ lo) : At lo hi P w' :=
  ⟨a.lives w w' ho.os ho.tape ho.output ho.size (fun k h1 h2 => ho.block k (by have := a.top; omega) (by omega)) a.now, Nat.le_trans a.top ho.size, a.lives⟩
theorem At.alloc (a : At lo hi P w) (o : Obj) : At lo hi P (w.alloc o) := a.b ((Below.refl _ _).alloc (Nat.le_refl _) _)
theorem At.imp (a : At lo hi P w) (hi' : Lives lo hi Q) (h : P w → Q w) : At lo hi Q w := ⟨h a.now, a.top, hi'⟩
theorem Only.refl (lo hi : Nat) (w : World) : Only lo hi w w := ⟨rfl, rfl, rfl, Nat.le_refl _, fun _ _ _ => rfl⟩
theorem Only.trans {w2 : World} (a : Only lo hi w w') (b : Only lo hi w' w2) : Only lo hi w w2 :=
  ⟨b.os.trans a.os, b.tape.trans a.tape, b.output.trans a.output, Nat.le_trans a.size b.size, fun k hk hd => (b.block k (Nat.lt_of_lt_of_le hk a.size) hd).trans (a.block k hk hd)⟩
theorem Only.mono (a : Only lo hi w w') {lo' hi' : Nat} (h1 : lo' ≤ lo) (h2 : hi ≤ hi') : Only lo' hi' w w' :=
  ⟨a.os, a.tape, a.output, a.size, fun k hk hd => a.block k hk (by omega)⟩
theorem Only.below (a : Only lo hi w w') (hB : B ≤ w.heap.size) (hl : B ≤ lo) : Below B w w' :=
  ⟨a.os, a.tape, a.output, a.size, fun k hk => a.block k (by omega) (by omega)⟩
theorem only_below (a : Below w.heap.size w w') : Only lo hi w w' := ⟨a.os, a.tape, a.output, a.size, fun k hk _ => a.block k hk⟩
theorem only_grown {g : Nat} (a : w.grownBy w' (some g)) : Only g (g + 1) w w' :=
  ⟨a.os, a.tape, a.output, a.size, fun k hk hd => a.block k hk (fun e => by injection e; omega)⟩
/-- What was there when the call began is as it was. -/
theorem At.start (w : World) : At 0 w.heap.size (fun wi => Below w.heap.size w wi) w :=
  ⟨Below.refl _ _, Nat.le_refl _, fun _ _ h1 h2 h3 h4 h5 h => ⟨h1.trans h.os, h2.trans h.tape, h3.trans h.output, Nat.le_trans h.size h4, fun k hk => (h5 k (Nat.zero_le _) hk).trans (h.block k hk)⟩⟩
end

/-- Block b holds the cells cs. -/
def BoxC (b : Nat) (cs : List Value) (w : World) : Prop := ∀ i v, cs[i]? = some v → w.cell? ⟨b, i, none⟩ = some v
theorem BoxC.lives (b : Nat) (cs : List Value) : Lives b (b + 1) (BoxC b cs) := fun w w' _ _ _ _ hk h i v hv => by
  rw [← h i v hv]; exact World.cell?_of_block (a := ⟨b, i, none⟩) (hk b (Nat.le_refl _) (by omega))
theorem boxed (w : World) (cs : Array Value) (t : TypeId) : At w.heap.size (w.heap.size + 1) (BoxC w.heap.size cs.toList) (w.alloc (.cells cs t)) :=
  ⟨fun i v hv => by
    rw [Array.getElem?_toList] at hv
    unfold World.cell?; simp only [Go.Deep.blk_alloc_new]; exact hv, by simp, BoxC.lives _ _⟩
theorem boxed_at (w : World) (n : Nat) (hn : w.heap.size = n) (cs : Array Value) (t : TypeId) : At n (n + 1) (BoxC n cs.toList) (w.alloc (.cells cs t)) := by subst hn; exact boxed w cs t

/-- The slice '.slice A n _' reads as F 0 .. F (n - 1), in a block below hi. -/
def Rd (hi : Nat) (A : Option Addr) (n : Nat) (F : Nat → Value) (w : World) : Prop :=
  0 < n → ∃ b off, A = some ⟨b, off, none⟩ ∧ b < hi ∧ ∀ k, k < n → w.cell? ⟨b, off + k, none⟩ = some (F k)
/-- The slice '.slice A n _' is the call's own: from a cell on of a block in lo .. hi - 1 of which nothing is frozen. -/
def Ow (lo hi : Nat) (t : TypeId) (A : Option Addr) (n : Nat) (F : Nat → Value) (w : World) : Prop :=
  0 < n → ∃ g off c, A = some ⟨g, off, none⟩ ∧ lo ≤ g ∧ g < hi ∧ w.heap[g]? = some (.cells c t (0, 0)) ∧ off + n ≤ c.size ∧ ∀ k, k < n → c[off + k]? = some (F k)
/-- Two slices that lie in different blocks. -/
def Apart (n : Nat) (A : Option Addr) (m : Nat) (B : Option Addr) : Prop := 0 < n → 0 < m → ∀ b o c p, A = some ⟨b, o, none⟩ → B = some ⟨c, p, none⟩ → b ≠ c
section
variable {w w' : World} {lo hi n : Nat} {t : TypeId} {A : Option Addr} {F G : Nat → Value}
theorem Rd.lives (hi : Nat) (A : Option Addr) (n : Nat) (F : Nat → Value) : Lives 0 hi (Rd hi A n F) := fun w w' _ _ _ _ hk h hn => by
  obtain ⟨b, off, hA, hb, hc⟩ := h hn
  exact ⟨b, off, hA, hb, fun k hk' => (World.cell?_of_block (a := ⟨b, off + k, none⟩) (hk b (Nat.zero_le _) hb)).trans (hc k hk')⟩
theorem Ow.lives (lo hi : Nat) (t : TypeId) (A : Option Addr) (n : Nat) (F : Nat → Value) : Lives lo hi (Ow lo hi t A n F) := fun w w' _ _ _ _ hk h hn => by
  obtain ⟨g, off, c, hA, h1, h2, h3, h4⟩ := h hn
  exact ⟨g, off, c, hA, h1, h2, (hk g h1 h2).trans h3, h4⟩
theorem Rd.row (h : Rd hi A n F w) (ht : hi ≤ w.heap.size) : GRow w A n F := fun hn => by
  obtain ⟨b, off, hA, hb, hc⟩ := h hn
  exact ⟨b, off, hA, by omega, hc⟩
theorem rd_of_row (h : GRow w A n F) : At 0 w.heap.size (Rd w.heap.size A n F) w := ⟨h, Nat.le_refl _, Rd.lives _ _ _ _⟩
theorem Ow.rd (h : Ow lo hi t A n F w) : Rd hi A n F w := fun hn => by
  obtain ⟨g, off, c, hA, h1, h2, h3, h4, h5⟩ := h hn
  exact ⟨g, off, hA, h2, fun k hk => by simp [World.cell?, h3, h5 k hk]⟩
theorem At.row (a : At lo hi (Rd hi A n F) w) : GRow w A n F := a.now.row a.top
theorem At.orow (a : At lo hi (Ow lo hi t A n F) w) : GRow w A n F := a.now.rd.row a.top
theorem Ow.congr (h : Ow lo hi t A n F w) (e : ∀ i, i < n → F i = G i) : Ow lo hi t A n G w := fun hn => by
  obtain ⟨g, off, c, hA, h1, h2, h3, h4, h5⟩ := h hn
  exact ⟨g, off, c, hA, h1, h2, h3, h4, fun k hk => by rw [h5 k hk, e k hk]⟩
theorem Ow.mono (h : Ow lo hi t A n F w) {lo' hi' : Nat} (h1 : lo' ≤ lo) (h2 : hi ≤ hi') : Ow lo' hi' t A n F w := fun hn => by
  obtain ⟨g, off, c, hA, h1, h2, h3⟩ := h hn
  exact ⟨g, off, c, hA, by omega, by omega, h3⟩
theorem Ow.same (h : Ow lo hi t A n F w) {l k : Nat} (ho : Only l k w w') (hd : hi ≤ l ∨ k ≤ lo) (ht : hi ≤ w.heap.size) : Ow lo hi t A n F w' :=
  (At.far ⟨h, ht, Ow.lives _ _ _ _ _ _⟩ ho hd).now
/-- A fact on an owned slice at the end of the call that made it. -/
theorem owned (h : Ow lo w.heap.size t A n F w) : At lo w.heap.size (Ow lo w.heap.size t A n F) w := ⟨h, Nat.le_refl _, Ow.lives _ _ _ _ _ _⟩
theorem ow_of_own {g m : Nat} (h : GOwn w t g n F) (h1 : lo ≤ g) (_hm : n ≤ m) : Ow lo w.heap.size t (some ⟨g, 0, none⟩) n F w := fun _ => by
  obtain ⟨c, h3, h4, h5⟩ := h
  exact ⟨g, 0, c, rfl, h1, (Array.getElem?_eq_some_iff.1 h3).1, h3, by omega, fun k hk => by rw [Nat.zero_add]; exact h5 k hk⟩
theorem ow_zero (lo hi : Nat) (t : TypeId) (A : Option Addr) (F : Nat → Value) (w : World) : Ow lo hi t A 0 F w := fun h => absurd h (by omega)
end
def intV (X : Nat → Int) (i : Nat) : Value := .int .i64 (X i)
def strV (S : Nat → ByteArray) (i : Nat) : Value := .string (S i)
def boolV (S : Nat → Bool) (i : Nat) : Value := .bool (S i)
theorem irow {w : World} {A : Option Addr} {n : Nat} {X : Nat → Int} (h : GRow w A n (intV X)) : IRow w A n X := h
theorem grow_of {w : World} {A : Option Addr} {n : Nat} {X : Nat → Int} (h : IRow w A n X) : GRow w A n (intV X) := h
theorem GRow.drew {w : World} {A : Option Addr} {n : Nat} {F : Nat → Value} (h : GRow w A n F) : GRow w.drew A n F := h
theorem At.rowD {w : World} {lo hi n : Nat} {A : Option Addr} {F : Nat → Value} (a : At lo hi (Rd hi A n F) w) : GRow w.drew A n F := a.row
theorem At.orowD {w : World} {lo hi n : Nat} {t : TypeId} {A : Option Addr} {F : Nat → Value} (a : At lo hi (Ow lo hi t A n F) w) : GRow w.drew A n F := a.orow

/-! A box that a region makes at a place of its own choice. -/
/-- Block b, from base on, holds just the cells cs, none frozen. -/
structure NBX (base b : Nat) (cs : Array Value) (t : TypeId) (w : World) : Prop where
  blk : w.heap[b]? = some (.cells cs t (0, 0))
  ge : base ≤ b
section
variable {w w' U : World} {base q : Nat} {cs : Array Value} {t : TypeId} {o : Obj}
theorem NBX.lt (h : NBX base q cs t w) : q < w.heap.size := (Array.getElem?_eq_some_iff.1 h.blk).1
theorem NBX.b (h : NBX base q cs t w) (hb : Below w.heap.size w w') : NBX base q cs t w' := ⟨(hb.block q h.lt).trans h.blk, h.ge⟩
theorem NBX.new (hU : base ≤ U.heap.size) (h : Below (U.alloc (.cells cs t)).heap.size (U.alloc (.cells cs t)) w) : NBX base U.heap.size cs t w :=
  NBX.b ⟨Go.Deep.blk_alloc_new _ _, hU⟩ h
theorem NBX.cell (h : NBX base q cs t w) (i : Nat) (v : Value) (hv : cs.toList[i]? = some v) : w.cell? ⟨q, i, none⟩ = some v := by
  rw [Array.getElem?_toList] at hv
  simp [World.cell?, h.blk, hv]
theorem NBX.free (h : NBX base q cs t w) (i : Nat) : w.frozen? ⟨q, i, none⟩ = false := by simp [World.frozen?, h.blk]
theorem NBX.set (h : NBX base q cs t w) (i : Nat) (v : Value) : NBX base q (cs.setIfInBounds i v) t (w.setCell ⟨q, i, none⟩ v) :=
  ⟨by simp [World.setCell, Array.getElem?_modify, h.blk], h.ge⟩
theorem NBX.box (h : NBX base q cs t w) : At q (q + 1) (BoxC q cs.toList) w := ⟨fun i v hv => h.cell i v hv, h.lt, BoxC.lives _ _⟩
theorem only_set (w : World) (q i : Nat) (v : Value) : Only q (q + 1) w (w.setCell ⟨q, i, none⟩ v) := only_grown (grown_setCell (World.grownBy.refl _ _) _ _)
theorem below_al (h : Below (U.alloc o).heap.size (U.alloc o) w) : Below U.heap.size U w := ((Below.refl _ U).alloc (Nat.le_refl _) o).trans (h.mono (by simp))
theorem GRow.al {A : Option Addr} {n : Nat} {F : Nat → Value} (h : GRow w A n F) (o : Obj) : GRow (w.alloc o) A n F := h.b ((Below.refl _ _).alloc (Nat.le_refl _) _)
theorem GRow.alD {A : Option Addr} {n : Nat} {F : Nat → Value} (h : GRow w A n F) (o : Obj) : GRow (w.alloc o).drew A n F := h.al o
/-- A row of the call's own, seen while a box below it is filled. -/
theorem At.setC {lo hi : Nat} {P : World → Prop} (a : At lo hi P w) (h : q + 1 ≤ lo) (i : Nat) (v : Value) : At lo hi P (w.setCell ⟨q, i, none⟩ v) := a.far (only_set w q i v) (.inr h)
theorem Ow.over {lo n : Nat} {A : Option Addr} {F : Nat → Value} (h : Ow lo w.heap.size t A n F w) (hb : q < lo) : At (q + 1) w.heap.size (Ow (q + 1) w.heap.size t A n F) w := ⟨h.mono hb (Nat.le_refl _), Nat.le_refl _, Ow.lives _ _ _ _ _ _⟩
theorem Ow.overNew {n : Nat} {A : Option Addr} {F : Nat → Value} (h : Ow (U.alloc o).heap.size w.heap.size t A n F w) : At (U.heap.size + 1) w.heap.size (Ow (U.heap.size + 1) w.heap.size t A n F) w := h.over (by simp)
end
end Go.Proofs.Ythaipemgndahfaa
