/- One element put behind a row of the call's own, of any type of one cell: what stays. -/
import Derived.Test.YtpajbcgdoedleabObjSS
import Derived.Test.YtpajbcgdoedleabApp
import Derived.Deep.Upon
namespace Go.Proofs.Ytpajbcgdoedleab
open Go.RowKit

set_option maxRecDepth 100000 in
theorem run_pushG (ty t e : TypeId) (z : Value) (bytes : Nat) (ht : Try.prog.underlying t = some (.slice e)) (hinfo : (Try.prog.info? e).map (fun i => (i.zero, i.size, i.bytes)) = some (some z, 1, bytes)) (hz1 : z.cells.size = 1)
    {w : World} {B n c k : Nat} {A : Option Addr} {F : Nat → Value} {u : Value} (h1 : w.ownsRow B e 1 (.slice A n c) n (vals F n)) (hc : w.cell? ⟨k, 0, none⟩ = some u) (hF : F n = u) (hu : u.oneCell' = true) (hn : (n + 1) * bytes ≤ 140737488355328) (hn2 : n < 16777216) (hB : B ≤ w.heap.size) :
    ∃ A' c' w', (Builtin.append_ #[t, t] ty #[.slice A n c, .slice (some ⟨k, 0, none⟩) 1 1]).run Try.prog w = .ok (.slice A' (n + 1) c') w' ∧ w'.ownsRow B e 1 (.slice A' (n + 1) c') (n + 1) (vals F (n + 1)) ∧ w.grownBy w' (Value.slice A n c).ownBlock := by
  obtain ⟨i, hi, hz0, hsz, hby⟩ := info_parts hinfo
  have hnews : ∀ j v, [u][j]? = some v → w.cell? ((⟨k, 0, none⟩ : Addr).add j) = some v := fun j v hj => by
    match j, hj with
    | 0, hj => simp at hj; subst hj; rw [addr_add]; exact hc
  have hone : ∀ v ∈ [u], v.oneCell' = true := fun v hv => by simp at hv; subst hv; exact hu
  obtain ⟨v', w', hrun, ho, hg, _⟩ := run_append_own (P := Try.prog) w B t ty e i z 1 bytes ht hi hz0 hsz hby hz1 (by decide) (.slice A n c) n (vals F n) h1 ⟨k, 0, none⟩ 1 1 [u] rfl hnews hone (by unfold maxLen; omega) hn hB
  obtain ⟨A', c', rfl, _, _⟩ := owned_slice ho
  exact ⟨A', c', w', hrun, by rw [vals_snoc, hF]; exact ho, hg⟩
/-- At a step of a region that draws its order. -/
theorem step_pushG {ops : Array Oper} {o : Oper} {a : Act} {K : Act → World → Prop} {Q : Exit → Act → World → Prop} {E : Prop} (hgd : o.guard = none) (s x : Operand) (t e : TypeId) (z : Value) (bytes : Nat) (ht : Try.prog.underlying t = some (.slice e)) (hinfo : (Try.prog.info? e).map (fun i => (i.zero, i.size, i.bytes)) = some (some z, 1, bytes)) (hz1 : z.cells.size = 1)
    (ho : o.op = .call { callee := .builtin .append, args := #[s, x], argTypes := #[t, t] })
    {w : World} {B n c k : Nat} {A : Option Addr} {F : Nat → Value} {u : Value} (hs : a.eval s = .slice A n c) (hx : a.eval x = .slice (some ⟨k, 0, none⟩) 1 1) (h1 : w.ownsRow B e 1 (.slice A n c) n (vals F n)) (hc : w.cell? ⟨k, 0, none⟩ = some u) (hF : F n = u) (hu : u.oneCell' = true) (hn : (n + 1) * bytes ≤ 140737488355328) (hn2 : n < 16777216) (hB : B ≤ w.heap.size)
    (h : ∀ A' c' w', w'.ownsRow B e 1 (.slice A' (n + 1) c') (n + 1) (vals F (n + 1)) → w.grownBy w' (Value.slice A n c).ownBlock → K (a.put o.dst (.slice A' (n + 1) c')) w') :
    if Region.wanted o (yielded ops a.tmps) = true then Oper.wp Try.prog o a w K Q else E := by
  have hw : Region.wanted o (yielded ops a.tmps) = true := by simp [Region.wanted, hgd]
  rw [if_pos hw]
  obtain ⟨A', c', w', hrun, h2, h3⟩ := run_pushG o.type t e z bytes ht hinfo hz1 h1 hc hF hu hn hn2 hB
  unfold Oper.wp execOp
  simp only [ho, resolve, invoke, builtin, Sem.run_bind, Sem.run_pure, Result.andThen_ok, List.map_toArray, List.map_cons, List.map_nil, hs, hx, hrun]
  exact h A' c' w' h2 h3
/-- Rows of values of two types lie in two blocks. -/
theorem own_apartG {w : World} {B B' : Nat} {e e' : TypeId} {v v' : Value} {n n' : Nat} {xs xs' : List Value} (h : w.ownsRow B e 1 v n xs) (h' : w.ownsRow B' e' 1 v' n' xs') (hne : e ≠ e') : v.ownBlock = none ∨ v.ownBlock ≠ v'.ownBlock := by
  rcases h.2 with ⟨rfl, _⟩ | ⟨g, cap, cur, rfl, _, hh, _⟩
  · exact .inl rfl
  · refine .inr fun e2 => ?_
    rcases h'.2 with ⟨rfl, _⟩ | ⟨g', cap', cur', rfl, _, hh', _⟩
    · simp [Value.ownBlock] at e2
    · simp [Value.ownBlock] at e2
      subst e2
      rw [hh] at hh'
      injection hh' with h1; injection h1 with _ h2 _
      exact hne h2
theorem nbx_farG {w w' : World} {base q l h : Nat} {cs : Array Value} {t : TypeId} (x : NBX base q cs t w) (ho : Only l h w w') (hd : q < l ∨ h ≤ q) : NBX base q cs t w' := ⟨(ho.block q x.lt hd).trans x.blk, x.ge⟩
theorem nbx_grownG {base q B : Nat} {e : TypeId} {v : Value} {n : Nat} {cs : Array Value} {t : TypeId} {w w' : World} {xs : List Value} (h : NBX base q cs t w) (ho : w.ownsRow B e 1 v n xs) (hg : w.grownBy w' v.ownBlock) (hq : q < B) : NBX base q cs t w' :=
  ⟨(hg.block q h.lt (fun e => by have := (ho.lt q e.symm).1; omega)).trans h.blk, h.ge⟩
theorem below_ownG {w w' : World} {B n : Nat} {e : TypeId} {v : Value} {xs : List Value} (ho : w.ownsRow B e 1 v n xs) (hg : w.grownBy w' v.ownBlock) (hB : B ≤ w.heap.size) : Below B w w' :=
  ⟨hg.os, hg.tape, hg.output, hg.size, fun i hi => hg.block i (by omega) (fun e => by have := (ho.lt i e.symm).1; omega)⟩

/-- A Hyper that the model makes: the result's box, its own box, its row of edges, the edges. -/
structure PH (w : World) (z : Int) (L : Nat → Nat) (V : Nat → Nat → Int) (q : Nat) (D : Nat → Option Addr) (dd : Nat → Nat) (A : Option Addr) (c : Nat) (Ab : Option Addr) (qb cb : Nat) (wr : World) : Prop where
  below : Below w.heap.size w wr
  res : NBX w.heap.size w.heap.size #[.int .i64 0, .slice none 0 0] 109 wr
  box : NBX w.heap.size (w.heap.size + 1) #[.int .i64 z, .slice Ab qb cb] 109 wr
  out : wr.ownsRow (w.heap.size + 1 + 1) 22 1 (.slice A q c) q (vals (sliceV D L dd) q)
  inn : ∀ j, j < q → wr.ownsRow (w.heap.size + 1 + 1) 3 1 (.slice (D j) (L j) (dd j)) (L j) (vals (intV (V j)) (L j))
def upd {α : Type} (f : Nat → α) (q : Nat) (x : α) (j : Nat) : α := if j = q then x else f j
section
variable {w wr wj : World} {z : Int} {L : Nat → Nat} {V : Nat → Nat → Int} {q c qb cb : Nat} {D : Nat → Option Addr} {dd : Nat → Nat} {A Ab : Option Addr}
theorem PH.b (h : PH w z L V q D dd A c Ab qb cb wr) (hb : Below wr.heap.size wr wj) : PH w z L V q D dd A c Ab qb cb wj :=
  ⟨h.below.trans (hb.mono h.below.size), h.res.b hb, h.box.b hb, owned_b h.out hb, fun j hj => owned_b (h.inn j hj) hb⟩
theorem PH.al (h : PH w z L V q D dd A c Ab qb cb wr) (o : Obj) : PH w z L V q D dd A c Ab qb cb (wr.alloc o) := h.b ((Below.refl _ _).alloc (Nat.le_refl _) o)
theorem PH.size (h : PH w z L V q D dd A c Ab qb cb wr) : w.heap.size + 1 + 1 ≤ wr.heap.size := h.box.lt
theorem PH.ext (h : PH w z L V q D dd A c Ab qb cb wr) (x : Option Addr) (y : Nat) : wr.ownsRow (w.heap.size + 1 + 1) 22 1 (.slice A q c) q (vals (sliceV (upd D q x) L (upd dd q y)) q) := by
  rw [vals_congr (F := sliceV (upd D q x) L (upd dd q y)) (G := sliceV D L dd) (fun i hi => by unfold sliceV upd; rw [if_neg (by omega), if_neg (by omega)])]
  exact h.out
theorem PH.push (h : PH w z L V q D dd A c Ab qb cb wr) {x A' : Option Addr} {y c' : Nat} (ho : wj.ownsRow (w.heap.size + 1 + 1) 22 1 (.slice A' (q + 1) c') (q + 1) (vals (sliceV (upd D q x) L (upd dd q y)) (q + 1)))
    (hg : wr.grownBy wj (Value.slice A q c).ownBlock) (hx : wr.ownsRow (w.heap.size + 1 + 1) 3 1 (.slice x (L q) y) (L q) (vals (intV (V q)) (L q))) : PH w z L V (q + 1) (upd D q x) (upd dd q y) A' c' Ab qb cb wj :=
  ⟨h.below.trans ((below_ownG h.out hg h.size).mono (by omega)), nbx_grownG h.res h.out hg (by omega), nbx_grownG h.box h.out hg (by omega), ho, fun j hj => by
    unfold upd
    by_cases e : j = q
    · subst e
      simp only [if_true]
      exact hx.kept hg (own_apartG hx h.out (by decide))
    · simp only [e, if_false]
      exact (h.inn j (by omega)).kept hg (own_apartG (h.inn j (by omega)) h.out (by decide))⟩
theorem PH.store (h : PH w z L V q D dd A c Ab qb cb wr) : PH w z L V q D dd A c A q c (wr.setCell ⟨w.heap.size + 1, 1, none⟩ (.slice A q c)) := by
  have hon := only_set wr (w.heap.size + 1) 1 (.slice A q c)
  have hset : ∀ {e : TypeId} {v : Value} {n : Nat} {xs : List Value}, wr.ownsRow (w.heap.size + 1 + 1) e 1 v n xs → (wr.setCell ⟨w.heap.size + 1, 1, none⟩ (.slice A q c)).ownsRow (w.heap.size + 1 + 1) e 1 v n xs := fun ho =>
    ho.kept (grown_setCell (World.grownBy.refl wr _) _ _) (by
      rcases hb : (Value.ownBlock _) with _ | g
      · exact .inl rfl
      · refine .inr fun e => ?_
        injection e with e
        have := (ho.lt g hb).1
        omega)
  exact ⟨h.below.trans (hon.below h.below.size (by omega)), nbx_farG h.res hon (.inl (by omega)), by have := h.box.set 1 (.slice A q c); simpa using this, hset h.out, fun j hj => hset (h.inn j hj)⟩
theorem own_away {e : TypeId} {v : Value} {n : Nat} {xs : List Value} {B b o : Nat} (ho : wr.ownsRow B e 1 v n xs) (hb : b < B) (x : Value) : (wr.setCell ⟨b, o, none⟩ x).ownsRow B e 1 v n xs :=
  ho.kept (grown_setCell (World.grownBy.refl wr _) _ _) (by
    rcases hv : v.ownBlock with _ | g
    · exact .inl rfl
    · refine .inr fun e => ?_
      injection e with e
      have := (ho.lt g hv).1
      omega)
/-- Rows of the call's own, in blocks from B on. -/
structure HOwn (B : Nat) (A : Option Addr) (n c : Nat) (D : Nat → Option Addr) (dd : Nat → Nat) (L : Nat → Nat) (V : Nat → Nat → Int) (w : World) : Prop where
  out : w.ownsRow B 22 1 (.slice A n c) n (vals (sliceV D L dd) n)
  inn : ∀ j, j < n → w.ownsRow B 3 1 (.slice (D j) (L j) (dd j)) (L j) (vals (intV (V j)) (L j))
theorem HOwn.away {B b o n c : Nat} {A : Option Addr} {D : Nat → Option Addr} {dd L : Nat → Nat} {V : Nat → Nat → Int} {w : World} (h : HOwn B A n c D dd L V w) (hb : b < B) (x : Value) : HOwn B A n c D dd L V (w.setCell ⟨b, o, none⟩ x) := ⟨own_away h.out hb x, fun j hj => own_away (h.inn j hj) hb x⟩
theorem HOwn.row {B n c : Nat} {A : Option Addr} {D : Nat → Option Addr} {dd L : Nat → Nat} {V : Nat → Nat → Int} {w : World} (h : HOwn B A n c D dd L V w) : HRow w A n L V := ⟨D, dd, (owned_vec h.out).row, fun i hi => (owned_vec (h.inn i hi)).row⟩
theorem HOwn.low {B B' n c : Nat} {A : Option Addr} {D : Nat → Option Addr} {dd L : Nat → Nat} {V : Nat → Nat → Int} {w : World} (h : HOwn B A n c D dd L V w) (hB : B' ≤ B) : HOwn B' A n c D dd L V w := ⟨owned_low h.out hB, fun j hj => owned_low (h.inn j hj) hB⟩
theorem PH.own (h : PH w z L V q D dd A c Ab qb cb wr) : HOwn (w.heap.size + 1 + 1) A q c D dd L V wr := ⟨h.out, h.inn⟩
/-- At the end: the result's box is filled. -/
theorem PH.fin (h : PH w z L V q D dd A c Ab qb cb wr) (v0 v1 : Value) : HRow ((wr.setCell ⟨w.heap.size, 0, none⟩ v0).setCell ⟨w.heap.size, 1, none⟩ v1) A q L V :=
  ⟨D, dd, (owned_vec (own_away (own_away h.out (show w.heap.size < w.heap.size + 1 + 1 by omega) v0) (show w.heap.size < w.heap.size + 1 + 1 by omega) v1)).row, fun i hi => (owned_vec (own_away (own_away (h.inn i hi) (show w.heap.size < w.heap.size + 1 + 1 by omega) v0) (show w.heap.size < w.heap.size + 1 + 1 by omega) v1)).row⟩
/-- What it has read as at the end. -/
theorem PH.row (h : PH w z L V q D dd A c Ab qb cb wr) : HRow wr A q L V := ⟨D, dd, (owned_vec h.out).row, fun i hi => (owned_vec (h.inn i hi)).row⟩
end
end Go.Proofs.Ytpajbcgdoedleab
