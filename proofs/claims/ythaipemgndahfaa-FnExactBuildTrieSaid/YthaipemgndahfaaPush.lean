/- One element put behind a row of the call's own, of any type of one cell: what stays. -/
import Derived.Test.YthaipemgndahfaaObjSS
import Derived.Test.YthaipemgndahfaaApp
import Derived.Deep.Upon
namespace Go.Proofs.Ythaipemgndahfaa
open Go.RowKit

set_option maxRecDepth 100000 in
theorem run_pushG (ty t e : TypeId) (z : Value) (bytes : Nat) (ht : Try.prog.underlying t = some (.slice e)) (hinfo : (Try.prog.info? e).map (fun i => (i.zero, i.size, i.bytes)) = some (some z, 1, bytes)) (hz1 : z.cells.size = 1)
    {w : World} {B n c k : Nat} {A : Option Addr} {F : Nat → Value} {u : Value} (h1 : w.ownsRow B e 1 (.slice A n c) n (vals F n)) (hc : w.cell? ⟨k, 0, none⟩ = some u) (hF : F n = u) (hu : u.oneCell' = true) (hn : (n + 1) * bytes ≤ 140737488355328) (hn2 : n < 16777216) (hB : B ≤ w.heap.size) :
    ∃ A' c' w', (Builtin.append_ #[t, t] ty #[.slice A n c, .slice (some ⟨k, 0, none⟩) 1 1]).run Try.prog w = .ok (.slice A' (n + 1) c') w' ∧ w'.ownsRow B e 1 (.slice A' (n + 1) c') (n + 1) (vals F (n + 1)) ∧ w.grownBy w' (Value.slice A n c).ownBlock := by
  obtain ⟨i, hi, hz0, hsz, hby⟩ := info_parts hinfo
  have hnews : ∀ j v, [u][j]? = some v → w.cell? ((⟨k, 0, none⟩ : Addr).add j) = some v := fun j v hj => by
    match j, hj with
    | 0, hj => simp at hj; subst hj; rw [addr_add]; exact hc
  have hone : ∀ v ∈ [u], v.oneCell' = true := fun v hv => by simp at hv; subst hv; exact hu
  obtain ⟨v', w', hrun, ho, hg, _⟩ := run_append_own (P := Try.prog) w B t ty e i z 1 bytes ht hi hz0 hsz hby hz1 (by decide) (.slice A n c) n (vals F n) h1 ⟨k, 0, none⟩ 1 1 [u] rfl hnews hone (by unfold maxLen; omega) hn hB
  obtain ⟨A', c', rfl, _, _⟩ := owned_slice ho
  exact ⟨A', c', w', hrun, by rw [vals_snoc, hF]; exact ho, hg⟩
/-- At a step of a region that draws its order. -/
theorem step_pushG {ops : Array Oper} {o : Oper} {a : Act} {K : Act → World → Prop} {Q : Exit → Act → World → Prop} {E : Prop} (hgd : o.guard = none) (s x : Operand) (t e : TypeId) (z : Value) (bytes : Nat) (ht : Try.prog.underlying t = some (.slice e)) (hinfo : (Try.prog.info? e).map (fun i => (i.zero, i.size, i.bytes)) = some (some z, 1, bytes)) (hz1 : z.cells.size = 1)
    (ho : o.op = .call { callee := .builtin .append, args := #[s, x], argTypes := #[t, t] })
    {w : World} {B n c k : Nat} {A : Option Addr} {F : Nat → Value} {u : Value} (hs : a.eval s = .slice A n c) (hx : a.eval x = .slice (some ⟨k, 0, none⟩) 1 1) (h1 : w.ownsRow B e 1 (.slice A n c) n (vals F n)) (hc : w.cell? ⟨k, 0, none⟩ = some u) (hF : F n = u) (hu : u.oneCell' = true) (hn : (n + 1) * bytes ≤ 140737488355328) (hn2 : n < 16777216) (hB : B ≤ w.heap.size)
    (h : ∀ A' c' w', w'.ownsRow B e 1 (.slice A' (n + 1) c') (n + 1) (vals F (n + 1)) → w.grownBy w' (Value.slice A n c).ownBlock → K (a.put o.dst (.slice A' (n + 1) c')) w') :
    if Region.wanted o (yielded ops a.tmps) = true then Oper.wp Try.prog o a w K Q else E := by
  have hw : Region.wanted o (yielded ops a.tmps) = true := by simp [Region.wanted, hgd]
  rw [if_pos hw]
  obtain ⟨A', c', w', hrun, h2, h3⟩ := run_pushG o.type t e z bytes ht hinfo hz1 h1 hc hF hu hn hn2 hB
  unfold Oper.wp execOp
  simp only [ho, resolve, invoke, builtin, Sem.run_bind, Sem.run_pure, Result.andThen_ok, List.map_toArray, List.map_cons, List.map_nil, hs, hx, hrun]
  exact h A' c' w' h2 h3
/-- Rows of values of two types lie in two blocks. -/
theorem own_apartG {w : World} {B B' : Nat} {e e' : TypeId} {v v' : Value} {n n' : Nat} {xs xs' : List Value} (h : w.ownsRow B e 1 v n xs) (h' : w.ownsRow B' e' 1 v' n' xs') (hne : e ≠ e') : v.ownBlock = none ∨ v.ownBlock ≠ v'.ownBlock := by
  rcases h.2 with ⟨rfl, _⟩ | ⟨g, cap, cur, rfl, _, hh, _⟩
  · exact .inl rfl
  · refine .inr fun e2 => ?_
    rcases h'.2 with ⟨rfl, _⟩ | ⟨g', cap', cur', rfl, _, hh', _⟩
    · simp [Value.ownBlock] at e2
    · simp [Value.ownBlock] at e2
      subst e2
      rw [hh] at hh'
      injection hh' with h1; injection h1 with _ h2 _
      exact hne h2
theorem nbx_farG {w w' : World} {base q l h : Nat} {cs : Array Value} {t : TypeId} (x : NBX base q cs t w) (ho : Only l h w w') (hd : q < l ∨ h ≤ q) : NBX base q cs t w' := ⟨(ho.block q x.lt hd).trans x.blk, x.ge⟩
theorem nbx_grownG {base q B : Nat} {e : TypeId} {v : Value} {n : Nat} {cs : Array Value} {t : TypeId} {w w' : World} {xs : List Value} (h : NBX base q cs t w) (ho : w.ownsRow B e 1 v n xs) (hg : w.grownBy w' v.ownBlock) (hq : q < B) : NBX base q cs t w' :=
  ⟨(hg.block q h.lt (fun e => by have := (ho.lt q e.symm).1; omega)).trans h.blk, h.ge⟩
theorem below_ownG {w w' : World} {B n : Nat} {e : TypeId} {v : Value} {xs : List Value} (ho : w.ownsRow B e 1 v n xs) (hg : w.grownBy w' v.ownBlock) (hB : B ≤ w.heap.size) : Below B w w' :=
  ⟨hg.os, hg.tape, hg.output, hg.size, fun i hi => hg.block i (by omega) (fun e => by have := (ho.lt i e.symm).1; omega)⟩

def upd {α : Type} (f : Nat → α) (q : Nat) (x : α) (j : Nat) : α := if j = q then x else f j
section
variable {w wr wj : World} {z : Int} {L : Nat → Nat} {V : Nat → Nat → Int} {q c qb cb : Nat} {D : Nat → Option Addr} {dd : Nat → Nat} {A Ab : Option Addr}
theorem own_away {e : TypeId} {v : Value} {n : Nat} {xs : List Value} {B b o : Nat} (ho : wr.ownsRow B e 1 v n xs) (hb : b < B) (x : Value) : (wr.setCell ⟨b, o, none⟩ x).ownsRow B e 1 v n xs :=
  ho.kept (grown_setCell (World.grownBy.refl wr _) _ _) (by
    rcases hv : v.ownBlock with _ | g
    · exact .inl rfl
    · refine .inr fun e => ?_
      injection e with e
      have := (ho.lt g hv).1
      omega)
/-- Rows of the call's own, in blocks from B on. -/
structure HOwn (B : Nat) (A : Option Addr) (n c : Nat) (D : Nat → Option Addr) (dd : Nat → Nat) (L : Nat → Nat) (V : Nat → Nat → Int) (w : World) : Prop where
  out : w.ownsRow B 24 1 (.slice A n c) n (vals (sliceV D L dd) n)
  inn : ∀ j, j < n → w.ownsRow B 3 1 (.slice (D j) (L j) (dd j)) (L j) (vals (intV (V j)) (L j))
theorem HOwn.away {B b o n c : Nat} {A : Option Addr} {D : Nat → Option Addr} {dd L : Nat → Nat} {V : Nat → Nat → Int} {w : World} (h : HOwn B A n c D dd L V w) (hb : b < B) (x : Value) : HOwn B A n c D dd L V (w.setCell ⟨b, o, none⟩ x) := ⟨own_away h.out hb x, fun j hj => own_away (h.inn j hj) hb x⟩
theorem HOwn.row {B n c : Nat} {A : Option Addr} {D : Nat → Option Addr} {dd L : Nat → Nat} {V : Nat → Nat → Int} {w : World} (h : HOwn B A n c D dd L V w) : HRow w A n L V := ⟨D, dd, (owned_vec h.out).row, fun i hi => (owned_vec (h.inn i hi)).row⟩
theorem HOwn.low {B B' n c : Nat} {A : Option Addr} {D : Nat → Option Addr} {dd L : Nat → Nat} {V : Nat → Nat → Int} {w : World} (h : HOwn B A n c D dd L V w) (hB : B' ≤ B) : HOwn B' A n c D dd L V w := ⟨owned_low h.out hB, fun j hj => owned_low (h.inn j hj) hB⟩
end
end Go.Proofs.Ythaipemgndahfaa
