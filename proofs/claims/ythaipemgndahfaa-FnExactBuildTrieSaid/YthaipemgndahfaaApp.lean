/- append of a row to a row of the call's own, whatever the second one is. -/
import Derived.Test.YthaipemgndahfaaGen
import Derived.Deep.Upon
namespace Go.Proofs.Ythaipemgndahfaa
open Go.RowKit

def catV (F G : Nat → Value) (n : Nat) (i : Nat) : Value := if i < n then F i else G (i - n)
theorem vals_cat (F G : Nat → Value) (n m : Nat) : vals (catV F G n) (n + m) = vals F n ++ vals G m := by
  unfold vals
  rw [List.range_add, List.map_append, List.map_map]
  refine congr (congrArg _ (List.map_congr_left fun i hi => ?_)) (List.map_congr_left fun i _ => ?_)
  · have := List.mem_range.1 hi
    simp [catV, this]
  · show catV F G n (n + i) = G i
    unfold catV
    rw [if_neg (by omega), Nat.add_sub_cancel_left]
theorem vals_congr {F G : Nat → Value} {n : Nat} (h : ∀ i, i < n → F i = G i) : vals F n = vals G n := by
  unfold vals
  apply List.map_congr_left
  intro i hi
  exact h i (List.mem_range.1 hi)
theorem mem_vals {F : Nat → Value} {n : Nat} {u : Value} (h : u ∈ vals F n) : ∃ i, i < n ∧ u = F i := by
  unfold vals at h
  obtain ⟨i, hi, rfl⟩ := List.mem_map.1 h
  exact ⟨i, List.mem_range.1 hi, rfl⟩

set_option maxRecDepth 100000 in
theorem run_append_vals (t ty e : TypeId) (i : TypeInfo) (z : Value) (bytes : Nat) (ht : Try.prog.underlying t = some (.slice e)) (hi : Try.prog.info? e = some i) (hz0 : i.zero = some z) (hsz : i.size = 1) (hby : i.bytes = bytes) (hz1 : z.cells.size = 1)
    {w : World} {B n c m d : Nat} {A D : Option Addr} {F G : Nat → Value} (h1 : w.ownsRow B e 1 (.slice A n c) n (vals F n)) (hr : GRow w D m G) (hG : ∀ j, j < m → (G j).oneCell' = true) (hnm : n + m ≤ 16777216) (hb : (n + m) * bytes ≤ 140737488355328) (hB : B ≤ w.heap.size) :
    ∃ A' c' w', (Builtin.append_ #[t, t] ty #[.slice A n c, .slice D m d]).run Try.prog w = .ok (.slice A' (n + m) c') w' ∧ w'.ownsRow B e 1 (.slice A' (n + m) c') (n + m) (vals (catV F G n) (n + m)) ∧ Below B w w' := by
  rcases Nat.eq_zero_or_pos m with h0 | h0
  · subst h0
    have hle : n ≤ c := by obtain ⟨_, _, hv, hle, _⟩ := owned_slice h1; injection hv with _ _ h3; omega
    have hs : Src Try.prog i.size t (.slice D 0 d) 0 [] w := match D with
      | none => Src.ofNil _ ht d
      | some a => Src.ofSlice _ ht a 0 d [] (by simp) (by simp) (by simp)
    refine ⟨A, c, w, run_append_nothing w t t ty e i ht hi A n c hle _ hs, ?_, Below.refl _ _⟩
    rw [Nat.add_zero, vals_congr (F := catV F G n) (G := F) (fun i hi => by simp [catV, hi])]
    exact h1
  · obtain ⟨b, off, rfl, _, hc⟩ := hr h0
    obtain ⟨v', w', h, ho, hg, _⟩ := run_append_own (P := Try.prog) w B t ty e i z 1 bytes ht hi hz0 hsz hby hz1 (by decide) _ n _ h1 ⟨b, off, none⟩ m d (vals G m) (by simp [vals_len])
      (fun j u hj => by
        have hlt : j < m := by have := (List.getElem?_eq_some_iff.1 hj).1; simpa [vals_len] using this
        rw [vals_at _ _ _ hlt] at hj
        injection hj with hj
        subst hj
        rw [addr_add]
        exact hc j hlt)
      (fun u hu => by obtain ⟨j, hj, rfl⟩ := mem_vals hu; exact hG j hj) (by unfold maxLen; omega) hb hB
    rw [← vals_cat] at ho
    obtain ⟨A', c', rfl, _, _⟩ := owned_slice ho
    exact ⟨A', c', w', h, ho, (Below.refl _ _).grown hg hB (fun g hg => (h1.lt g hg).1)⟩

theorem wp_append_vals {o : Oper} {a : Act} {K : Act → World → Prop} {Q : Exit → Act → World → Prop} (s x : Operand) (t : TypeId)
    (ho : o.op = .call { callee := .builtin .append, args := #[s, x], argTypes := #[t, t] }) (B : Nat) (e : TypeId) (z : Value) (bytes : Nat)
    (ht : Try.prog.underlying t = some (.slice e)) (hinfo : (Try.prog.info? e).map (fun i => (i.zero, i.size, i.bytes)) = some (some z, 1, bytes)) (hz1 : z.cells.size = 1)
    {w : World} {n c m d : Nat} {A D : Option Addr} {F G : Nat → Value} (hs : a.eval s = .slice A n c) (hx : a.eval x = .slice D m d) (h1 : w.ownsRow B e 1 (.slice A n c) n (vals F n)) (hr : GRow w D m G) (hG : ∀ j, j < m → (G j).oneCell' = true) (hnm : n + m ≤ 16777216) (hb : (n + m) * bytes ≤ 140737488355328) (hB : B ≤ w.heap.size)
    (h : ∀ A' c' w', w'.ownsRow B e 1 (.slice A' (n + m) c') (n + m) (vals (catV F G n) (n + m)) → Below B w w' → K (a.put o.dst (.slice A' (n + m) c')) w') : o.wp Try.prog a w K Q := by
  obtain ⟨i, hi, hz0, hsz, hby⟩ := info_parts hinfo
  obtain ⟨A', c', w', hrun, h2, h3⟩ := run_append_vals t o.type e i z bytes ht hi hz0 hsz hby hz1 (d := d) h1 hr hG hnm hb hB
  unfold Oper.wp execOp
  simp only [ho, resolve, invoke, builtin, Sem.run_bind, Sem.run_pure, Result.andThen_ok, List.map_toArray, List.map_cons, List.map_nil, hs, hx, hrun]
  exact h A' c' w' h2 h3

/-- At the list of a plain region's operations. -/
theorem wpList_append_vals {ops : Array Oper} {rest : List Oper} {o : Oper} {a : Act} {Q : Exit → Act → World → Prop} (hgd : o.guard = none) (s x : Operand) (t : TypeId)
    (ho : o.op = .call { callee := .builtin .append, args := #[s, x], argTypes := #[t, t] }) (B : Nat) (e : TypeId) (z : Value) (bytes : Nat)
    (ht : Try.prog.underlying t = some (.slice e)) (hinfo : (Try.prog.info? e).map (fun i => (i.zero, i.size, i.bytes)) = some (some z, 1, bytes)) (hz1 : z.cells.size = 1)
    {w : World} {n c m d : Nat} {A D : Option Addr} {F G : Nat → Value} (hs : a.eval s = .slice A n c) (hx : a.eval x = .slice D m d) (h1 : w.ownsRow B e 1 (.slice A n c) n (vals F n)) (hr : GRow w D m G) (hG : ∀ j, j < m → (G j).oneCell' = true) (hnm : n + m ≤ 16777216) (hb : (n + m) * bytes ≤ 140737488355328) (hB : B ≤ w.heap.size)
    (h : ∀ A' c' w', w'.ownsRow B e 1 (.slice A' (n + m) c') (n + m) (vals (catV F G n) (n + m)) → Below B w w' → wpList Try.prog ops Q rest (a.put o.dst (.slice A' (n + m) c')) w') : wpList Try.prog ops Q (o :: rest) a w :=
  wpList_plain hgd fun _ hK => wp_append_vals s x t ho B e z bytes ht hinfo hz1 hs hx h1 hr hG hnm hb hB fun A' c' w' h2 h3 => hK _ _ (h A' c' w' h2 h3)

/-- At a step of a region that draws its order. -/
theorem step_append_vals {ops : Array Oper} {o : Oper} {a : Act} {K : Act → World → Prop} {Q : Exit → Act → World → Prop} {E : Prop} (hgd : o.guard = none) (s x : Operand) (t : TypeId)
    (ho : o.op = .call { callee := .builtin .append, args := #[s, x], argTypes := #[t, t] }) (B : Nat) (e : TypeId) (z : Value) (bytes : Nat)
    (ht : Try.prog.underlying t = some (.slice e)) (hinfo : (Try.prog.info? e).map (fun i => (i.zero, i.size, i.bytes)) = some (some z, 1, bytes)) (hz1 : z.cells.size = 1)
    {w : World} {n c m d : Nat} {A D : Option Addr} {F G : Nat → Value} (hs : a.eval s = .slice A n c) (hx : a.eval x = .slice D m d) (h1 : w.ownsRow B e 1 (.slice A n c) n (vals F n)) (hr : GRow w D m G) (hG : ∀ j, j < m → (G j).oneCell' = true) (hnm : n + m ≤ 16777216) (hb : (n + m) * bytes ≤ 140737488355328) (hB : B ≤ w.heap.size)
    (h : ∀ A' c' w', w'.ownsRow B e 1 (.slice A' (n + m) c') (n + m) (vals (catV F G n) (n + m)) → Below B w w' → K (a.put o.dst (.slice A' (n + m) c')) w') :
    if Region.wanted o (yielded ops a.tmps) = true then Oper.wp Try.prog o a w K Q else E := by
  have hw : Region.wanted o (yielded ops a.tmps) = true := by simp [Region.wanted, hgd]
  rw [if_pos hw]
  exact wp_append_vals s x t ho B e z bytes ht hinfo hz1 hs hx h1 hr hG hnm hb hB h
end Go.Proofs.Ythaipemgndahfaa
