/- One int put behind a row of the call's own: in the row's block, or in a new one. -/
import Derived.Test.YtockhjdhihehlaaObj
import Derived.Deep.Upon
namespace Go.Proofs.Ytockhjdhihehlaa
open Go.RowKit

abbrev ob (A : Option Addr) (n c : Nat) : Option Nat := (Value.slice A n c).ownBlock
set_option maxRecDepth 100000 in
theorem run_push (ty : TypeId) {w : World} {B n c k : Nat} {A : Option Addr} {F : Nat → Value} {u : Value} (h1 : w.ownsRow B 3 1 (.slice A n c) n (vals F n)) (hc : w.cell? ⟨k, 0, none⟩ = some u) (hF : F n = u) (hu : u.oneCell' = true) (hn : n ≤ 65536) (hB : B ≤ w.heap.size) :
    ∃ A' c' w', (Builtin.append_ #[22, 22] ty #[.slice A n c, .slice (some ⟨k, 0, none⟩) 1 1]).run Try.prog w = .ok (.slice A' (n + 1) c') w' ∧ w'.ownsRow B 3 1 (.slice A' (n + 1) c') (n + 1) (vals F (n + 1)) ∧ w.grownBy w' (ob A n c) ∧ (∀ g, ob A' (n + 1) c' = some g → ob A n c = some g ∨ w.heap.size ≤ g) := by
  obtain ⟨i, hi, hz0, hsz, hby⟩ := info_parts infoI
  have hnews : ∀ j v, [u][j]? = some v → w.cell? ((⟨k, 0, none⟩ : Addr).add j) = some v := fun j v hj => by
    match j, hj with
    | 0, hj => simp at hj; subst hj; rw [addr_add]; exact hc
  have hone : ∀ v ∈ [u], v.oneCell' = true := fun v hv => by simp at hv; subst hv; exact hu
  have own := fun base (hb : base ≤ w.heap.size) (ho : w.ownsRow base 3 1 (.slice A n c) n (vals F n)) =>
    run_append_own (P := Try.prog) w base 22 ty 3 i (.int .i64 0) 1 8 Try.underlying22 hi hz0 hsz hby rfl (by decide) (.slice A n c) n (vals F n) ho ⟨k, 0, none⟩ 1 1 [u] rfl hnews hone (by unfold maxLen; omega) (by omega) hb
  obtain ⟨v', w', hrun, ho, hg, _⟩ := own B hB h1
  obtain ⟨A', c', rfl, _, _⟩ := owned_slice ho
  refine ⟨A', c', w', hrun, by rw [vals_snoc, hF]; exact ho, hg, fun g hg' => ?_⟩
  rcases h1.2 with ⟨hv, h0⟩ | ⟨g0, cap, cur, hv, hbg, hh, hnc, hcm, hcs, htake⟩
  · injection hv with e1 e2 e3
    subst e1 e2 e3
    obtain ⟨v2, w2, hrun2, ho2, _, _⟩ := own w.heap.size (Nat.le_refl _) (World.ownsRow_nil _ _ _ _)
    rw [hrun] at hrun2
    injection hrun2 with e4 _
    rw [← e4] at ho2
    exact .inr (ho2.lt g hg').1
  · injection hv with e1 e2 e3
    subst e1 e3
    by_cases hroom : n + 1 ≤ c
    · have hr := run_append_room (P := Try.prog) w 22 ty 3 i Try.underlying22 hi g0 n c cur hh ⟨k, 0, none⟩ 1 1 [u] (by rw [hsz]; rfl) hnews hone hroom (by rw [hsz]; simp; omega)
      rw [hrun] at hr
      injection hr with e4 _
      injection e4 with e5 _ _
      subst e5
      exact .inl hg'
    · have hr := run_append_grow (P := Try.prog) w 22 ty 3 i (.int .i64 0) Try.underlying22 hi hz0 ⟨g0, 0, none⟩ n c (vals F n) (by rw [hsz, vals_len, Nat.mul_one])
        (h1.cells (g := g0) rfl) ⟨k, 0, none⟩ 1 1 [u] (by rw [hsz]; rfl) hnews (by omega) (by omega) (growslice_fits (by omega) (by rw [hby]; omega))
      rw [hrun] at hr
      injection hr with e4 _
      injection e4 with e5 _ _
      subst e5
      simp [ob, Value.ownBlock] at hg'
      exact .inr (by omega)

/-- At a step of a region that draws its order. -/
theorem step_push {ops : Array Oper} {o : Oper} {a : Act} {K : Act → World → Prop} {Q : Exit → Act → World → Prop} {E : Prop} (hgd : o.guard = none) (s x : Operand)
    (ho : o.op = .call { callee := .builtin .append, args := #[s, x], argTypes := #[22, 22] })
    {w : World} {B n c k : Nat} {A : Option Addr} {F : Nat → Value} {u : Value} (hs : a.eval s = .slice A n c) (hx : a.eval x = .slice (some ⟨k, 0, none⟩) 1 1) (h1 : w.ownsRow B 3 1 (.slice A n c) n (vals F n)) (hc : w.cell? ⟨k, 0, none⟩ = some u) (hF : F n = u) (hu : u.oneCell' = true) (hn : n ≤ 65536) (hB : B ≤ w.heap.size)
    (h : ∀ A' c' w', w'.ownsRow B 3 1 (.slice A' (n + 1) c') (n + 1) (vals F (n + 1)) → w.grownBy w' (ob A n c) → (∀ g, ob A' (n + 1) c' = some g → ob A n c = some g ∨ w.heap.size ≤ g) → K (a.put o.dst (.slice A' (n + 1) c')) w') :
    if Region.wanted o (yielded ops a.tmps) = true then Oper.wp Try.prog o a w K Q else E := by
  have hw : Region.wanted o (yielded ops a.tmps) = true := by simp [Region.wanted, hgd]
  rw [if_pos hw]
  obtain ⟨A', c', w', hrun, h2, h3, h4⟩ := run_push o.type h1 hc hF hu hn hB
  unfold Oper.wp execOp
  simp only [ho, resolve, invoke, builtin, Sem.run_bind, Sem.run_pure, Result.andThen_ok, List.map_toArray, List.map_cons, List.map_nil, hs, hx, hrun]
  exact h A' c' w' h2 h3 h4

/-- Two rows side by side: the one grows, the other one stays. -/
theorem two_rows {w w' : World} {B n c m d n' c' : Nat} {A D A' : Option Addr} {F G : Nat → Value} (_h1 : w.ownsRow B 3 1 (.slice A n c) n (vals F n)) (h2 : w.ownsRow B 3 1 (.slice D m d) m (vals G m)) (hd : ∀ g, ob A n c = some g → ob D m d ≠ some g)
    (hg : w.grownBy w' (ob A n c)) (hf : ∀ g, ob A' n' c' = some g → ob A n c = some g ∨ w.heap.size ≤ g) :
    w'.ownsRow B 3 1 (.slice D m d) m (vals G m) ∧ (∀ g, ob A' n' c' = some g → ob D m d ≠ some g) := by
  refine ⟨h2.kept hg ?_, fun g hg' hD => ?_⟩
  · by_cases e : ob A n c = none
    · rcases h : ob D m d with _ | g
      · exact .inl h
      · exact .inr (by rw [e]; rw [show (Value.slice D m d).ownBlock = some g from h]; simp)
    · obtain ⟨g, hgA⟩ := Option.ne_none_iff_exists'.1 e
      exact .inr (by rw [hgA]; exact hd g hgA)
  · rcases hf g hg' with h | h
    · exact hd g h hD
    · have := (h2.lt g hD).2; omega
theorem nbx_grown {base q n c : Nat} {A : Option Addr} {cs : Array Value} {t : TypeId} {w w' : World} {B : Nat} {xs : List Value} (h : NBX base q cs t w) (ho : w.ownsRow B 3 1 (.slice A n c) n xs) (hg : w.grownBy w' (ob A n c)) (hq : q < B) : NBX base q cs t w' :=
  ⟨(hg.block q h.lt (fun e => by have := (ho.lt q e.symm).1; omega)).trans h.blk, h.ge⟩
theorem below_own {w w' : World} {B n c : Nat} {A : Option Addr} {xs : List Value} (ho : w.ownsRow B 3 1 (.slice A n c) n xs) (hg : w.grownBy w' (ob A n c)) (hB : B ≤ w.heap.size) : Below B w w' :=
  ⟨hg.os, hg.tape, hg.output, hg.size, fun i hi => hg.block i (by omega) (fun e => by have := (ho.lt i e.symm).1; omega)⟩
theorem own_set {w : World} {B : Nat} {e : TypeId} {A : Option Addr} {k c : Nat} {xs : List Value} (h : w.ownsRow B e 1 (.slice A k c) k xs) {b o : Nat} (hb : b < B) (v : Value) : (w.setCell ⟨b, o, none⟩ v).ownsRow B e 1 (.slice A k c) k xs :=
  h.kept (grown_setCell (World.grownBy.refl w _) o v) (by
    by_cases e : (Value.slice A k c).ownBlock = none
    · exact .inl e
    · refine .inr (fun e2 => ?_)
      have := (h.lt _ e2).1
      omega)
end Go.Proofs.Ytockhjdhihehlaa
