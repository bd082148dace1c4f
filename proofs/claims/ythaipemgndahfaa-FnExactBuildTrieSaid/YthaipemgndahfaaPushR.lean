/- One element put behind a row: which block turned. -/
import Derived.Test.YthaipemgndahfaaPush
namespace Go.Proofs.Ythaipemgndahfaa
open Go.RowKit

theorem wpList_pushR {ops : Array Oper} {rest : List Oper} {o : Oper} {a : Act} {Q : Exit → Act → World → Prop} (hgd : o.guard = none) (s x : Operand) (t : TypeId)
    (ho : o.op = .call { callee := .builtin .append, args := #[s, x], argTypes := #[t, t] }) (B : Nat) (e : TypeId) (z : Value) (bytes : Nat)
    (ht : Try.prog.underlying t = some (.slice e)) (hinfo : (Try.prog.info? e).map (fun i => (i.zero, i.size, i.bytes)) = some (some z, 1, bytes)) (hz1 : z.cells.size = 1)
    (A : Option Addr) (k c : Nat) (F : Nat → Value) (u : Value) (wr : World) (hs : a.eval s = .slice A k c) (hown : wr.ownsRow B e 1 (.slice A k c) k (vals F k))
    (hx : a.eval x = .slice (some ⟨wr.heap.size, 0, none⟩) 1 1) (hF : F k = u) (hu : u.oneCell' = true) (hk : (k + 1) * bytes ≤ 140737488355328) (hk2 : k < 16777216) (hB : B ≤ wr.heap.size)
    (h : ∀ A' c' w3, w3.ownsRow B e 1 (.slice A' (k + 1) c') (k + 1) (vals F (k + 1)) → (wr.alloc (.cells #[u] e)).grownBy w3 (Value.slice A k c).ownBlock → wpList Try.prog ops Q rest (a.put o.dst (.slice A' (k + 1) c')) w3) :
    wpList Try.prog ops Q (o :: rest) a (wr.alloc (.cells #[u] e)) := by
  obtain ⟨i0, hi, hz0, hz1', hz2⟩ := info_parts hinfo
  refine wpList_append_own _ hgd s x t ho B e i0 z 1 bytes ht hi hz0 hz1' hz2 hz1 (by decide) _ _ _ hs (hown.alloc _) ⟨wr.heap.size, 0, none⟩ 1 1 [u] hx rfl ?_ ?_ ?_ hk ?_ ?_
  · intro j v hj
    match j, hj with
    | 0, hj => simp at hj; subst hj; simp [Addr.add]
  · intro v hv; simp at hv; subst hv; exact hu
  · unfold maxLen; omega
  · simp; omega
  · intro v' w3 hown' hgrow _
    obtain ⟨A', c', rfl, _, _⟩ := owned_slice hown'
    exact h A' c' w3 (by rw [vals_snoc, hF]; exact hown') hgrow
end Go.Proofs.Ythaipemgndahfaa
