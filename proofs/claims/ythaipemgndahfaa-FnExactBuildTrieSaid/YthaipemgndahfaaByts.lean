/- Rows of bytes and the strings that are made of them; one element put behind a row: in which block it lies. -/
import Derived.Test.YthaipemgndahfaaPushR
import Derived.Maps.AppendAt
import Derived.Laws.BytesString
namespace Go.Proofs.Ythaipemgndahfaa
open Go.RowKit

def byV (D : Nat → Int) (i : Nat) : Value := .int .u8 (D i)
theorem infoBy : (Try.prog.info? 5).map (fun i => (i.zero, i.size, i.bytes)) = some (some (.int .u8 0), 1, 1) := by kernel_rfl
/-- The string of n bytes. -/
def strN (F : Nat → Int) (n : Nat) : ByteArray := strOfNums ((List.range n).map F)
theorem strN_size (F : Nat → Int) (n : Nat) : (strN F n).size = n := by simp [strN, strOfNums_size]
theorem strN_congr {F G : Nat → Int} {n : Nat} (h : ∀ i, i < n → F i = G i) : strN F n = strN G n := by
  unfold strN; rw [List.map_congr_left (fun i hi => h i (List.mem_range.1 hi))]
theorem conv_by {w : World} {A : Option Addr} {n c : Nat} {F : Nat → Int} (h : GRow w A n (byV F)) :
    (convert 80 9 (.slice A n c)).run Try.prog w = .ok (.string (strN F n)) w := by
  rcases Nat.eq_zero_or_pos n with e | h0
  · subst e
    rw [run_convert_bytes_string w 80 9 5 A 0 c Try.underlying80 Try.underlying5 Try.underlying9]
    cases A with
    | none => (simp [Conv.bytesToString, strN, strOfNums, go_sem]; rfl)
    | some a =>
      rw [run_bytesToString w a 0 c [] (by simp [loadCells, loadCellsFrom, go_sem])]
      simp [strN, strOfNums]; rfl
  · obtain ⟨b, off, rfl, _, hc⟩ := h h0
    refine run_convert_bytes_arg w 80 5 Try.underlying80 Try.underlying5 b off n c _ (by simp) (fun i hi => ?_) 9 Try.underlying9
    rw [hc i hi]
    simp [byV, List.getD_eq_getElem?_getD, hi]
theorem wpList_pushR4 {ops : Array Oper} {rest : List Oper} {o : Oper} {a : Act} {Q : Exit → Act → World → Prop} (hgd : o.guard = none) (s x : Operand) (t : TypeId)
    (ho : o.op = .call { callee := .builtin .append, args := #[s, x], argTypes := #[t, t] }) (B : Nat) (e : TypeId) (z : Value) (bytes : Nat)
    (ht : Try.prog.underlying t = some (.slice e)) (hinfo : (Try.prog.info? e).map (fun i => (i.zero, i.size, i.bytes)) = some (some z, 1, bytes)) (hz1 : z.cells.size = 1)
    (A : Option Addr) (k c : Nat) (F : Nat → Value) (u : Value) (wr : World) (hs : a.eval s = .slice A k c) (hown : wr.ownsRow B e 1 (.slice A k c) k (vals F k))
    (hx : a.eval x = .slice (some ⟨wr.heap.size, 0, none⟩) 1 1) (hF : F k = u) (hu : u.oneCell' = true) (hk : (k + 1) * bytes ≤ 140737488355328) (hk2 : k < 16777216) (hB : B ≤ wr.heap.size)
    (h : ∀ A' c' w3, w3.ownsRow B e 1 (.slice A' (k + 1) c') (k + 1) (vals F (k + 1)) → Below B wr w3 → (wr.alloc (.cells #[u] e)).grownBy w3 (Value.slice A k c).ownBlock → ((Value.slice A' (k + 1) c').ownBlock = (Value.slice A k c).ownBlock ∨ (Value.slice A' (k + 1) c').ownBlock = some (wr.heap.size + 1)) → wpList Try.prog ops Q rest (a.put o.dst (.slice A' (k + 1) c')) w3) :
    wpList Try.prog ops Q (o :: rest) a (wr.alloc (.cells #[u] e)) := by
  obtain ⟨i0, hi, hz0, hz1', hz2⟩ := info_parts hinfo
  refine wpList_append_own_at _ hgd s x t ho B e i0 z 1 bytes ht hi hz0 hz1' hz2 hz1 (by decide) _ _ _ hs (hown.alloc _) ⟨wr.heap.size, 0, none⟩ 1 1 [u] hx rfl ?_ ?_ ?_ hk ?_ ?_
  · intro j v hj
    match j, hj with
    | 0, hj => simp at hj; subst hj; simp [Addr.add]
  · intro v hv; simp at hv; subst hv; exact hu
  · unfold maxLen; omega
  · simp; omega
  · intro v' w3 hown' hgrow _ hat
    obtain ⟨A', c', rfl, _, _⟩ := owned_slice hown'
    exact h A' c' w3 (by rw [vals_snoc, hF]; exact hown') (((Below.refl _ _).alloc hB _).grown hgrow (by simp; omega) (fun g hg => (hown.lt g hg).1)) hgrow (by simpa using hat)
end Go.Proofs.Ythaipemgndahfaa
