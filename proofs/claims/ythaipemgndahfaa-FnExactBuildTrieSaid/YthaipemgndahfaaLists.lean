/- The model's lists of bits: made, changed. -/
import Derived.Test.YthaipemgndahfaaSome
namespace Go.Proofs.Ythaipemgndahfaa
open Go.RowKit

theorem infoB : (Try.prog.info? 4).map (fun i => (i.zero, i.size, i.bytes)) = some (some (.bool false), 1, 1) := by kernel_rfl
def bools (F : Nat → Bool) (k : Nat) : List Value := (List.range k).map fun i => Value.bool (F i)
theorem bools_snoc (F : Nat → Bool) (k : Nat) : bools F (k + 1) = bools F k ++ [Value.bool (F k)] := by simp [bools, List.range_succ]
theorem bools_len (F : Nat → Bool) (k : Nat) : (bools F k).length = k := by simp [bools]
theorem bools_at (F : Nat → Bool) (k i : Nat) (h : i < k) : (bools F k)[i]? = some (.bool (F i)) := by unfold bools; rw [range_at (fun i => Value.bool (F i)), if_pos h]

def OwnB (w : World) (B : Nat) (v : Value) (n : Nat) (F : Nat → Bool) : Prop := w.ownsRow B 4 1 v n (bools F n)
/-- A list of bools of the call's own. -/
def ListIs (n : Nat) (F : Nat → Bool) (w : World) (e : Ending) (w' : World) : Prop :=
  ∃ A c, e = .returned (.slice A n c) ∧ w'.ownsRow w.heap.size 4 1 (.slice A n c) n (bools F n) ∧ Below w.heap.size w w'

theorem bit_and_one' (x k : Nat) (hx : x < 9223372036854775808) : (bits .and .i64 ((x : Int) / 2 ^ k) 1 == 1) = x.testBit k := by
  have hq : x / 2 ^ k < 9223372036854775808 := Nat.lt_of_le_of_lt (Nat.div_le_self _ _) hx
  have h := i64_and_nat (x / 2 ^ k) 1 (by omega) (by omega)
  rw [cast_quot]
  rw [show ((1 : Nat) : Int) = 1 from rfl] at h
  rw [h, Nat.and_one_is_mod, quot_bit]
  cases x.testBit k <;> rfl

/-- Block g holds bools, none frozen, the first n of them F. -/
def ORowB (w : World) (g n : Nat) (F : Nat → Bool) : Prop :=
  ∃ c : Array Value, w.heap[g]? = some (.cells c 4 (0, 0)) ∧ n ≤ c.size ∧ ∀ i, i < n → c[i]? = some (.bool (F i))
section
variable {w w' : World} {g n : Nat} {F G : Nat → Bool}
theorem ORowB.lt (h : ORowB w g n F) : g < w.heap.size := by
  obtain ⟨c, hb, _⟩ := h
  exact (Array.getElem?_eq_some_iff.1 hb).1
theorem ORowB.cell (h : ORowB w g n F) {i : Nat} (hi : i < n) : w.cell? ⟨g, i, none⟩ = some (.bool (F i)) := by
  obtain ⟨c, hb, _, hc⟩ := h
  simp [World.cell?, hb, hc i hi]
theorem ORowB.frozen (h : ORowB w g n F) (i : Nat) : w.frozen? ⟨g, i, none⟩ = false := by
  obtain ⟨c, hb, _, _⟩ := h
  simp [World.frozen?, hb]
theorem ORowB.row (h : ORowB w g n F) : BRow w (some ⟨g, 0, none⟩) n F := fun _ => ⟨g, 0, rfl, h.lt, fun k hk => by rw [Nat.zero_add]; exact h.cell hk⟩
theorem ORowB.of_block (h : ORowB w g n F) (e : w'.heap[g]? = w.heap[g]?) : ORowB w' g n F := by
  obtain ⟨c, hb, hn, hc⟩ := h
  exact ⟨c, e.trans hb, hn, hc⟩
theorem ORowB.b (h : ORowB w g n F) (hb : Below w.heap.size w w') : ORowB w' g n F := h.of_block (hb.block g h.lt)
theorem ORowB.congr (h : ORowB w g n F) (e : ∀ i, i < n → F i = G i) : ORowB w g n G := by
  obtain ⟨c, hb, hn, hc⟩ := h
  exact ⟨c, hb, hn, fun i hi => by rw [hc i hi, e i hi]⟩
theorem ORowB.set (h : ORowB w g n F) (i : Nat) (x : Bool) : ORowB (w.setCell ⟨g, i, none⟩ (.bool x)) g n (fun j => if j = i then x else F j) := by
  obtain ⟨c, hb, hn, hc⟩ := h
  refine ⟨c.setIfInBounds i (.bool x), ?_, by simpa using hn, fun j hj => ?_⟩
  · simp [World.setCell, Array.getElem?_modify, hb]
  · rw [Array.getElem?_setIfInBounds]
    by_cases e : j = i
    · subst e
      have : j < c.size := by omega
      simp [this]
    · rw [if_neg (fun h => e h.symm)]
      show c[j]? = some (.bool (if j = i then x else F j))
      rw [if_neg e]
      exact hc j hj
end
/-- A list of bools of the call's own: empty, or the head of a row from block B on. -/
def OVecB (w : World) (B : Nat) (A : Option Addr) (n : Nat) (F : Nat → Bool) : Prop := n = 0 ∨ ∃ g, A = some ⟨g, 0, none⟩ ∧ B ≤ g ∧ ORowB w g n F
theorem ownB_vec {w : World} {B n c : Nat} {A : Option Addr} {F : Nat → Bool} (h : w.ownsRow B 4 1 (.slice A n c) n (bools F n)) : OVecB w B A n F := by
  rcases h.2 with ⟨_, h0⟩ | ⟨g, cap, cur, hv, hg, hh, hc1, hc2, hc3, hc4⟩
  · exact .inl h0
  · injection hv with hA
    subst hA
    refine .inr ⟨g, rfl, hg, cur, hh, by omega, fun i hi => ?_⟩
    have h5 := bools_at F n i hi
    rw [← hc4, Nat.mul_one, List.getElem?_take_of_lt hi] at h5
    simpa using h5
theorem OVecB.row {w : World} {B n : Nat} {A : Option Addr} {F : Nat → Bool} (h : OVecB w B A n F) : BRow w A n F := by
  rcases h with rfl | ⟨g, rfl, _, ho⟩
  · exact fun h => absurd h (by omega)
  · exact ho.row
theorem OVecB.b {w w' : World} {B n : Nat} {A : Option Addr} {F : Nat → Bool} (h : OVecB w B A n F) (hb : Below w.heap.size w w') : OVecB w' B A n F := by
  rcases h with h | ⟨g, hA, hg, ho⟩
  · exact .inl h
  · exact .inr ⟨g, hA, hg, ho.b hb⟩

end Go.Proofs.Ythaipemgndahfaa
