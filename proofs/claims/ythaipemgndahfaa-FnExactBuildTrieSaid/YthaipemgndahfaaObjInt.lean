/- The laws' small functions on slices of ints and on bit vectors, said of what lies where. -/
import Derived.Test.YthaipemgndahfaaObj
import Derived.Test.YthaipemgndahfaaGood
namespace Go.Proofs.Ythaipemgndahfaa
open Go.RowKit

/-- What is left of a bound, or -1. -/
def szv (left : Int) (s : Nat) : Int := if (s : Int) ≤ left then left - s else -1
theorem szv_yes {left : Int} {s : Nat} (h : (s : Int) ≤ left) : szv left s = left - s := if_pos h
theorem szv_no {left : Int} {s : Nat} (h : ¬ (s : Int) ≤ left) : szv left s = -1 := if_neg h

/-- A row with an offset: n values of block g from off on. -/
def OSeg (w : World) (t : TypeId) (g off n : Nat) (F : Nat → Value) : Prop :=
  ∃ c : Array Value, w.heap[g]? = some (.cells c t (0, 0)) ∧ off + n ≤ c.size ∧ ∀ k, k < n → c[off + k]? = some (F k)
section
variable {w w' : World} {t : TypeId} {g off n : Nat} {F G : Nat → Value}
theorem OSeg.cell (h : OSeg w t g off n F) {i : Nat} (hi : i < n) : w.cell? ⟨g, off + i, none⟩ = some (F i) := by
  obtain ⟨c, hb, _, hc⟩ := h
  simp [World.cell?, hb, hc i hi]
theorem OSeg.frozen (h : OSeg w t g off n F) (i : Nat) : w.frozen? ⟨g, i, none⟩ = false := by
  obtain ⟨c, hb, _, _⟩ := h
  simp [World.frozen?, hb]
theorem OSeg.congr (h : OSeg w t g off n F) (e : ∀ i, i < n → F i = G i) : OSeg w t g off n G := by
  obtain ⟨c, hb, hn, hc⟩ := h
  exact ⟨c, hb, hn, fun i hi => by rw [hc i hi, e i hi]⟩
theorem OSeg.of_block (h : OSeg w t g off n F) (e : w'.heap[g]? = w.heap[g]?) : OSeg w' t g off n F := by
  obtain ⟨c, hb, hn, hc⟩ := h
  exact ⟨c, e.trans hb, hn, hc⟩
theorem OSeg.lt (h : OSeg w t g off n F) : g < w.heap.size := by
  obtain ⟨c, hb, _⟩ := h
  exact (Array.getElem?_eq_some_iff.1 hb).1
theorem OSeg.b (h : OSeg w t g off n F) (hb : Below w.heap.size w w') : OSeg w' t g off n F := h.of_block (hb.block g h.lt)
theorem OSeg.set (h : OSeg w t g off n F) (i : Nat) (x : Value) : OSeg (w.setCell ⟨g, off + i, none⟩ x) t g off n (fun j => if j = i then x else F j) := by
  obtain ⟨c, hb, hn, hc⟩ := h
  refine ⟨c.setIfInBounds (off + i) x, ?_, by simpa using hn, fun j hj => ?_⟩
  · simp [World.setCell, Array.getElem?_modify, hb]
  · rw [Array.getElem?_setIfInBounds]
    by_cases e : j = i
    · subst e
      have : off + j < c.size := by omega
      simp [this]
    · rw [if_neg (by omega)]
      show c[off + j]? = some (if j = i then x else F j)
      rw [if_neg e]
      exact hc j hj
end
theorem Ow.seg {w : World} {lo hi : Nat} {t : TypeId} {A : Option Addr} {n : Nat} {F : Nat → Value} (h : Ow lo hi t A n F w) (hn : 0 < n) : ∃ g off, A = some ⟨g, off, none⟩ ∧ lo ≤ g ∧ g < hi ∧ OSeg w t g off n F := by
  obtain ⟨g, off, c, hA, h1, h2, h3, h4, h5⟩ := h hn
  exact ⟨g, off, hA, h1, h2, c, h3, h4, h5⟩
theorem OSeg.ow {w : World} {lo hi : Nat} {t : TypeId} {g off n : Nat} {F : Nat → Value} (h : OSeg w t g off n F) (h1 : lo ≤ g) (h2 : g < hi) : Ow lo hi t (some ⟨g, off, none⟩) n F w := fun _ => by
  obtain ⟨c, h3, h4, h5⟩ := h
  exact ⟨g, off, c, rfl, h1, h2, h3, h4, h5⟩

theorem sz_IntS {A : Option Addr} {n c : Nat} {left : Int} {w : World} (hn : n ≤ maxLen) (h0 : 0 ≤ left) (h1 : left ≤ 1048576) :
    Calls Try.prog 49 #[.slice A n c, .int .i64 left] w fun e w' => e = .returned (.int .i64 (szv left n)) ∧ Below w.heap.size w w' :=
  (szIntS_any A n c left w hn h0 h1).mono fun _ _ ⟨he, hw⟩ => ⟨he, hw ▸ Below.refl _ _⟩

def NewIs (w : World) (t : TypeId) (n : Nat) (F : Nat → Value) (e : Ending) (w' : World) : Prop :=
  ∃ A c, e = .returned (.slice A n c) ∧ Ow w.heap.size w'.heap.size t A n F w' ∧ Below w.heap.size w w'
theorem to_IntS {A : Option Addr} {n c : Nat} {X : Nat → Int} {w : World} (hn : n ≤ 1048576) (hr : GRow w A n (intV X)) :
    Calls Try.prog 51 #[.slice A n c] w (NewIs w 3 n (intV X)) :=
  (toIntS_any A n c X w hn hr).mono fun _ _ ⟨_, he, hg, ho, hb⟩ => ⟨_, _, he, ow_of_own (m := n) ho hg (Nat.le_refl _), hb⟩

theorem eq_IntS {A B : Option Addr} {n c d : Nat} {X : Nat → Int} {w : World} (hn : n ≤ 1048576) (hx : GRow w A n (intV X)) (hy : GRow w B n (intV X)) :
    Calls Try.prog 44 #[.slice A n c, .slice B n d] w (SameRow w true) := eqIntS_yes A B n c d X X w hn hx hy (fun _ _ => rfl)

set_option maxHeartbeats 400000 in
theorem mark_IntS_full {A : Option Addr} {n c lo hi : Nat} {F : Nat → Value} {k0 : Int} {w : World} (hn : n ≤ 1048576) (hx : Ow lo hi 3 A n F w) (h0 : 0 ≤ k0) (h1 : k0 ≤ 16777216) (hF : ∀ i, i < n → ∃ x, F i = .int .i64 x) :
    Calls Try.prog 46 #[.slice A n c, .int .i64 k0] w fun e w' => e = .returned (.int .i64 (k0 + n)) ∧ Ow lo hi 3 A n (intV fun i => k0 + i) w' ∧ Only lo hi w w' ∧ (∀ b o, 0 < n → A = some ⟨b, o, none⟩ → Only b (b + 1) w w') ∧ (n = 0 → w' = w) := by
  rcases Nat.eq_zero_or_pos n with hz | hpos
  · subst hz
    go_enter Try.func46, Try.ntmps46
    go_wp2_with fail
    refine wp_loop_rounds 1 ?_
    rw [rounds_succ]
    go_wp2_with fail
    go_ret
    exact ⟨by simp, ow_zero _ _ _ _ _ _, Only.refl _ _ _, fun _ _ h => absurd h (by omega), fun _ => rfl⟩
  obtain ⟨g, off, rfl, hlo, hhi, hs⟩ := hx.seg hpos
  clear hx
  have HF := Lib.hid hF
  clear hF
  go_enter Try.func46, Try.ntmps46
  go_wp2_with fail
  go_loopw [1, 5] (fun q i wr => ∃ k : Nat, k ≤ n ∧ i = .int .i64 k ∧ q = .int .i64 (k0 + k) ∧ OSeg wr 3 g off n (fun j => if j < k then .int .i64 (k0 + j) else F j) ∧ w.grownBy wr (some g)) (fun _ i _ => n - (intOf i).toNat)
  case atStart => exact ⟨0, Nat.zero_le _, rfl, by go_num, hs.congr (fun _ _ => by simp), World.grownBy.refl w _⟩
  case round =>
    obtain ⟨k, hk, rfl, rfl, ho, hg⟩ := hrel
    by_cases hlt : k < n
    · obtain ⟨x, hFx⟩ := HF.out k hlt
      have hok := ho.cell hlt
      rw [if_neg (Nat.lt_irrefl k), hFx] at hok
      have hfr := ho.frozen (off + k)
      have HO := Lib.hid ho
      have HG := Lib.hid hg
      clear ho hg hs hFx
      go_wp2_with fail
      go_roundw
      case rel =>
        refine ⟨k + 1, by omega, by go_num, by go_num, (HO.out.set k (.int .i64 (k0 + k))).congr (fun j hj => ?_), grown_setCell HG.out _ _⟩
        by_cases e : j = k
        · subst e; simp
        · simp only [e, if_false, show (j < k + 1) = (j < k) by simp; omega]
      case measure => simp [intOf]; omega
    · obtain rfl : k = n := by omega
      have HO := Lib.hid ho
      have HG := Lib.hid hg
      clear ho hg hs
      go_wp2_with fail
      go_ret
      refine ⟨rfl, (HO.out.congr (G := intV fun i => k0 + i) (fun j hj => by simp [hj, intV])).ow hlo hhi, (only_grown HG.out).mono hlo (by omega), fun b o _ e => ?_, fun h => absurd h (by omega)⟩
      injection e with e; injection e with e1 e2; subst e1
      exact only_grown HG.out

theorem mark_IntS {A : Option Addr} {n c lo hi : Nat} {X : Nat → Int} {k0 : Int} {w : World} (hn : n ≤ 1048576) (hx : Ow lo hi 3 A n (intV X) w) (_ht : hi ≤ w.heap.size) (h0 : 0 ≤ k0) (h1 : k0 ≤ 16777216) :
    Calls Try.prog 46 #[.slice A n c, .int .i64 k0] w fun e w' => e = .returned (.int .i64 (k0 + n)) ∧ Ow lo hi 3 A n (intV fun i => k0 + i) w' ∧ Only lo hi w w' :=
  (mark_IntS_full hn hx h0 h1 (fun _ _ => ⟨_, rfl⟩)).mono fun _ _ ⟨he, ho, hw, _⟩ => ⟨he, ho, hw⟩

theorem held_IntS {A : Option Addr} {n c : Nat} {k0 : Int} {w : World} (hn : n ≤ 1048576) (hx : GRow w A n (intV fun i => k0 + i)) (h0 : 0 ≤ k0) (h1 : k0 ≤ 16777216) :
    Calls Try.prog 47 #[.slice A n c, .int .i64 k0] w fun e w' => e = .returned (.int .i64 (k0 + n)) ∧ Below w.heap.size w w' := heldIntS_yes A n c _ k0 w hn hx h0 h1 (fun _ _ => rfl)

/-! Bit vectors. -/
def NewBitsIs (w : World) (z : Int) (n : Nat) (X : Nat → Int) (e : Ending) (w' : World) : Prop :=
  ∃ A c, e = .returned (.agg #[.int .i64 z, .slice A n c]) ∧ Ow w.heap.size w'.heap.size 3 A n (intV X) w' ∧ Below w.heap.size w w'
theorem eq_Bits {z : Int} {A B : Option Addr} {n c d : Nat} {X : Nat → Int} {w : World} (hn : n ≤ 1048576) (hx : GRow w A n (intV X)) (hy : GRow w B n (intV X)) :
    Calls Try.prog 62 #[.agg #[.int .i64 z, .slice A n c], .agg #[.int .i64 z, .slice B n d]] w (SameRow w true) := eqBits_yes z z A B n c d X X w hn hx hy (fun _ _ => rfl) rfl
theorem only_left {w w1 : World} {o : Obj} {lo hi : Nat} (h : Only lo hi (w.alloc o) w1) : Only lo hi w w1 :=
  ⟨h.os, h.tape, h.output, by have := h.size; simp at this; omega, fun k hk hne => (h.block k (by simp; omega) hne).trans (Below.heap_alloc w o k hk)⟩
set_option maxHeartbeats 400000 in
theorem mark_Bits {z : Int} {A : Option Addr} {n c lo hi : Nat} {X : Nat → Int} {k0 : Int} {w : World} (hn : n ≤ 1048576) (hx : Ow lo hi 3 A n (intV X) w) (ht : hi ≤ w.heap.size) (h0 : 0 ≤ k0) (h1 : k0 ≤ 16777216) :
    Calls Try.prog 63 #[.agg #[.int .i64 z, .slice A n c], .int .i64 k0] w fun e w' => e = .returned (.int .i64 (k0 + n)) ∧ Ow lo hi 3 A n (intV fun i => k0 + i) w' ∧ Only lo hi w w' := by
  have HX := Lib.hid (At.alloc ⟨hx, ht, Ow.lives _ _ _ _ _ _⟩ (.cells #[.int .i64 z, .slice A n c] 51))
  clear hx
  go_enter Try.func63, Try.ntmps63
  go_wp2_with fail
  refine (mark_IntS_full hn HX.out.now h0 h1 (fun i _ => ⟨_, rfl⟩)).mono ?_
  rintro e w1 ⟨rfl, ho, hg, _, _⟩
  have HO := Lib.hid ho
  have HG := Lib.hid (only_left hg)
  clear ho hg HX
  go_wp2_with fail
  go_ret
  exact ⟨rfl, HO.out, HG.out⟩
theorem held_Bits {z : Int} {A : Option Addr} {n c : Nat} {k0 : Int} {w : World} (hn : n ≤ 1048576) (hx : GRow w A n (intV fun i => k0 + i)) (h0 : 0 ≤ k0) (h1 : k0 ≤ 16777216) :
    Calls Try.prog 64 #[.agg #[.int .i64 z, .slice A n c], .int .i64 k0] w fun e w' => e = .returned (.int .i64 (k0 + n)) ∧ Below w.heap.size w w' := heldBits_yes z A n c _ k0 w hn hx h0 h1 (fun _ _ => rfl)
/-! What a contract of mine says, as the walk of a law takes it. -/
theorem ow_of_vec {w w' : World} {A : Option Addr} {m : Nat} {X : Nat → Int} (h : OVec w' w.heap.size A m X) : Ow w.heap.size w'.heap.size 3 A m (intV X) w' := by
  rcases h with ⟨rfl, rfl⟩ | ⟨g, rfl, hg, ho⟩
  · exact ow_zero _ _ _ _ _ _
  · exact ow_of_own (m := m) (show GOwn w' 3 g m (intV X) from ho) hg (Nat.le_refl _)
theorem OwnIs.post {z : Int} {m : Nat} {Y : Nat → Int} {b : Bool} {w : World} (e : Ending) (w' : World) (h : OwnIs z m Y b w e w') :
    ∃ A c, e = .returned (.tuple #[.agg #[.int .i64 z, .slice A m c], .bool b]) ∧ Ow w.heap.size w'.heap.size 3 A m (intV Y) w' ∧ Below w.heap.size w w' := by
  obtain ⟨A, c, he, hv, hb⟩ := h
  exact ⟨A, c, he, ow_of_vec hv, hb⟩
theorem VecIs.post {z : Int} {m : Nat} {Y : Nat → Int} {b : Bool} {w : World} (e : Ending) (w' : World) (h : VecIs z m Y b w e w') :
    ∃ A c, e = .returned (.tuple #[.agg #[.int .i64 z, .slice A m c], .bool b]) ∧ GRow w' A m (intV Y) ∧ Below w.heap.size w w' := h
end Go.Proofs.Ythaipemgndahfaa
