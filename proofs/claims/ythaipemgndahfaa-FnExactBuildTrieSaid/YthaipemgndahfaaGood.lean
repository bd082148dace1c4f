/- Valid bit vectors: the program's test and the model's. -/
import Derived.Test.YthaipemgndahfaaBitsFns
import Derived.Test.YthaipemgndahfaaKeys
namespace Go.Proofs.Ythaipemgndahfaa
open Go.RowKit

def cap (z : Int) (i : Nat) : Int := 2 ^ (min 16 (z.toNat - 16 * i))
def Good (z : Int) (n : Nat) (X : Nat → Int) : Prop := 0 ≤ z ∧ z ≤ 4096 ∧ (n : Int) = (z + 15) / 16 ∧ ∀ i, i < n → 0 ≤ X i ∧ X i < cap z i
theorem cap_big {z : Int} {k : Nat} (h : 16 ≤ z - 16 * (k : Int)) : cap z k = 65536 := by
  unfold cap; rw [Nat.min_eq_left (by omega)]; rfl
theorem cap_small {z : Int} {k : Nat} (h : ¬ 16 ≤ z - 16 * (k : Int)) (h0 : 0 ≤ z) : cap z k = 2 ^ (z - 16 * (k : Int)).toNat := by
  unfold cap; rw [Nat.min_eq_right (by omega)]; congr 1; omega
theorem two_bd {m : Nat} {k : Nat} (h : m ≤ k) : (0 : Int) < 2 ^ m ∧ (2 : Int) ^ m ≤ 2 ^ k := by
  constructor
  · exact Int.pow_pos (by omega)
  · exact_mod_cast Nat.pow_le_pow_right (n := 2) (by omega) h
theorem good_bad {z : Int} {n k : Nat} {X : Nat → Int} (hk : k < n) (h : ¬ (0 ≤ X k ∧ X k < cap z k)) : ¬ Good z n X := fun hg => h (hg.2.2.2 k hk)
def GoodIs (z : Int) (n : Nat) (X : Nat → Int) (w : World) (e : Ending) (w' : World) : Prop := ∃ b : Bool, e = .returned (.bool b) ∧ (b = true ↔ Good z n X) ∧ Below w.heap.size w w'

theorem impl_wordCount (z : Int) (w : World) (h0 : 0 ≤ z) (h1 : z ≤ 9000) :
    Calls Try.prog 83 #[.int .i64 z] w fun e w' => e = .returned (.int .i64 ((z + 15) / 16)) ∧ w = w' := by
  go_enter Try.func83, Try.ntmps83
  go_wp2
  go_ret
  exact ⟨ret_int (by show (z + 16 - 1) / 16 = _; omega), rfl⟩

/-- All of the first n lie in 0 .. 65535. -/
def AllIs (n : Nat) (X : Nat → Int) (w : World) (e : Ending) (w' : World) : Prop := ∃ b : Bool, e = .returned (.bool b) ∧ (b = true ↔ ∀ i, i < n → 0 ≤ X i ∧ X i ≤ 65535) ∧ w = w'

theorem cap_le (z : Int) (i : Nat) : cap z i ≤ 65536 := (two_bd (Nat.min_le_left 16 _)).2

theorem good_last {z : Int} {n : Nat} {X : Nat → Int} (z0 : 0 ≤ z) (z1 : z ≤ 4096) (z2 : (n : Int) = (z + 15) / 16) (ha : ∀ i, i < n → 0 ≤ X i ∧ X i ≤ 65535) (zm : ¬ z % 16 = 0) :
    (X (n - 1) / 2 ^ (z % 16).toNat == 0) = true ↔ Good z n X := by
  have hn0 : 0 < n := by omega
  have e : z - 16 * ((n - 1 : Nat) : Int) = z % 16 := by omega
  have hs : ¬ 16 ≤ z - 16 * ((n - 1 : Nat) : Int) := by omega
  have hc : cap z (n - 1) = 2 ^ (z % 16).toNat := by rw [cap_small hs z0, e]
  obtain ⟨p0, _⟩ := two_bd (m := (z % 16).toNat) (k := 16) (by omega)
  rw [beq_iff_eq]
  constructor
  · intro h
    refine ⟨z0, z1, z2, fun i hi => ⟨(ha i hi).1, ?_⟩⟩
    by_cases ei : i = n - 1
    · subst ei
      rw [hc]
      have := Int.lt_ediv_add_one_mul_self (X (n - 1)) p0
      rw [h] at this; omega
    · rw [cap_big (by omega)]; have := ha i hi; omega
  · intro hg
    have := hg.2.2.2 (n - 1) (by omega)
    rw [hc] at this
    exact Int.ediv_eq_zero_of_lt this.1 this.2
theorem good_full {z : Int} {n : Nat} {X : Nat → Int} (z0 : 0 ≤ z) (z1 : z ≤ 4096) (z2 : (n : Int) = (z + 15) / 16) (ha : ∀ i, i < n → 0 ≤ X i ∧ X i ≤ 65535) (zm : z % 16 = 0) : Good z n X :=
  ⟨z0, z1, z2, fun i hi => ⟨(ha i hi).1, by rw [cap_big (by omega)]; have := ha i hi; omega⟩⟩

theorem good_two {z : Int} {A : Option Addr} {n c : Nat} {X : Nat → Int} {w : World} {f : FuncId} (h : Calls Try.prog f #[.agg #[.int .i64 z, .slice A n c]] w (GoodIs z n X w)) :
    (Good z n X → Calls Try.prog f #[.agg #[.int .i64 z, .slice A n c]] w fun e w' => e = .returned (.bool true) ∧ Below w.heap.size w w') ∧
    (¬ Good z n X → Calls Try.prog f #[.agg #[.int .i64 z, .slice A n c]] w fun e w' => e = .returned (.bool false) ∧ Below w.heap.size w w') :=
  ⟨fun hg => h.mono fun _ _ ⟨_, he, hb, hw⟩ => ⟨by rw [he, hb.2 hg], hw⟩,
   fun hg => h.mono fun _ _ ⟨b, he, hb, hw⟩ => ⟨by rw [he]; cases b; rfl; exact absurd (hb.1 rfl) hg, hw⟩⟩

/-- What a law keeps while it goes from call to call: what was there is as it was; the argument reads as it did; its box holds it. -/
structure LS (w : World) (b : Nat) (z : Int) (A : Option Addr) (n c : Nat) (X : Nat → Int) (wi : World) : Prop where
  below : Below w.heap.size w wi
  row : IRow wi A n X
  box : Box wi b z A n c
theorem LS.start {w : World} {z : Int} {A : Option Addr} {n c : Nat} {X : Nat → Int} (hr : IRow w A n X) (t : TypeId) : LS w w.heap.size z A n c X (w.alloc (.cells #[.int .i64 z, .slice A n c] t)) :=
  ⟨(Below.refl _ _).alloc (Nat.le_refl _) _, hr.b ((Below.refl _ _).alloc (Nat.le_refl _) _), Box.new _ _ _ _ _ _⟩
theorem LS.step {w wi wj : World} {b : Nat} {z : Int} {A : Option Addr} {n c : Nat} {X : Nat → Int} (h : LS w b z A n c X wi) (hb : Below wi.heap.size wi wj) : LS w b z A n c X wj :=
  ⟨h.below.trans (hb.mono h.below.size), h.row.b hb, h.box.b hb⟩
end Go.Proofs.Ythaipemgndahfaa
