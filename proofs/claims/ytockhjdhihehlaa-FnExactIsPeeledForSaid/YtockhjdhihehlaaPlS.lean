/- PlainSeed: both sides. -/
import Derived.Test.YtockhjdhihehlaaColl
import Derived.Test.YtockhjdhihehlaaFindS
import Derived.Test.YtockhjdhihehlaaHas
namespace Go.Proofs.Ytockhjdhihehlaa
open Go.RowKit

theorem seek_none {F : Nat → Int} {x : Int} : ∀ {m a}, seek F x a m = none ↔ ∀ k, a ≤ k → k < a + m → F k ≠ x
  | 0, a => by simp [seek]; intros; omega
  | m + 1, a => by
    rw [seek]
    by_cases h : F a = x
    · rw [if_pos h]; simp; exact ⟨a, Nat.le_refl _, by omega, h⟩
    · rw [if_neg h, seek_none]
      constructor
      · intro g k h1 h2
        by_cases e : k = a
        · subst e; exact h
        · exact g k (by omega) (by omega)
      · intro g k h1 h2; exact g k (by omega) (by omega)
theorem coll_none {F : Nat → Int} : ∀ {m i}, coll F i m = none ↔ ∀ a b, i ≤ a → a < b → b < i + m → F b ≠ F a
  | 0, i => by simp [coll]; intros; omega
  | m + 1, i => by
    rw [coll]
    cases h : seek F (F i) (i + 1) m with
    | some k =>
      have hh : ¬ ∀ a b, i ≤ a → a < b → b < i + (m + 1) → F b ≠ F a := fun g => by
        have hn : seek F (F i) (i + 1) m = none := seek_none.2 (fun k h1 h2 => g i k (Nat.le_refl _) (by omega) (by omega))
        rw [hn] at h; cases h
      exact ⟨fun g => (by cases g), fun g => absurd g hh⟩
    | none =>
      have hs := seek_none.1 h
      rw [coll_none]
      constructor
      · intro g a b h1 h2 h3
        by_cases e : a = i
        · subst e; exact hs b (by omega) (by omega)
        · exact g a b (by omega) h2 (by omega)
      · intro g a b h1 h2 h3; exact g a b (by omega) h2 (by omega)
theorem run_head (A : Option Addr) (n k u : Nat) (hu : u ≤ k) (W : World) :
    (Instr.slice 22 (.slice A n k) none (some (.int .i64 u)) none).run Try.prog W = .ok (.slice A u k) W := by
  unfold Instr.slice
  simp [go_sem, Instr.sliceBounds, Instr.sliceBound, run_underlying Try.underlying22, hu]
/-- All keys have different places. -/
def PlainP (S : Nat → ByteArray) (n : Nat) (P seed : Int) : Prop := coll (plF seed 0 S P) 0 n = none
section
variable (KA : Option Addr) (n kc : Nat) (S : Nat → ByteArray) (P : Nat) (w : World)
end
/-- Which keys, slots and seeds are valid. -/
def PlOk (S : Nat → ByteArray) (n : Nat) (P a b : Int) : Prop := keysB S n = true ∧ (1 ≤ P ∧ P ≤ 4096) ∧ RangeOk a b
section
variable (KA : Option Addr) (n kc : Nat) (S : Nat → ByteArray) (a b : Int) (w : World)
end
end Go.Proofs.Ytockhjdhihehlaa
