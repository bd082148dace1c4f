/- CollisionOf: the program's and the model's. -/
import Derived.Test.YtffdkfhnlgfigaaLoads
namespace Go.Proofs.Ytffdkfhnlgfigaa
open Go.RowKit

def seek (F : Nat → Int) (x : Int) : Nat → Nat → Option Nat
  | _, 0 => none
  | a, m + 1 => if F a = x then some a else seek F x (a + 1) m
def coll (F : Nat → Int) : Nat → Nat → Option (Nat × Nat)
  | _, 0 => none
  | i, m + 1 => match seek F (F i) (i + 1) m with
    | some k => some (i, k)
    | none => coll F (i + 1) m
theorem seek_hit {F : Nat → Int} {x : Int} {k n : Nat} (hk : k < n) (h : F k = x) : seek F x k (n - k) = some k := by
  obtain ⟨m, hm⟩ : ∃ m, n - k = m + 1 := ⟨n - k - 1, by omega⟩
  rw [hm, seek, if_pos h]
theorem seek_miss {F : Nat → Int} {x : Int} {k n : Nat} (hk : k < n) (h : F k ≠ x) : seek F x k (n - k) = seek F x (k + 1) (n - (k + 1)) := by
  obtain ⟨m, hm⟩ : ∃ m, n - k = m + 1 := ⟨n - k - 1, by omega⟩
  rw [hm, seek, if_neg h, show n - (k + 1) = m by omega]
theorem seek_end (F : Nat → Int) (x : Int) (n : Nat) : seek F x n (n - n) = none := by rw [Nat.sub_self, seek]
theorem seek_lt {F : Nat → Int} {x : Int} : ∀ {m a k}, seek F x a m = some k → k < a + m := by
  intro m
  induction m with
  | zero => intro a k h; simp [seek] at h
  | succ m ih =>
    intro a k h
    simp only [seek] at h
    split at h
    · injection h with h; omega
    · have := ih h; omega
theorem seek_shift (F : Nat → Int) (x : Int) (a : Nat) : ∀ m b, seek F x (a + b) m = (seek (fun j => F (a + j)) x b m).map (a + ·) := by
  intro m
  induction m with
  | zero => intro b; rfl
  | succ m ih =>
    intro b
    simp only [seek]
    by_cases h : F (a + b) = x
    · simp [h]
    · simp only [h, if_false]
      rw [Nat.add_assoc, ih]
theorem coll_hit {F : Nat → Int} {i k n : Nat} (hi : i < n) (h : seek F (F i) (i + 1) (n - (i + 1)) = some k) : coll F i (n - i) = some (i, k) := by
  obtain ⟨m, hm⟩ : ∃ m, n - i = m + 1 := ⟨n - i - 1, by omega⟩
  rw [show n - (i + 1) = m by omega] at h
  rw [hm, coll, h]
theorem coll_miss {F : Nat → Int} {i n : Nat} (hi : i < n) (h : seek F (F i) (i + 1) (n - (i + 1)) = none) : coll F i (n - i) = coll F (i + 1) (n - (i + 1)) := by
  obtain ⟨m, hm⟩ : ∃ m, n - i = m + 1 := ⟨n - i - 1, by omega⟩
  rw [show n - (i + 1) = m by omega] at h
  rw [hm, coll, h, show n - (i + 1) = m by omega]
theorem coll_end (F : Nat → Int) (n : Nat) : coll F n (n - n) = none := by rw [Nat.sub_self, coll]
def collV (o : Option (Nat × Nat)) : Value := match o with
  | some (i, k) => .tuple #[.int .i64 i, .int .i64 k, .bool true]
  | none => .tuple #[.int .i64 0, .int .i64 0, .bool false]
def seekI (o : Option Nat) : Int := match o with
  | some k => k
  | none => -1
def CollOk (seed part : Int) (S : Nat → ByteArray) (n : Nat) (P : Int) : Prop := seedB seed part = true ∧ keysB S n = true ∧ 1 ≤ P ∧ P ≤ 4096

def NoPair (w : World) (e : Ending) (w' : World) : Prop := e = .returned (.tuple #[.int .i64 0, .int .i64 0, .bool false]) ∧ w = w'
end Go.Proofs.Ytffdkfhnlgfigaa
