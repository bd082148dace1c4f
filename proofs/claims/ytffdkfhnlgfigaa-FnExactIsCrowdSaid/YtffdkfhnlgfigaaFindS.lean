/- The least number with a property in a range; the range of seeds. -/
import Derived.Test.YtffdkfhnlgfigaaHash
import Derived.Test.YtffdkfhnlgfigaaMem
namespace Go.Proofs.Ytffdkfhnlgfigaa
open Go.RowKit

def NoneP (P : Int → Prop) (lo hi : Int) : Prop := ∀ u, lo ≤ u → u < hi → ¬ P u
def FindI (P : Int → Prop) (lo hi : Int) (w : World) (e : Ending) (w' : World) : Prop := Below w.heap.size w w' ∧ ((∃ v, e = .returned (.tuple #[.int .i64 v, .bool true]) ∧ lo ≤ v ∧ v < hi ∧ P v ∧ NoneP P lo v) ∨ (e = .returned (.tuple #[.int .i64 0, .bool false]) ∧ NoneP P lo hi))
theorem find_ex (P : Int → Prop) (lo : Int) : ∀ m : Nat, (∃ v, lo ≤ v ∧ v < lo + m ∧ P v ∧ NoneP P lo v) ∨ NoneP P lo (lo + m)
  | 0 => .inr (fun u h1 h2 => by omega)
  | m + 1 => by
    rcases find_ex P lo m with ⟨v, h1, h2, h3⟩ | h
    · exact .inl ⟨v, h1, by push_cast; omega, h3⟩
    · by_cases e : P (lo + m)
      · exact .inl ⟨lo + m, by omega, by push_cast; omega, e, h⟩
      · exact .inr (fun u h1 h2 => by
          by_cases e2 : u = lo + m
          · subst e2; exact e
          · exact h u h1 (by push_cast at h2; omega))
theorem find_det {P : Int → Prop} {lo hi : Int} {w : World} {e : Ending} {w' : World} (h : FindI P lo hi w e w') :
    (∀ v, lo ≤ v → v < hi → P v → NoneP P lo v → e = .returned (.tuple #[.int .i64 v, .bool true]) ∧ Below w.heap.size w w') ∧ (NoneP P lo hi → e = .returned (.tuple #[.int .i64 0, .bool false]) ∧ Below w.heap.size w w') := by
  obtain ⟨hb, ⟨u, he, h1, h2, h3, h4⟩ | ⟨he, hn⟩⟩ := h
  · refine ⟨fun v g1 g2 g3 g4 => ⟨?_, hb⟩, fun g => absurd h3 (g u h1 h2)⟩
    have : u = v := by
      rcases Int.lt_trichotomy u v with e1 | e1 | e1
      · exact absurd h3 (g4 u h1 e1)
      · exact e1
      · exact absurd g3 (h4 v g1 e1)
    rw [he, this]
  · exact ⟨fun v g1 g2 g3 _ => absurd g3 (hn v g1 g2), fun _ => ⟨he, hb⟩⟩
def DecIs (p : Prop) (w : World) (e : Ending) (w' : World) : Prop := ∃ b : Bool, e = .returned (.bool b) ∧ (b = true ↔ p) ∧ w = w'
def RangeOk (a b : Int) : Prop := 0 ≤ a ∧ a ≤ b ∧ b ≤ 10000 ∧ b ≤ a + 100
set_option maxRecDepth 100000 in
set_option maxHeartbeats 1000000 in
theorem spec_l1Most (a b M : Int) (hM : M = max a b) (w : World) : Calls Try.prog 90 #[.int .i64 a, .int .i64 b] w fun e w' => e = .returned (.int .i64 M) ∧ w = w' := by
  by_cases h2 : b < a
  · obtain rfl : M = a := by omega
    clear hM
    have d0 : decide (b < M) = true := by simpa using h2
    go_enter Try.func90, Try.ntmps90
    go_wp2_with fail
    go_ret
    exact ⟨rfl, rfl⟩
  · obtain rfl : M = b := by omega
    clear hM
    have d0 : decide (M < a) = false := by simpa using h2
    go_enter Try.func90, Try.ntmps90
    go_wp2_with fail
    go_ret
    exact ⟨rfl, rfl⟩
end Go.Proofs.Ytffdkfhnlgfigaa
