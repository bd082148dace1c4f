/- MergeFronts: both sides. -/
import Derived.Test.YthaipemgndahfaaFrX
namespace Go.Proofs.Ythaipemgndahfaa
open Go.RowKit

theorem vals_encF (S : Nat → ByteArray) (n : Nat) : vals (strV S) n = (lsOf S n).map encStr := by
  unfold vals lsOf
  rw [List.map_map]
  exact List.map_congr_left (fun i _ => by unfold strV encStr; simp)
theorem vals_rowF (l : List Byt) (n : Nat) (h : l.length = n) : vals (strV (rowS l)) n = l.map encStr := by
  subst h
  rw [vals_encF, rowS_ls]
theorem upTo_inc {d : Array Byt} (h : ∀ i j, i < j → j < d.size → d[i]! ≤ d[j]!) : ∀ m, m ≤ d.size → Inc (Go.Lib.compactUpTo d m) ∧ (∀ x, x ∈ Go.Lib.compactUpTo d m ↔ ∃ j, j < m ∧ d[j]! = x)
  | 0, _ => by simp [Go.Lib.compactUpTo, Inc]
  | m + 1, hm => by
    obtain ⟨h1, h2⟩ := upTo_inc h m (by omega)
    rw [Go.Lib.compactUpTo_succ]
    by_cases hk : Go.Lib.keeps d m = true
    · rw [if_pos hk]
      refine ⟨List.pairwise_append.2 ⟨h1, by simp, fun x hx y hy => ?_⟩, fun x => ?_⟩
      · rw [List.mem_singleton] at hy; subst hy
        obtain ⟨j, hj, rfl⟩ := (h2 x).1 hx
        have hne : d[m]! ≠ d[m - 1]! := by
          unfold Go.Lib.keeps at hk
          rw [decide_eq_true_eq] at hk
          rcases hk with e | e
          · omega
          · exact e
        have ha : d[m - 1]! < d[m]! := bs_lt (h (m - 1) m (by omega) (by omega)) (fun e => hne e.symm)
        by_cases e : j = m - 1
        · subst e; exact ha
        · exact List.lt_of_le_of_lt (h j (m - 1) (by omega) (by omega)) ha
      · rw [List.mem_append, h2, List.mem_singleton]
        constructor
        · rintro (⟨j, hj, e⟩ | e)
          · exact ⟨j, by omega, e⟩
          · exact ⟨m, by omega, e.symm⟩
        · rintro ⟨j, hj, e⟩
          by_cases e2 : j = m
          · subst e2; exact .inr e.symm
          · exact .inl ⟨j, by omega, e⟩
    · rw [if_neg hk, List.append_nil]
      refine ⟨h1, fun x => (h2 x).trans ?_⟩
      have hmm : m ≠ 0 ∧ d[m]! = d[m - 1]! := by
        unfold Go.Lib.keeps at hk
        rw [decide_eq_true_eq] at hk
        exact ⟨fun e => hk (.inl e), Decidable.byContradiction fun e => hk (.inr e)⟩
      constructor
      · rintro ⟨j, hj, e⟩; exact ⟨j, by omega, e⟩
      · rintro ⟨j, hj, e⟩
        by_cases e2 : j = m
        · subst e2; exact ⟨j - 1, by omega, by rw [← hmm.2]; exact e⟩
        · exact ⟨j, by omega, e⟩
theorem compact_inc {R : List Byt} (h : R.Pairwise (· ≤ ·)) : Inc (Go.Lib.compact R) ∧ ∀ x, x ∈ Go.Lib.compact R ↔ x ∈ R := by
  have hp := List.pairwise_iff_getElem.1 h
  obtain ⟨h1, h2⟩ := upTo_inc (d := R.toArray) (fun i j hij hj => by
    have hj' : j < R.length := by simpa using hj
    have := hp i j (by omega) hj' hij
    rw [getElem!_pos R.toArray i (by simp; omega), getElem!_pos R.toArray j (by simpa using hj')]
    simpa using this) R.length (by simp)
  refine ⟨h1, fun x => (h2 x).trans ?_⟩
  rw [List.mem_iff_getElem]
  constructor
  · rintro ⟨j, hj, e⟩
    rw [getElem!_pos R.toArray j (by simpa using hj)] at e
    exact ⟨j, hj, by simpa using e⟩
  · rintro ⟨j, hj, e⟩
    exact ⟨j, hj, by rw [getElem!_pos R.toArray j (by simpa using hj)]; simpa using e⟩
/-- The strings of two increasing lists, each once, in order. -/
theorem addS_compact {LA LB R : List Byt} (hA : Inc LA) (h : R.Pairwise (· ≤ ·)) (hm : ∀ x, x ∈ R ↔ x ∈ LA ∨ x ∈ LB) : Go.Lib.compact R = addS LA LB :=
  inc_eq (compact_inc h).1 (addS_inc hA) (fun x => by rw [(compact_inc h).2, hm, addS_mem])
/-- What slices.Compact leaves of a sorted list of the call's own. -/
theorem compact_strs (B : Nat) (A : Option Addr) (c : Nat) (R : List Byt) (w : World) (hB : B ≤ w.heap.size) (hn : R.length ≤ 1048576) (hO : w.ownsRow B 9 1 (.slice A R.length c) R.length (vals (strV (rowS R)) R.length)) :
    Calls Try.prog 57 #[.slice A R.length c] w fun e w' => e = .returned (.slice A (Go.Lib.compact R).length c) ∧ w'.ownsRow B 9 1 (.slice A (Go.Lib.compact R).length c) (Go.Lib.compact R).length (vals (strV (rowS (Go.Lib.compact R))) (Go.Lib.compact R).length) ∧ Below B w w' := by
  rcases Nat.eq_zero_or_pos R.length with h0 | h0
  · obtain rfl : R = [] := List.length_eq_zero_iff.1 h0
    refine (show Calls Try.prog 57 #[.slice A 0 c] w _ from Any.slices_Compact_string_empty (P := Try.prog) laysCs A c w).mono ?_
    rintro e w' ⟨rfl, rfl⟩
    exact ⟨rfl, hO, Below.refl _ _⟩
  · have hO2 := hO
    rw [vals_rowF _ _ rfl] at hO
    rcases hO.2 with ⟨hz, h00⟩ | ⟨g, cap, cur, hv, hbase, hb, h1, h2, h3, h4⟩
    · omega
    cases hv
    have hs := Any.slices_Compact_string (P := Try.prog) laysCs g 0 c R w (holds_of_block hb (by simpa using h4)) (by omega) h1
    have hle : (Go.Lib.compact R).length ≤ R.length := by
      unfold Go.Lib.compact Go.Lib.compactUpTo
      rw [List.length_map]
      exact Nat.le_trans (List.length_filter_le _ _) (by simp)
    refine (show Calls Try.prog 57 _ _ _ from hs).mono ?_
    rintro e w' ⟨rfl, q, rfl⟩
    refine ⟨rfl, ?_, ?_⟩
    · rw [vals_rowF _ _ rfl]
      have ho := Lib.ownsRow_putRow (q := q) (k := (Go.Lib.compact R).length) (ys := Go.Lib.compact R ++ List.replicate (R.length - (Go.Lib.compact R).length) []) hO (by simp; omega) hle
      rw [List.take_left] at ho
      exact ho
    · have h := grownBy_sorted (w := w) (g := g) (n := q) (os := #[]) (Go.Lib.compact R ++ List.replicate (R.length - (Go.Lib.compact R).length) []).toArray
      rw [Sort.grow_empty] at h
      exact below_ownG hO2 h hB
end Go.Proofs.Ythaipemgndahfaa
