/- The process of peeling; a row of steps that grows. -/
import Derived.Test.YtfhanighnckbhaaPeelV
import Derived.Test.YtfhanighnckbhaaPeelX
namespace Go.Proofs.Ytfhanighnckbhaa
open Go.RowKit

/-- The place that a choice tells. -/
def plc (z : Nat) (l : Nat → Nat) (X : Nat → Nat → Int) (n : Nat) (G : Nat → Bool) (ch : Nat) : Nat := (freL (degF l X G n) z).getD (ch % (freL (degF l X G n) z).length) 0
/-- The first edge still there with a place. -/
def edg (l : Nat → Nat) (X : Nat → Nat → Int) (n : Nat) (G : Nat → Bool) (p : Nat) : Nat := ((leftL G n).find? (fun i => decide (0 < cntE (X i) p (l i)))).getD 0
/-- What is gone after k steps. -/
def goneS (z : Nat) (l : Nat → Nat) (X : Nat → Nat → Int) (n : Nat) (C : Nat → Nat) : Nat → Nat → Bool
  | 0 => fun _ => false
  | k + 1 => upd (goneS z l X n C k) (edg l X n (goneS z l X n C k) (plc z l X n (goneS z l X n C k) (C k))) true
/-- There was a free place ahead of each of the first k steps. -/
def Goes (z : Nat) (l : Nat → Nat) (X : Nat → Nat → Int) (n : Nat) (C : Nat → Nat) (k : Nat) : Prop := ∀ j, j < k → freL (degF l X (goneS z l X n C j) n) z ≠ []
theorem plc_mem {z : Nat} {l : Nat → Nat} {X : Nat → Nat → Int} {n : Nat} {G : Nat → Bool} {ch : Nat} (h : freL (degF l X G n) z ≠ []) : plc z l X n G ch < z ∧ degF l X G n (plc z l X n G ch) = 1 := by
  have hl : 0 < (freL (degF l X G n) z).length := List.length_pos_iff.2 h
  have hi : ch % (freL (degF l X G n) z).length < (freL (degF l X G n) z).length := Nat.mod_lt _ hl
  have : plc z l X n G ch ∈ freL (degF l X G n) z := by
    unfold plc
    rw [List.getD_eq_getElem?_getD, List.getElem?_eq_getElem hi]
    exact List.getElem_mem _
  exact mem_freL.1 this
theorem dgR_pos {l : Nat → Nat} {X : Nat → Nat → Int} {G : Nat → Bool} {p : Int} : ∀ k, 0 < dgR l X G p k → ∃ i, i < k ∧ G i = false ∧ 0 < cntE (X i) p (l i)
  | 0, h => by simp [dgR] at h
  | k + 1, h => by
    rw [dgR] at h
    by_cases hg : G k = true
    · rw [if_pos hg] at h
      obtain ⟨i, h1, h2⟩ := dgR_pos k (by omega)
      exact ⟨i, by omega, h2⟩
    · rw [if_neg hg] at h
      by_cases hc : 0 < cntE (X k) p (l k)
      · exact ⟨k, by omega, by simpa using hg, hc⟩
      · obtain ⟨i, h1, h2⟩ := dgR_pos (l := l) (X := X) (G := G) (p := p) k (by omega)
        exact ⟨i, by omega, h2⟩
theorem leftL_sorted (G : Nat → Bool) : ∀ k, (leftL G k).Pairwise (· < ·)
  | 0 => List.Pairwise.nil
  | k + 1 => by
    rw [leftL]
    split
    · exact leftL_sorted G k
    · rw [List.pairwise_append]
      exact ⟨leftL_sorted G k, List.pairwise_singleton _ _, fun a ha b hb => by
        rw [List.mem_singleton] at hb; subst hb; exact (mem_leftL.1 ha).1⟩
theorem edg_first {l : Nat → Nat} {X : Nat → Nat → Int} {n : Nat} {G : Nat → Bool} {p : Nat} (h : degF l X G n p = 1) : FirstAt l X G n p (edg l X n G p) := by
  obtain ⟨i, hi, hg, hc⟩ := dgR_pos (l := l) (X := X) (G := G) (p := (p : Int)) n (by unfold degF at h; omega)
  unfold edg
  cases hf : (leftL G n).find? (fun i => decide (0 < cntE (X i) p (l i))) with
  | none =>
    have := List.find?_eq_none.1 hf i (mem_leftL.2 ⟨hi, hg⟩)
    simp at this; omega
  | some e =>
    have h1 := List.find?_some hf
    have h2 := List.mem_of_find?_eq_some hf
    obtain ⟨he1, he2⟩ := mem_leftL.1 h2
    simp only [decide_eq_true_eq] at h1
    refine ⟨he1, he2, (cntE_pos (l e)).1 h1, fun j hj => ?_⟩
    by_cases hgj : G j = true
    · exact .inl hgj
    · refine .inr fun hh => ?_
      obtain ⟨us, vs, hL, hno⟩ := (List.find?_eq_some_iff_append.1 hf).2
      have hjm : j ∈ leftL G n := mem_leftL.2 ⟨by simp at hj; omega, by simpa using hgj⟩
      rw [hL, List.mem_append] at hjm
      rcases hjm with hjm | hjm
      · have := hno j hjm
        have h5 := (cntE_pos (X := X j) (p := (p : Int)) (l j)).2 hh
        simp at this; omega
      · rw [List.mem_cons] at hjm
        have hs := leftL_sorted G n
        rw [hL, List.pairwise_append, List.pairwise_cons] at hs
        rcases hjm with rfl | hjm
        · simp at hj
        · have := hs.2.1.1 j hjm
          simp at hj; omega
end Go.Proofs.Ytfhanighnckbhaa
