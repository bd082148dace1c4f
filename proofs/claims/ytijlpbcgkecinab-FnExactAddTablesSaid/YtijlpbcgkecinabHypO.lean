/- HyperOf: the model's, and what both refuse. -/
import Derived.Test.YtijlpbcgkecinabHypI
namespace Go.Proofs.Ytijlpbcgkecinab
open Go.RowKit

def keyedB (seed : Int) (S : Nat → ByteArray) (n : Nat) (g : Int) : Bool := seedB seed 0 && keysB S n && decide (1 ≤ g ∧ g ≤ 24)
set_option maxRecDepth 100000 in
set_option maxHeartbeats 1000000 in
theorem spec_peKeyed (seed : Int) (KA : Option Addr) (n kc : Nat) (S : Nat → ByteArray) (g : Int) (w : World) (hn : n ≤ 1048576) (hs : ∀ i, i < n → (S i).size ≤ maxLen) (hr : GRow w KA n (strV S)) :
    Calls Try.prog 64 #[.int .i64 seed, .slice KA n kc, .int .i64 g] w fun e w' => e = .returned (.bool (keyedB seed S n g)) ∧ w = w' := by
  have HR := Lib.hid hr
  have HS := Lib.hid hs
  clear hr hs
  unfold keyedB
  by_cases h0 : 0 ≤ seed ∧ seed ≤ 9999
  · have hsd : seedB seed 0 = true := by unfold seedB; simp only [decide_eq_true_eq]; omega
    obtain ⟨h0a, h0b⟩ := h0
    rw [hsd]
    by_cases hk : keysB S n = true
    · rw [hk]
      by_cases h1 : 1 ≤ g ∧ g ≤ 24
      · rw [decide_eq_true h1]
        obtain ⟨h1a, h1b⟩ := h1
        go_enter Try.func64, Try.ntmps64
        go_wp2_with fail
        refine (l1In_yes _ _ _ _ h0a h0b).mono ?_; rintro e w' ⟨rfl, rfl⟩
        go_wp2_with fail
        refine (spec_biKeys KA n kc S _ hn HS.out HR.out).mono ?_; rintro e w' ⟨rfl, rfl⟩
        rw [hk]
        go_wp2_with fail
        refine (l1In_yes _ _ _ _ h1a h1b).mono ?_; rintro e w' ⟨rfl, rfl⟩
        go_wp2_with fail
        go_ret
        exact ⟨rfl, rfl⟩
      · rw [decide_eq_false h1]
        go_enter Try.func64, Try.ntmps64
        go_wp2_with fail
        refine (l1In_yes _ _ _ _ h0a h0b).mono ?_; rintro e w' ⟨rfl, rfl⟩
        go_wp2_with fail
        refine (spec_biKeys KA n kc S _ hn HS.out HR.out).mono ?_; rintro e w' ⟨rfl, rfl⟩
        rw [hk]
        go_wp2_with fail
        refine (l1In_no _ _ _ _ h1).mono ?_; rintro e w' ⟨rfl, rfl⟩
        go_wp2_with fail
        go_ret
        exact ⟨rfl, rfl⟩
    · have hkf : keysB S n = false := by simpa using hk
      rw [hkf]
      go_enter Try.func64, Try.ntmps64
      go_wp2_with fail
      refine (l1In_yes _ _ _ _ h0a h0b).mono ?_; rintro e w' ⟨rfl, rfl⟩
      go_wp2_with fail
      refine (spec_biKeys KA n kc S _ hn HS.out HR.out).mono ?_; rintro e w' ⟨rfl, rfl⟩
      rw [hkf]
      go_wp2_with fail
      go_ret
      exact ⟨rfl, rfl⟩
  · have hsd : seedB seed 0 = false := by unfold seedB; simp only [decide_eq_false_iff_not]; omega
    rw [hsd]
    go_enter Try.func64, Try.ntmps64
    go_wp2_with fail
    refine (l1In_no _ _ _ _ h0).mono ?_; rintro e w' ⟨rfl, rfl⟩
    go_wp2_with fail
    go_ret
    exact ⟨rfl, rfl⟩

/-- What HyperOf answers where it fails. -/
def HypNo (w : World) (e : Ending) (w' : World) : Prop := e = .returned (.tuple #[.agg #[.int .i64 0, .slice none 0 0], .bool false]) ∧ Below w.heap.size w w'
theorem ow2_zero (lo hi : Nat) (A : Option Addr) (L : Nat → Nat) (V : Nat → Nat → Int) (w : World) : Ow2 lo hi A 0 L V w := ⟨fun _ => none, fun _ => 0, ow_zero _ _ _ _ _ _, fun i hi => absurd hi (by omega), fun i j _ hj => absurd hj (by omega)⟩
theorem rbox_new (w : World) : NBX w.heap.size w.heap.size #[.int .i64 0, .slice none 0 0] 72 (w.alloc (.cells #[.int .i64 0, .slice none 0 0] 72)) := ⟨Go.Deep.blk_alloc_new _ _, Nat.le_refl _⟩
set_option maxRecDepth 100000 in
set_option maxHeartbeats 1000000 in
theorem impl_hyperOf_no (seed : Int) (g : Int) (KA : Option Addr) (n kc : Nat) (S : Nat → ByteArray) (w : World) (hn : n ≤ 1048576) (hs : ∀ i, i < n → (S i).size ≤ maxLen) (hr : GRow w KA n (strV S)) (h : keyedB seed S n g = false) :
    Calls Try.prog 84 #[.int .i64 seed, .slice KA n kc, .int .i64 g] w (HypNo w) := by
  have HR1 := Lib.hid (hr.al (.cells #[.int .i64 0, .slice none 0 0] 72))
  have HS := Lib.hid hs
  have N0 := rbox_new w
  have FB := Lib.hid ((Below.refl w.heap.size w).alloc (Nat.le_refl _) (.cells #[.int .i64 0, .slice none 0 0] 72))
  have r0 := N0.cell 0 _ rfl
  have r1 := N0.cell 1 _ rfl
  have f0 := N0.free 0
  have f1 := N0.free 1
  clear hr hs N0
  by_cases hh : heB seed g = true
  · have hkf : keysB S n = false := by
      unfold keyedB at h
      unfold heB at hh
      simp only [Bool.and_eq_true, decide_eq_true_eq] at hh
      cases hk : keysB S n
      · rfl
      · rw [hh.1, hk] at h; simp at h; omega
    clear h
    go_enter Try.func84, Try.ntmps84
    go_wp2_with fail
    refine (impl_hasEdges seed g _).mono ?_; rintro e w1 ⟨rfl, rfl⟩
    rw [hh]
    go_wp2_with fail
    refine (impl_areKeys KA n kc S _ hn HS.out HR1.out).mono ?_; rintro e w1 ⟨rfl, rfl⟩
    rw [hkf]
    go_wp2_with fail
    refine bodyPost_ret (v := .tuple #[.agg #[.int .i64 0, .slice none 0 0], .bool false]) (by simp [results, Try.results84, go_sem, r0, r1]) rfl ?_
    exact ⟨rfl, by first | exact FB.out | exact below_setAt (below_setAt FB.out (Nat.le_refl _) _) (Nat.le_refl _) _⟩
  · have hhf : heB seed g = false := by simpa using hh
    clear h
    go_enter Try.func84, Try.ntmps84
    go_wp2_with fail
    refine (impl_hasEdges seed g _).mono ?_; rintro e w1 ⟨rfl, rfl⟩
    rw [hhf]
    go_wp2_with fail
    refine bodyPost_ret (v := .tuple #[.agg #[.int .i64 0, .slice none 0 0], .bool false]) (by simp [results, Try.results84, go_sem, r0, r1]) rfl ?_
    exact ⟨rfl, by first | exact FB.out | exact below_setAt (below_setAt FB.out (Nat.le_refl _) _) (Nat.le_refl _) _⟩
end Go.Proofs.Ytijlpbcgkecinab
