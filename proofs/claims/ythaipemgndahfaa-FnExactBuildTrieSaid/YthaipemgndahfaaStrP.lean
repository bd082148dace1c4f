/- The model's insertion of a string, said of lists; all strings of a row put into order by it. -/
import Derived.Test.YthaipemgndahfaaPutS
namespace Go.Proofs.Ythaipemgndahfaa
open Go.RowKit

theorem ba_ext {a b : ByteArray} (h : a.data.toList = b.data.toList) : a = b := by
  cases a; cases b
  congr
  exact Array.toList_inj.1 h
theorem row_of_ls {S S' : Nat → ByteArray} {n : Nat} (h : lsOf S n = lsOf S' n) : ∀ i, i < n → S i = S' i := fun i hi => by
  have h1 := lsOf_at (S := S) hi
  rw [h, lsOf_at hi] at h1
  exact ba_ext (Option.some.inj h1).symm
theorem lsOf_add (S : Nat → ByteArray) (a b : Nat) : lsOf S (a + b) = lsOf S a ++ lsOf (fun i => S (a + i)) b := by
  simp [lsOf, List.range_add, List.map_map, Function.comp_def]
theorem lsOf_congr {S S' : Nat → ByteArray} {n : Nat} (h : ∀ i, i < n → S i = S' i) : lsOf S n = lsOf S' n := by
  unfold lsOf
  exact List.map_congr_left (fun i hi => by rw [h i (List.mem_range.1 hi)])
theorem insS_split {x : Byt} : ∀ {a b : List Byt}, (∀ y, y ∈ a → y < x) → (∀ y, b.head? = some y → x < y) → insS x (a ++ b) = a ++ x :: b
  | [], [], _, _ => rfl
  | [], y :: b, _, h => by
    have hy := h y rfl
    show insS x (y :: b) = x :: y :: b
    rw [insS, if_neg (fun k => bs_irr _ (bs_tr hy k)), if_neg (fun e => bs_irr x (by rw [e] at hy; exact hy))]
  | z :: a, b, h1, h2 => by
    show insS x (z :: (a ++ b)) = z :: (a ++ x :: b)
    rw [insS, if_pos (h1 z (by simp)), insS_split (fun y hy => h1 y (List.mem_cons_of_mem _ hy)) h2]
theorem insS_here {x : Byt} : ∀ {a b : List Byt}, (∀ y, y ∈ a → y < x) → insS x (a ++ x :: b) = a ++ x :: b
  | [], b, _ => by
    show insS x (x :: b) = x :: b
    rw [insS, if_neg (bs_irr x), if_pos rfl]
  | z :: a, b, h1 => by
    show insS x (z :: (a ++ x :: b)) = z :: (a ++ x :: b)
    rw [insS, if_pos (h1 z (by simp)), insS_here (fun y hy => h1 y (List.mem_cons_of_mem _ hy))]
theorem first_not (p : Nat → Prop) : ∀ n, ∃ k, k ≤ n ∧ (∀ i, i < k → p i) ∧ (k < n → ¬ p k)
  | 0 => ⟨0, Nat.le_refl _, fun i hi => absurd hi (Nat.not_lt_zero _), fun h => absurd h (Nat.lt_irrefl _)⟩
  | n + 1 => by
    obtain ⟨k, hk, h1, h2⟩ := first_not p n
    by_cases e : k < n
    · exact ⟨k, by omega, h1, fun _ => h2 e⟩
    · obtain rfl : k = n := by omega
      by_cases hp : p k
      · exact ⟨k + 1, Nat.le_refl _, fun i hi => by
          by_cases e : i = k
          · subst e; exact hp
          · exact h1 i (by omega), fun h => absurd h (by omega)⟩
      · exact ⟨k, by omega, h1, fun _ => hp⟩
/-- A slice of strings, told as a list. -/
def LstIs (L : List Byt) (w : World) (e : Ending) (w' : World) : Prop :=
  ∃ A c m S, e = .returned (.slice A m c) ∧ lsOf S m = L ∧ GRow w' A m (strV S) ∧ m ≤ c ∧ Below w.heap.size w w'
theorem spec_l1PutS_is (A : Option Addr) (n c : Nat) (S : Nat → ByteArray) (x : ByteArray) (w : World) (hn : n ≤ 4096) (hnc : n ≤ c) (hr : GRow w A n (strV S)) :
    Calls Try.prog 56 #[.slice A n c, .string x] w (LstIs (insS x.data.toList (lsOf S n)) w) := by
  obtain ⟨k, hk, h1, h2⟩ := first_not (fun i => (S i).data.toList < x.data.toList) n
  have hl1 : ∀ i, i < k → ltS (S i) x = true := fun i hi => by rw [ltS_is]; simpa using h1 i hi
  have ha : ∀ y, y ∈ lsOf S k → y < x.data.toList := fun y hy => by
    obtain ⟨i, hi, rfl⟩ := lsOf_mem.1 hy
    exact h1 i hi
  have hsp : lsOf S n = lsOf S k ++ lsOf (fun i => S (k + i)) (n - k) := by rw [← lsOf_add, show k + (n - k) = n by omega]
  by_cases hx : k < n ∧ (S k).data.toList = x.data.toList
  · obtain ⟨hkn, hxe⟩ := hx
    have e1 : lsOf (fun i => S (k + i)) (n - k) = x.data.toList :: lsOf (fun i => S (k + (1 + i))) (n - k - 1) := by
      rw [show n - k = 1 + (n - k - 1) by omega, lsOf_add]
      simp [lsOf, hxe]
    refine (spec_l1PutS_has A n c S x k w hn hr hkn hl1 (ba_ext hxe)).mono ?_
    rintro e w' ⟨rfl, rfl⟩
    exact ⟨A, c, n, S, rfl, by rw [hsp, e1, insS_here ha], hr, hnc, Below.refl _ _⟩
  · have hlt : k < n → x.data.toList < (S k).data.toList := fun h => bs_lt (bs_le.1 (h2 h)) (fun e => hx ⟨h, e.symm⟩)
    refine (spec_l1PutS_new A n c S x k w hn hnc hr hk hl1 (fun h => by rw [ltS_is]; simpa using hlt h)).mono ?_
    rintro e w' ⟨A', c', rfl, ho, hb⟩
    obtain ⟨_, _, hv, hle, _⟩ := owned_slice ho
    injection hv with e1 e2 e3
    subst e3
    refine ⟨A', _, n + 1, insB S k x, rfl, ?_, (owned_vec ho).row, hle, hb⟩
    have hl : lsOf (insB S k x) (n + 1) = lsOf S k ++ x.data.toList :: lsOf (fun i => S (k + i)) (n - k) := by
      rw [show n + 1 = k + (1 + (n - k)) by omega, lsOf_add, lsOf_add]
      congr 1
      · exact lsOf_congr (fun i hi => by unfold insB; rw [if_pos hi])
      · simp only [lsOf, List.range_one, List.map_cons, List.map_nil, List.singleton_append]
        congr 1
        · unfold insB; simp
        · exact List.map_congr_left (fun i _ => by unfold insB; rw [if_neg (by omega), if_neg (by omega), show k + (1 + i) - 1 = k + i by omega])
    rw [hl, hsp, insS_split ha ?_]
    intro y hy
    rcases Nat.lt_or_ge k n with h | h
    · rw [show n - k = 1 + (n - k - 1) by omega, lsOf_add] at hy
      simp [lsOf] at hy
      rw [← hy]; exact hlt h
    · rw [show n - k = 0 by omega] at hy
      simp [lsOf] at hy
/-! The strings that are not empty. -/
theorem fullS_snoc (l : List Byt) (x : Byt) : fullS (l ++ [x]) = if x.isEmpty then fullS l else fullS l ++ [x] := by
  unfold fullS
  rw [List.filter_append]
  cases x <;> simp
theorem fullS_le (l : List Byt) : (fullS l).length ≤ l.length := List.length_filter_le _ _
theorem allS_full_le (l : List Byt) : (allS (fullS l)).length ≤ l.length := Nat.le_trans (allS_le _) (fullS_le _)
theorem ba_empty {s : ByteArray} : (s.toList == (ByteArray.empty).toList) = s.data.toList.isEmpty := by
  rw [ba_toList, ba_toList]
  cases h : s.data.toList <;> simp
end Go.Proofs.Ythaipemgndahfaa
