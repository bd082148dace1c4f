/- The moves between two placements, step by step. -/
import Derived.Test.YtfjimjbndkhkcaaPlcJ
import Derived.Test.YtfjimjbndkhkcaaSameI
import Derived.Deep.QuietTactic
namespace Go.Proofs.Ytfjimjbndkhkcaa
open Go.RowKit

/-- The key i can move: its new cell is empty. -/
def MvOk (T X : Nat → Int) (n i : Nat) : Prop := ∀ j, j < n → X j ≠ T i
/-- The least key that can move. -/
def IsNx (T X : Nat → Int) (n i : Nat) : Prop := i < n ∧ MvOk T X n i ∧ ∀ k, k < i → ¬ MvOk T X n k
theorem isNx_same {T X : Nat → Int} {n i j : Nat} (h : IsNx T X n i) (k : IsNx T X n j) : i = j := by
  rcases Nat.lt_trichotomy i j with e | e | e
  · exact absurd h.2.1 (k.2.2 i e)
  · exact e
  · exact absurd k.2.1 (h.2.2 j e)
open Classical in
noncomputable def nxM (T X : Nat → Int) (n : Nat) : Nat := if h : ∃ i, IsNx T X n i then h.choose else 0
theorem nxM_is {T X : Nat → Int} {n i : Nat} (h : IsNx T X n i) : nxM T X n = i := by
  unfold nxM
  rw [dif_pos ⟨i, h⟩]
  exact isNx_same (Exists.choose_spec (⟨i, h⟩ : ∃ i, IsNx T X n i)) h
noncomputable def mvS (T F : Nat → Int) (n : Nat) : Nat → Nat → Int
  | 0 => F
  | k + 1 => updQ (mvS T F n k) (nxM T (mvS T F n k) n) (T (nxM T (mvS T F n k) n))
noncomputable def mvL (T F : Nat → Int) (n k : Nat) : Int := nxM T (mvS T F n k) n
def MvAll (T F : Nat → Int) (n k : Nat) : Prop := ∀ j, j < k → ∃ i, IsNx T (mvS T F n j) n i
def MvEnd (T F : Nat → Int) (n k : Nat) : Prop := MvAll T F n k ∧ ∀ i, i < n → ¬ MvOk T (mvS T F n k) n i
theorem mvEnd_same {T F : Nat → Int} {n k k' : Nat} (h : MvEnd T F n k) (h' : MvEnd T F n k') : k = k' := by
  rcases Nat.lt_trichotomy k k' with e | e | e
  · obtain ⟨i, hi⟩ := h'.1 k e
    exact absurd hi.2.1 (h.2 i hi.1)
  · exact e
  · obtain ⟨i, hi⟩ := h.1 k' e
    exact absurd hi.2.1 (h'.2 i hi.1)
/-- How many keys are not yet where they shall be. -/
def dfN (T X : Nat → Int) : Nat → Nat
  | 0 => 0
  | n + 1 => dfN T X n + if X n = T n then 0 else 1
theorem dfN_le (T X : Nat → Int) : ∀ n, dfN T X n ≤ n
  | 0 => Nat.le_refl _
  | n + 1 => by
    have := dfN_le T X n
    unfold dfN
    split <;> omega
theorem dfN_far (T X : Nat → Int) (i : Nat) (v : Int) : ∀ n, n ≤ i → dfN T (updQ X i v) n = dfN T X n
  | 0, _ => rfl
  | n + 1, h => by
    unfold dfN
    rw [dfN_far T X i v n (by omega), show updQ X i v n = X n from if_neg (by omega)]
theorem dfN_step {T X : Nat → Int} {i : Nat} (hx : X i ≠ T i) : ∀ n, i < n → dfN T (updQ X i (T i)) n + 1 = dfN T X n
  | 0, h => absurd h (by omega)
  | n + 1, h => by
    unfold dfN
    by_cases e : i = n
    · subst e
      rw [dfN_far T X i _ i (Nat.le_refl _), show updQ X i (T i) i = T i from if_pos rfl, if_pos rfl, if_neg hx]
    · have := dfN_step hx n (by omega)
      rw [show updQ X i (T i) n = X n from if_neg (by omega)]
      omega
theorem mv_next {T F : Nat → Int} {n k i : Nat} (hA : MvAll T F n k) (hi : IsNx T (mvS T F n k) n i) (hd : k + dfN T (mvS T F n k) n ≤ n) :
    MvAll T F n (k + 1) ∧ mvL T F n k = (i : Int) ∧ mvS T F n (k + 1) = updQ (mvS T F n k) i (T i) ∧ k + 1 + dfN T (mvS T F n (k + 1)) n ≤ n := by
  have e := nxM_is hi
  have e2 : mvS T F n (k + 1) = updQ (mvS T F n k) i (T i) := by rw [mvS, e]
  refine ⟨fun j hj => ?_, by unfold mvL; rw [e], e2, ?_⟩
  · by_cases h : j = k
    · subst h; exact ⟨i, hi⟩
    · exact hA j (by omega)
  · rw [e2]
    have := dfN_step (T := T) (X := mvS T F n k) (hi.2.1 i hi.1) n hi.1
    omega
theorem mv_same {T X : Nat → Int} {n : Nat} (h : ∀ i, i < n → X i = T i) : ∀ i, i < n → ¬ MvOk T X n i := fun i hi hm => hm i hi (h i hi)
def lenQ : Value → Nat
  | .slice _ n _ => n
  | _ => 0
/-- The row under way: in a block of the call's own below a bound. -/
def NowQ (lo hi : Nat) (A : Option Addr) (n : Nat) (X : Nat → Int) (w : World) : Prop := 0 < n → ∃ g, A = some ⟨g, 0, none⟩ ∧ lo ≤ g ∧ g < hi ∧ ORow w g n X
theorem nowQ_of {w : World} {lo n c : Nat} {A : Option Addr} {X : Nat → Int} (h : w.ownsRow lo 3 1 (.slice A n c) n (vals (intV X) n)) : NowQ lo w.heap.size A n X w := fun hn => by
  rcases owned_vec h with e | ⟨g, e, hg, ho⟩
  · omega
  · exact ⟨g, e, hg, ho.lt, show ORow w g n X from ho⟩
theorem NowQ.row {w : World} {lo hi n : Nat} {A : Option Addr} {X : Nat → Int} (h : NowQ lo hi A n X w) : IRow w A n X := fun hn => by
  obtain ⟨g, e, _, _, ho⟩ := h hn
  subst e
  exact ho.row hn
theorem NowQ.b {w w' : World} {lo hi n : Nat} {A : Option Addr} {X : Nat → Int} (h : NowQ lo hi A n X w) (hb : Below w.heap.size w w') : NowQ lo hi A n X w' := fun hn => by
  obtain ⟨g, e, h1, h2, ho⟩ := h hn
  exact ⟨g, e, h1, h2, ho.b hb⟩
theorem NowQ.grown {w w' : World} {lo hi n B k : Nat} {A : Option Addr} {X : Nat → Int} {e : TypeId} {v : Value} {xs : List Value} (h : NowQ lo hi A n X w) (ho : w.ownsRow B e 1 v k xs) (hB : hi ≤ B) (hg : w.grownBy w' v.ownBlock) : NowQ lo hi A n X w' := fun hn => by
  obtain ⟨g, e, h1, h2, hr⟩ := h hn
  exact ⟨g, e, h1, h2, hr.grown hg (fun h => by have := (ho.lt g h.symm).1; omega)⟩
/-- What the moves answer. -/
def MvIs (T F : Nat → Int) (n : Nat) (w : World) (e : Ending) (w' : World) : Prop :=
  ∃ k, MvEnd T F n k ∧ k ≤ n ∧ Below w.heap.size w w' ∧
    (((∀ i, i < n → mvS T F n k i = T i) ∧ ∃ A c, e = .returned (.tuple #[.slice A k c, .bool true]) ∧ w'.ownsRow w.heap.size 3 1 (.slice A k c) k (vals (intV (mvL T F n)) k)) ∨
      (¬ (∀ i, i < n → mvS T F n k i = T i) ∧ e = .returned (.tuple #[.slice none 0 0, .bool false])))
set_option maxRecDepth 100000 in
set_option maxHeartbeats 1000000 in
theorem spec_l1OwnQ (A : Option Addr) (n c : Nat) (X : Nat → Int) (w : World) (hn : n ≤ 4096) (hr : IRow w A n X) :
    Calls Try.prog 91 #[.slice A n c] w fun e w' => ∃ A' c', e = .returned (.slice A' n c') ∧ w'.ownsRow w.heap.size 3 1 (.slice A' n c') n (vals (intV X) n) ∧ Below w.heap.size w w' := by
  have HR := Lib.hid (hr.b ((Below.refl _ _).alloc (Nat.le_refl _) (.cells #[] 3)))
  have HO := Lib.hid (World.ownsRow_made (e := 3) (size := 1) w #[] 0 (Nat.le_refl _) (by simp [maxLen]) (by simp))
  clear hr
  go_enter Try.func91, Try.ntmps91
  go_wp2_with (at_builtin; refine wpList_append_vals rfl _ _ 26 rfl w.heap.size 3 (.int .i64 0) 8 Try.underlying26 infoI rfl (F := intV X) (G := intV X) rfl rfl HO.out HR.out (fun _ _ => rfl) (by omega) (by omega) (by simp) ?_)
  intro A' c' w' hown hb
  have HO2 := Lib.hid hown
  have HB := Lib.hid (((Below.refl w.heap.size w).alloc (Nat.le_refl _) (.cells #[] 3)).trans hb)
  clear hown hb
  go_wp2_with fail
  go_ret
  refine ⟨A', c', by first | rfl | (rw [Nat.zero_add]), ?_, HB.out⟩
  have h := HO2.out
  rw [vals_congr (F := catV (intV X) (intV X) 0) (G := intV X) (fun i _ => by unfold catV; simp)] at h
  exact h
set_option maxRecDepth 100000 in
set_option maxHeartbeats 1000000 in
theorem clone_intsQ (A : Option Addr) (n c : Nat) (X : Nat → Int) (w : World) (hn : n ≤ 4096) (hr : IRow w A n X) :
    Calls Try.prog 94 #[.slice A n c] w fun e w' => ∃ A' c', e = .returned (.slice A' n c') ∧ w'.ownsRow w.heap.size 3 1 (.slice A' n c') n (vals (intV X) n) ∧ Below w.heap.size w w' := by
  have hnil : ∀ W, (binOp .eql 26 (.slice A n c) (.slice none 0 0)).run Try.prog W = .ok (.bool A.isNone) W := fun W => Lib.run_eql_slice_nil W _ _ A n c 0 0 Try.underlying26
  cases A with
  | none =>
    have h0 : n = 0 := by
      rcases Nat.eq_zero_or_pos n with h | h
      · exact h
      · obtain ⟨_, _, hA, _⟩ := hr h; cases hA
    subst h0
    simp only [Option.isNone_none] at hnil
    clear hr
    go_enter Try.func94, Try.ntmps94
    go_wp2_with fail
    go_ret
    exact ⟨none, 0, rfl, World.ownsRow_nil _ _ _ _, Below.refl _ _⟩
  | some a =>
    simp only [Option.isNone_some] at hnil
    have HR := Lib.hid (hr.b ((Below.refl _ _).alloc (Nat.le_refl _) (.cells #[] 3)))
    have HO := Lib.hid (World.ownsRow_made (e := 3) (size := 1) w #[] 0 (Nat.le_refl _) (by simp [maxLen]) (by simp))
    clear hr
    go_enter Try.func94, Try.ntmps94
    go_wp2_with (at_builtin; refine wpList_append_vals rfl _ _ 26 rfl w.heap.size 3 (.int .i64 0) 8 Try.underlying26 infoI rfl (F := intV X) (G := intV X) rfl rfl HO.out HR.out (fun _ _ => rfl) (by omega) (by omega) (by simp) ?_)
    intro A' c' w' hown hb
    have HO2 := Lib.hid hown
    have HB := Lib.hid (((Below.refl w.heap.size w).alloc (Nat.le_refl _) (.cells #[] 3)).trans hb)
    clear hown hb
    go_wp2_with fail
    go_ret
    refine ⟨A', c', by first | rfl | (rw [Nat.zero_add]), ?_, HB.out⟩
    have h := HO2.out
    rw [vals_congr (F := catV (intV X) (intV X) 0) (G := intV X) (fun i _ => by unfold catV; simp)] at h
    exact h
end Go.Proofs.Ytfjimjbndkhkcaa
