/- Whether a list of strings has a string: slices.Contains and the model's. Lists of those that a test picks out. Texts. -/
import Derived.Test.YthaipemgndahfaaKeyRow
import Derived.Test.YthaipemgndahfaaApp
import Derived.Test.YthaipemgndahfaaObj
namespace Go.Proofs.Ythaipemgndahfaa
open Go.RowKit

theorem bs_ext {a b : ByteArray} (h : a.data.toList = b.data.toList) : a = b := by
  cases a; cases b
  congr
  exact Array.toList_inj.1 h
theorem bs_toList (s : ByteArray) : s.toList = s.data.toList := by
  exact Lib.toList_data s
theorem bs_beq {a b : ByteArray} : (a.toList == b.toList) = decide (a = b) := by
  rw [bs_toList, bs_toList, Bool.eq_iff_iff]
  simp only [beq_iff_eq, decide_eq_true_eq]
  exact ⟨bs_ext, fun h => by rw [h]⟩
section
variable {A : Option Addr} {n c : Nat} {S : Nat → ByteArray} {x : ByteArray} {w : World}
set_option maxRecDepth 100000 in
set_option maxHeartbeats 1000000 in
theorem spec_l1HasS {r : Bool} (hr0 : r = true ↔ ∃ i, i < n ∧ S i = x) (hn : n ≤ 1048576) (hr : GRow w A n (strV S)) :
    Calls Try.prog 55 #[.slice A n c, .string x] w fun e w' => e = .returned (.bool r) ∧ w = w' := by
  have HR := Lib.hid hr
  have HR0 := Lib.hid hr0
  clear hr hr0
  go_enter Try.func55, Try.ntmps55
  go_wp2_with fail
  go_loop [9] (fun i => ∃ q : Nat, q ≤ n ∧ i = .int .i64 q ∧ Hid (∀ j, j < q → S j ≠ x)) (fun i => n - (intOf i).toNat)
  case atStart => exact ⟨0, Nat.zero_le _, rfl, Lib.hid (fun j hj => absurd hj (Nat.not_lt_zero _))⟩
  case round =>
    obtain ⟨q, hq, rfl, HN⟩ := hrel
    by_cases hlt : q < n
    · obtain ⟨b, off, rfl, hbl, hcc⟩ := HR.out (by omega)
      have hx : w.cell? ⟨b, off + q, none⟩ = some (.string (S q)) := hcc q hlt
      clear hcc
      by_cases he : S q = x
      · have d1 : ((S q).toList == x.toList) = true := by rw [bs_beq]; simpa using he
        obtain rfl : r = true := HR0.out.2 ⟨q, hlt, he⟩
        clear he
        go_wp2_with fail
        go_ret
        exact ⟨rfl, rfl⟩
      · have d1 : ((S q).toList == x.toList) = false := by rw [bs_beq]; simpa using he
        have HN2 := Lib.hid (show ∀ j, j < q + 1 → S j ≠ x from fun j hj => by
          by_cases e : j = q
          · subst e; exact he
          · exact HN.out j (by omega))
        clear he
        go_wp2_with fail
        go_round
        case rel => exact ⟨q + 1, by omega, by go_num, HN2⟩
        case measure => simp [intOf]; omega
    · obtain rfl : q = n := by omega
      obtain rfl : r = false := by
        cases r
        · rfl
        · obtain ⟨i, hi, he⟩ := HR0.out.1 rfl
          exact absurd he (HN.out i hi)
      go_wp2_with fail
      go_ret
      exact ⟨rfl, rfl⟩
end
open Classical in
/-- Whether one of n strings is x. -/
noncomputable def hasZ (S : Nat → ByteArray) (n : Nat) (x : ByteArray) : Bool := decide (∃ i, i < n ∧ S i = x)
theorem hasZ_iff {S : Nat → ByteArray} {n : Nat} {x : ByteArray} : hasZ S n x = true ↔ ∃ i, i < n ∧ S i = x := by unfold hasZ; rw [decide_eq_true_eq]
/-- The numbers below k that a test picks out, increasing. -/
def flL (T : Nat → Bool) : Nat → List Nat
  | 0 => []
  | k + 1 => if T k = true then flL T k ++ [k] else flL T k
theorem flL_yes {T : Nat → Bool} {k : Nat} (h : T k = true) : flL T (k + 1) = flL T k ++ [k] := by rw [flL, if_pos h]
theorem flL_no {T : Nat → Bool} {k : Nat} (h : T k = false) : flL T (k + 1) = flL T k := by rw [flL, if_neg (by simp [h])]
theorem flL_len (T : Nat → Bool) : ∀ k, (flL T k).length ≤ k
  | 0 => Nat.le_refl _
  | k + 1 => by
    have := flL_len T k
    rw [flL]; split
    · simp; omega
    · omega
/-- A list of numbers as a row. -/
def lstW (L : List Nat) (t : Nat) : Int := ((L.getD t 0 : Nat) : Int)
theorem lstW_old (L : List Nat) (x t : Nat) (h : t < L.length) : lstW (L ++ [x]) t = lstW L t := by
  unfold lstW
  rw [List.getD_eq_getElem?_getD, List.getD_eq_getElem?_getD, List.getElem?_append_left h]
theorem lstW_new (L : List Nat) (x : Nat) : lstW (L ++ [x]) L.length = (x : Int) := by
  unfold lstW
  rw [List.getD_eq_getElem?_getD, List.getElem?_append_right (Nat.le_refl _)]; simp
theorem push_lsw {w : World} {B : Nat} {A : Option Addr} {k1 x : Nat} {L : List Nat} (h : w.ownsRow B 3 1 (.slice A L.length k1) L.length (vals (intV (lstW L)) L.length)) :
    w.ownsRow B 3 1 (.slice A L.length k1) L.length (vals (intV (lstW (L ++ [x]))) L.length) := by
  rwa [vals_congr (F := intV (lstW (L ++ [x]))) (G := intV (lstW L)) (fun i hi => by unfold intV; rw [lstW_old L x i hi])]
/-- Whether strings are texts. -/
def txB (S : Nat → ByteArray) : Nat → Bool
  | 0 => true
  | k + 1 => txB S k && isKeyB (S k).data.toList
theorem txB_no {S : Nat → ByteArray} {j : Nat} (h : isKeyB (S j).data.toList = false) : ∀ m, j < m → txB S m = false
  | 0, hj => absurd hj (by omega)
  | m + 1, hj => by
    rw [txB]
    by_cases e : j = m
    · subst e; rw [h, Bool.and_false]
    · rw [txB_no h m (by omega), Bool.false_and]
def textsB (S : Nat → ByteArray) (n : Nat) : Bool := decide (n ≤ 300) && txB S n
theorem textsB_size {S : Nat → ByteArray} {n : Nat} (h : textsB S n = true) : n ≤ 300 := by
  unfold textsB at h; simp only [Bool.and_eq_true, decide_eq_true_eq] at h; exact h.1
section
variable {A : Option Addr} {n c : Nat} {S : Nat → ByteArray} {w : World}
end
end Go.Proofs.Ythaipemgndahfaa
