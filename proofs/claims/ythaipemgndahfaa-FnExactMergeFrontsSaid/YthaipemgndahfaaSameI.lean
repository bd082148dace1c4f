/- Two lists of ints compared: the library's way and the model's. -/
import Derived.Test.YthaipemgndahfaaRead
import Derived.Deep.QuietTactic
namespace Go.Proofs.Ythaipemgndahfaa
open Go.RowKit

def SameI (n : Nat) (X : Nat → Int) (m : Nat) (Y : Nat → Int) : Prop := n = m ∧ ∀ i, i < n → X i = Y i

set_option maxRecDepth 100000 in
set_option maxHeartbeats 1000000 in
theorem slices_equal (A B : Option Addr) (n c m d : Nat) (X Y : Nat → Int) (w : World) (hn : n ≤ 1048576) (hm : m ≤ 1048576) (hx : IRow w A n X) (hy : IRow w B m Y) :
    Calls Try.prog 70 #[.slice A n c, .slice B m d] w (BoolIs (SameI n X m Y) w) := by
  have HX := Lib.hid hx
  have HY := Lib.hid hy
  clear hx hy
  by_cases e : n = m
  · subst e
    go_enter Try.func70, Try.ntmps70
    go_wp2_with fail
    go_loopw [13] (fun i wr => ∃ k : Nat, k ≤ n ∧ i = .int .i64 k ∧ Hid (∀ j, j < k → X j = Y j) ∧ Below w.heap.size w wr) (fun i _ => n - (intOf i).toNat)
    case atStart => exact ⟨0, Nat.zero_le _, rfl, fun j h => absurd h (by omega), Below.refl _ _⟩
    case round =>
      obtain ⟨k, hk, rfl, hs, hb⟩ := hrel
      have HB := Lib.hid hb
      by_cases hlt : k < n
      · obtain ⟨b1, o1, rfl, _, hc1⟩ := HX.out.below hb (Nat.le_refl _) (by omega)
        obtain ⟨b2, o2, rfl, _, hc2⟩ := HY.out.below hb (Nat.le_refl _) (by omega)
        have h1 := hc1 k hlt
        have h2 := hc2 k hlt
        have q1 : (k : Int) < (n : Int) := by omega
        have q2 : 0 ≤ (k : Int) := by omega
        have hbd : ∀ nq, Below wr.heap.size wr (wr.drewN nq) := fun nq => below_drewN (Below.refl _ _) nq
        clear hc1 hc2 hb
        by_cases e : X k = Y k
        · have e2 : (X k != Y k) = false := by simp [e]
          go_wp2_with fail
          go_quiet (fail)
          go_wp2_with fail
          go_roundw
          case rel => exact ⟨k + 1, by omega, by go_num, fun j hj => (by
            by_cases e3 : j = k
            · rw [e3]; exact e
            · exact hs.out j (by omega)), HB.out.trans ((hbd _).mono HB.out.size)⟩
          case measure => simp [intOf]; omega
        · have e2 : (X k != Y k) = true := by simpa using e
          have HNO := Lib.hid e
          clear e
          go_wp2_with fail
          go_quiet (fail)
          go_wp2_with fail
          go_ret
          exact ⟨false, rfl, by simp only [Bool.false_eq_true, false_iff]; exact fun h => HNO.out (h.2 k hlt), HB.out.trans ((hbd _).mono HB.out.size)⟩
      · obtain rfl : k = n := by omega
        clear hb
        go_wp2_with fail
        go_ret
        exact ⟨true, rfl, by simp only [true_iff]; exact ⟨rfl, hs.out⟩, HB.out⟩
  · have e2 : ((n : Int) != (m : Int)) = true := by simp; omega
    have HE := Lib.hid e
    clear e
    go_enter Try.func70, Try.ntmps70
    go_wp2_with fail
    go_ret
    exact ⟨false, rfl, by simp only [Bool.false_eq_true, false_iff]; exact fun h => HE.out h.1, Below.refl _ _⟩

set_option maxRecDepth 100000 in
set_option maxHeartbeats 1000000 in
theorem spec_l1Same (A B : Option Addr) (n c m d : Nat) (X Y : Nat → Int) (w : World) (hn : n ≤ 1048576) (hm : m ≤ 1048576) (hx : IRow w A n X) (hy : IRow w B m Y) :
    Calls Try.prog 68 #[.slice A n c, .slice B m d] w (BoolIs (SameI n X m Y) w) := by
  have HX := Lib.hid hx
  have HY := Lib.hid hy
  clear hx hy
  by_cases e : n = m
  · subst e
    go_enter Try.func68, Try.ntmps68
    go_wp2_with fail
    go_loopw [13] (fun i wr => ∃ k : Nat, k ≤ n ∧ i = .int .i64 k ∧ Hid (∀ j, j < k → X j = Y j) ∧ Below w.heap.size w wr) (fun i _ => n - (intOf i).toNat)
    case atStart => exact ⟨0, Nat.zero_le _, rfl, fun j h => absurd h (by omega), Below.refl _ _⟩
    case round =>
      obtain ⟨k, hk, rfl, hs, hb⟩ := hrel
      have HB := Lib.hid hb
      by_cases hlt : k < n
      · obtain ⟨b1, o1, rfl, _, hc1⟩ := HX.out.below hb (Nat.le_refl _) (by omega)
        obtain ⟨b2, o2, rfl, _, hc2⟩ := HY.out.below hb (Nat.le_refl _) (by omega)
        have h1 := hc1 k hlt
        have h2 := hc2 k hlt
        have q1 : (k : Int) < (n : Int) := by omega
        have q2 : 0 ≤ (k : Int) := by omega
        have hbd : ∀ nq, Below wr.heap.size wr (wr.drewN nq) := fun nq => below_drewN (Below.refl _ _) nq
        clear hc1 hc2 hb
        by_cases e : X k = Y k
        · have e2 : (X k != Y k) = false := by simp [e]
          go_wp2_with fail
          go_quiet (fail)
          go_wp2_with fail
          go_roundw
          case rel => exact ⟨k + 1, by omega, by go_num, fun j hj => (by
            by_cases e3 : j = k
            · rw [e3]; exact e
            · exact hs.out j (by omega)), HB.out.trans ((hbd _).mono HB.out.size)⟩
          case measure => simp [intOf]; omega
        · have e2 : (X k != Y k) = true := by simpa using e
          have HNO := Lib.hid e
          clear e
          go_wp2_with fail
          go_quiet (fail)
          go_wp2_with fail
          go_ret
          exact ⟨false, rfl, by simp only [Bool.false_eq_true, false_iff]; exact fun h => HNO.out (h.2 k hlt), HB.out.trans ((hbd _).mono HB.out.size)⟩
      · obtain rfl : k = n := by omega
        clear hb
        go_wp2_with fail
        go_ret
        exact ⟨true, rfl, by simp only [true_iff]; exact ⟨rfl, hs.out⟩, HB.out⟩
  · have e2 : ((n : Int) != (m : Int)) = true := by simp; omega
    have HE := Lib.hid e
    clear e
    go_enter Try.func68, Try.ntmps68
    go_wp2_with fail
    go_ret
    exact ⟨false, rfl, by simp only [Bool.false_eq_true, false_iff]; exact fun h => HE.out h.1, Below.refl _ _⟩
end Go.Proofs.Ythaipemgndahfaa
