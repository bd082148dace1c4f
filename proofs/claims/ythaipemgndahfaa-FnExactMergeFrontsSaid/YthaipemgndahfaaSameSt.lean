/- Two lists of strings compared: the library's way and the model's. -/
import Derived.Test.YthaipemgndahfaaRead
import Derived.Test.YthaipemgndahfaaStrP
import Derived.Deep.QuietTactic
namespace Go.Proofs.Ythaipemgndahfaa
open Go.RowKit

def SameSt (n : Nat) (X : Nat → ByteArray) (m : Nat) (Y : Nat → ByteArray) : Prop := n = m ∧ ∀ i, i < n → X i = Y i

set_option maxRecDepth 100000 in
set_option maxHeartbeats 1000000 in
theorem slices_equalS (A B : Option Addr) (n c m d : Nat) (X Y : Nat → ByteArray) (w : World) (hn : n ≤ 1048576) (hm : m ≤ 1048576) (hx : GRow w A n (strV X)) (hy : GRow w B m (strV Y)) :
    Calls Try.prog 71 #[.slice A n c, .slice B m d] w (BoolIs (SameSt n X m Y) w) := by
  have HX := Lib.hid hx
  have HY := Lib.hid hy
  clear hx hy
  by_cases e : n = m
  · subst e
    go_enter Try.func71, Try.ntmps71
    go_wp2_with fail
    go_loopw [13] (fun i wr => ∃ k : Nat, k ≤ n ∧ i = .int .i64 k ∧ Hid (∀ j, j < k → X j = Y j) ∧ Below w.heap.size w wr) (fun i _ => n - (intOf i).toNat)
    case atStart => exact ⟨0, Nat.zero_le _, rfl, fun j h => absurd h (by omega), Below.refl _ _⟩
    case round =>
      obtain ⟨k, hk, rfl, hs, hb⟩ := hrel
      have HB := Lib.hid hb
      by_cases hlt : k < n
      · obtain ⟨b1, o1, rfl, _, hc1⟩ := HX.out.below hb (Nat.le_refl _) (by omega)
        obtain ⟨b2, o2, rfl, _, hc2⟩ := HY.out.below hb (Nat.le_refl _) (by omega)
        have h1 : wr.cell? ⟨b1, o1 + k, none⟩ = some (.string (X k)) := hc1 k hlt
        have h2 : wr.cell? ⟨b2, o2 + k, none⟩ = some (.string (Y k)) := hc2 k hlt
        have q1 : (k : Int) < (n : Int) := by omega
        have q2 : 0 ≤ (k : Int) := by omega
        have hbd : ∀ nq, Below wr.heap.size wr (wr.drewN nq) := fun nq => below_drewN (Below.refl _ _) nq
        clear hc1 hc2 hb
        by_cases e : X k = Y k
        · have e2 : ((X k).toList == (Y k).toList) = true := by simp [e]
          have e3 : ((X k).toList != (Y k).toList) = false := by simp [e]
          go_wp2_with fail
          go_quiet (fail)
          go_wp2_with fail
          go_roundw
          case rel => exact ⟨k + 1, by omega, by go_num, fun j hj => (by
            by_cases e4 : j = k
            · rw [e4]; exact e
            · exact hs.out j (by omega)), HB.out.trans ((hbd _).mono HB.out.size)⟩
          case measure => simp [intOf]; omega
        · have e2 : ((X k).toList == (Y k).toList) = false := by rw [beq_eq_false_iff_ne]; exact fun h => e (ba_ext (by rw [← ba_toList, ← ba_toList]; exact h))
          have e3 : ((X k).toList != (Y k).toList) = true := by rw [bne, e2]; rfl
          have HNO := Lib.hid e
          clear e
          go_wp2_with fail
          go_quiet (fail)
          go_wp2_with fail
          go_ret
          exact ⟨false, rfl, by simp only [Bool.false_eq_true, false_iff]; exact fun h => HNO.out (h.2 k hlt), HB.out.trans ((hbd _).mono HB.out.size)⟩
      · obtain rfl : k = n := by omega
        clear hb
        go_wp2_with fail
        go_ret
        exact ⟨true, rfl, by simp only [true_iff]; exact ⟨rfl, hs.out⟩, HB.out⟩
  · have e2 : ((n : Int) != (m : Int)) = true := by simp; omega
    have HE := Lib.hid e
    clear e
    go_enter Try.func71, Try.ntmps71
    go_wp2_with fail
    go_ret
    exact ⟨false, rfl, by simp only [Bool.false_eq_true, false_iff]; exact fun h => HE.out h.1, Below.refl _ _⟩

set_option maxRecDepth 100000 in
set_option maxHeartbeats 1000000 in
theorem spec_l1SameS (A B : Option Addr) (n c m d : Nat) (X Y : Nat → ByteArray) (w : World) (hn : n ≤ 1048576) (hm : m ≤ 1048576) (hx : GRow w A n (strV X)) (hy : GRow w B m (strV Y)) :
    Calls Try.prog 69 #[.slice A n c, .slice B m d] w (BoolIs (SameSt n X m Y) w) := by
  have HX := Lib.hid hx
  have HY := Lib.hid hy
  clear hx hy
  by_cases e : n = m
  · subst e
    go_enter Try.func69, Try.ntmps69
    go_wp2_with fail
    go_loopw [13] (fun i wr => ∃ k : Nat, k ≤ n ∧ i = .int .i64 k ∧ Hid (∀ j, j < k → X j = Y j) ∧ Below w.heap.size w wr) (fun i _ => n - (intOf i).toNat)
    case atStart => exact ⟨0, Nat.zero_le _, rfl, fun j h => absurd h (by omega), Below.refl _ _⟩
    case round =>
      obtain ⟨k, hk, rfl, hs, hb⟩ := hrel
      have HB := Lib.hid hb
      by_cases hlt : k < n
      · obtain ⟨b1, o1, rfl, _, hc1⟩ := HX.out.below hb (Nat.le_refl _) (by omega)
        obtain ⟨b2, o2, rfl, _, hc2⟩ := HY.out.below hb (Nat.le_refl _) (by omega)
        have h1 : wr.cell? ⟨b1, o1 + k, none⟩ = some (.string (X k)) := hc1 k hlt
        have h2 : wr.cell? ⟨b2, o2 + k, none⟩ = some (.string (Y k)) := hc2 k hlt
        have q1 : (k : Int) < (n : Int) := by omega
        have q2 : 0 ≤ (k : Int) := by omega
        have hbd : ∀ nq, Below wr.heap.size wr (wr.drewN nq) := fun nq => below_drewN (Below.refl _ _) nq
        clear hc1 hc2 hb
        by_cases e : X k = Y k
        · have e2 : ((X k).toList == (Y k).toList) = true := by simp [e]
          have e3 : ((X k).toList != (Y k).toList) = false := by simp [e]
          go_wp2_with fail
          go_quiet (fail)
          go_wp2_with fail
          go_roundw
          case rel => exact ⟨k + 1, by omega, by go_num, fun j hj => (by
            by_cases e4 : j = k
            · rw [e4]; exact e
            · exact hs.out j (by omega)), HB.out.trans ((hbd _).mono HB.out.size)⟩
          case measure => simp [intOf]; omega
        · have e2 : ((X k).toList == (Y k).toList) = false := by rw [beq_eq_false_iff_ne]; exact fun h => e (ba_ext (by rw [← ba_toList, ← ba_toList]; exact h))
          have e3 : ((X k).toList != (Y k).toList) = true := by rw [bne, e2]; rfl
          have HNO := Lib.hid e
          clear e
          go_wp2_with fail
          go_quiet (fail)
          go_wp2_with fail
          go_ret
          exact ⟨false, rfl, by simp only [Bool.false_eq_true, false_iff]; exact fun h => HNO.out (h.2 k hlt), HB.out.trans ((hbd _).mono HB.out.size)⟩
      · obtain rfl : k = n := by omega
        clear hb
        go_wp2_with fail
        go_ret
        exact ⟨true, rfl, by simp only [true_iff]; exact ⟨rfl, hs.out⟩, HB.out⟩
  · have e2 : ((n : Int) != (m : Int)) = true := by simp; omega
    have HE := Lib.hid e
    clear e
    go_enter Try.func69, Try.ntmps69
    go_wp2_with fail
    go_ret
    exact ⟨false, rfl, by simp only [Bool.false_eq_true, false_iff]; exact fun h => HE.out h.1, Below.refl _ _⟩
end Go.Proofs.Ythaipemgndahfaa
