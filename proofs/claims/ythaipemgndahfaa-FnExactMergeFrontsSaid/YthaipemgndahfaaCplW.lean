/- What two strings have in common at their beginning, counted: both sides. -/
import Derived.Test.YthaipemgndahfaaFrM
import Derived.Deep.QuietTactic
namespace Go.Proofs.Ythaipemgndahfaa
open Go.RowKit

theorem ba_at {x : ByteArray} {k : Nat} (h : k < x.size) : x.data.toList[k]? = some x[k] := by
  rw [Array.getElem?_toList, Array.getElem?_eq_getElem (by simpa using h)]
  rfl
abbrev cplB (x y : ByteArray) : Nat := cpl x.data.toList y.data.toList
theorem cplB_le (x y : ByteArray) : cplB x y ≤ x.size ∧ cplB x y ≤ y.size := by simpa using cpl_le x.data.toList y.data.toList
theorem cplB_at {x y : ByteArray} {k : Nat} (h : k < cplB x y) (h1 : k < x.size) (h2 : k < y.size) : x[k] = y[k] := by
  have := cpl_at h
  rw [ba_at h1, ba_at h2] at this
  exact Option.some.inj this
theorem cplB_stop {x y : ByteArray} {k : Nat} (hk : k = cplB x y) (h1 : k < x.size) (h2 : k < y.size) : x[k] ≠ y[k] := fun e => by
  subst hk
  have := cpl_stop (x := x.data.toList) (y := y.data.toList) (by simpa using h1) (by simpa using h2)
  rw [ba_at h1, ba_at h2, e] at this
  exact this rfl
section
variable (x y : ByteArray) (w : World)
set_option maxRecDepth 100000 in
set_option maxHeartbeats 1000000 in
theorem spec_trCommon (hx : x.size ≤ maxLen) (_hy : y.size ≤ maxLen) : Calls Try.prog 66 #[.string x, .string y] w fun e w' => e = .returned (.int .i64 (cplB x y)) ∧ Below w.heap.size w w' := by
  unfold maxLen at hx
  have hle := cplB_le x y
  obtain ⟨c, hc⟩ : ∃ c, c = cplB x y := ⟨_, rfl⟩
  rw [← hc] at hle
  have HC := Lib.hid hc
  rw [← hc]
  clear hc
  go_enter Try.func66, Try.ntmps66
  go_wp2_with fail
  go_loopw [5] (fun i wr => ∃ q : Nat, q ≤ c ∧ i = .int .i64 q ∧ Below w.heap.size w wr) (fun i _ => c - (intOf i).toNat)
  case atStart => exact ⟨0, Nat.zero_le _, rfl, Below.refl _ _⟩
  case round =>
    obtain ⟨q, hq, rfl, hb⟩ := hrel
    have HB := Lib.hid hb
    have hbd : ∀ nq, Below wr.heap.size wr (wr.drewN nq) := fun nq => below_drewN (Below.refl _ _) nq
    clear hb
    by_cases hlt : q < c
    · have h1 : q < x.size := by omega
      have h2 : q < y.size := by omega
      have h3 := cplB_at (x := x) (y := y) (k := q) (by rw [← HC.out]; exact hlt) h1 h2
      have d1 : decide ((q : Int) < (x.size : Int)) = true := by simp; omega
      have d2 : decide ((q : Int) < (y.size : Int)) = true := by simp; omega
      go_wp2_with fail
      go_quiet (fail)
      go_wp2_with fail
      go_roundw
      case rel => exact ⟨q + 1, by omega, by go_num, HB.out.trans ((hbd _).mono HB.out.size)⟩
      case measure => simp [intOf]; omega
    · obtain rfl : q = c := by omega
      have HBD := Lib.hid (fun nq => HB.out.trans ((hbd nq).mono HB.out.size))
      clear hbd HB
      by_cases h1 : q < x.size
      · have d1 : decide ((q : Int) < (x.size : Int)) = true := by simp; omega
        by_cases h2 : q < y.size
        · have d2 : decide ((q : Int) < (y.size : Int)) = true := by simp; omega
          have h3 := cplB_stop HC.out h1 h2
          have d3 : ((x[q].toNat : Int) == (y[q].toNat : Int)) = false := by
            rw [beq_eq_false_iff_ne]; intro h; exact h3 (UInt8.toNat_inj.1 (by omega))
          clear h3
          go_wp2_with fail
          go_quiet (fail)
          go_wp2_with fail
          go_ret
          exact ⟨rfl, HBD.out _⟩
        · have d2 : decide ((q : Int) < (y.size : Int)) = false := by simp; omega
          go_wp2_with fail
          go_quiet (fail)
          go_wp2_with fail
          go_ret
          exact ⟨rfl, HBD.out _⟩
      · have d1 : decide ((q : Int) < (x.size : Int)) = false := by simp; omega
        go_wp2_with fail
        go_quiet (fail)
        go_wp2_with fail
        go_ret
        exact ⟨rfl, HBD.out _⟩
set_option maxRecDepth 100000 in
set_option maxHeartbeats 1000000 in
theorem impl_commonBytes (hx : x.size ≤ maxLen) (_hy : y.size ≤ maxLen) : Calls Try.prog 43 #[.string x, .string y] w fun e w' => e = .returned (.int .i64 (cplB x y)) ∧ Below w.heap.size w w' := by
  unfold maxLen at hx
  have hle := cplB_le x y
  obtain ⟨c, hc⟩ : ∃ c, c = cplB x y := ⟨_, rfl⟩
  rw [← hc] at hle
  have HC := Lib.hid hc
  rw [← hc]
  clear hc
  go_enter Try.func43, Try.ntmps43
  go_wp2_with fail
  go_loopw [5] (fun i wr => ∃ q : Nat, q ≤ c ∧ i = .int .i64 q ∧ Below w.heap.size w wr) (fun i _ => c - (intOf i).toNat)
  case atStart => exact ⟨0, Nat.zero_le _, rfl, Below.refl _ _⟩
  case round =>
    obtain ⟨q, hq, rfl, hb⟩ := hrel
    have HB := Lib.hid hb
    have hbd : ∀ nq, Below wr.heap.size wr (wr.drewN nq) := fun nq => below_drewN (Below.refl _ _) nq
    clear hb
    by_cases hlt : q < c
    · have h1 : q < x.size := by omega
      have h2 : q < y.size := by omega
      have h3 := cplB_at (x := x) (y := y) (k := q) (by rw [← HC.out]; exact hlt) h1 h2
      have d1 : decide ((q : Int) < min (x.size : Int) (y.size : Int)) = true := by simp; omega
      go_wp2_with fail
      go_quiet (fail)
      go_wp2_with fail
      go_roundw
      case rel => exact ⟨q + 1, by omega, by go_num, HB.out.trans ((hbd _).mono HB.out.size)⟩
      case measure => simp [intOf]; omega
    · obtain rfl : q = c := by omega
      have HBD := Lib.hid (fun nq => HB.out.trans ((hbd nq).mono HB.out.size))
      clear hbd HB
      by_cases h1 : q < x.size
      · by_cases h2 : q < y.size
        · have dm : decide ((q : Int) < min (x.size : Int) (y.size : Int)) = true := by simp; omega
          have h3 := cplB_stop HC.out h1 h2
          have d3 : ((x[q].toNat : Int) == (y[q].toNat : Int)) = false := by
            rw [beq_eq_false_iff_ne]; intro h; exact h3 (UInt8.toNat_inj.1 (by omega))
          clear h3
          go_wp2_with fail
          go_quiet (fail)
          go_wp2_with fail
          go_ret
          exact ⟨rfl, HBD.out _⟩
        · have dm : decide ((q : Int) < min (x.size : Int) (y.size : Int)) = false := by simp; omega
          go_wp2_with fail
          go_quiet (fail)
          go_wp2_with fail
          go_ret
          exact ⟨rfl, HBD.out _⟩
      · have dm : decide ((q : Int) < min (x.size : Int) (y.size : Int)) = false := by simp; omega
        go_wp2_with fail
        go_quiet (fail)
        go_wp2_with fail
        go_ret
        exact ⟨rfl, HBD.out _⟩
end
end Go.Proofs.Ythaipemgndahfaa
