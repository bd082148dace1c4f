/- Questions to a Sparse: both ways. -/
import Derived.Test.YtdkkflejpcgipaaListV
import Derived.Test.YtdkkflejpcgipaaBinS
namespace Go.Proofs.Ytdkkflejpcgipaa
open Go.RowKit

theorem SpN.srt {c L w : Nat} {f : Nat → Nat} (h : SpN c L w f) : SrtN c (numI f) := fun i j hij hj => by unfold numI; have := h.mono hij hj; omega
def HasIs (n : Nat) (X : Nat → Int) (x : Int) (w : World) (e : Ending) (w' : World) : Prop := ∃ b : Bool, e = .returned (.bool b) ∧ (b = true ↔ ∃ i, i < n ∧ X i = x) ∧ w = w'
set_option maxHeartbeats 400000 in
theorem spec_l1Has (A : Option Addr) (n c : Nat) (X : Nat → Int) (x : Int) (w : World) (hn : n ≤ 1048576) (hr : IRow w A n X) : Calls Try.prog 72 #[.slice A n c, .int .i64 x] w (HasIs n X x w) := by
  have HR := Lib.hid hr
  clear hr
  go_enter Try.func72, Try.ntmps72
  go_wp2_with fail
  go_loop [9] (fun i => ∃ q : Nat, q ≤ n ∧ i = .int .i64 q ∧ Hid (∀ i, i < q → X i ≠ x)) (fun i => n - (intOf i).toNat)
  case atStart => exact ⟨0, Nat.zero_le _, rfl, Lib.hid (fun i h => absurd h (by omega))⟩
  case round =>
    obtain ⟨q, hq, rfl, HN⟩ := hrel
    by_cases hlt : q < n
    · obtain ⟨b, off, rfl, hbl, hc⟩ := HR.out (by omega)
      have hx := hc q hlt
      clear hc
      by_cases he : X q = x
      · have d1 : (X q == x) = true := by simpa using he
        have HE := Lib.hid he
        clear he
        go_wp2_with fail
        go_ret
        exact ⟨true, rfl, by simp only [true_iff]; exact ⟨q, hlt, HE.out⟩, rfl⟩
      · have d1 : (X q == x) = false := by simpa using he
        have HN2 := Lib.hid (show ∀ i, i < q + 1 → X i ≠ x from fun i hi => by
          by_cases e : i = q
          · rw [e]; exact he
          · exact HN.out i (by omega))
        clear he
        go_wp2_with fail
        go_round
        case rel => exact ⟨q + 1, by omega, by go_num, HN2⟩
        case measure => simp [intOf]; omega
    · obtain rfl : q = n := by omega
      go_wp2_with fail
      go_ret
      exact ⟨false, rfl, by simp only [Bool.false_eq_true, false_iff]; rintro ⟨i, hi, e⟩; exact HN.out i hi e, rfl⟩

section
variable (A1 : Option Addr) (n1 c1 : Nat) (X1 : Nat → Int) (A2 : Option Addr) (n2 c2 : Nat) (X2 : Nat → Int) (w : World)
variable {z0 z1 z2 z3 z4 : Int} {c L v : Nat} {f : Nat → Nat}
set_option maxRecDepth 100000 in
set_option maxHeartbeats 1000000 in
theorem spec_spBelow (x : Int) (hn1 : n1 ≤ 1048576) (hn2 : n2 ≤ 1048576) (h1 : IRow w A1 n1 X1) (h2 : IRow w A2 n2 X2) (h : SpIs z0 z1 z2 z3 n1 X1 z4 n2 X2 c L v f) :
    Calls Try.prog 69 #[.agg (spC z0 z1 z2 z3 A1 n1 c1 z4 A2 n2 c2), .int .i64 x] w fun e w' => e = .returned (.int .i64 (ltN (numI f) x c : Nat)) ∧ Below w.heap.size w w' := by
  have S0 := Lib.hid (SL.start (z0 := z0) (z1 := z1) (z2 := z2) (z3 := z3) (z4 := z4) (c1 := c1) (c2 := c2) h1 h2)
  have HI := Lib.hid h
  have hc := h.num.hc
  clear h1 h2 h
  go_enter Try.func69, Try.ntmps69
  unfold spC
  go_wp2_with fail
  refine (spList_valid A1 n1 c1 X1 A2 n2 c2 X2 _ z0 z1 z2 z3 z4 c L v f hn1 hn2 S0.out.low S0.out.high HI.out).mono ?_; rintro e w2 ⟨A, k, rfl, ho, hb⟩
  have S2 := Lib.hid (S0.out.step hb)
  have HR := Lib.hid (show IRow w2 A c (numI f) from ho.rd.row (Nat.le_refl _))
  clear hb ho S0
  go_wp2_with fail
  go_loop [5, 11] (fun m i => ∃ q : Nat, q ≤ c ∧ i = .int .i64 q ∧ m = .int .i64 (ltN (numI f) x q : Nat)) (fun _ i => c - (intOf i).toNat)
  case atStart => exact ⟨0, Nat.zero_le _, rfl, rfl⟩
  case round =>
    obtain ⟨q, hq, rfl, rfl⟩ := hrel
    have hle := ltN_le (numI f) x q
    by_cases hlt : q < c
    · obtain ⟨b, off, rfl, hbl, hcl⟩ := HR.out (by omega)
      have hx := hcl q hlt
      have hst : ltN (numI f) x (q + 1) = ltN (numI f) x q + if numI f q < x then 1 else 0 := rfl
      have HST := Lib.hid hst
      clear hcl hst
      by_cases he : numI f q < x
      · have d1 : decide (numI f q < x) = true := by simpa using he
        have HE := Lib.hid (show ltN (numI f) x (q + 1) = ltN (numI f) x q + 1 by rw [HST.out, if_pos he])
        clear he
        generalize ltN (numI f) x q = t at *
        generalize numI f q = y at *
        go_wp2_with fail
        go_round
        case rel => exact ⟨q + 1, by omega, by go_num, by rw [HE.out]; go_num⟩
        case measure => simp [intOf]; omega
      · have d1 : decide (numI f q < x) = false := by simpa using he
        have HE := Lib.hid (show ltN (numI f) x (q + 1) = ltN (numI f) x q by rw [HST.out, if_neg he]; rfl)
        clear he
        generalize ltN (numI f) x q = t at *
        generalize numI f q = y at *
        go_wp2_with fail
        go_round
        case rel => exact ⟨q + 1, by omega, by go_num, by rw [HE.out]⟩
        case measure => simp [intOf]; omega
    · obtain rfl : q = c := by omega
      go_wp2_with fail
      go_ret
      exact ⟨rfl, S2.out.below⟩
set_option maxRecDepth 100000 in
set_option maxHeartbeats 1000000 in
theorem spec_spAsked (x : Int) (hn1 : n1 ≤ 1048576) (hn2 : n2 ≤ 1048576) (h1 : IRow w A1 n1 X1) (h2 : IRow w A2 n2 X2) :
    Calls Try.prog 71 #[.agg (spC z0 z1 z2 z3 A1 n1 c1 z4 A2 n2 c2), .int .i64 x] w (BoolIs (SpV z0 z1 z2 z3 n1 X1 z4 n2 X2 ∧ 0 ≤ x ∧ x < z1) w) := by
  have S0 := Lib.hid (SL.start (z0 := z0) (z1 := z1) (z2 := z2) (z3 := z3) (z4 := z4) (c1 := c1) (c2 := c2) h1 h2)
  clear h1 h2
  by_cases hv : SpV z0 z1 z2 z3 n1 X1 z4 n2 X2
  · have HV := Lib.hid hv
    have hz1 : 1 ≤ z1 ∧ z1 ≤ 100000 := by
      obtain ⟨c, L, v, f, h⟩ := hv
      have := h.eL; have := h.num.h1; have := h.num.hL; omega
    obtain ⟨l1, l2⟩ := hz1
    clear hv
    go_enter Try.func71, Try.ntmps71
    unfold spC
    go_wp2_with fail
    refine (good_yes A1 n1 c1 X1 A2 n2 c2 X2 _ hn1 hn2 S0.out.low S0.out.high HV.out).mono ?_; rintro e w1 ⟨rfl, hb⟩
    have S1 := Lib.hid (S0.out.step hb)
    clear hb S0
    obtain ⟨q0, q1, q2, q3, q4, q5, q6⟩ := S1.out.cells
    go_wp2_with fail
    refine (l1In_any _ _ _ _).mono ?_; rintro e w' ⟨rfl, rfl⟩
    go_wp2_with fail
    go_ret
    exact ⟨_, rfl, by simp only [Bool.and_eq_true, decide_eq_true_eq]; exact ⟨fun h => ⟨HV.out, h.1, by omega⟩, fun h => ⟨h.2.1, by omega⟩⟩, S1.out.below⟩
  · have HV := Lib.hid hv
    clear hv
    go_enter Try.func71, Try.ntmps71
    unfold spC
    go_wp2_with fail
    refine (good_no A1 n1 c1 X1 A2 n2 c2 X2 _ hn1 hn2 S0.out.low S0.out.high HV.out).mono ?_; rintro e w1 ⟨rfl, hb⟩
    have S1 := Lib.hid (S0.out.step hb)
    clear hb S0
    go_wp2_with fail
    go_ret
    exact ⟨false, rfl, by simp only [Bool.false_eq_true, false_iff]; exact fun h => HV.out h.1, S1.out.below⟩
end
end Go.Proofs.Ytdkkflejpcgipaa
