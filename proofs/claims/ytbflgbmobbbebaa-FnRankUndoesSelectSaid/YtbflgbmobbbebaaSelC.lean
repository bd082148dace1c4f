/- selectOf: what the code answers. -/
import Derived.Test.YtbflgbmobbbebaaSelA
namespace Go.Proofs.Ytbflgbmobbbebaa
open Go.RowKit

section
variable (z : Nat) (A1 : Option Addr) (n c1 : Nat) (X : Nat → Int) (A2 : Option Addr) (s c2 : Nat) (Y : Nat → Int) (A3 : Option Addr) (m c3 : Nat) (Z : Nat → Int) (w : World)

set_option maxRecDepth 100000 in
set_option maxHeartbeats 2000000 in
theorem impl_select_off_yes (k i : Nat) (h : RkR A1 n X A2 s Y A3 m Z w) (hk : RankOk z n X s Y m Z) (hi : SelAt (wdR X) false z k i) :
    Calls Try.prog 59 #[.agg #[.int .i64 z, .slice A1 n c1, .slice A2 s c2, .slice A3 m c3], .int .i64 0, .int .i64 k] w (AnsI i true w) := by
  have B0 := Lib.hid (SB.start (z := z) (c1 := c1) (c2 := c2) (c3 := c3) (kind := 0) (k := k) h)
  have HC := Lib.hid (fun w1 => impl_countsBefore z A1 n c1 X A2 s c2 Y A3 m c3 Z w1 z)
  have HK := Lib.hid hk
  have hz1 : z ≤ 1048576 := by obtain ⟨z', e1, e2, _⟩ := hk.size; omega
  have HI := Lib.hid hi
  have HP := Lib.hid (fun j => sel_above (j := j) hi)
  have hlt := sel_lt hi
  clear hi
  clear h hk
  obtain ⟨hs0, b0, b1, b2, b3, b4, b5⟩ := B0.out.cells
  generalize cntB (wdR X) false z = V0 at *
  generalize cntB (wdR X) true z = V1 at *
  have x0 := kind_off V0 V1
  have d0 : decide ((k : Int) < 0) = false := by simp
  have d1 : decide ((V0 : Int) ≤ (k : Int)) = false := by simp; omega
  go_enter Try.func59, Try.ntmps59
  go_wp2_with fail
  go_region_held3 (fun w' => w'.cell? ⟨w.heap.size, 0, none⟩ = some (.int .i64 z) ∧ w'.cell? ⟨w.heap.size, 1, none⟩ = some (.slice A1 n c1) ∧ w'.cell? ⟨w.heap.size, 2, none⟩ = some (.slice A2 s c2) ∧ w'.cell? ⟨w.heap.size, 3, none⟩ = some (.slice A3 m c3) ∧ w'.cell? ⟨w.heap.size + 1, 0, none⟩ = some (.int .i64 0) ∧ w'.cell? ⟨w.heap.size + 2, 0, none⟩ = some (.int .i64 k))
    (first | (go_keep; done) | exact (B0.out.step hq1).cells.2)
    (first
      | (go_at_call 97; (first | refine (HC.out _ B0.out.rl.rows HK.out (Nat.le_refl _)).mono ?_ | refine (HC.out _ B0.out.drew.rl.rows HK.out (Nat.le_refl _)).mono ?_); rintro e w1 ⟨rfl, hq1'⟩; have hq1 := of_drew hq1'; clear hq1'))
  have B1 := Lib.hid (B0.out.step hq1)
  clear hq1 b0 b1 b2 b3 b4 b5
  obtain ⟨hs1, b0, b1, b2, b3, b4, b5⟩ := B1.out.cells
  go_wp2_with fail
  refine (search_any 99 (enters_of Try.func99 (by kernel_rfl) rfl) #[.pointer (some ⟨w.heap.size, 0, none⟩), .pointer (some ⟨w.heap.size + 1, 0, none⟩), .pointer (some ⟨w.heap.size + 2, 0, none⟩)] z (fun t => decide ((k : Int) < ((cntB (wdR X) false (t + 1) : Nat) : Int))) (fun W => SB w w.heap.size z A1 n c1 X A2 s c2 Y A3 m c3 Z 0 k W) _ hz1 B1.out
    (fun i W hi hW => sel_closure_off z A1 n c1 X A2 s c2 Y A3 m c3 Z w k w.heap.size i W HK.out hi hW)
    (fun a b hab hb hp => by have := cntB_mono (W := wdR X) (on := false) (show a + 1 ≤ b + 1 by omega); simp only [decide_eq_true_eq] at hp ⊢; omega)).mono ?_; rintro e w2 ⟨r, rfl, hr1, hr2, hr3, hB2⟩
  have B2 := Lib.hid hB2
  have hri : r = i := by
    have h1 := HP.out (r + 1)
    have h2 := HP.out (i + 1)
    have h3 := hr2 i
    have h4 := hr3 r (Nat.le_refl _)
    have h5 := HI.out.1
    simp only [decide_eq_false_iff_not, decide_eq_true_eq] at h3 h4
    omega
  clear hB2 hr1 hr2 hr3
  subst hri
  go_wp2_with fail
  go_ret2
  exact ⟨rfl, B2.out.rl.below⟩

set_option maxRecDepth 100000 in
set_option maxHeartbeats 2000000 in
theorem impl_select_off_no (k : Int) (h : RkR A1 n X A2 s Y A3 m Z w) (hk : RankOk z n X s Y m Z) (hi : ¬ (0 ≤ k ∧ k < (cntB (wdR X) false z : Nat))) :
    Calls Try.prog 59 #[.agg #[.int .i64 z, .slice A1 n c1, .slice A2 s c2, .slice A3 m c3], .int .i64 0, .int .i64 k] w (AnsI 0 false w) := by
  have B0 := Lib.hid (SB.start (z := z) (c1 := c1) (c2 := c2) (c3 := c3) (kind := 0) (k := k) h)
  have HC := Lib.hid (fun w1 => impl_countsBefore z A1 n c1 X A2 s c2 Y A3 m c3 Z w1 z)
  have HK := Lib.hid hk
  have hz1 : z ≤ 1048576 := by obtain ⟨z', e1, e2, _⟩ := hk.size; omega
  clear h hk
  obtain ⟨hs0, b0, b1, b2, b3, b4, b5⟩ := B0.out.cells
  generalize cntB (wdR X) false z = V0 at *
  generalize cntB (wdR X) true z = V1 at *
  have x0 := kind_off V0 V1
  by_cases h0 : k < 0
  · have d0 : decide (k < 0) = true := by simpa using h0
    go_enter Try.func59, Try.ntmps59
    go_wp2_with fail
    go_quiet (fail)
    go_wp2_with fail
    go_ret2
    exact ⟨rfl, B0.out.rl.below.trans ((below_drewN (Below.refl _ _) _).mono B0.out.rl.below.size)⟩
  have d0 : decide (k < 0) = false := by simpa using h0
  have d1 : decide ((V0 : Int) ≤ k) = true := by simp; omega
  go_enter Try.func59, Try.ntmps59
  go_wp2_with fail
  go_region_held3 (fun w' => w'.cell? ⟨w.heap.size, 0, none⟩ = some (.int .i64 z) ∧ w'.cell? ⟨w.heap.size, 1, none⟩ = some (.slice A1 n c1) ∧ w'.cell? ⟨w.heap.size, 2, none⟩ = some (.slice A2 s c2) ∧ w'.cell? ⟨w.heap.size, 3, none⟩ = some (.slice A3 m c3) ∧ w'.cell? ⟨w.heap.size + 1, 0, none⟩ = some (.int .i64 0) ∧ w'.cell? ⟨w.heap.size + 2, 0, none⟩ = some (.int .i64 k))
    (first | (go_keep; done) | exact (B0.out.step hq1).cells.2)
    (first
      | (go_at_call 97; (first | refine (HC.out _ B0.out.rl.rows HK.out (Nat.le_refl _)).mono ?_ | refine (HC.out _ B0.out.drew.rl.rows HK.out (Nat.le_refl _)).mono ?_); rintro e w1 ⟨rfl, hq1'⟩; have hq1 := of_drew hq1'; clear hq1'))
  have B1 := Lib.hid (B0.out.step hq1)
  clear hq1 b0 b1 b2 b3 b4 b5
  obtain ⟨hs1, b0, b1, b2, b3, b4, b5⟩ := B1.out.cells
  go_wp2_with fail
  go_ret2
  exact ⟨rfl, B1.out.rl.below⟩

set_option maxRecDepth 100000 in
set_option maxHeartbeats 2000000 in
theorem impl_select_on_yes (k i : Nat) (h : RkR A1 n X A2 s Y A3 m Z w) (hk : RankOk z n X s Y m Z) (hi : SelAt (wdR X) true z k i) :
    Calls Try.prog 59 #[.agg #[.int .i64 z, .slice A1 n c1, .slice A2 s c2, .slice A3 m c3], .int .i64 1, .int .i64 k] w (AnsI i true w) := by
  have B0 := Lib.hid (SB.start (z := z) (c1 := c1) (c2 := c2) (c3 := c3) (kind := 1) (k := k) h)
  have HC := Lib.hid (fun w1 => impl_countsBefore z A1 n c1 X A2 s c2 Y A3 m c3 Z w1 z)
  have HK := Lib.hid hk
  have hz1 : z ≤ 1048576 := by obtain ⟨z', e1, e2, _⟩ := hk.size; omega
  have HI := Lib.hid hi
  have HP := Lib.hid (fun j => sel_above (j := j) hi)
  have hlt := sel_lt hi
  clear hi
  clear h hk
  obtain ⟨hs0, b0, b1, b2, b3, b4, b5⟩ := B0.out.cells
  generalize cntB (wdR X) false z = V0 at *
  generalize cntB (wdR X) true z = V1 at *
  have x0 := kind_on V0 V1
  have d0 : decide ((k : Int) < 0) = false := by simp
  have d1 : decide ((V1 : Int) ≤ (k : Int)) = false := by simp; omega
  go_enter Try.func59, Try.ntmps59
  go_wp2_with fail
  go_region_held3 (fun w' => w'.cell? ⟨w.heap.size, 0, none⟩ = some (.int .i64 z) ∧ w'.cell? ⟨w.heap.size, 1, none⟩ = some (.slice A1 n c1) ∧ w'.cell? ⟨w.heap.size, 2, none⟩ = some (.slice A2 s c2) ∧ w'.cell? ⟨w.heap.size, 3, none⟩ = some (.slice A3 m c3) ∧ w'.cell? ⟨w.heap.size + 1, 0, none⟩ = some (.int .i64 1) ∧ w'.cell? ⟨w.heap.size + 2, 0, none⟩ = some (.int .i64 k))
    (first | (go_keep; done) | exact (B0.out.step hq1).cells.2)
    (first
      | (go_at_call 97; (first | refine (HC.out _ B0.out.rl.rows HK.out (Nat.le_refl _)).mono ?_ | refine (HC.out _ B0.out.drew.rl.rows HK.out (Nat.le_refl _)).mono ?_); rintro e w1 ⟨rfl, hq1'⟩; have hq1 := of_drew hq1'; clear hq1'))
  have B1 := Lib.hid (B0.out.step hq1)
  clear hq1 b0 b1 b2 b3 b4 b5
  obtain ⟨hs1, b0, b1, b2, b3, b4, b5⟩ := B1.out.cells
  go_wp2_with fail
  refine (search_any 99 (enters_of Try.func99 (by kernel_rfl) rfl) #[.pointer (some ⟨w.heap.size, 0, none⟩), .pointer (some ⟨w.heap.size + 1, 0, none⟩), .pointer (some ⟨w.heap.size + 2, 0, none⟩)] z (fun t => decide ((k : Int) < ((cntB (wdR X) true (t + 1) : Nat) : Int))) (fun W => SB w w.heap.size z A1 n c1 X A2 s c2 Y A3 m c3 Z 1 k W) _ hz1 B1.out
    (fun i W hi hW => sel_closure_on z A1 n c1 X A2 s c2 Y A3 m c3 Z w k w.heap.size i W HK.out hi hW)
    (fun a b hab hb hp => by have := cntB_mono (W := wdR X) (on := true) (show a + 1 ≤ b + 1 by omega); simp only [decide_eq_true_eq] at hp ⊢; omega)).mono ?_; rintro e w2 ⟨r, rfl, hr1, hr2, hr3, hB2⟩
  have B2 := Lib.hid hB2
  have hri : r = i := by
    have h1 := HP.out (r + 1)
    have h2 := HP.out (i + 1)
    have h3 := hr2 i
    have h4 := hr3 r (Nat.le_refl _)
    have h5 := HI.out.1
    simp only [decide_eq_false_iff_not, decide_eq_true_eq] at h3 h4
    omega
  clear hB2 hr1 hr2 hr3
  subst hri
  go_wp2_with fail
  go_ret2
  exact ⟨rfl, B2.out.rl.below⟩

set_option maxRecDepth 100000 in
set_option maxHeartbeats 2000000 in
theorem impl_select_on_no (k : Int) (h : RkR A1 n X A2 s Y A3 m Z w) (hk : RankOk z n X s Y m Z) (hi : ¬ (0 ≤ k ∧ k < (cntB (wdR X) true z : Nat))) :
    Calls Try.prog 59 #[.agg #[.int .i64 z, .slice A1 n c1, .slice A2 s c2, .slice A3 m c3], .int .i64 1, .int .i64 k] w (AnsI 0 false w) := by
  have B0 := Lib.hid (SB.start (z := z) (c1 := c1) (c2 := c2) (c3 := c3) (kind := 1) (k := k) h)
  have HC := Lib.hid (fun w1 => impl_countsBefore z A1 n c1 X A2 s c2 Y A3 m c3 Z w1 z)
  have HK := Lib.hid hk
  have hz1 : z ≤ 1048576 := by obtain ⟨z', e1, e2, _⟩ := hk.size; omega
  clear h hk
  obtain ⟨hs0, b0, b1, b2, b3, b4, b5⟩ := B0.out.cells
  generalize cntB (wdR X) false z = V0 at *
  generalize cntB (wdR X) true z = V1 at *
  have x0 := kind_on V0 V1
  by_cases h0 : k < 0
  · have d0 : decide (k < 0) = true := by simpa using h0
    go_enter Try.func59, Try.ntmps59
    go_wp2_with fail
    go_quiet (fail)
    go_wp2_with fail
    go_ret2
    exact ⟨rfl, B0.out.rl.below.trans ((below_drewN (Below.refl _ _) _).mono B0.out.rl.below.size)⟩
  have d0 : decide (k < 0) = false := by simpa using h0
  have d1 : decide ((V1 : Int) ≤ k) = true := by simp; omega
  go_enter Try.func59, Try.ntmps59
  go_wp2_with fail
  go_region_held3 (fun w' => w'.cell? ⟨w.heap.size, 0, none⟩ = some (.int .i64 z) ∧ w'.cell? ⟨w.heap.size, 1, none⟩ = some (.slice A1 n c1) ∧ w'.cell? ⟨w.heap.size, 2, none⟩ = some (.slice A2 s c2) ∧ w'.cell? ⟨w.heap.size, 3, none⟩ = some (.slice A3 m c3) ∧ w'.cell? ⟨w.heap.size + 1, 0, none⟩ = some (.int .i64 1) ∧ w'.cell? ⟨w.heap.size + 2, 0, none⟩ = some (.int .i64 k))
    (first | (go_keep; done) | exact (B0.out.step hq1).cells.2)
    (first
      | (go_at_call 97; (first | refine (HC.out _ B0.out.rl.rows HK.out (Nat.le_refl _)).mono ?_ | refine (HC.out _ B0.out.drew.rl.rows HK.out (Nat.le_refl _)).mono ?_); rintro e w1 ⟨rfl, hq1'⟩; have hq1 := of_drew hq1'; clear hq1'))
  have B1 := Lib.hid (B0.out.step hq1)
  clear hq1 b0 b1 b2 b3 b4 b5
  obtain ⟨hs1, b0, b1, b2, b3, b4, b5⟩ := B1.out.cells
  go_wp2_with fail
  go_ret2
  exact ⟨rfl, B1.out.rl.below⟩
end
end Go.Proofs.Ytbflgbmobbbebaa
