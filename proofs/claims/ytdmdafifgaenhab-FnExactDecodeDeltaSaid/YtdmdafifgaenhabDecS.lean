/- The model's reading of codes. -/
import Derived.Test.YtdmdafifgaenhabEncT
import Derived.Test.YtdmdafifgaenhabNext
import Derived.Deep.RegionHeld3
namespace Go.Proofs.Ytdmdafifgaenhab
open Go.RowKit

def PairIs (x y : Int) (w : World) (e : Ending) (w' : World) : Prop := e = .returned (.tuple #[.int .i64 x, .int .i64 y]) ∧ Below w.heap.size w w'
set_option maxRecDepth 100000 in
set_option maxHeartbeats 1000000 in
theorem spec_spRead_far (z : Nat) (A : Option Addr) (n c : Nat) (W : Nat → Nat) (a l : Nat) (w : World) (hr : WRow w A n W) (hz : z ≤ 4096) (ha : a ≤ 5000) (hl : l ≤ 200000) (h : 16 < l ∨ z < a + l) :
    Calls Try.prog 55 #[.agg #[.int .i64 z, .slice A n c], .int .i64 a, .int .i64 l] w (PairIs 0 (z + 1) w) := by
  have L0 := Lib.hid (LS.start (z := (z : Int)) (c := c) hr.1 30)
  obtain ⟨hs0, b0, b1⟩ := L0.out.box
  have e1 : IntKind.i64.wrap ((a : Int) + (l : Int)) = (a : Int) + (l : Int) := IntWalk.i64_in _ (by omega)
  have e2 : IntKind.i64.wrap ((z : Int) + 1) = (z : Int) + 1 := IntWalk.i64_in _ (by omega)
  by_cases h1 : 16 < l
  · have d1 : decide ((16 : Int) < l) = true := by simp; omega
    clear h
    go_enter Try.func55, Try.ntmps55
    go_wp2_with fail
    go_region_held3 (fun w' => w'.cell? ⟨w.heap.size, 0, none⟩ = some (.int .i64 z)) ((go_keep; done)) (fail)
    all_goals
      try go_wp2_with fail
      go_ret2
      exact ⟨rfl, by first | exact L0.out.below | exact below_drewN L0.out.below _⟩
  · have d1 : decide ((16 : Int) < l) = false := by simp; omega
    have d2 : decide ((z : Int) < (a : Int) + (l : Int)) = true := by simp; omega
    clear h
    go_enter Try.func55, Try.ntmps55
    go_wp2_with fail
    go_region_held3 (fun w' => w'.cell? ⟨w.heap.size, 0, none⟩ = some (.int .i64 z)) ((go_keep; done)) (fail)
    all_goals
      try go_wp2_with fail
      go_ret2
      exact ⟨rfl, by first | exact L0.out.below | exact below_drewN L0.out.below _⟩
set_option maxRecDepth 100000 in
set_option maxHeartbeats 1000000 in
theorem spec_spRead_yes (z : Nat) (A : Option Addr) (n c : Nat) (W : Nat → Nat) (a l : Nat) (w : World) (hn : n ≤ 1048576) (hr : WRow w A n W) (hz : z ≤ 4096) (hzn : z ≤ 16 * n) (hl : l ≤ 16) (h : a + l ≤ z) :
    Calls Try.prog 55 #[.agg #[.int .i64 z, .slice A n c], .int .i64 a, .int .i64 l] w (PairIs ((2 ^ l : Nat) + fieldN W a l) (a + l) w) := by
  have L0 := Lib.hid (LS.start (z := (z : Int)) (c := c) hr.1 30)
  obtain ⟨hs0, b0, b1⟩ := L0.out.box
  have RD := Lib.hid (show WRow (w.alloc (.cells #[.int .i64 z, .slice A n c] 30)).drew A n W from ⟨L0.out.row, hr.2⟩)
  have hb : (fieldN W a l : Int) < 2 ^ 24 ∧ 0 ≤ (fieldN W a l : Int) := ⟨by
    have h1 := fieldN_lt W l a
    have h2 : (2 : Nat) ^ l ≤ 2 ^ 16 := Nat.pow_le_pow_right (by omega) hl
    have h3 : (2 : Nat) ^ 16 = 65536 := by decide
    omega, by omega⟩
  have hP : (2 : Nat) ^ l ≤ 65536 := Nat.pow_le_pow_right (by omega) hl
  obtain ⟨P, hPe⟩ : ∃ P, P = 2 ^ l := ⟨_, rfl⟩
  have hPi : (2 : Int) ^ l = (P : Int) := by rw [hPe]; push_cast; rfl
  rw [← hPe] at hP ⊢
  have e0 : IntKind.i64.wrap ((2 : Int) ^ l) = (P : Int) := by rw [hPi]; exact IntWalk.i64_in _ (by omega)
  have e1 : IntKind.i64.wrap ((a : Int) + (l : Int)) = (a : Int) + (l : Int) := IntWalk.i64_in _ (by omega)
  have e3 : IntKind.i64.wrap ((P : Int) + (fieldN W a l : Int)) = (P : Int) + (fieldN W a l : Int) := IntWalk.i64_in _ (by omega)
  have d1 : decide ((16 : Int) < l) = false := by simp; omega
  have d2 : decide ((z : Int) < (a : Int) + (l : Int)) = false := by simp; omega
  clear hPi hPe
  go_enter Try.func55, Try.ntmps55
  go_wp2_with fail
  go_region_held3 (fun w' => w'.cell? ⟨w.heap.size, 0, none⟩ = some (.int .i64 z) ∧ w'.cell? ⟨w.heap.size, 1, none⟩ = some (.slice A n c))
    (first | (go_keep; done) | with_reducible exact ⟨L1.out.box.2.1, L1.out.box.2.2⟩)
    (first
      | (go_at_call 45; refine (spec_biField (z : Int) A n c W a l _ hn RD.out (by omega) (by omega)).mono ?_; rintro e w2 ⟨rfl, hb'⟩; have hb : Below (w.alloc (.cells #[.int .i64 z, .slice A n c] 30)).heap.size (w.alloc (.cells #[.int .i64 z, .slice A n c] 30)) w2 := (by first | exact hb' | exact of_drew hb'); have L1 := Lib.hid (L0.out.step hb); have b0' := L1.out.box.2.1; have b1' := L1.out.box.2.2; clear hb hb'))
  all_goals
    try go_wp2_with fail
    go_ret2
    exact ⟨rfl, by first | exact L1.out.below | exact below_drewN L1.out.below _⟩

theorem WRow.of_step {w w' : World} {A : Option Addr} {n : Nat} {W : Nat → Nat} (h : WRow w A n W) (hr : IRow w' A n (fun i => (W i : Int))) : WRow w' A n W := ⟨hr, h.2⟩
set_option maxRecDepth 100000 in
set_option maxHeartbeats 1000000 in
theorem spec_spOne_none (z : Nat) (A : Option Addr) (n c : Nat) (W : Nat → Nat) (a : Nat) (w : World) (hn : n ≤ 1048576) (hr : WRow w A n W) (hz : z ≤ 4096) (hzn : z ≤ 16 * n) (ha : a ≤ z) (h : NoneFrom W true z a) :
    Calls Try.prog 54 #[.agg #[.int .i64 z, .slice A n c], .int .i64 a] w (PairIs 0 (z + 1) w) := by
  have L0 := Lib.hid (LS.start (z := (z : Int)) (c := c) hr.1 30)
  have RD := Lib.hid (hr.of_step L0.out.row)
  have HF := Lib.hid h
  obtain ⟨hs0, b0, b1⟩ := L0.out.box
  have e2 : IntKind.i64.wrap ((z : Int) + 1) = (z : Int) + 1 := IntWalk.i64_in _ (by omega)
  clear hr h
  go_enter Try.func54, Try.ntmps54
  go_wp2_with fail
  refine (spec_biNext_no (z : Int) A n c W a true _ hn RD.out (by omega) (by omega) (by omega) HF.out).mono ?_; rintro e w1 ⟨rfl, hb⟩
  have L1 := Lib.hid (L0.out.step hb)
  clear hb b0 b1 hs0
  obtain ⟨hs0, b0, b1⟩ := L1.out.box
  go_wp2_with fail
  go_region_held3 (fun w' => w'.cell? ⟨w.heap.size, 0, none⟩ = some (.int .i64 z)) ((go_keep; done)) (fail)
  all_goals
    try go_wp2_with fail
    go_ret2
    exact ⟨rfl, by first | exact L1.out.below | exact below_drewN L1.out.below _⟩
set_option maxRecDepth 100000 in
set_option maxHeartbeats 1000000 in
theorem spec_spOne_at (z : Nat) (A : Option Addr) (n c : Nat) (W : Nat → Nat) (a k : Nat) (x y : Int) (w : World) (hn : n ≤ 1048576) (hr : WRow w A n W) (hz : z ≤ 4096) (hzn : z ≤ 16 * n) (ha : a ≤ k) (hk : k ≤ z) (h : Found W true z a k)
    (hq : ∀ W' : World, WRow W' A n W → Calls Try.prog 55 #[.agg #[.int .i64 z, .slice A n c], .int .i64 ((k + 1 : Nat) : Int), .int .i64 ((k - a : Nat) : Int)] W' (PairIs x y W')) :
    Calls Try.prog 54 #[.agg #[.int .i64 z, .slice A n c], .int .i64 a] w (PairIs x y w) := by
  have L0 := Lib.hid (LS.start (z := (z : Int)) (c := c) hr.1 30)
  have RD := Lib.hid (hr.of_step L0.out.row)
  have HF := Lib.hid h
  have HQ := Lib.hid hq
  obtain ⟨hs0, b0, b1⟩ := L0.out.box
  have d1 : decide ((k : Int) < 0) = false := by simp
  have E1 := Lib.hid (show ((k : Int) + 1) = ((k + 1 : Nat) : Int) by push_cast; rfl)
  have E2 := Lib.hid (show ((k : Int) - (a : Int)) = ((k - a : Nat) : Int) by omega)
  clear hr h hq
  go_enter Try.func54, Try.ntmps54
  go_wp2_with fail
  refine (spec_biNext_yes (z : Int) A n c W a k true _ hn RD.out (by omega) HF.out).mono ?_; rintro e w1 ⟨rfl, hb⟩
  have L1 := Lib.hid (L0.out.step hb)
  have R1 := Lib.hid (RD.out.of_step L1.out.row)
  clear hb b0 b1 hs0
  obtain ⟨hs0, b0, b1⟩ := L1.out.box
  go_wp2_with fail
  rw [E1.out, E2.out]
  refine (HQ.out _ R1.out).mono ?_; rintro e w2 ⟨rfl, hb⟩
  have L2 := Lib.hid (L1.out.step hb)
  clear hb
  go_wp2_with fail
  go_ret2
  exact ⟨rfl, L2.out.below⟩
end Go.Proofs.Ytdmdafifgaenhab
