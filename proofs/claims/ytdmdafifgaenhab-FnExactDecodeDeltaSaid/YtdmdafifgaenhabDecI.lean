/- Reading codes: the program's readers. -/
import Derived.Test.YtdmdafifgaenhabDecT
import Derived.Handy
namespace Go.Proofs.Ytdmdafifgaenhab
open Go.RowKit

def Rd3 (x y : Nat) (w : World) (e : Ending) (w' : World) : Prop := e = .returned (.tuple #[.int .i64 x, .int .i64 y, .bool true]) ∧ Below w.heap.size w w'
def No3 (w : World) (e : Ending) (w' : World) : Prop := ∃ p q : Int, e = .returned (.tuple #[.int .i64 p, .int .i64 q, .bool false]) ∧ Below w.heap.size w w'
def Dg3 (x y : Nat) (w : World) (e : Ending) (w' : World) : Prop := e = .returned (.tuple #[.int .i64 x, .int .i64 y, .bool (decide ((x : Int) ≤ 100000))]) ∧ Below w.heap.size w w'
set_option maxRecDepth 100000 in
set_option maxHeartbeats 1000000 in
theorem impl_readDigits_bad (z : Nat) (A : Option Addr) (n c : Nat) (X : Nat → Int) (a l : Nat) (w : World) (hn : n ≤ 1048576) (hr : IRow w A n X) (h : ¬ Room z n X a l) :
    Calls Try.prog 57 #[.agg #[.int .i64 z, .slice A n c], .int .i64 a, .int .i64 l] w (No3 w) := by
  have L0 := Lib.hid (LS.start (z := (z : Int)) (c := c) hr 30)
  have HG := Lib.hid h
  clear hr h
  go_enter Try.func57, Try.ntmps57
  go_wp2_with fail
  refine (impl_read_no z A n c X a l _ hn L0.out.row HG.out).mono ?_; rintro e w1 ⟨rfl, hb⟩
  have L1 := Lib.hid (L0.out.step hb)
  clear hb L0
  go_wp2_with fail
  go_ret3
  exact ⟨0, 0, rfl, L1.out.below⟩
set_option maxRecDepth 100000 in
set_option maxHeartbeats 1000000 in
theorem impl_readDigits_room (z : Nat) (A : Option Addr) (n c : Nat) (X : Nat → Int) (a l : Nat) (w : World) (hn : n ≤ 1048576) (hr : IRow w A n X) (h : Room z n X a l) (hz : z ≤ 4096) :
    Calls Try.prog 57 #[.agg #[.int .i64 z, .slice A n c], .int .i64 a, .int .i64 l] w (Dg3 (2 ^ l + fieldN (fun i => (X i).toNat) a l) (a + l) w) := by
  have L0 := Lib.hid (LS.start (z := (z : Int)) (c := c) hr 30)
  have hl : l ≤ 24 := by have := h.2.2.1; omega
  have hal : a + l ≤ z := by have := h.2.2.2.2; omega
  have HG := Lib.hid h
  have hb : (fieldN (fun i => (X i).toNat) a l : Nat) < 16777216 := by
    have h1 := fieldN_lt (fun i => (X i).toNat) l a
    have h2 : (2 : Nat) ^ l ≤ 2 ^ 24 := Nat.pow_le_pow_right (by omega) hl
    have h3 : (2 : Nat) ^ 24 = 16777216 := by decide
    omega
  have hP : (2 : Nat) ^ l ≤ 16777216 := by
    have h2 : (2 : Nat) ^ l ≤ 2 ^ 24 := Nat.pow_le_pow_right (by omega) hl
    have h3 : (2 : Nat) ^ 24 = 16777216 := by decide
    omega
  obtain ⟨v, hv⟩ : ∃ v, v = fieldN (fun i => (X i).toNat) a l := ⟨_, rfl⟩
  obtain ⟨P, hPe⟩ : ∃ P, P = 2 ^ l := ⟨_, rfl⟩
  have hPi : (2 : Int) ^ l = (P : Int) := by rw [hPe]; push_cast; rfl
  rw [← hPe] at hP ⊢
  rw [← hv] at hb ⊢
  have HV := Lib.hid hv
  have e0 : IntKind.i64.wrap ((2 : Int) ^ l) = (P : Int) := by rw [hPi]; exact IntWalk.i64_in _ (by omega)
  have e1 : IntKind.i64.wrap ((a : Int) + (l : Int)) = (a : Int) + (l : Int) := IntWalk.i64_in _ (by omega)
  have e3 : IntKind.i64.wrap ((P : Int) + (v : Int)) = (P : Int) + (v : Int) := IntWalk.i64_in _ (by omega)
  have E1 := Lib.hid (show ((P : Int) + (v : Int)) = ((P + v : Nat) : Int) by omega)
  have E2 := Lib.hid (show ((a : Int) + (l : Int)) = ((a + l : Nat) : Int) by omega)
  clear hPi hPe hv hr h
  go_enter Try.func57, Try.ntmps57
  go_wp2_with fail
  refine (impl_read_yes z A n c X a l _ hn L0.out.row HG.out).mono ?_; rintro e w1 ⟨he, hb⟩
  rw [← HV.out] at he
  subst he
  have L1 := Lib.hid (L0.out.step hb)
  clear hb L0
  go_wp2_with fail
  go_ret3
  refine ⟨?_, L1.out.below⟩
  show Ending.returned (.tuple #[.int .i64 ((P : Int) + (v : Int)), .int .i64 ((a : Int) + (l : Int)), .bool (decide ((P : Int) + (v : Int) ≤ 100000))]) = _
  rw [E1.out, E2.out]

theorem impl_readDigits_yes (z : Nat) (A : Option Addr) (n c : Nat) (X : Nat → Int) (a l : Nat) (w : World) (hn : n ≤ 1048576) (hr : IRow w A n X) (hg : Good z n X) (hz : z ≤ 4096) (hy : rdY z a l ≤ z) (hx : rdX z (fun i => (X i).toNat) a l ≤ 100000) :
    Calls Try.prog 57 #[.agg #[.int .i64 z, .slice A n c], .int .i64 a, .int .i64 l] w (Rd3 (rdX z (fun i => (X i).toNat) a l) (rdY z a l) w) := by
  obtain ⟨_, h16, hal⟩ := rd_pos (W := fun i => (X i).toNat) hy
  have hc : ¬ (16 < l ∨ z < a + l) := by omega
  unfold rdX at hx ⊢
  unfold rdY
  rw [if_neg hc] at hx ⊢
  rw [if_neg hc]
  exact (impl_readDigits_room z A n c X a l w hn hr ⟨hg, by omega, by omega, by omega, by omega⟩ hz).mono fun e w' ⟨h1, h2⟩ => ⟨by rw [h1, decide_eq_true (show ((2 ^ l + fieldN (fun i => (X i).toNat) a l : Nat) : Int) ≤ 100000 by omega)], h2⟩
theorem impl_readDigits_no (z : Nat) (A : Option Addr) (n c : Nat) (X : Nat → Int) (a l : Nat) (w : World) (hn : n ≤ 1048576) (hr : IRow w A n X) (_hg : Good z n X) (hz : z ≤ 4096) (h : ¬ (rdY z a l ≤ z ∧ rdX z (fun i => (X i).toNat) a l ≤ 100000)) :
    Calls Try.prog 57 #[.agg #[.int .i64 z, .slice A n c], .int .i64 a, .int .i64 l] w (No3 w) := by
  by_cases hR : Room z n X a l
  · refine (impl_readDigits_room z A n c X a l w hn hr hR hz).mono fun e w' ⟨h1, h2⟩ => ?_
    have hf : decide (((2 ^ l + fieldN (fun i => (X i).toNat) a l : Nat) : Int) ≤ 100000) = false := by
      have hal : a + l ≤ z := by have := hR.2.2.2.2; omega
      apply decide_eq_false
      by_cases h16 : 16 < l
      · have h2 : (2 : Nat) ^ 17 ≤ 2 ^ l := Nat.pow_le_pow_right (by omega) h16
        have h3 : (2 : Nat) ^ 17 = 131072 := by decide
        omega
      · have hc : ¬ (16 < l ∨ z < a + l) := by omega
        unfold rdX rdY at h
        rw [if_neg hc, if_neg hc] at h
        omega
    rw [hf] at h1
    exact ⟨_, _, h1, h2⟩
  · exact impl_readDigits_bad z A n c X a l w hn hr hR

set_option maxRecDepth 100000 in
set_option maxHeartbeats 1000000 in
theorem impl_readGamma_none (z : Nat) (A : Option Addr) (n c : Nat) (X : Nat → Int) (a : Nat) (w : World) (hn : n ≤ 1048576) (hr : IRow w A n X) (hg : Good z n X) (hf : NoneFrom (fun i => (X i).toNat) true z a) :
    Calls Try.prog 37 #[.agg #[.int .i64 z, .slice A n c], .int .i64 a] w (No3 w) := by
  have L0 := Lib.hid (LS.start (z := (z : Int)) (c := c) hr 30)
  have HG := Lib.hid hg
  have HF := Lib.hid hf
  clear hr hg hf
  go_enter Try.func37, Try.ntmps37
  go_wp2_with fail
  refine (impl_next_none z A n c X a true _ hn L0.out.row HG.out HF.out).mono ?_; rintro e w1 ⟨rfl, hb⟩
  have L1 := Lib.hid (L0.out.step hb)
  clear hb L0
  go_wp2_with fail
  go_ret3
  exact ⟨0, 0, rfl, L1.out.below⟩
set_option maxRecDepth 100000 in
set_option maxHeartbeats 1000000 in
theorem impl_readGamma_at (Q : World → Ending → World → Prop) (z : Nat) (A : Option Addr) (n c : Nat) (X : Nat → Int) (a k : Nat) (w : World) (hn : n ≤ 1048576) (hr : IRow w A n X) (hg : Good z n X) (_hz : z ≤ 4096) (hf : Found (fun i => (X i).toNat) true z a k)
    (hq : ∀ W', IRow W' A n X → Calls Try.prog 57 #[.agg #[.int .i64 z, .slice A n c], .int .i64 ((k + 1 : Nat) : Int), .int .i64 ((k - a : Nat) : Int)] W' (fun e w' => ∃ p q b, e = .returned (.tuple #[.int .i64 p, .int .i64 q, .bool b]) ∧ Below W'.heap.size W' w' ∧ (∀ w0 w1, Below w0.heap.size w0 w1 → Q w0 e w1))) :
    Calls Try.prog 37 #[.agg #[.int .i64 z, .slice A n c], .int .i64 a] w (Q w) := by
  have L0 := Lib.hid (LS.start (z := (z : Int)) (c := c) hr 30)
  have HG := Lib.hid hg
  have HF := Lib.hid hf
  have HQ := Lib.hid hq
  have hka := hf.1
  have hkz := hf.2.1
  have E1 := Lib.hid (show ((k : Int) + 1) = ((k + 1 : Nat) : Int) by push_cast; rfl)
  have E2 := Lib.hid (show ((k : Int) - (a : Int)) = ((k - a : Nat) : Int) by omega)
  clear hr hg hf hq
  go_enter Try.func37, Try.ntmps37
  go_wp2_with fail
  refine (impl_next_yes z A n c X a k true _ hn L0.out.row HG.out HF.out).mono ?_; rintro e w1 ⟨rfl, hb⟩
  have L1 := Lib.hid (L0.out.step hb)
  clear hb L0
  obtain ⟨hs0, b0, b1⟩ := L1.out.box
  go_wp2_with fail
  rw [E1.out, E2.out]
  refine (HQ.out _ L1.out.row).mono ?_; rintro e w2 ⟨p, q, b, rfl, hb, hQ⟩
  have L2 := Lib.hid (L1.out.step hb)
  have HQ2 := Lib.hid (hQ w w2 L2.out.below)
  clear hb hQ
  go_wp2_with fail
  exact HQ2.out

theorem impl_readGamma_yes (z : Nat) (A : Option Addr) (n c : Nat) (X : Nat → Int) (gX gY : Nat → Nat) (a : Nat) (w : World) (hn : n ≤ 1048576) (hr : IRow w A n X) (hg : Good z n X) (hz : z ≤ 4096) (hG : GamAt z (fun i => (X i).toNat) gX gY) (ha : a ≤ z) (hy : gY a ≤ z) (hx : gX a ≤ 100000) :
    Calls Try.prog 37 #[.agg #[.int .i64 z, .slice A n c], .int .i64 a] w (Rd3 (gX a) (gY a) w) := by
  rcases hG a ha with ⟨k, hk, ex, ey⟩ | ⟨hk, ex, ey⟩
  · rw [ex] at hx ⊢
    rw [ey] at hy ⊢
    exact impl_readGamma_at (Rd3 _ _) z A n c X a k w hn hr hg hz hk (fun W' hw => (impl_readDigits_yes z A n c X (k + 1) (k - a) W' hn hw hg hz hy hx).mono fun e w' ⟨h1, h2⟩ => ⟨_, _, _, h1, h2, fun w0 w1 hb => ⟨h1, hb⟩⟩)
  · omega
theorem impl_readGamma_no (z : Nat) (A : Option Addr) (n c : Nat) (X : Nat → Int) (gX gY : Nat → Nat) (a : Nat) (w : World) (hn : n ≤ 1048576) (hr : IRow w A n X) (hg : Good z n X) (hz : z ≤ 4096) (hG : GamAt z (fun i => (X i).toNat) gX gY) (ha : a ≤ z) (h : ¬ (gY a ≤ z ∧ gX a ≤ 100000)) :
    Calls Try.prog 37 #[.agg #[.int .i64 z, .slice A n c], .int .i64 a] w (No3 w) := by
  rcases hG a ha with ⟨k, hk, ex, ey⟩ | ⟨hk, ex, ey⟩
  · rw [ex, ey] at h
    exact impl_readGamma_at No3 z A n c X a k w hn hr hg hz hk (fun W' hw => (impl_readDigits_no z A n c X (k + 1) (k - a) W' hn hw hg hz h).mono fun e w' ⟨p, q, h1, h2⟩ => ⟨p, q, false, h1, h2, fun w0 w1 hb => ⟨p, q, h1, hb⟩⟩)
  · exact impl_readGamma_none z A n c X a w hn hr hg hk

set_option maxRecDepth 100000 in
set_option maxHeartbeats 1000000 in
theorem impl_readDelta_none (z : Nat) (A : Option Addr) (n c : Nat) (X : Nat → Int) (a : Nat) (w : World) (hr : IRow w A n X)
    (hq : ∀ W', IRow W' A n X → Calls Try.prog 37 #[.agg #[.int .i64 z, .slice A n c], .int .i64 a] W' (No3 W')) :
    Calls Try.prog 38 #[.agg #[.int .i64 z, .slice A n c], .int .i64 a] w (No3 w) := by
  have L0 := Lib.hid (LS.start (z := (z : Int)) (c := c) hr 30)
  have HQ := Lib.hid hq
  clear hr hq
  go_enter Try.func38, Try.ntmps38
  go_wp2_with fail
  refine (HQ.out _ L0.out.row).mono ?_; rintro e w1 ⟨p, q, rfl, hb⟩
  have L1 := Lib.hid (L0.out.step hb)
  clear hb L0
  go_wp2_with fail
  go_ret3
  exact ⟨0, 0, rfl, L1.out.below⟩
set_option maxRecDepth 100000 in
set_option maxHeartbeats 1000000 in
theorem impl_readDelta_at (Q : World → Ending → World → Prop) (z : Nat) (A : Option Addr) (n c : Nat) (X : Nat → Int) (a x y : Nat) (w : World) (hr : IRow w A n X) (hx1 : 1 ≤ x) (hx2 : x ≤ 100000) (_hy : y ≤ z) (_hz : z ≤ 4096)
    (hp : ∀ W', IRow W' A n X → Calls Try.prog 37 #[.agg #[.int .i64 z, .slice A n c], .int .i64 a] W' (Rd3 x y W'))
    (hq : ∀ W', IRow W' A n X → Calls Try.prog 57 #[.agg #[.int .i64 z, .slice A n c], .int .i64 y, .int .i64 ((x - 1 : Nat) : Int)] W' (fun e w' => ∃ p q b, e = .returned (.tuple #[.int .i64 p, .int .i64 q, .bool b]) ∧ Below W'.heap.size W' w' ∧ (∀ w0 w1, Below w0.heap.size w0 w1 → Q w0 e w1))) :
    Calls Try.prog 38 #[.agg #[.int .i64 z, .slice A n c], .int .i64 a] w (Q w) := by
  have L0 := Lib.hid (LS.start (z := (z : Int)) (c := c) hr 30)
  have HP := Lib.hid hp
  have HQ := Lib.hid hq
  have E2 := Lib.hid (show ((x : Int) - 1) = ((x - 1 : Nat) : Int) by omega)
  clear hr hp hq
  go_enter Try.func38, Try.ntmps38
  go_wp2_with fail
  refine (HP.out _ L0.out.row).mono ?_; rintro e w1 ⟨rfl, hb⟩
  have L1 := Lib.hid (L0.out.step hb)
  clear hb L0
  obtain ⟨hs0, b0, b1⟩ := L1.out.box
  go_wp2_with fail
  rw [E2.out]
  refine (HQ.out _ L1.out.row).mono ?_; rintro e w2 ⟨p, q, b, rfl, hb, hQ⟩
  have L2 := Lib.hid (L1.out.step hb)
  have HQ2 := Lib.hid (hQ w w2 L2.out.below)
  clear hb hQ
  go_wp2_with fail
  exact HQ2.out
theorem impl_readDelta_yes (z : Nat) (A : Option Addr) (n c : Nat) (X : Nat → Int) (gX gY : Nat → Nat) (a : Nat) (w : World) (hn : n ≤ 1048576) (hr : IRow w A n X) (hg : Good z n X) (hz : z ≤ 4096) (hG : GamAt z (fun i => (X i).toNat) gX gY) (ha : a ≤ z) (hy : delY z gX gY a ≤ z) (hx : delX z (fun i => (X i).toNat) gX gY a ≤ 100000) :
    Calls Try.prog 38 #[.agg #[.int .i64 z, .slice A n c], .int .i64 a] w (Rd3 (delX z (fun i => (X i).toNat) gX gY a) (delY z gX gY a) w) := by
  have hb := hG.bd ha
  unfold delX at hx ⊢
  unfold delY at hy ⊢
  by_cases hc : gY a ≤ z
  · rw [if_pos hc] at hx hy ⊢
    rw [if_pos hc]
    have hp := (rd_pos (W := fun i => (X i).toNat) hy).2.1
    have h1 := hb.2.2 hc
    exact impl_readDelta_at (Rd3 _ _) z A n c X a (gX a) (gY a) w hr h1 (by omega) hc hz (fun W' hw => impl_readGamma_yes z A n c X gX gY a W' hn hw hg hz hG ha hc (by omega)) (fun W' hw => (impl_readDigits_yes z A n c X (gY a) (gX a - 1) W' hn hw hg hz hy hx).mono fun e w' ⟨h1, h2⟩ => ⟨_, _, _, h1, h2, fun w0 w1 hb => ⟨h1, hb⟩⟩)
  · rw [if_neg hc] at hy
    exact absurd hy hc
theorem impl_readDelta_no (z : Nat) (A : Option Addr) (n c : Nat) (X : Nat → Int) (gX gY : Nat → Nat) (a : Nat) (w : World) (hn : n ≤ 1048576) (hr : IRow w A n X) (hg : Good z n X) (hz : z ≤ 4096) (hG : GamAt z (fun i => (X i).toNat) gX gY) (ha : a ≤ z) (h : ¬ (delY z gX gY a ≤ z ∧ delX z (fun i => (X i).toNat) gX gY a ≤ 100000)) :
    Calls Try.prog 38 #[.agg #[.int .i64 z, .slice A n c], .int .i64 a] w (No3 w) := by
  have hb := hG.bd ha
  by_cases hc : gY a ≤ z ∧ gX a ≤ 100000
  · unfold delX delY at h
    rw [if_pos hc.1, if_pos hc.1] at h
    exact impl_readDelta_at No3 z A n c X a (gX a) (gY a) w hr (hb.2.2 hc.1) hc.2 hc.1 hz (fun W' hw => impl_readGamma_yes z A n c X gX gY a W' hn hw hg hz hG ha hc.1 hc.2) (fun W' hw => (impl_readDigits_no z A n c X (gY a) (gX a - 1) W' hn hw hg hz h).mono fun e w' ⟨p, q, h1, h2⟩ => ⟨p, q, false, h1, h2, fun w0 w1 hb => ⟨p, q, h1, hb⟩⟩)
  · exact impl_readDelta_none z A n c X a w hr (fun W' hw => impl_readGamma_no z A n c X gX gY a W' hn hw hg hz hG ha hc)
end Go.Proofs.Ytdmdafifgaenhab
