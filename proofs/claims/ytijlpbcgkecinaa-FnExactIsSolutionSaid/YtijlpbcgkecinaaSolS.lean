/- IsSolution: both sides. -/
import Derived.Test.YtijlpbcgkecinaaSyV
import Derived.Test.YtijlpbcgkecinaaPar
import Derived.Deep.RegionHeld3
namespace Go.Proofs.Ytijlpbcgkecinaa
open Go.RowKit

/-- A System and a bit vector in boxes. -/
structure SB (w : World) (z : Int) (A : Option Addr) (n c : Nat) (V : Nat → BV) (B : Nat → Option Addr) (d : Nat → Nat) (A2 : Option Addr) (m c2 : Nat) (R : Nat → Bool) (y : Int) (Y : Option Addr) (l e : Nat) (U : Nat → Int) (wi : World) : Prop where
  sx : SX w z A n c V B d A2 m c2 R wi
  box : NBX w.heap.size (w.heap.size + 1) #[.int .i64 y, .slice Y l e] 55 wi
  row : IRow wi Y l U
section
variable {w wi wj : World} {z y : Int} {A A2 Y : Option Addr} {n c m c2 l e : Nat} {V : Nat → BV} {B : Nat → Option Addr} {d : Nat → Nat} {R : Nat → Bool} {U : Nat → Int}
theorem SB.step (h : SB w z A n c V B d A2 m c2 R y Y l e U wi) (hb : Below wi.heap.size wi wj) : SB w z A n c V B d A2 m c2 R y Y l e U wj := ⟨h.sx.step hb, h.box.b hb, h.row.b hb⟩
theorem SB.al (h : SB w z A n c V B d A2 m c2 R y Y l e U wi) (o : Obj) : SB w z A n c V B d A2 m c2 R y Y l e U (wi.alloc o) := h.step ((Below.refl _ _).alloc (Nat.le_refl _) _)
theorem SB.drewN (h : SB w z A n c V B d A2 m c2 R y Y l e U wi) (k : Nat) : SB w z A n c V B d A2 m c2 R y Y l e U (wi.drewN k) := h.step (below_drewN (Below.refl _ _) _)
theorem SB.start (h : VR w A n V B d) (hr : GRow w A2 m (boolV R)) (hy : IRow w Y l U) : SB w z A n c V B d A2 m c2 R y Y l e U ((w.alloc (.cells #[.int .i64 z, .slice A n c, .slice A2 m c2] 30)).alloc (.cells #[.int .i64 y, .slice Y l e] 55)) := by
  have h1 := nbx0 (w.alloc (.cells #[.int .i64 z, .slice A n c, .slice A2 m c2] 30)) #[.int .i64 y, .slice Y l e] 55
  simp only [World.size_alloc] at h1
  exact ⟨(SX.start h hr).al _, ⟨h1.blk, by omega⟩, (hy.b ((Below.refl _ _).alloc (Nat.le_refl _) _)).b ((Below.refl _ _).alloc (Nat.le_refl _) _)⟩
theorem good_same {z : Int} {n m : Nat} {X Y : Nat → Int} (h : Good z n X) (k : Good z m Y) : m = n := by have := h.2.2.1; have := k.2.2.1; omega
theorem isOddIn_two {z n m c d : Nat} {A B : Option Addr} {X Y : Nat → Int} {w : World} (hn : n ≤ 256) (hr : IRow w A n X) (hs : IRow w B m Y) (hg : Good z n X) (hh : Good z m Y) :
    Calls Try.prog 72 #[.slice A n c, .slice B m d] w fun e w' => e = .returned (.bool (oddB X Y z)) ∧ w = w' := by
  obtain rfl : n = m := (good_same hg hh).symm
  exact impl_isOddIn hn hr hs hg hh
theorem reOdd_two {z n m c d : Nat} {A B : Option Addr} {X Y : Nat → Int} {w : World} (hn : n ≤ 256) (hr : IRow w A n X) (hs : IRow w B m Y) (hg : Good z n X) (hh : Good z m Y) :
    Calls Try.prog 71 #[.agg #[.int .i64 z, .slice A n c], .agg #[.int .i64 z, .slice B m d]] w fun e w' => e = .returned (.bool (oddB X Y z)) ∧ Below w.heap.size w w' := by
  obtain rfl : n = m := (good_same hg hh).symm
  exact spec_reOdd hn hr hs hg hh
/-- Whether a vector is a solution. -/
def SolP (V : Nat → BV) (U : Nat → Int) (R : Nat → Bool) (Z n : Nat) : Prop := ∀ i, i < n → oddB (V i).x U Z = R i

set_option maxRecDepth 100000 in
set_option maxHeartbeats 4000000 in
theorem impl_isSolution_no (hn : n + sumV V n ≤ 1048576) (hm : m ≤ 1048576) (hl : l ≤ 1048576) (hr : VR w A n V B d) (hq : GRow w A2 m (boolV R)) (hy : IRow w Y l U) (hno : ¬ (SyV z n V m ∧ Good y l U)) :
    Calls Try.prog 31 #[.agg #[.int .i64 z, .slice A n c, .slice A2 m c2], .agg #[.int .i64 y, .slice Y l e]] w fun e w' => e = .returned (.tuple #[.bool false, .bool false]) ∧ Below w.heap.size w w' := by
  have S0 := Lib.hid (SB.start (z := z) (c := c) (c2 := c2) (y := y) (e := e) hr hq hy)
  clear hr hq hy
  by_cases h1 : SyV z n V m
  · have h2 : ¬ Good y l U := fun h2 => hno ⟨h1, h2⟩
    have x0 := S0.out.sx.box.cell 0 _ rfl
    have x1 := S0.out.sx.box.cell 1 _ rfl
    have x2 := S0.out.sx.box.cell 2 _ rfl
    have v0 := S0.out.box.cell 0 _ rfl
    have v1 := S0.out.box.cell 1 _ rfl
    go_enter Try.func31, Try.ntmps31
    go_wp2_with fail
    refine (impl_isSystem (b := true) (by simp [h1]) hn hm S0.out.sx.row S0.out.sx.right).mono ?_; rintro e1 w1 ⟨rfl, hw⟩
    have S1 := Lib.hid (S0.out.step hw)
    clear x0 x1 x2 v0 v1 hw
    have x0 := S1.out.sx.box.cell 0 _ rfl
    have x1 := S1.out.sx.box.cell 1 _ rfl
    have x2 := S1.out.sx.box.cell 2 _ rfl
    have v0 := S1.out.box.cell 0 _ rfl
    have v1 := S1.out.box.cell 1 _ rfl
    go_wp2_with fail
    refine (isBits_no hl S1.out.row h2).mono ?_; rintro e2 w2 ⟨rfl, hw⟩
    have S2 := Lib.hid (S1.out.step hw)
    clear x0 x1 x2 v0 v1 hw
    have x0 := S2.out.sx.box.cell 0 _ rfl
    have x1 := S2.out.sx.box.cell 1 _ rfl
    have x2 := S2.out.sx.box.cell 2 _ rfl
    have v0 := S2.out.box.cell 0 _ rfl
    have v1 := S2.out.box.cell 1 _ rfl
    go_wp2_with fail
    go_ret2
    exact ⟨rfl, S2.out.sx.below⟩
  · have x0 := S0.out.sx.box.cell 0 _ rfl
    have x1 := S0.out.sx.box.cell 1 _ rfl
    have x2 := S0.out.sx.box.cell 2 _ rfl
    have v0 := S0.out.box.cell 0 _ rfl
    have v1 := S0.out.box.cell 1 _ rfl
    go_enter Try.func31, Try.ntmps31
    go_wp2_with fail
    refine (impl_isSystem (b := false) (by simp [h1]) hn hm S0.out.sx.row S0.out.sx.right).mono ?_; rintro e1 w1 ⟨rfl, hw⟩
    have S1 := Lib.hid (S0.out.step hw)
    clear x0 x1 x2 v0 v1 hw
    have x0 := S1.out.sx.box.cell 0 _ rfl
    have x1 := S1.out.sx.box.cell 1 _ rfl
    have x2 := S1.out.sx.box.cell 2 _ rfl
    have v0 := S1.out.box.cell 0 _ rfl
    have v1 := S1.out.box.cell 1 _ rfl
    go_wp2_with fail
    go_ret2
    exact ⟨rfl, S1.out.sx.below⟩
set_option maxRecDepth 100000 in
set_option maxHeartbeats 4000000 in
theorem impl_isSolution_size (hn : n + sumV V n ≤ 1048576) (hm : m ≤ 1048576) (hl : l ≤ 1048576) (hr : VR w A n V B d) (hq : GRow w A2 m (boolV R)) (hy : IRow w Y l U) (h1 : SyV z n V m) (h2 : Good y l U) (hne : y ≠ z) :
    Calls Try.prog 31 #[.agg #[.int .i64 z, .slice A n c, .slice A2 m c2], .agg #[.int .i64 y, .slice Y l e]] w fun e w' => e = .returned (.tuple #[.bool false, .bool true]) ∧ Below w.heap.size w w' := by
  have S0 := Lib.hid (SB.start (z := z) (c := c) (c2 := c2) (y := y) (e := e) hr hq hy)
  clear hr hq hy
  have e9 : (y != z) = true := by simp [hne]
  clear hne
  have x0 := S0.out.sx.box.cell 0 _ rfl
  have x1 := S0.out.sx.box.cell 1 _ rfl
  have x2 := S0.out.sx.box.cell 2 _ rfl
  have v0 := S0.out.box.cell 0 _ rfl
  have v1 := S0.out.box.cell 1 _ rfl
  go_enter Try.func31, Try.ntmps31
  go_wp2_with fail
  refine (impl_isSystem (b := true) (by simp [h1]) hn hm S0.out.sx.row S0.out.sx.right).mono ?_; rintro e1 w1 ⟨rfl, hw⟩
  have S1 := Lib.hid (S0.out.step hw)
  clear x0 x1 x2 v0 v1 hw
  have x0 := S1.out.sx.box.cell 0 _ rfl
  have x1 := S1.out.sx.box.cell 1 _ rfl
  have x2 := S1.out.sx.box.cell 2 _ rfl
  have v0 := S1.out.box.cell 0 _ rfl
  have v1 := S1.out.box.cell 1 _ rfl
  go_wp2_with fail
  refine (isBits_yes hl S1.out.row h2).mono ?_; rintro e2 w2 ⟨rfl, hw⟩
  have S2 := Lib.hid (S1.out.step hw)
  clear x0 x1 x2 v0 v1 hw
  have x0 := S2.out.sx.box.cell 0 _ rfl
  have x1 := S2.out.sx.box.cell 1 _ rfl
  have x2 := S2.out.sx.box.cell 2 _ rfl
  have v0 := S2.out.box.cell 0 _ rfl
  have v1 := S2.out.box.cell 1 _ rfl
  go_wp2_with fail
  go_ret2
  exact ⟨rfl, S2.out.sx.below⟩
set_option maxRecDepth 100000 in
set_option maxHeartbeats 4000000 in
theorem impl_isSolution {Z : Nat} {b : Bool} (hb : b = true ↔ SolP V U R Z n) (hn : n + sumV V n ≤ 1048576) (hl : l ≤ 1048576) (hr : VR w A n V B d) (hq : GRow w A2 n (boolV R)) (hy : IRow w Y l U) (h1 : SyV Z n V n) (h2 : Good Z l U) :
    Calls Try.prog 31 #[.agg #[.int .i64 Z, .slice A n c, .slice A2 n c2], .agg #[.int .i64 Z, .slice Y l e]] w fun e w' => e = .returned (.tuple #[.bool b, .bool true]) ∧ Below w.heap.size w w' := by
  have S0 := Lib.hid (SB.start (z := (Z : Int)) (c := c) (c2 := c2) (y := (Z : Int)) (e := e) hr hq hy)
  have hm : n ≤ 1048576 := by omega
  have HY := Lib.hid h1
  have HG := Lib.hid h2
  have HBB := Lib.hid hb
  have hn40 : n ≤ 40 := h1.2.1
  have hz72 : Z ≤ 72 := by have := h1.1; omega
  clear hr hq hy hb
  have x0 := S0.out.sx.box.cell 0 _ rfl
  have x1 := S0.out.sx.box.cell 1 _ rfl
  have x2 := S0.out.sx.box.cell 2 _ rfl
  have v0 := S0.out.box.cell 0 _ rfl
  have v1 := S0.out.box.cell 1 _ rfl
  go_enter Try.func31, Try.ntmps31
  go_wp2_with fail
  refine (impl_isSystem (b := true) (by simp [h1]) hn hm S0.out.sx.row S0.out.sx.right).mono ?_; rintro e1 w1 ⟨rfl, hw⟩
  have S1 := Lib.hid (S0.out.step hw)
  clear x0 x1 x2 v0 v1 hw
  have x0 := S1.out.sx.box.cell 0 _ rfl
  have x1 := S1.out.sx.box.cell 1 _ rfl
  have x2 := S1.out.sx.box.cell 2 _ rfl
  have v0 := S1.out.box.cell 0 _ rfl
  have v1 := S1.out.box.cell 1 _ rfl
  go_wp2_with fail
  refine (isBits_yes hl S1.out.row h2).mono ?_; rintro e2 w2 ⟨rfl, hw⟩
  have S2 := Lib.hid (S1.out.step hw)
  clear x0 x1 x2 v0 v1 hw
  have x0 := S2.out.sx.box.cell 0 _ rfl
  have x1 := S2.out.sx.box.cell 1 _ rfl
  have x2 := S2.out.sx.box.cell 2 _ rfl
  have v0 := S2.out.box.cell 0 _ rfl
  have v1 := S2.out.box.cell 1 _ rfl
  go_wp2_with fail
  clear x0 x1 x2 v0 v1
  go_loopw [24] (fun i wr => ∃ k : Nat, k ≤ n ∧ i = .int .i64 k ∧ Hid (SolP V U R Z k) ∧ Hid (SB w Z A n c V B d A2 n c2 R Z Y l e U wr)) (fun i _ => n - (intOf i).toNat)
  case atStart => exact ⟨0, Nat.zero_le _, rfl, Lib.hid (fun i hi => absurd hi (by omega)), S2⟩
  case round =>
    obtain ⟨k, hk, rfl, HI, HS⟩ := hrel
    by_cases hlt : k < n
    · obtain ⟨b1, o1, rfl, _, hc⟩ := HS.out.sx.row.1 (by omega)
      have y0 := hc (k * 2) (by omega)
      have y1 := hc (k * 2 + 1) (by omega)
      rw [← Nat.add_assoc] at y1
      rw [bsV_0] at y0
      rw [bsV_1] at y1
      obtain ⟨b3, o3, rfl, lr, hc3⟩ := HS.out.sx.right (by omega)
      have q0 := hc3 k hlt
      unfold boolV at q0
      have LR := Lib.hid lr
      have Q0 := Lib.hid q0
      clear hc hc3 lr
      have hvk := HY.out.2.2.2 k hlt
      have hzk := hvk.1
      have GK := Lib.hid (show Good Z (V k).l (V k).x from hzk ▸ hvk.2)
      have hlk := HY.out.len k hlt
      rw [hzk] at y0
      clear hvk hzk
      have S4 := Lib.hid (HS.out.al (.cells #[.int .i64 Z, .slice (B k) (V k).l (d k)] 55))
      have BX := Lib.hid (boxed wr #[.int .i64 Z, .slice (B k) (V k).l (d k)] 55)
      have x0 := S4.out.sx.box.cell 0 _ rfl
      have x1 := S4.out.sx.box.cell 1 _ rfl
      have x2 := S4.out.sx.box.cell 2 _ rfl
      have v0 := S4.out.box.cell 0 _ rfl
      have v1 := S4.out.box.cell 1 _ rfl
      have g0 := BX.out.now 0 _ rfl
      have g1 := BX.out.now 1 _ rfl
      have q1 : (wr.alloc (.cells #[.int .i64 Z, .slice (B k) (V k).l (d k)] 55)).cell? ⟨b3, o3 + k, none⟩ = some (.bool (R k)) := ((below_al (Below.refl _ _)).cell (p := ⟨b3, o3 + k, none⟩) LR.out).trans Q0.out
      have HC := Lib.hid (fun j => isOddIn_two (c := d k) (d := e) (by omega) ((S4.out.drewN j).sx.row.2 k hlt) (S4.out.drewN j).row GK.out HG.out)
      have HV := Lib.hid (show SolP V U R Z (k + 1) ↔ (oddB (V k).x U Z = R k) from ⟨fun h => h k (by omega), fun h i hi => by
        by_cases e : i = k
        · subst e; exact h
        · exact HI.out i (by omega)⟩)
      generalize hov : oddB (V k).x U Z = o at *
      generalize hrv : R k = rk at *
      go_wp2_with fail
      go_quiet ((go_at_call 72; exact quiet_left (HC.out _)))
      have S5 := Lib.hid (S4.out.drewN nq)
      clear x0 x1 x2 v0 v1 y0 y1 q0
      clear hov hrv
      cases o <;> cases rk
      · go_wp2_with fail
        go_roundw
        case rel => exact ⟨k + 1, by omega, by go_num, Lib.hid (HV.out.2 rfl), S5⟩
        case measure => simp [intOf]; omega
      · obtain rfl : b = false := bool_fix HBB.out (by simp only [Bool.false_eq_true, false_iff]; exact fun h => by have h9 := HV.out.1 (fun i hi => h i (by omega)); exact Bool.noConfusion h9)
        go_wp2_with fail
        go_ret2
        exact ⟨rfl, S5.out.sx.below⟩
      · obtain rfl : b = false := bool_fix HBB.out (by simp only [Bool.false_eq_true, false_iff]; exact fun h => by have h9 := HV.out.1 (fun i hi => h i (by omega)); exact Bool.noConfusion h9)
        go_wp2_with fail
        go_ret2
        exact ⟨rfl, S5.out.sx.below⟩
      · go_wp2_with fail
        go_roundw
        case rel => exact ⟨k + 1, by omega, by go_num, Lib.hid (HV.out.2 rfl), S5⟩
        case measure => simp [intOf]; omega
    · obtain rfl : k = n := by omega
      obtain rfl : b = true := bool_fix HBB.out (by simp only [true_iff]; exact HI.out)
      go_wp2_with fail
      go_ret2
      exact ⟨rfl, HS.out.sx.below⟩
set_option maxRecDepth 100000 in
set_option maxHeartbeats 4000000 in
theorem spec_isSolution_no (hn : n + sumV V n ≤ 1048576) (hm : m ≤ 1048576) (hl : l ≤ 1048576) (hr : VR w A n V B d) (hq : GRow w A2 m (boolV R)) (hy : IRow w Y l U) (hno : ¬ (SyV z n V m ∧ Good y l U)) :
    Calls Try.prog 29 #[.agg #[.int .i64 z, .slice A n c, .slice A2 m c2], .agg #[.int .i64 y, .slice Y l e]] w fun e w' => e = .returned (.tuple #[.bool false, .bool false]) ∧ Below w.heap.size w w' := by
  have S0 := Lib.hid (SB.start (z := z) (c := c) (c2 := c2) (y := y) (e := e) hr hq hy)
  clear hr hq hy
  by_cases h1 : SyV z n V m
  · have h2 : ¬ Good y l U := fun h2 => hno ⟨h1, h2⟩
    have x0 := S0.out.sx.box.cell 0 _ rfl
    have x1 := S0.out.sx.box.cell 1 _ rfl
    have x2 := S0.out.sx.box.cell 2 _ rfl
    have v0 := S0.out.box.cell 0 _ rfl
    have v1 := S0.out.box.cell 1 _ rfl
    go_enter Try.func29, Try.ntmps29
    go_wp2_with fail
    refine (spec_reGood (b := true) (by simp [h1]) hn hm S0.out.sx.row S0.out.sx.right).mono ?_; rintro e1 w1 ⟨rfl, hw⟩
    have S1 := Lib.hid (S0.out.step hw)
    clear x0 x1 x2 v0 v1 hw
    have x0 := S1.out.sx.box.cell 0 _ rfl
    have x1 := S1.out.sx.box.cell 1 _ rfl
    have x2 := S1.out.sx.box.cell 2 _ rfl
    have v0 := S1.out.box.cell 0 _ rfl
    have v1 := S1.out.box.cell 1 _ rfl
    go_wp2_with fail
    refine (biGood_no hl S1.out.row h2).mono ?_; rintro e2 w2 ⟨rfl, hw⟩
    have S2 := Lib.hid (S1.out.step hw)
    clear x0 x1 x2 v0 v1 hw
    have x0 := S2.out.sx.box.cell 0 _ rfl
    have x1 := S2.out.sx.box.cell 1 _ rfl
    have x2 := S2.out.sx.box.cell 2 _ rfl
    have v0 := S2.out.box.cell 0 _ rfl
    have v1 := S2.out.box.cell 1 _ rfl
    go_wp2_with fail
    go_ret2
    exact ⟨rfl, S2.out.sx.below⟩
  · have x0 := S0.out.sx.box.cell 0 _ rfl
    have x1 := S0.out.sx.box.cell 1 _ rfl
    have x2 := S0.out.sx.box.cell 2 _ rfl
    have v0 := S0.out.box.cell 0 _ rfl
    have v1 := S0.out.box.cell 1 _ rfl
    go_enter Try.func29, Try.ntmps29
    go_wp2_with fail
    refine (spec_reGood (b := false) (by simp [h1]) hn hm S0.out.sx.row S0.out.sx.right).mono ?_; rintro e1 w1 ⟨rfl, hw⟩
    have S1 := Lib.hid (S0.out.step hw)
    clear x0 x1 x2 v0 v1 hw
    have x0 := S1.out.sx.box.cell 0 _ rfl
    have x1 := S1.out.sx.box.cell 1 _ rfl
    have x2 := S1.out.sx.box.cell 2 _ rfl
    have v0 := S1.out.box.cell 0 _ rfl
    have v1 := S1.out.box.cell 1 _ rfl
    go_wp2_with fail
    go_ret2
    exact ⟨rfl, S1.out.sx.below⟩
set_option maxRecDepth 100000 in
set_option maxHeartbeats 4000000 in
theorem spec_isSolution_size (hn : n + sumV V n ≤ 1048576) (hm : m ≤ 1048576) (hl : l ≤ 1048576) (hr : VR w A n V B d) (hq : GRow w A2 m (boolV R)) (hy : IRow w Y l U) (h1 : SyV z n V m) (h2 : Good y l U) (hne : y ≠ z) :
    Calls Try.prog 29 #[.agg #[.int .i64 z, .slice A n c, .slice A2 m c2], .agg #[.int .i64 y, .slice Y l e]] w fun e w' => e = .returned (.tuple #[.bool false, .bool true]) ∧ Below w.heap.size w w' := by
  have S0 := Lib.hid (SB.start (z := z) (c := c) (c2 := c2) (y := y) (e := e) hr hq hy)
  clear hr hq hy
  have e9 : (y != z) = true := by simp [hne]
  clear hne
  have x0 := S0.out.sx.box.cell 0 _ rfl
  have x1 := S0.out.sx.box.cell 1 _ rfl
  have x2 := S0.out.sx.box.cell 2 _ rfl
  have v0 := S0.out.box.cell 0 _ rfl
  have v1 := S0.out.box.cell 1 _ rfl
  go_enter Try.func29, Try.ntmps29
  go_wp2_with fail
  refine (spec_reGood (b := true) (by simp [h1]) hn hm S0.out.sx.row S0.out.sx.right).mono ?_; rintro e1 w1 ⟨rfl, hw⟩
  have S1 := Lib.hid (S0.out.step hw)
  clear x0 x1 x2 v0 v1 hw
  have x0 := S1.out.sx.box.cell 0 _ rfl
  have x1 := S1.out.sx.box.cell 1 _ rfl
  have x2 := S1.out.sx.box.cell 2 _ rfl
  have v0 := S1.out.box.cell 0 _ rfl
  have v1 := S1.out.box.cell 1 _ rfl
  go_wp2_with fail
  refine (biGood_yes hl S1.out.row h2).mono ?_; rintro e2 w2 ⟨rfl, hw⟩
  have S2 := Lib.hid (S1.out.step hw)
  clear x0 x1 x2 v0 v1 hw
  have x0 := S2.out.sx.box.cell 0 _ rfl
  have x1 := S2.out.sx.box.cell 1 _ rfl
  have x2 := S2.out.sx.box.cell 2 _ rfl
  have v0 := S2.out.box.cell 0 _ rfl
  have v1 := S2.out.box.cell 1 _ rfl
  go_wp2_with fail
  go_ret2
  exact ⟨rfl, S2.out.sx.below⟩
set_option maxRecDepth 100000 in
set_option maxHeartbeats 4000000 in
theorem spec_isSolution {Z : Nat} {b : Bool} (hb : b = true ↔ SolP V U R Z n) (hn : n + sumV V n ≤ 1048576) (hl : l ≤ 1048576) (hr : VR w A n V B d) (hq : GRow w A2 n (boolV R)) (hy : IRow w Y l U) (h1 : SyV Z n V n) (h2 : Good Z l U) :
    Calls Try.prog 29 #[.agg #[.int .i64 Z, .slice A n c, .slice A2 n c2], .agg #[.int .i64 Z, .slice Y l e]] w fun e w' => e = .returned (.tuple #[.bool b, .bool true]) ∧ Below w.heap.size w w' := by
  have S0 := Lib.hid (SB.start (z := (Z : Int)) (c := c) (c2 := c2) (y := (Z : Int)) (e := e) hr hq hy)
  have hm : n ≤ 1048576 := by omega
  have HY := Lib.hid h1
  have HG := Lib.hid h2
  have HBB := Lib.hid hb
  have hn40 : n ≤ 40 := h1.2.1
  have hz72 : Z ≤ 72 := by have := h1.1; omega
  clear hr hq hy hb
  have x0 := S0.out.sx.box.cell 0 _ rfl
  have x1 := S0.out.sx.box.cell 1 _ rfl
  have x2 := S0.out.sx.box.cell 2 _ rfl
  have v0 := S0.out.box.cell 0 _ rfl
  have v1 := S0.out.box.cell 1 _ rfl
  go_enter Try.func29, Try.ntmps29
  go_wp2_with fail
  refine (spec_reGood (b := true) (by simp [h1]) hn hm S0.out.sx.row S0.out.sx.right).mono ?_; rintro e1 w1 ⟨rfl, hw⟩
  have S1 := Lib.hid (S0.out.step hw)
  clear x0 x1 x2 v0 v1 hw
  have x0 := S1.out.sx.box.cell 0 _ rfl
  have x1 := S1.out.sx.box.cell 1 _ rfl
  have x2 := S1.out.sx.box.cell 2 _ rfl
  have v0 := S1.out.box.cell 0 _ rfl
  have v1 := S1.out.box.cell 1 _ rfl
  go_wp2_with fail
  refine (biGood_yes hl S1.out.row h2).mono ?_; rintro e2 w2 ⟨rfl, hw⟩
  have S2 := Lib.hid (S1.out.step hw)
  clear x0 x1 x2 v0 v1 hw
  have x0 := S2.out.sx.box.cell 0 _ rfl
  have x1 := S2.out.sx.box.cell 1 _ rfl
  have x2 := S2.out.sx.box.cell 2 _ rfl
  have v0 := S2.out.box.cell 0 _ rfl
  have v1 := S2.out.box.cell 1 _ rfl
  go_wp2_with fail
  clear x0 x1 x2 v0 v1
  go_loopw [24] (fun i wr => ∃ k : Nat, k ≤ n ∧ i = .int .i64 k ∧ Hid (SolP V U R Z k) ∧ Hid (SB w Z A n c V B d A2 n c2 R Z Y l e U wr)) (fun i _ => n - (intOf i).toNat)
  case atStart => exact ⟨0, Nat.zero_le _, rfl, Lib.hid (fun i hi => absurd hi (by omega)), S2⟩
  case round =>
    obtain ⟨k, hk, rfl, HI, HS⟩ := hrel
    by_cases hlt : k < n
    · obtain ⟨b1, o1, rfl, _, hc⟩ := HS.out.sx.row.1 (by omega)
      have y0 := hc (k * 2) (by omega)
      have y1 := hc (k * 2 + 1) (by omega)
      rw [← Nat.add_assoc] at y1
      rw [bsV_0] at y0
      rw [bsV_1] at y1
      obtain ⟨b3, o3, rfl, lr, hc3⟩ := HS.out.sx.right (by omega)
      have q0 := hc3 k hlt
      unfold boolV at q0
      have LR := Lib.hid lr
      have Q0 := Lib.hid q0
      clear hc hc3 lr
      have hvk := HY.out.2.2.2 k hlt
      have hzk := hvk.1
      have GK := Lib.hid (show Good Z (V k).l (V k).x from hzk ▸ hvk.2)
      have hlk := HY.out.len k hlt
      rw [hzk] at y0
      clear hvk hzk
      have S4 := Lib.hid (HS.out.al (.cells #[.int .i64 Z, .slice (B k) (V k).l (d k)] 55))
      have BX := Lib.hid (boxed wr #[.int .i64 Z, .slice (B k) (V k).l (d k)] 55)
      have x0 := S4.out.sx.box.cell 0 _ rfl
      have x1 := S4.out.sx.box.cell 1 _ rfl
      have x2 := S4.out.sx.box.cell 2 _ rfl
      have v0 := S4.out.box.cell 0 _ rfl
      have v1 := S4.out.box.cell 1 _ rfl
      have HK := Lib.hid (fun (W' : World) (hw : Below (wr.alloc (.cells #[.int .i64 Z, .slice (B k) (V k).l (d k)] 55)).heap.size (wr.alloc (.cells #[.int .i64 Z, .slice (B k) (V k).l (d k)] 55)) W') => (show W'.cell? ⟨wr.heap.size, 0, none⟩ = some (.int .i64 Z) ∧ W'.cell? ⟨wr.heap.size, 1, none⟩ = some (.slice (B k) (V k).l (d k)) ∧ W'.cell? ⟨w.heap.size + 1, 0, none⟩ = some (.int .i64 Z) ∧ W'.cell? ⟨w.heap.size + 1, 1, none⟩ = some (.slice Y l e) ∧ W'.cell? ⟨w.heap.size, 2, none⟩ = some (.slice (some ⟨b3, o3, none⟩) n c2) ∧ W'.cell? ⟨b3, o3 + k, none⟩ = some (.bool (R k)) from
        ⟨(BX.out.b hw).now 0 _ rfl, (BX.out.b hw).now 1 _ rfl, (S4.out.step hw).box.cell 0 _ rfl, (S4.out.step hw).box.cell 1 _ rfl, (S4.out.step hw).sx.box.cell 2 _ rfl, ((below_al hw).cell (p := ⟨b3, o3 + k, none⟩) LR.out).trans Q0.out⟩))
      have HV := Lib.hid (show SolP V U R Z (k + 1) ↔ (oddB (V k).x U Z = R k) from ⟨fun h => h k (by omega), fun h i hi => by
        by_cases e : i = k
        · subst e; exact h
        · exact HI.out i (by omega)⟩)
      have HC := Lib.hid (fun W' (h : Below (wr.alloc (.cells #[.int .i64 Z, .slice (B k) (V k).l (d k)] 55)).heap.size (wr.alloc (.cells #[.int .i64 Z, .slice (B k) (V k).l (d k)] 55)) W') => reOdd_two (c := d k) (d := e) (by omega) ((S4.out.step h).sx.row.2 k hlt) (S4.out.step h).row GK.out HG.out)
      generalize hov : oddB (V k).x U Z = o at *
      generalize hrv : R k = rk at *
      go_wp2_with fail
      go_region_held3 (fun W' => W'.cell? ⟨wr.heap.size, 0, none⟩ = some (.int .i64 Z) ∧ W'.cell? ⟨wr.heap.size, 1, none⟩ = some (.slice (B k) (V k).l (d k)) ∧ W'.cell? ⟨w.heap.size + 1, 0, none⟩ = some (.int .i64 Z) ∧ W'.cell? ⟨w.heap.size + 1, 1, none⟩ = some (.slice Y l e) ∧ W'.cell? ⟨w.heap.size, 2, none⟩ = some (.slice (some ⟨b3, o3, none⟩) n c2) ∧ W'.cell? ⟨b3, o3 + k, none⟩ = some (.bool rk))
        (first | with_reducible exact HK.out _ hq1 | (go_keep; done))
        (first
          | (go_at_call 71; refine (HC.out _ (Below.drew (Below.refl _ _))).mono ?_; rintro e1 w3 ⟨rfl, hq1'⟩; have hq1 := of_drew hq1'; clear hq1'))
      have S5 := Lib.hid (S4.out.step hq1)
      clear hq1 HK HC
      clear x0 x1 x2 v0 v1 y0 y1 q0
      clear hov hrv
      cases o <;> cases rk
      · go_wp2_with fail
        go_roundw
        case rel => exact ⟨k + 1, by omega, by go_num, Lib.hid (HV.out.2 rfl), S5⟩
        case measure => simp [intOf]; omega
      · obtain rfl : b = false := bool_fix HBB.out (by simp only [Bool.false_eq_true, false_iff]; exact fun h => by have h9 := HV.out.1 (fun i hi => h i (by omega)); exact Bool.noConfusion h9)
        go_wp2_with fail
        go_ret2
        exact ⟨rfl, S5.out.sx.below⟩
      · obtain rfl : b = false := bool_fix HBB.out (by simp only [Bool.false_eq_true, false_iff]; exact fun h => by have h9 := HV.out.1 (fun i hi => h i (by omega)); exact Bool.noConfusion h9)
        go_wp2_with fail
        go_ret2
        exact ⟨rfl, S5.out.sx.below⟩
      · go_wp2_with fail
        go_roundw
        case rel => exact ⟨k + 1, by omega, by go_num, Lib.hid (HV.out.2 rfl), S5⟩
        case measure => simp [intOf]; omega
    · obtain rfl : k = n := by omega
      obtain rfl : b = true := bool_fix HBB.out (by simp only [true_iff]; exact HI.out)
      go_wp2_with fail
      go_ret2
      exact ⟨rfl, HS.out.sx.below⟩
end
end Go.Proofs.Ytijlpbcgkecinaa
