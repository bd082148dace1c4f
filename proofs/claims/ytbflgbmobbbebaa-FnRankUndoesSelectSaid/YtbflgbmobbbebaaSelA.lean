/- selectOf: the code's search. -/
import Derived.Test.YtbflgbmobbbebaaSearch
import Derived.Deep.RegionHeld3
namespace Go.Proofs.Ytbflgbmobbbebaa
open Go.RowKit

/-- The boxes of selectOf: the Ranked at b, the kind, the number. -/
structure SB (w : World) (b : Nat) (z : Int) (A1 : Option Addr) (n c1 : Nat) (X : Nat → Int) (A2 : Option Addr) (s c2 : Nat) (Y : Nat → Int) (A3 : Option Addr) (m c3 : Nat) (Z : Nat → Int) (kind k : Int) (wi : World) : Prop where
  rl : RL w b z A1 n c1 X A2 s c2 Y A3 m c3 Z wi
  kb : NBX (b + 1) (b + 1) #[.int .i64 kind] 3 wi
  nb : NBX (b + 2) (b + 2) #[.int .i64 k] 3 wi
section
variable {z : Int} {A1 A2 A3 : Option Addr} {n c1 s c2 m c3 q : Nat} {X Y Z : Nat → Int} {kind k : Int} {w wi wj : World}
theorem SB.step (h : SB w q z A1 n c1 X A2 s c2 Y A3 m c3 Z kind k wi) (hb : Below wi.heap.size wi wj) : SB w q z A1 n c1 X A2 s c2 Y A3 m c3 Z kind k wj := ⟨h.rl.step hb, h.kb.b hb, h.nb.b hb⟩
theorem SB.drew (h : SB w q z A1 n c1 X A2 s c2 Y A3 m c3 Z kind k wi) : SB w q z A1 n c1 X A2 s c2 Y A3 m c3 Z kind k wi.drew := h.step (Below.drew (Below.refl _ _))
theorem SB.start (h : RkR A1 n X A2 s Y A3 m Z w) : SB w w.heap.size z A1 n c1 X A2 s c2 Y A3 m c3 Z kind k (((w.alloc (.cells (rkC z A1 n c1 A2 s c2 A3 m c3) 29)).alloc (.cells #[.int .i64 kind] 3)).alloc (.cells #[.int .i64 k] 3)) := by
  have e1 : (w.alloc (.cells (rkC z A1 n c1 A2 s c2 A3 m c3) 29)).heap.size = w.heap.size + 1 := by simp
  have e2 : ((w.alloc (.cells (rkC z A1 n c1 A2 s c2 A3 m c3) 29)).alloc (.cells #[.int .i64 kind] 3)).heap.size = w.heap.size + 2 := by simp
  have h1 := nbx0 (w.alloc (.cells (rkC z A1 n c1 A2 s c2 A3 m c3) 29)) #[.int .i64 kind] 3
  have h2 := nbx0 ((w.alloc (.cells (rkC z A1 n c1 A2 s c2 A3 m c3) 29)).alloc (.cells #[.int .i64 kind] 3)) #[.int .i64 k] 3
  rw [e1] at h1
  rw [e2] at h2
  exact ⟨((RL.start h).step ((Below.refl _ _).alloc (Nat.le_refl _) _)).step ((Below.refl _ _).alloc (Nat.le_refl _) _), h1.b ((Below.refl _ _).alloc (Nat.le_refl _) _), h2⟩
theorem SB.cells (h : SB w q z A1 n c1 X A2 s c2 Y A3 m c3 Z kind k wi) : q + 2 < wi.heap.size ∧ wi.cell? ⟨q, 0, none⟩ = some (.int .i64 z) ∧ wi.cell? ⟨q, 1, none⟩ = some (.slice A1 n c1) ∧ wi.cell? ⟨q, 2, none⟩ = some (.slice A2 s c2) ∧ wi.cell? ⟨q, 3, none⟩ = some (.slice A3 m c3) ∧
    wi.cell? ⟨q + 1, 0, none⟩ = some (.int .i64 kind) ∧ wi.cell? ⟨q + 2, 0, none⟩ = some (.int .i64 k) :=
  ⟨h.nb.lt, h.rl.cells.2.1, h.rl.cells.2.2.1, h.rl.cells.2.2.2.1, h.rl.cells.2.2.2.2, h.kb.cell 0 _ rfl, h.nb.cell 0 _ rfl⟩
end

section
variable (z : Nat) (A1 : Option Addr) (n c1 : Nat) (X : Nat → Int) (A2 : Option Addr) (s c2 : Nat) (Y : Nat → Int) (A3 : Option Addr) (m c3 : Nat) (Z : Nat → Int) (w : World)
set_option maxRecDepth 100000 in
set_option maxHeartbeats 2000000 in
theorem sel_closure_off (k : Int) (q i : Nat) (W : World) (hk : RankOk z n X s Y m Z) (hi : i < z) (h : SB w q z A1 n c1 X A2 s c2 Y A3 m c3 Z 0 k W) :
    Calls Try.prog 99 #[.int .i64 i, .pointer (some ⟨q, 0, none⟩), .pointer (some ⟨q + 1, 0, none⟩), .pointer (some ⟨q + 2, 0, none⟩)] W fun e W' => e = .returned (.bool (decide (k < ((cntB (wdR X) false (i + 1) : Nat) : Int)))) ∧ SB w q z A1 n c1 X A2 s c2 Y A3 m c3 Z 0 k W' := by
  have B0 := Lib.hid h
  have HC := Lib.hid (fun w1 => impl_countsBefore z A1 n c1 X A2 s c2 Y A3 m c3 Z w1 (i + 1))
  have HK := Lib.hid hk
  have hi1 : i + 1 ≤ z := hi
  have hz1 : (i : Int) + 1 ≤ 4096 := by obtain ⟨z', e1, e2, _⟩ := hk.size; omega
  have EW := Lib.hid (show IntKind.i64.wrap ((i : Int) + 1) = ((i + 1 : Nat) : Int) by rw [IntWalk.i64_in _ (by omega)]; omega)
  clear h hk
  obtain ⟨hs0, b0, b1, b2, b3, b4, b5⟩ := B0.out.cells
  generalize cntB (wdR X) false (i + 1) = V0 at *
  generalize cntB (wdR X) true (i + 1) = V1 at *
  have x0 := kind_off V0 V1
  go_enter Try.func99, Try.ntmps99
  go_wp2_with fail
  go_region_held3 (fun w' => w'.cell? ⟨q, 0, none⟩ = some (.int .i64 z) ∧ w'.cell? ⟨q, 1, none⟩ = some (.slice A1 n c1) ∧ w'.cell? ⟨q, 2, none⟩ = some (.slice A2 s c2) ∧ w'.cell? ⟨q, 3, none⟩ = some (.slice A3 m c3) ∧ w'.cell? ⟨q + 1, 0, none⟩ = some (.int .i64 0) ∧ w'.cell? ⟨q + 2, 0, none⟩ = some (.int .i64 k))
    (first | (go_keep; done) | exact (B0.out.step hq1).cells.2)
    (first
      | (rw [EW.out]; go_at_call 97; (first | refine (HC.out _ B0.out.rl.rows HK.out hi1).mono ?_ | refine (HC.out _ B0.out.drew.rl.rows HK.out hi1).mono ?_); rintro e w1 ⟨rfl, hq1'⟩; have hq1 := of_drew hq1'; clear hq1'))
  have B1 := Lib.hid (B0.out.step hq1)
  clear hq1 b0 b1 b2 b3 b4 b5
  go_wp2_with fail
  go_ret
  exact ⟨rfl, B1.out⟩

set_option maxRecDepth 100000 in
set_option maxHeartbeats 2000000 in
theorem sel_closure_on (k : Int) (q i : Nat) (W : World) (hk : RankOk z n X s Y m Z) (hi : i < z) (h : SB w q z A1 n c1 X A2 s c2 Y A3 m c3 Z 1 k W) :
    Calls Try.prog 99 #[.int .i64 i, .pointer (some ⟨q, 0, none⟩), .pointer (some ⟨q + 1, 0, none⟩), .pointer (some ⟨q + 2, 0, none⟩)] W fun e W' => e = .returned (.bool (decide (k < ((cntB (wdR X) true (i + 1) : Nat) : Int)))) ∧ SB w q z A1 n c1 X A2 s c2 Y A3 m c3 Z 1 k W' := by
  have B0 := Lib.hid h
  have HC := Lib.hid (fun w1 => impl_countsBefore z A1 n c1 X A2 s c2 Y A3 m c3 Z w1 (i + 1))
  have HK := Lib.hid hk
  have hi1 : i + 1 ≤ z := hi
  have hz1 : (i : Int) + 1 ≤ 4096 := by obtain ⟨z', e1, e2, _⟩ := hk.size; omega
  have EW := Lib.hid (show IntKind.i64.wrap ((i : Int) + 1) = ((i + 1 : Nat) : Int) by rw [IntWalk.i64_in _ (by omega)]; omega)
  clear h hk
  obtain ⟨hs0, b0, b1, b2, b3, b4, b5⟩ := B0.out.cells
  generalize cntB (wdR X) false (i + 1) = V0 at *
  generalize cntB (wdR X) true (i + 1) = V1 at *
  have x0 := kind_on V0 V1
  go_enter Try.func99, Try.ntmps99
  go_wp2_with fail
  go_region_held3 (fun w' => w'.cell? ⟨q, 0, none⟩ = some (.int .i64 z) ∧ w'.cell? ⟨q, 1, none⟩ = some (.slice A1 n c1) ∧ w'.cell? ⟨q, 2, none⟩ = some (.slice A2 s c2) ∧ w'.cell? ⟨q, 3, none⟩ = some (.slice A3 m c3) ∧ w'.cell? ⟨q + 1, 0, none⟩ = some (.int .i64 1) ∧ w'.cell? ⟨q + 2, 0, none⟩ = some (.int .i64 k))
    (first | (go_keep; done) | exact (B0.out.step hq1).cells.2)
    (first
      | (rw [EW.out]; go_at_call 97; (first | refine (HC.out _ B0.out.rl.rows HK.out hi1).mono ?_ | refine (HC.out _ B0.out.drew.rl.rows HK.out hi1).mono ?_); rintro e w1 ⟨rfl, hq1'⟩; have hq1 := of_drew hq1'; clear hq1'))
  have B1 := Lib.hid (B0.out.step hq1)
  clear hq1 b0 b1 b2 b3 b4 b5
  go_wp2_with fail
  go_ret
  exact ⟨rfl, B1.out⟩

end
end Go.Proofs.Ytbflgbmobbbebaa
