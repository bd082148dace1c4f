/- PeeledIndex: both sides. -/
import Derived.Test.YtockhjdhihehlaaPlA
import Derived.Test.YtockhjdhihehlaaQuietC
import Derived.Handy
namespace Go.Proofs.Ytockhjdhihehlaa
open Go.RowKit

theorem run_head (A : Option Addr) (n k u : Nat) (hu : u ≤ k) (W : World) :
    (Instr.slice 22 (.slice A n k) none (some (.int .i64 u)) none).run Try.prog W = .ok (.slice A u k) W := by
  unfold Instr.slice
  simp [go_sem, Instr.sliceBounds, Instr.sliceBound, run_underlying Try.underlying22, hu]
/-- How many of the first k marks are not those of free places. -/
def usedN (X : Nat → Int) : Nat → Nat
  | 0 => 0
  | k + 1 => usedN X k + (if X k = 3 then 0 else 1)
theorem usedN_le (X : Nat → Int) : ∀ k, usedN X k ≤ k
  | 0 => Nat.le_refl _
  | k + 1 => by have := usedN_le X k; rw [usedN]; split <;> omega
set_option maxRecDepth 100000 in
set_option maxHeartbeats 1000000 in
theorem impl_usedAmong (A : Option Addr) (m c : Nat) (X : Nat → Int) (w : World) (hm : m ≤ 1048576) (hr : IRow w A m X) :
    Calls Try.prog 85 #[.slice A m c] w fun e w' => e = .returned (.int .i64 (usedN X m : Nat)) ∧ w = w' := by
  have HR := Lib.hid hr
  clear hr
  go_enter Try.func85, Try.ntmps85
  go_wp2_with fail
  go_loop [3, 8] (fun s i => ∃ q : Nat, q ≤ m ∧ i = .int .i64 q ∧ s = .int .i64 (usedN X q : Nat)) (fun _ i => m - (intOf i).toNat)
  case atStart => exact ⟨0, Nat.zero_le _, rfl, rfl⟩
  case round =>
    obtain ⟨q, hq, rfl, rfl⟩ := hrel
    by_cases hlt : q < m
    · obtain ⟨b, off, rfl, _, hc⟩ := HR.out (by omega)
      have hx := hc q hlt
      have hu := usedN_le X q
      clear hc
      by_cases h3 : X q = 3
      · have d0 : (X q != 3) = false := by simpa using h3
        have HE := Lib.hid (show usedN X (q + 1) = usedN X q by rw [usedN, if_pos h3]; rfl)
        clear h3
        go_wp2_with fail
        go_round
        case rel => exact ⟨q + 1, by omega, by go_num, by rw [HE.out]⟩
        case measure => simp [intOf]; omega
      · have d0 : (X q != 3) = true := by simpa using h3
        have HE := Lib.hid (show usedN X (q + 1) = usedN X q + 1 by rw [usedN, if_neg h3])
        clear h3
        generalize hv : usedN X q = v at *
        go_wp2_with fail
        go_round
        case rel => exact ⟨q + 1, by omega, by go_num, by rw [HE.out]; push_cast; rfl⟩
        case measure => simp [intOf]; omega
    · obtain rfl : q = m := by omega
      go_wp2_with fail
      go_ret
      exact ⟨rfl, rfl⟩
set_option maxRecDepth 100000 in
set_option maxHeartbeats 1000000 in
theorem spec_pfRank (z0 z1 : Int) (A : Option Addr) (n : Nat) (X : Nat → Int) (m : Nat) (w : World) (hn : n ≤ 1048576) (hm : m ≤ n) (hr : IRow w A n X) :
    Calls Try.prog 66 #[.agg #[.int .i64 z0, .int .i64 z1, .slice A n n], .int .i64 m] w fun e w' => e = .returned (.int .i64 (usedN X m : Nat)) ∧ Below w.heap.size w w' := by
  have S0 := Lib.hid (BX1.start (cs := #[.int .i64 z0, .int .i64 z1, .slice A n n]) (t := 30) hr)
  have x2 := S0.out.box.cell 2 _ rfl
  have hsl := fun W => run_head A n n m hm W
  clear hr
  go_enter Try.func66, Try.ntmps66
  go_wp2_with fail
  go_loop [5, 13] (fun s i => ∃ q : Nat, q ≤ m ∧ i = .int .i64 q ∧ s = .int .i64 (usedN X q : Nat)) (fun _ i => m - (intOf i).toNat)
  case atStart => exact ⟨0, Nat.zero_le _, rfl, rfl⟩
  case round =>
    obtain ⟨q, hq, rfl, rfl⟩ := hrel
    by_cases hlt : q < m
    · obtain ⟨b, off, rfl, _, hc⟩ := S0.out.row (by omega)
      have hx := hc q (by omega)
      have hu := usedN_le X q
      clear hc hsl
      by_cases h3 : X q = 3
      · have d0 : (X q != 3) = false := by simpa using h3
        have HE := Lib.hid (show usedN X (q + 1) = usedN X q by rw [usedN, if_pos h3]; rfl)
        clear h3
        go_wp2_with fail
        go_round
        case rel => exact ⟨q + 1, by omega, by go_num, by rw [HE.out]⟩
        case measure => simp [intOf]; omega
      · have d0 : (X q != 3) = true := by simpa using h3
        have HE := Lib.hid (show usedN X (q + 1) = usedN X q + 1 by rw [usedN, if_neg h3])
        clear h3
        generalize hv : usedN X q = v at *
        go_wp2_with fail
        go_round
        case rel => exact ⟨q + 1, by omega, by go_num, by rw [HE.out]; push_cast; rfl⟩
        case measure => simp [intOf]; omega
    · obtain rfl : q = m := by omega
      go_wp2_with fail
      go_ret
      exact ⟨rfl, S0.out.below⟩
theorem plP_nat {z0 : Int} {g : Nat} {s : ByteArray} {X : Nat → Int} {n : Nat} (hv : PeV z0 g n X) : ∃ p : Nat, plP z0 g s X = (p : Int) ∧ p < n := by
  have h := plP_in (seed := z0) (g := g) (s := s) (X := X) (by have := hv.2.1; omega) (by have := hv.2.1; omega)
  have := hv.2.2.1
  exact ⟨(plP z0 g s X).toNat, by omega, by omega⟩
section
variable (z0 : Int) (g : Nat) (A : Option Addr) (n : Nat) (X : Nat → Int) (s : ByteArray) (p : Nat) (w : World)
set_option maxRecDepth 100000 in
set_option maxHeartbeats 1000000 in
theorem impl_numberOf_Peeled (hs : s.size ≤ maxLen) (hr : IRow w A n X) (hv : PeV z0 g n X) (hp : plP z0 g s X = (p : Int)) (hpn : p < n) :
    Calls Try.prog 115 #[.agg #[.int .i64 z0, .int .i64 g, .slice A n n], .string s] w fun e w' => e = .returned (.tuple #[.int .i64 (if X p = 3 then 0 else (usedN X p : Nat) : Int), .bool (decide (X p ≠ 3))]) ∧ Below w.heap.size w w' := by
  have S0 := Lib.hid (BX1.start (cs := #[.int .i64 z0, .int .i64 g, .slice A n n]) (t := 30) hr)
  have HP := Lib.hid (fun W (h : IRow W A n X) => (show Calls Try.prog 116 #[.agg #[.int .i64 z0, .int .i64 g, .slice A n n], .string s] W (fun e w' => e = .returned (.int .i64 (p : Int)) ∧ Below W.heap.size W w') from hp ▸ impl_placeFor z0 g A n n X s W hs h hv))
  have hn : n ≤ 72 := by have := hv.2.2.1; have := hv.2.1; omega
  have x0 := S0.out.box.cell 0 _ rfl
  have x1 := S0.out.box.cell 1 _ rfl
  have x2 := S0.out.box.cell 2 _ rfl
  clear hr hv hp
  by_cases h3 : X p = 3
  · rw [if_pos h3, show decide (X p ≠ 3) = false by simpa using h3]
    have d0 : (X p == 3) = true := by simpa using h3
    clear h3
    go_enter Try.func115, Try.ntmps115
    go_wp2_with fail
    refine (HP.out _ S0.out.row).mono ?_; rintro e w1 ⟨rfl, hb⟩
    have S1 := Lib.hid (S0.out.step hb)
    clear x0 x1 x2 hb S0
    have x2 := S1.out.box.cell 2 _ rfl
    obtain ⟨b, off, rfl, _, hc⟩ := S1.out.row (by omega)
    have hx := hc p hpn
    clear hc
    go_wp2_with fail
    go_ret2
    exact ⟨rfl, S1.out.below⟩
  · rw [if_neg h3, show decide (X p ≠ 3) = true by simpa using h3]
    have d0 : (X p == 3) = false := by simpa using h3
    have hsl := fun W => run_head A n n p (by omega) W
    clear h3
    go_enter Try.func115, Try.ntmps115
    go_wp2_with fail
    refine (HP.out _ S0.out.row).mono ?_; rintro e w1 ⟨rfl, hb⟩
    have S1 := Lib.hid (S0.out.step hb)
    clear x0 x1 x2 hb S0
    have x2 := S1.out.box.cell 2 _ rfl
    obtain ⟨b, off, rfl, hbl, hc⟩ := S1.out.row (by omega)
    have hx := hc p hpn
    have HU := Lib.hid (impl_usedAmong (some ⟨b, off, none⟩) p n X w1 (by omega) (fun _ => ⟨b, off, rfl, hbl, fun k hk => hc k (by omega)⟩))
    clear hc
    go_wp2_with fail
    refine HU.out.mono ?_; rintro e w2 ⟨rfl, rfl⟩
    go_wp2_with fail
    go_ret2
    exact ⟨rfl, S1.out.below⟩
theorem irow_cell {w : World} {b off n q : Nat} {X : Nat → Int} (h : IRow w (some ⟨b, off, none⟩) n X) (hq : q < n) : w.cell? ⟨b, off + q, none⟩ = some (.int .i64 (X q)) := by
  obtain ⟨b', o', h1, _, h2⟩ := h (by omega)
  injection h1 with h1; injection h1 with h3 h4
  subst h3 h4
  exact h2 q hq
end
section
variable (z0 z1 : Int) (A : Option Addr) (n : Nat) (X : Nat → Int) (s : ByteArray) (w : World)
/-- What PeeledIndex answers. -/
def pxI (z0 z1 : Int) (s : ByteArray) (X : Nat → Int) : Int := if X (plP z0 z1.toNat s X).toNat = 3 then 0 else (usedN X (plP z0 z1.toNat s X).toNat : Nat)
def pxB (z0 z1 : Int) (s : ByteArray) (X : Nat → Int) : Bool := decide (X (plP z0 z1.toNat s X).toNat ≠ 3)
theorem pfPeeled_is {b : Bool} (hb : b = true ↔ PeV z0 z1 n X) (hn : n ≤ 1048576) (hr : IRow w A n X) : Calls Try.prog 40 #[.agg #[.int .i64 z0, .int .i64 z1, .slice A n n]] w fun e w' => e = .returned (.bool b) ∧ Below w.heap.size w w' :=
  (spec_pfPeeled z0 z1 A n n X w hn hr).mono fun e w' ⟨b', h1, h2, h3⟩ => ⟨by rw [h1, show b' = b from Bool.eq_iff_iff.2 (h2.trans hb.symm)], h3⟩
theorem isKey_is {s : ByteArray} {b : Bool} (hb : isKeyB s.data.toList = b) (hs : s.size ≤ maxLen) (w : World) : Calls Try.prog 64 #[.string s] w fun e w' => e = .returned (.bool b) ∧ w = w' := hb ▸ spec_isKey _ _ hs
end
end Go.Proofs.Ytockhjdhihehlaa
