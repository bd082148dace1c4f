/- Whether an odd number of bits is on in both of two vectors: the program's and the model's. -/
import Derived.Test.YtijlpbcgkecinaaOnes
import Derived.Test.YtijlpbcgkecinaaXor
import Derived.Test.YtijlpbcgkecinaaBits1
namespace Go.Proofs.Ytijlpbcgkecinaa
open Go.RowKit

/-- Whether f is on an odd number of times below k. -/
def par (f : Nat → Bool) : Nat → Bool
  | 0 => false
  | k + 1 => par f k != f k
theorem par_congr {f g : Nat → Bool} : ∀ k, (∀ i, i < k → f i = g i) → par f k = par g k
  | 0, _ => rfl
  | k + 1, h => by rw [par, par, par_congr k (fun i hi => h i (by omega)), h k (by omega)]
theorem par_xor (f g : Nat → Bool) : ∀ k, par (fun i => f i != g i) k = (par f k != par g k)
  | 0 => rfl
  | k + 1 => by
    rw [par, par, par, par_xor f g k]
    cases par f k <;> cases par g k <;> cases f k <;> cases g k <;> rfl
theorem par_add (f : Nat → Bool) (a : Nat) : ∀ b, par f (a + b) = (par f a != par (fun j => f (a + j)) b)
  | 0 => by simp [par]
  | b + 1 => by
    rw [← Nat.add_assoc, par, par, par_add f a b]
    cases par f a <;> cases par (fun j => f (a + j)) b <;> cases f (a + b) <;> rfl
theorem par_zero {f : Nat → Bool} : ∀ k, (∀ i, i < k → f i = false) → par f k = false
  | 0, _ => rfl
  | k + 1, h => by rw [par, par_zero k (fun i hi => h i (by omega)), h k (by omega)]; rfl
theorem par_tail {f : Nat → Bool} {a b : Nat} (hab : a ≤ b) (h : ∀ i, a ≤ i → i < b → f i = false) : par f b = par f a := by
  rw [show b = a + (b - a) by omega, par_add, par_zero (b - a) (fun i hi => h _ (by omega) (by omega))]
  cases par f a <;> rfl
theorem par_cnt (W : Nat → Nat) : ∀ k, par (bitN W) k = (cntN W 0 k % 2 == 1)
  | 0 => rfl
  | k + 1 => by
    rw [par, par_cnt W k, cntN_snoc, Nat.zero_add]
    cases h : bitN W k
    · simp
    · rcases Nat.mod_two_eq_zero_or_one (cntN W 0 k) with e | e <;> simp [e, Nat.add_mod]
/-- The words of both vectors, put together bit by bit and added up. -/
def xaN (W V : Nat → Nat) : Nat → Nat
  | 0 => 0
  | k + 1 => xaN W V k ^^^ (W k &&& V k)
theorem xaN_lt {W V : Nat → Nat} : ∀ k, (∀ i, i < k → W i < 65536) → xaN W V k < 65536
  | 0, _ => by simp [xaN]
  | k + 1, h => by
    rw [xaN]
    have h1 := xaN_lt (W := W) (V := V) k (fun i hi => h i (by omega))
    have h2 := h k (by omega)
    have h3 : W k &&& V k ≤ W k := Nat.and_le_left
    exact Nat.xor_lt_two_pow (n := 16) (by omega) (by omega)
def bothB (W V : Nat → Nat) (i : Nat) : Bool := bitN W i && bitN V i
theorem xaN_par (W V : Nat → Nat) : ∀ k, par (fun j => (xaN W V k).testBit j) 16 = par (bothB W V) (16 * k)
  | 0 => by rw [par_zero 16 (fun i _ => by simp [xaN])]; rfl
  | k + 1 => by
    have e1 : (fun j => (xaN W V (k + 1)).testBit j) = fun j => ((xaN W V k).testBit j != (W k &&& V k).testBit j) := by
      funext j; rw [xaN, Nat.testBit_xor]
    rw [e1, par_xor, xaN_par W V k, show 16 * (k + 1) = 16 * k + 16 by omega, par_add]
    rw [par_congr (g := fun j => bothB W V (16 * k + j)) 16 (fun j hj => by
      unfold bothB bitN
      rw [show (16 * k + j) / 16 = k by omega, show (16 * k + j) % 16 = j by omega, Nat.testBit_and])]
theorem word_field (x : Nat) (hx : x < 65536) : fieldN (fun _ => x) 0 16 = x := by
  apply Nat.eq_of_testBit_eq
  intro j
  rw [fieldN_bit]
  by_cases h : j < 16
  · unfold bitN; rw [show (0 + j) % 16 = j by omega]; simp [h]
  · have : x < 2 ^ j := Nat.lt_of_lt_of_le hx (Nat.pow_le_pow_right (n := 2) (by omega) (show 16 ≤ j by omega))
    rw [Nat.testBit_lt_two_pow this]; simp [h]
theorem pc_par (x : Nat) (hx : x < 65536) : (pcF x % 2 == 1) = par (fun j => x.testBit j) 16 := by
  have h := pc_field (fun _ => x) 16 (by omega) 0
  rw [word_field x hx] at h
  rw [h, ← par_cnt]
  exact par_congr 16 (fun j hj => by unfold bitN; rw [show j % 16 = j by omega])
/-- Whether an odd number of bits is on in both of two vectors of size z. -/
def oddB (X Y : Nat → Int) (z : Nat) : Bool := par (bothB (fun i => (X i).toNat) (fun i => (Y i).toNat)) z
theorem odd_words {z n : Nat} {X Y : Nat → Int} (hg : Good z n X) : par (bothB (fun i => (X i).toNat) (fun i => (Y i).toNat)) (16 * n) = oddB X Y z := by
  have hn := hg.2.2.1
  exact par_tail (by omega) (fun i h1 h2 => by unfold bothB; rw [good_high hg (by omega) h2]; rfl)
theorem pc_le (x : Nat) (hx : x < 65536) : pcF x ≤ 16 := by
  have h := pc_field (fun _ => x) 16 (by omega) 0
  rw [word_field x hx] at h
  rw [h]; exact cntN_le _ _ _

set_option maxRecDepth 100000 in
set_option maxHeartbeats 2000000 in
theorem impl_isOddIn {z n c d : Nat} {A B : Option Addr} {X Y : Nat → Int} {w : World} (hn : n ≤ 256) (hr : IRow w A n X) (hs : IRow w B n Y) (hg : Good z n X) (hh : Good z n Y) :
    Calls Try.prog 72 #[.slice A n c, .slice B n d] w fun e w' => e = .returned (.bool (oddB X Y z)) ∧ w = w' := by
  have HR := Lib.hid (good_row hg hr)
  have HS := Lib.hid (good_row hh hs)
  have HO := Lib.hid (odd_words (Y := Y) hg)
  clear hr hs hg hh
  obtain ⟨W, hW⟩ : ∃ W : Nat → Nat, W = fun i => (X i).toNat := ⟨_, rfl⟩
  obtain ⟨V, hV⟩ : ∃ V : Nat → Nat, V = fun i => (Y i).toNat := ⟨_, rfl⟩
  rw [← hW] at HR HO
  rw [← hV] at HS HO
  clear hW hV
  go_enter Try.func72, Try.ntmps72
  go_wp2_with fail
  go_loop [5, 10] (fun q i => ∃ k : Nat, k ≤ n ∧ i = .int .i64 k ∧ q = .int .i64 (xaN W V k : Nat)) (fun _ i => n - (intOf i).toNat)
  case atStart => exact ⟨0, Nat.zero_le _, rfl, rfl⟩
  case round =>
    obtain ⟨k, hk, rfl, rfl⟩ := hrel
    by_cases hlt : k < n
    · obtain ⟨b1, o1, rfl, _, hc1⟩ := HR.out.1 (by omega)
      obtain ⟨b2, o2, rfl, _, hc2⟩ := HS.out.1 (by omega)
      have hx := hc1 k hlt
      have hy := hc2 k hlt
      have lx := HR.out.2 k hlt
      have ly := HS.out.2 k hlt
      have lq := xaN_lt (W := W) (V := V) k (fun i hi => HR.out.2 i (by omega))
      have la : W k &&& V k < 65536 := Nat.lt_of_le_of_lt Nat.and_le_left lx
      have E1 := Lib.hid (i64_and_nat (W k) (V k) (by omega) (by omega))
      have E2 := Lib.hid ((i64_xor_nat (xaN W V k) (W k &&& V k) (by omega) (by omega)).trans (show _ = ((xaN W V (k + 1) : Nat) : Int) from rfl))
      clear hc1 hc2
      go_wp2_with fail
      rw [E1.out, E2.out]
      go_round
      case rel => exact ⟨k + 1, by omega, by go_num, rfl⟩
      case measure => simp [intOf]; omega
    · obtain rfl : k = n := by omega
      have lq := xaN_lt (W := W) (V := V) k (fun i hi => HR.out.2 i (by omega))
      have HP := Lib.hid (((pc_par _ lq).trans (xaN_par W V k)).trans HO.out)
      have hp16 := pc_le _ lq
      clear HO
      generalize xaN W V k = s at *
      go_wp2_with fail
      refine (onesCount s _ lq).mono ?_; rintro e w1 ⟨rfl, rfl⟩
      generalize pcF s = p at *
      have e2 : (((p : Int) % 2) == 1) = oddB X Y z := by rw [← HP.out]; rcases Nat.mod_two_eq_zero_or_one p with e | e <;> simp [e] <;> omega
      go_wp2_with fail
      go_ret
      exact ⟨rfl, rfl⟩
set_option maxRecDepth 100000 in
set_option maxHeartbeats 2000000 in
theorem spec_reOdd {z n c d : Nat} {A B : Option Addr} {X Y : Nat → Int} {w : World} (hn : n ≤ 256) (hr : IRow w A n X) (hs : IRow w B n Y) (hg : Good z n X) (hh : Good z n Y) :
    Calls Try.prog 71 #[.agg #[.int .i64 z, .slice A n c], .agg #[.int .i64 z, .slice B n d]] w fun e w' => e = .returned (.bool (oddB X Y z)) ∧ Below w.heap.size w w' := by
  have T0 := Lib.hid (TS.start (z := (z : Int)) (y := (z : Int)) (c := c) (d := d) hr hs 55)
  have HG := Lib.hid hg
  have HH := Lib.hid hh
  have hz : z ≤ 4096 := by have := hg.2.1; omega
  have hz16 : z ≤ 16 * n := by have := hg.2.2.1; omega
  have HO := Lib.hid (show oddB X Y z = par (bothB (fun i => (X i).toNat) (fun i => (Y i).toNat)) z from rfl)
  clear hr hs hg hh
  go_enter Try.func71, Try.ntmps71
  go_wp2_with fail
  go_loopw [5, 6] (fun q i wr => ∃ k : Nat, k ≤ z ∧ i = .int .i64 k ∧ q = .bool (par (bothB (fun i => (X i).toNat) (fun i => (Y i).toNat)) k) ∧ Hid (TS w w.heap.size (w.heap.size + 1) z A n c X z B n d Y wr)) (fun _ i _ => z - (intOf i).toNat)
  case atStart => exact ⟨0, Nat.zero_le _, rfl, rfl, T0⟩
  case round =>
    obtain ⟨k, hk, rfl, rfl, HT⟩ := hrel
    obtain ⟨hs1, c0, c1⟩ := HT.out.box0
    obtain ⟨hs2, c2, c3⟩ := HT.out.box1
    by_cases hlt : k < z
    · have HP := Lib.hid (show par (bothB (fun i => (X i).toNat) (fun i => (Y i).toNat)) (k + 1) = (par (bothB (fun i => (X i).toNat) (fun i => (Y i).toNat)) k != (bitN (fun i => (X i).toNat) k && bitN (fun i => (Y i).toNat) k)) from rfl)
      have H1 := Lib.hid (fun W (h : IRow W A n X) => spec_biAt z A n c (fun i => (X i).toNat) k W (by omega) (good_row HG.out h) (by omega))
      have H2 := Lib.hid (fun W (h : IRow W B n Y) => spec_biAt z B n d (fun i => (Y i).toNat) k W (by omega) (good_row HH.out h) (by omega))
      generalize par (bothB (fun i => (X i).toNat) (fun i => (Y i).toNat)) k = pk at *
      generalize bitN (fun i => (X i).toNat) k = x1 at *
      generalize bitN (fun i => (Y i).toNat) k = x2 at *
      go_wp2_with fail
      refine (H1.out _ HT.out.row0).mono ?_; rintro e w1 ⟨rfl, hb⟩
      have T1 := Lib.hid (HT.out.step hb)
      clear hb hs1 c0 c1 hs2 c2 c3
      obtain ⟨hs1, c0, c1⟩ := T1.out.box0
      obtain ⟨hs2, c2, c3⟩ := T1.out.box1
      cases x1
      · go_wp2_with fail
        go_roundw
        case rel => exact ⟨k + 1, by omega, by go_num, by rw [HP.out]; cases pk <;> rfl, T1⟩
        case measure => simp [intOf]; omega
      · go_wp2_with fail
        refine (H2.out _ T1.out.row1).mono ?_; rintro e w2 ⟨rfl, hb⟩
        have T2 := Lib.hid (T1.out.step hb)
        clear hb hs1 c0 c1 hs2 c2 c3
        go_wp2_with fail
        go_roundw
        case rel => exact ⟨k + 1, by omega, by go_num, by rw [HP.out]; cases pk <;> cases x2 <;> rfl, T2⟩
        case measure => simp [intOf]; omega
    · obtain rfl : k = z := by omega
      rw [← HO.out]
      go_wp2_with fail
      go_ret
      exact ⟨rfl, HT.out.below⟩
end Go.Proofs.Ytijlpbcgkecinaa
