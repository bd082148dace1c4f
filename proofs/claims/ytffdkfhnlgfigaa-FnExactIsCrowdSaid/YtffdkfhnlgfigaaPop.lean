/- How many bits of a sixteen-bit number are on: the library's way, reckoned out for all of them. -/
import Derived.Test.YtffdkfhnlgfigaaBitmath
namespace Go.Proofs.Ytffdkfhnlgfigaa
open Go.RowKit

theorem ofInt_u64 (a : Nat) (ha : a < 18446744073709551616) : (BitVec.ofInt 64 (a : Int)).toNat = a := by
  rw [BitVec.ofInt_natCast, BitVec.toNat_ofNat]; exact Nat.mod_eq_of_lt (by omega)
theorem u64_and_nat (a b : Nat) (ha : a < 18446744073709551616) (hb : b < 18446744073709551616) : bits .and .u64 (a : Int) (b : Int) = ((a &&& b : Nat) : Int) := by
  have hx : a &&& b < 2 ^ 64 := Nat.and_lt_two_pow _ (by omega)
  show IntKind.u64.wrap ((BitVec.ofInt 64 (a : Int) &&& BitVec.ofInt 64 (b : Int)).toNat : Int) = _
  rw [BitVec.toNat_and, ofInt_u64 a ha, ofInt_u64 b hb, IntKind.wrap_u64]
  omega
theorem wrap_u64_small (x : Nat) (h : x < 18446744073709551616) : IntKind.u64.wrap (x : Int) = (x : Int) := by
  rw [IntKind.wrap_u64]; omega

def force (n : Nat) (f : Nat → Nat) : Nat := Nat.rec (f 0) (fun k _ => f (k + 1)) n
theorem force_eq (n : Nat) (f : Nat → Nat) : force n f = f n := by cases n <;> rfl
def s1 (x : Nat) : Nat := (x / 2 &&& 6148914691236517205) + (x &&& 6148914691236517205)
def s2 (x : Nat) : Nat := (x / 4 &&& 3689348814741910323) + (x &&& 3689348814741910323)
def s3 (x : Nat) : Nat := (x / 16 + x) &&& 1085102592571150095
def s4 (x : Nat) : Nat := x + x / 256
def s5 (x : Nat) : Nat := x + x / 65536
def s6 (x : Nat) : Nat := x + x / 4294967296
def pcF (x : Nat) : Nat := force (s1 x) fun a => force (s2 a) fun b => force (s3 b) fun c => force (s4 c) fun d => force (s5 d) fun e => force (s6 e) fun f => f &&& 127
theorem pcF_eq (x : Nat) : pcF x = s6 (s5 (s4 (s3 (s2 (s1 x))))) &&& 127 := by simp only [pcF, force_eq]
def chk (x : Nat) : Bool := force (pcF x) (fun p => if Nat.beq (pcF (2 * x)) p && Nat.beq (pcF (2 * x + 1)) (p + 1) then 1 else 0) |> Nat.beq 1
theorem chk_all : ((List.range 256).all fun h => (List.range 128).all fun l => chk (128 * h + l)) = true := by decide +kernel
theorem pc_step (x : Nat) (hx : x < 32768) : pcF (2 * x) = pcF x ∧ pcF (2 * x + 1) = pcF x + 1 := by
  have h := chk_all
  rw [List.all_eq_true] at h
  have h1 := h (x / 128) (List.mem_range.2 (by omega))
  rw [List.all_eq_true] at h1
  have h2 := h1 (x % 128) (List.mem_range.2 (by omega))
  rw [show 128 * (x / 128) + x % 128 = x by omega] at h2
  unfold chk at h2
  rw [force_eq] at h2
  by_cases c : (Nat.beq (pcF (2 * x)) (pcF x) && Nat.beq (pcF (2 * x + 1)) (pcF x + 1)) = true
  · rw [Bool.and_eq_true] at c
    exact ⟨Nat.eq_of_beq_eq_true c.1, Nat.eq_of_beq_eq_true c.2⟩
  · rw [if_neg c] at h2; exact absurd h2 (by decide)

/-- How many of w bits from a on are on. -/
def cntN (W : Nat → Nat) : Nat → Nat → Nat
  | _, 0 => 0
  | a, w + 1 => (if bitN W a then 1 else 0) + cntN W (a + 1) w
theorem cntN_le (W : Nat → Nat) (w : Nat) : ∀ a, cntN W a w ≤ w := by
  induction w with
  | zero => intro a; simp [cntN]
  | succ w ih => intro a; have := ih (a + 1); rw [cntN]; split <;> omega
theorem cntN_add (W : Nat → Nat) (v w : Nat) : ∀ a, cntN W a (v + w) = cntN W a v + cntN W (a + v) w := by
  induction v with
  | zero => intro a; simp [cntN]
  | succ v ih => intro a; rw [show v + 1 + w = (v + w) + 1 by omega, cntN, cntN, ih, show a + 1 + v = a + (v + 1) by omega]; omega
theorem pc_field (W : Nat → Nat) (w : Nat) (hw : w ≤ 16) : ∀ a, pcF (fieldN W a w) = cntN W a w := by
  induction w with
  | zero => intro a; show pcF 0 = 0; decide +kernel
  | succ w ih =>
    intro a
    have h1 := fieldN_lt W w (a + 1)
    have h2 : 2 ^ w ≤ 2 ^ 15 := Nat.pow_le_pow_right (by omega) (by omega)
    have h3 : (2 : Nat) ^ 15 = 32768 := by decide
    obtain ⟨e1, e2⟩ := pc_step (fieldN W (a + 1) w) (by omega)
    rw [fieldN, cntN, ← ih (by omega) (a + 1)]
    by_cases hb : bitN W a = true
    · rw [if_pos hb, Nat.add_comm 1, e2]; omega
    · rw [if_neg hb, Nat.zero_add, e1]; omega

theorem cntN_snoc (W : Nat → Nat) (a k : Nat) : cntN W a (k + 1) = cntN W a k + (if bitN W (a + k) then 1 else 0) := by
  rw [cntN_add]; simp [cntN]

def i1 (x : Int) : Int := IntKind.u64.wrap (bits .and .u64 (x / 2) 6148914691236517205 + bits .and .u64 x 6148914691236517205)
def i2 (x : Int) : Int := IntKind.u64.wrap (bits .and .u64 (x / 4) 3689348814741910323 + bits .and .u64 x 3689348814741910323)
def i3 (x : Int) : Int := bits .and .u64 (IntKind.u64.wrap (x / 16 + x)) 1085102592571150095
def i4 (x : Int) : Int := IntKind.u64.wrap (x + x / 256)
def i5 (x : Int) : Int := IntKind.u64.wrap (x + x / 65536)
def i6 (x : Int) : Int := IntKind.u64.wrap (x + x / 4294967296)
def i7 (x : Int) : Int := bits .and .i64 (wrap64 x) 127
def pcI (x : Int) : Int := i7 (i6 (i5 (i4 (i3 (i2 (i1 x))))))

theorem and_le_l (a m : Nat) : a &&& m ≤ a := Nat.and_le_left
theorem i1_eq (x : Nat) (hx : x < 1000000) : i1 (x : Int) = (s1 x : Nat) ∧ s1 x ≤ 2 * x := by
  have h1 := and_le_l (x / 2) 6148914691236517205
  have h2 := and_le_l x 6148914691236517205
  have e1 := u64_and_nat (x / 2) 6148914691236517205 (by omega) (by omega)
  have e2 := u64_and_nat x 6148914691236517205 (by omega) (by omega)
  unfold i1 s1
  refine ⟨?_, by omega⟩
  rw [show ((x : Int) / 2) = ((x / 2 : Nat) : Int) by omega, show (6148914691236517205 : Int) = ((6148914691236517205 : Nat) : Int) from rfl, e1, e2, ← Int.natCast_add, wrap_u64_small _ (by omega)]
theorem i2_eq (x : Nat) (hx : x < 1000000) : i2 (x : Int) = (s2 x : Nat) ∧ s2 x ≤ 2 * x := by
  have h1 := and_le_l (x / 4) 3689348814741910323
  have h2 := and_le_l x 3689348814741910323
  have e1 := u64_and_nat (x / 4) 3689348814741910323 (by omega) (by omega)
  have e2 := u64_and_nat x 3689348814741910323 (by omega) (by omega)
  unfold i2 s2
  refine ⟨?_, by omega⟩
  rw [show ((x : Int) / 4) = ((x / 4 : Nat) : Int) by omega, show (3689348814741910323 : Int) = ((3689348814741910323 : Nat) : Int) from rfl, e1, e2, ← Int.natCast_add, wrap_u64_small _ (by omega)]
theorem i3_eq (x : Nat) (hx : x < 1000000) : i3 (x : Int) = (s3 x : Nat) ∧ s3 x ≤ 2 * x := by
  have h1 := and_le_l (x / 16 + x) 1085102592571150095
  have e1 := u64_and_nat (x / 16 + x) 1085102592571150095 (by omega) (by omega)
  unfold i3 s3
  refine ⟨?_, by omega⟩
  rw [show ((x : Int) / 16 + x) = ((x / 16 + x : Nat) : Int) by omega, wrap_u64_small _ (by omega), show (1085102592571150095 : Int) = ((1085102592571150095 : Nat) : Int) from rfl, e1]
theorem i4_eq (x : Nat) (hx : x < 1000000) : i4 (x : Int) = (s4 x : Nat) ∧ s4 x ≤ 2 * x := by
  unfold i4 s4
  exact ⟨by rw [show ((x : Int) + x / 256) = ((x + x / 256 : Nat) : Int) by omega, wrap_u64_small _ (by omega)], by omega⟩
theorem i5_eq (x : Nat) (hx : x < 2000000) : i5 (x : Int) = (s5 x : Nat) ∧ s5 x ≤ 2 * x := by
  unfold i5 s5
  exact ⟨by rw [show ((x : Int) + x / 65536) = ((x + x / 65536 : Nat) : Int) by omega, wrap_u64_small _ (by omega)], by omega⟩
theorem i6_eq (x : Nat) (hx : x < 4000000) : i6 (x : Int) = (s6 x : Nat) ∧ s6 x ≤ 2 * x := by
  unfold i6 s6
  exact ⟨by rw [show ((x : Int) + x / 4294967296) = ((x + x / 4294967296 : Nat) : Int) by omega, wrap_u64_small _ (by omega)], by omega⟩
theorem i7_eq (x : Nat) (hx : x < 8000000) : i7 (x : Int) = ((x &&& 127 : Nat) : Int) := by
  unfold i7
  rw [wrap_small _ (by omega), show (127 : Int) = ((127 : Nat) : Int) from rfl, i64_and_nat _ _ (by omega) (by omega)]
theorem pcI_eq (x : Nat) (hx : x < 65536) : pcI (x : Int) = (pcF x : Nat) := by
  obtain ⟨e1, b1⟩ := i1_eq x (by omega)
  obtain ⟨e2, b2⟩ := i2_eq (s1 x) (by omega)
  obtain ⟨e3, b3⟩ := i3_eq (s2 (s1 x)) (by omega)
  obtain ⟨e4, b4⟩ := i4_eq (s3 (s2 (s1 x))) (by omega)
  obtain ⟨e5, b5⟩ := i5_eq (s4 (s3 (s2 (s1 x)))) (by omega)
  obtain ⟨e6, b6⟩ := i6_eq (s5 (s4 (s3 (s2 (s1 x))))) (by omega)
  have e7 := i7_eq (s6 (s5 (s4 (s3 (s2 (s1 x)))))) (by omega)
  rw [pcI, e1, e2, e3, e4, e5, e6, e7, pcF_eq]
end Go.Proofs.Ytffdkfhnlgfigaa
