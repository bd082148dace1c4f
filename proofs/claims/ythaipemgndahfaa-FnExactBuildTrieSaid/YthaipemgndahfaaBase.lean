/- Small facts without any program: results, strings, hashes, keys. -/
import Derived.WalkKit
import Derived.Lib.Hide
namespace Go.Proofs.Ythaipemgndahfaa
open Go.RowKit

theorem ret_bool {a b : Bool} (h : a = b) : Ending.returned (.bool a) = .returned (.bool b) := by rw [h]
theorem ret_int {k : IntKind} {a b : Int} (h : a = b) : Ending.returned (.int k a) = .returned (.int k b) := by rw [h]
theorem ret_int_bool {k : IntKind} {a b : Int} {c d : Bool} (h : a = b) (h' : c = d) : Ending.returned (.tuple #[.int k a, .bool c]) = .returned (.tuple #[.int k b, .bool d]) := by rw [h, h']

theorem take_snoc (s : ByteArray) (k : Nat) (h : k < s.size) : s.data.toList.take (k + 1) = s.data.toList.take k ++ [s[k]] := by
  rw [List.take_succ_eq_append_getElem (by simpa using h)]; rfl
theorem byte_bd (s : ByteArray) (k : Nat) (h : k < s.size) : (s[k].toNat : Int) ≤ 255 := by have := s[k].toNat_lt; omega

/-- keys -/
def keyB (l : List UInt8) : Bool := l.all fun c => decide ((33 : Int) ≤ (c.toNat : Int) ∧ (c.toNat : Int) ≤ 125)
def isKeyB (l : List UInt8) : Bool := keyB l && decide (1 ≤ l.length ∧ l.length ≤ 12)
theorem keyB_step (s : ByteArray) (k : Nat) (h : k < s.size) (hp : keyB (s.data.toList.take k) = true) (h1 : (33 : Int) ≤ (s[k].toNat : Int)) (h2 : (s[k].toNat : Int) ≤ 125) : keyB (s.data.toList.take (k + 1)) = true := by
  rw [take_snoc s k h]; unfold keyB at *; simp at hp ⊢; exact ⟨hp, by omega⟩
theorem keyB_bad (s : ByteArray) (k : Nat) (h : k < s.size) (h1 : ¬ ((33 : Int) ≤ (s[k].toNat : Int) ∧ (s[k].toNat : Int) ≤ 125)) : keyB s.data.toList = false := by
  unfold keyB; rw [List.all_eq_false]; exact ⟨s[k], by simp [ByteArray.getElem_eq_getElem_data], by simpa using h1⟩
theorem isKeyB_size {s : ByteArray} (h : isKeyB s.data.toList = true) : 1 ≤ s.size ∧ s.size ≤ 12 := by
  have e : s.data.toList.length = s.size := by simp
  simp only [isKeyB, Bool.and_eq_true, decide_eq_true_eq, e] at h
  exact h.2

/-- hashes -/
def hcore (seed part : Int) (l : List UInt8) : Int := l.foldl (fun h c => (263 * h + (c.toNat : Int)) % 65521) ((31 * seed + 977 * part + 7) % 65521)
def pow11 (h : Int) : Int := h ^ 11 % 65521
def hashI (seed part : Int) (l : List UInt8) : Int := pow11 (hcore seed part l)
def placeI (seed part : Int) (l : List UInt8) (n : Int) : Int := hashI seed part l * n / 65521
def seedB (seed part : Int) : Bool := decide (0 ≤ seed ∧ seed ≤ 9999 ∧ 0 ≤ part ∧ part ≤ 9)
theorem hcore_step (seed part : Int) (s : ByteArray) (k : Nat) (hk : k < s.size) : hcore seed part (s.data.toList.take (k + 1)) = (263 * hcore seed part (s.data.toList.take k) + (s[k].toNat : Int)) % 65521 := by
  rw [take_snoc s k hk]; simp [hcore, List.foldl_append]
theorem mul_bd (a b : Int) (h1 : 0 ≤ a) (h2 : a < 65521) (h3 : 0 ≤ b) (h4 : b < 65521) : 0 ≤ a * b ∧ a * b ≤ 4292870400 := by
  constructor
  · exact Int.mul_nonneg h1 h3
  · have := Int.mul_le_mul (show a ≤ 65520 by omega) (show b ≤ 65520 by omega) h3 (by omega); omega
theorem pow_step (h : Int) (j : Nat) : h ^ j % 65521 * h % 65521 = h ^ (j + 1) % 65521 := by
  rw [Int.pow_succ, Int.mul_emod (h ^ j % 65521), Int.emod_emod_of_dvd _ (Int.dvd_refl _), ← Int.mul_emod]
theorem mul_emod_l (a b n : Int) : a % n * b % n = a * b % n := by
  rw [Int.mul_emod (a % n), Int.emod_emod_of_dvd _ (Int.dvd_refl _), ← Int.mul_emod]
theorem mul_emod_r (a b n : Int) : a * (b % n) % n = a * b % n := by
  rw [Int.mul_emod a (b % n), Int.emod_emod_of_dvd _ (Int.dvd_refl _), ← Int.mul_emod]
theorem pow11_spec (h : Int) :
    (h * h % 65521 * (h * h % 65521) % 65521 * h % 65521 * (h * h % 65521 * (h * h % 65521) % 65521 * h % 65521) % 65521 * h) % 65521 = pow11 h := by
  simp only [mul_emod_l, mul_emod_r, pow11]
  congr 1
  simp only [Int.pow_succ, Int.pow_zero, Int.one_mul, Int.mul_assoc]
theorem hashI_bd (seed part : Int) (l : List UInt8) : 0 ≤ hashI seed part l ∧ hashI seed part l < 65521 := by
  unfold hashI pow11; omega
theorem placeI_bd (seed part : Int) (l : List UInt8) (n : Int) (h : 1 ≤ n) : 0 ≤ placeI seed part l n ∧ placeI seed part l n < n := by
  obtain ⟨h0, h1⟩ := hashI_bd seed part l
  unfold placeI
  generalize hashI seed part l = x at *
  have := Int.mul_nonneg h0 (show 0 ≤ n by omega)
  have h2 : x * n ≤ 65520 * n := Int.mul_le_mul_of_nonneg_right (by omega) (by omega)
  omega
theorem hash_mul_bd (seed part : Int) (l : List UInt8) (n : Int) (h : 0 ≤ n) (h4 : n ≤ 4096) : 0 ≤ hashI seed part l * n ∧ hashI seed part l * n ≤ 268369920 := by
  obtain ⟨h0, h1⟩ := hashI_bd seed part l
  generalize hashI seed part l = x at *
  have := Int.mul_nonneg h0 h
  have h2 : x * n ≤ 65520 * n := Int.mul_le_mul_of_nonneg_right (by omega) (by omega)
  omega
end Go.Proofs.Ythaipemgndahfaa
