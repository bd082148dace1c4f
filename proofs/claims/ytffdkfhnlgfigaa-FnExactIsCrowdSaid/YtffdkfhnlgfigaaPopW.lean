/- How many bits of a number below 2 ^ 64 are on: the library's way, by bytes. -/
import Derived.Test.YtffdkfhnlgfigaaOnes
namespace Go.Proofs.Ytffdkfhnlgfigaa
open Go.RowKit

/-- The number with these bytes, the lowest first. -/
def vaB (B : Nat → Nat) : Nat → Nat
  | 0 => 0
  | n + 1 => vaB B n + B n * 256 ^ n
def laB (m : Nat) : Nat → Nat
  | 0 => 0
  | n + 1 => laB m n + m * 256 ^ n
theorem vaB_lo (B : Nat → Nat) : ∀ n, vaB B (n + 1) = B 0 + 256 * vaB (fun i => B (i + 1)) n := by
  intro n
  induction n with
  | zero => simp [vaB]
  | succ n ih => rw [vaB, ih, vaB, Nat.pow_succ, Nat.mul_add]; simp only [Nat.mul_comm, Nat.mul_left_comm, Nat.add_assoc]
theorem laB_eq (m n : Nat) : laB m n = vaB (fun _ => m) n := by
  induction n with
  | zero => rfl
  | succ n ih => rw [laB, vaB, ih]
theorem vaB_congr {B C : Nat → Nat} {n : Nat} (h : ∀ i, i < n → B i = C i) : vaB B n = vaB C n := by
  induction n with
  | zero => rfl
  | succ n ih => rw [vaB, vaB, ih (fun i hi => h i (by omega)), h n (by omega)]
theorem vaB_add (B C : Nat → Nat) (n : Nat) : vaB B n + vaB C n = vaB (fun i => B i + C i) n := by
  induction n with
  | zero => rfl
  | succ n ih => rw [vaB, vaB, vaB, ← ih, Nat.add_mul]; omega
theorem and_lane {a m : Nat} (c M : Nat) (ha : a < 256) (hm : m < 256) : (a + 256 * c) &&& (m + 256 * M) = (a &&& m) + 256 * (c &&& M) := by
  have h1 : ((a + 256 * c) &&& (m + 256 * M)) % 2 ^ 8 = a &&& m := by
    rw [Nat.and_mod_two_pow]
    congr 1 <;> omega
  have h2 : ((a + 256 * c) &&& (m + 256 * M)) / 2 ^ 8 = c &&& M := by
    rw [Nat.and_div_two_pow]
    congr 1 <;> omega
  omega
theorem va_and (m : Nat) (hm : m < 256) : ∀ (n : Nat) (B : Nat → Nat), (∀ i, i < n → B i < 256) → vaB B n &&& vaB (fun _ => m) n = vaB (fun i => B i &&& m) n := by
  intro n
  induction n with
  | zero => intro B _; simp [vaB]
  | succ n ih =>
    intro B h
    rw [vaB_lo, vaB_lo, vaB_lo, and_lane _ _ (h 0 (by omega)) hm, ih _ (fun i hi => h (i + 1) (by omega))]
theorem va_sh2 : ∀ (n : Nat) (B : Nat → Nat), (∀ i, i < n → B i < 256) → (vaB B n / 2) &&& vaB (fun _ => 85) n = vaB (fun i => B i / 2 &&& 85) n := by
  have key : ∀ b : Fin 256, ∀ t : Fin 2, (b.val / 2 + 128 * t.val) &&& 85 = b.val / 2 &&& 85 := by decide +kernel
  intro n
  induction n with
  | zero => intro B _; simp [vaB]
  | succ n ih =>
    intro B h
    have hb := h 0 (by omega)
    rw [vaB_lo, vaB_lo, vaB_lo, ← ih _ (fun i hi => h (i + 1) (by omega))]
    have e : (B 0 + 256 * vaB (fun i => B (i + 1)) n) / 2 = (B 0 / 2 + 128 * (vaB (fun i => B (i + 1)) n % 2)) + 256 * (vaB (fun i => B (i + 1)) n / 2) := by omega
    rw [e, and_lane _ _ (by omega) (by omega)]
    congr 1
    exact key ⟨B 0, hb⟩ ⟨_ % 2, Nat.mod_lt _ (by omega)⟩
theorem va_sh4 : ∀ (n : Nat) (B : Nat → Nat), (∀ i, i < n → B i < 256) → (vaB B n / 4) &&& vaB (fun _ => 51) n = vaB (fun i => B i / 4 &&& 51) n := by
  have key : ∀ b : Fin 256, ∀ t : Fin 4, (b.val / 4 + 64 * t.val) &&& 51 = b.val / 4 &&& 51 := by decide +kernel
  intro n
  induction n with
  | zero => intro B _; simp [vaB]
  | succ n ih =>
    intro B h
    have hb := h 0 (by omega)
    rw [vaB_lo, vaB_lo, vaB_lo, ← ih _ (fun i hi => h (i + 1) (by omega))]
    have e : (B 0 + 256 * vaB (fun i => B (i + 1)) n) / 4 = (B 0 / 4 + 64 * (vaB (fun i => B (i + 1)) n % 4)) + 256 * (vaB (fun i => B (i + 1)) n / 4) := by omega
    rw [e, and_lane _ _ (by omega) (by omega)]
    congr 1
    exact key ⟨B 0, hb⟩ ⟨_ % 4, Nat.mod_lt _ (by omega)⟩
/-- A byte of which no half is over 4. -/
def Nib (b : Nat) : Prop := b / 16 ≤ 4 ∧ b % 16 ≤ 4
theorem va_mod16 {n : Nat} {B : Nat → Nat} (h : ∀ i, i < n → Nib (B i)) : vaB B n % 16 ≤ 4 := by
  cases n with
  | zero => simp [vaB]
  | succ n => rw [vaB_lo]; have := h 0 (by omega); unfold Nib at this; omega
theorem va_sh16 : ∀ (n : Nat) (B : Nat → Nat), (∀ i, i < n → Nib (B i)) → (vaB B n / 16 + vaB B n) &&& vaB (fun _ => 15) n = vaB (fun i => B i / 16 + B i % 16) n := by
  intro n
  induction n with
  | zero => intro B _; simp [vaB]
  | succ n ih =>
    intro B h
    have hb := h 0 (by omega)
    unfold Nib at hb
    have hm := va_mod16 (fun i hi => h (i + 1) (by omega) : ∀ i, i < n → Nib ((fun i => B (i + 1)) i))
    rw [vaB_lo, vaB_lo, vaB_lo, ← ih _ (fun i hi => h (i + 1) (by omega))]
    have e : (B 0 + 256 * vaB (fun i => B (i + 1)) n) / 16 + (B 0 + 256 * vaB (fun i => B (i + 1)) n) = (B 0 / 16 + B 0 + 16 * (vaB (fun i => B (i + 1)) n % 16)) + 256 * (vaB (fun i => B (i + 1)) n / 16 + vaB (fun i => B (i + 1)) n) := by omega
    rw [e, and_lane _ _ (by omega) (by omega)]
    congr 1
    rw [show (15 : Nat) = 2 ^ 4 - 1 by decide, Nat.and_two_pow_sub_one_eq_mod]
    omega
def t1B (b : Nat) : Nat := (b / 2 &&& 85) + (b &&& 85)
def t2B (b : Nat) : Nat := (b / 4 &&& 51) + (b &&& 51)
def poB (b : Nat) : Nat := t2B (t1B b) / 16 + t2B (t1B b) % 16
theorem byte_all : ∀ b : Fin 256, t1B b.val < 256 ∧ t2B (t1B b.val) / 16 ≤ 4 ∧ t2B (t1B b.val) % 16 ≤ 4 ∧ poB b.val ≤ 8 ∧
    poB b.val = (if b.val.testBit 0 then 1 else 0) + (if b.val.testBit 1 then 1 else 0) + (if b.val.testBit 2 then 1 else 0) + (if b.val.testBit 3 then 1 else 0) + (if b.val.testBit 4 then 1 else 0) + (if b.val.testBit 5 then 1 else 0) + (if b.val.testBit 6 then 1 else 0) + (if b.val.testBit 7 then 1 else 0) := by decide +kernel
theorem pc_bytes (B : Nat → Nat) (h : ∀ i, i < 8 → B i < 256) : pcF (vaB B 8) = poB (B 0) + poB (B 1) + poB (B 2) + poB (B 3) + poB (B 4) + poB (B 5) + poB (B 6) + poB (B 7) := by
  have e1 : s1 (vaB B 8) = vaB (fun i => t1B (B i)) 8 := by
    unfold s1
    rw [show (6148914691236517205 : Nat) = vaB (fun _ => 85) 8 by decide +kernel, va_sh2 8 B h, va_and 85 (by omega) 8 B h, vaB_add]; rfl
  have h1 : ∀ i, i < 8 → t1B (B i) < 256 := fun i hi => (byte_all ⟨B i, h i hi⟩).1
  have e2 : s2 (vaB (fun i => t1B (B i)) 8) = vaB (fun i => t2B (t1B (B i))) 8 := by
    unfold s2
    rw [show (3689348814741910323 : Nat) = vaB (fun _ => 51) 8 by decide +kernel, va_sh4 8 _ h1, va_and 51 (by omega) 8 _ h1, vaB_add]; rfl
  have e3 : s3 (vaB (fun i => t2B (t1B (B i))) 8) = vaB (fun i => poB (B i)) 8 := by
    unfold s3
    rw [show (1085102592571150095 : Nat) = vaB (fun _ => 15) 8 by decide +kernel, va_sh16 8 _ (fun i hi => ⟨(byte_all ⟨B i, h i hi⟩).2.1, (byte_all ⟨B i, h i hi⟩).2.2.1⟩)]; rfl
  rw [pcF_eq, e1, e2, e3]
  have k := fun i (hi : i < 8) => (byte_all ⟨B i, h i hi⟩).2.2.2.1
  have k0 := k 0 (by omega)
  have k1 := k 1 (by omega)
  have k2 := k 2 (by omega)
  have k3 := k 3 (by omega)
  have k4 := k 4 (by omega)
  have k5 := k 5 (by omega)
  have k6 := k 6 (by omega)
  have k7 := k 7 (by omega)
  simp only [vaB]
  generalize poB (B 0) = p0 at *
  generalize poB (B 1) = p1 at *
  generalize poB (B 2) = p2 at *
  generalize poB (B 3) = p3 at *
  generalize poB (B 4) = p4 at *
  generalize poB (B 5) = p5 at *
  generalize poB (B 6) = p6 at *
  generalize poB (B 7) = p7 at *
  rw [show (127 : Nat) = 2 ^ 7 - 1 by decide, Nat.and_two_pow_sub_one_eq_mod]
  unfold s6 s5 s4
  clear e1 e2 e3 h1 h k
  obtain ⟨x, hx⟩ : ∃ x, x = 0 + p0 * 256 ^ 0 + p1 * 256 ^ 1 + p2 * 256 ^ 2 + p3 * 256 ^ 3 + p4 * 256 ^ 4 + p5 * 256 ^ 5 + p6 * 256 ^ 6 + p7 * 256 ^ 7 := ⟨_, rfl⟩
  rw [← hx]
  have hx2 : x = p0 + 256 * p1 + 65536 * p2 + 16777216 * p3 + 4294967296 * p4 + 1099511627776 * p5 + 281474976710656 * p6 + 72057594037927936 * p7 := by omega
  clear hx
  obtain ⟨y, hy⟩ : ∃ y, y = x + x / 256 := ⟨_, rfl⟩
  rw [← hy]
  have hy2 : y = (p0 + p1) + 256 * (p1 + p2) + 65536 * (p2 + p3) + 16777216 * (p3 + p4) + 4294967296 * (p4 + p5) + 1099511627776 * (p5 + p6) + 281474976710656 * (p6 + p7) + 72057594037927936 * p7 := by omega
  clear hy hx2
  obtain ⟨z, hz⟩ : ∃ z, z = y + y / 65536 := ⟨_, rfl⟩
  rw [← hz]
  have hz2 : z = (p0 + p1 + p2 + p3) + 256 * (p1 + p2 + p3 + p4) + 65536 * (p2 + p3 + p4 + p5) + 16777216 * (p3 + p4 + p5 + p6) + 4294967296 * (p4 + p5 + p6 + p7) + 1099511627776 * (p5 + p6 + p7) + 281474976710656 * (p6 + p7) + 72057594037927936 * p7 := by omega
  clear hz hy2
  have hq : z / 4294967296 = (p4 + p5 + p6 + p7) + 256 * (p5 + p6 + p7) + 65536 * (p6 + p7) + 16777216 * p7 := by omega
  rw [hq, hz2]
  clear hq hz2
  omega
/-- How many of f 0 .. f (n - 1) are true. -/
def cntF (f : Nat → Bool) : Nat → Nat
  | 0 => 0
  | n + 1 => cntF f n + (if f n then 1 else 0)
theorem cntF_congr {f g : Nat → Bool} {n : Nat} (h : ∀ i, i < n → f i = g i) : cntF f n = cntF g n := by
  induction n with
  | zero => rfl
  | succ n ih => rw [cntF, cntF, ih (fun i hi => h i (by omega)), h n (by omega)]
theorem cntF_add (f : Nat → Bool) (a : Nat) : ∀ b, cntF f (a + b) = cntF f a + cntF (fun i => f (a + i)) b := by
  intro b
  induction b with
  | zero => rfl
  | succ b ih => rw [← Nat.add_assoc, cntF, ih, cntF]; omega
theorem pc_byte (b : Nat) (h : b < 256) : poB b = cntF b.testBit 8 := by
  rw [(byte_all ⟨b, h⟩).2.2.2.2]; simp only [cntF]; omega
theorem vaB_digits (x : Nat) (hx : x < 18446744073709551616) : vaB (fun i => x / 256 ^ i % 256) 8 = x := by
  simp only [vaB]
  omega
theorem cnt_digit (x i : Nat) : cntF (x / 256 ^ i % 256).testBit 8 = cntF (fun k => x.testBit (8 * i + k)) 8 :=
  cntF_congr fun k hk => by
    rw [show (256 : Nat) = 2 ^ 8 by decide, Nat.testBit_mod_two_pow, ← Nat.pow_mul, Nat.testBit_div_two_pow]
    simp [hk, Nat.add_comm]
theorem pcF_cnt (x : Nat) (hx : x < 18446744073709551616) : pcF x = cntF x.testBit 64 := by
  have h := pc_bytes (fun i => x / 256 ^ i % 256) (fun i _ => Nat.mod_lt _ (by omega))
  rw [vaB_digits x hx] at h
  rw [h]
  have k := fun i => (pc_byte (x / 256 ^ i % 256) (Nat.mod_lt _ (by omega))).trans (cnt_digit x i)
  simp only [k]
  rw [show (64 : Nat) = 8 + 56 by decide, cntF_add, show (56 : Nat) = 8 + 48 by decide, cntF_add, show (48 : Nat) = 8 + 40 by decide, cntF_add, show (40 : Nat) = 8 + 32 by decide, cntF_add, show (32 : Nat) = 8 + 24 by decide, cntF_add,
    show (24 : Nat) = 8 + 16 by decide, cntF_add, show (16 : Nat) = 8 + 8 by decide, cntF_add]
  simp only [← Nat.add_assoc, Nat.reduceMul, Nat.reduceAdd, Nat.zero_add]
/-- The length of a rising list of the places that are on. -/
theorem ris_cnt (f : Nat → Bool) : ∀ (n l : Nat) (Y : Nat → Int), (∀ i j, i < j → j < l → Y i < Y j) → (∀ v : Int, (∃ i, i < l ∧ Y i = v) ↔ ∃ c : Nat, c < n ∧ v = c ∧ f c = true) → l = cntF f n := by
  intro n
  induction n with
  | zero =>
    intro l Y _ h
    rcases Nat.eq_zero_or_pos l with e | e
    · exact e
    · obtain ⟨c, hc, _⟩ := (h (Y 0)).1 ⟨0, e, rfl⟩
      omega
  | succ n ih =>
    intro l Y hY h
    rw [cntF]
    by_cases hf : f n = true
    · obtain ⟨i, hi, hv⟩ := (h n).2 ⟨n, by omega, rfl, hf⟩
      have hl : i = l - 1 := by
        rcases Nat.lt_or_ge i (l - 1) with e | e
        · have h1 := hY i (l - 1) e (by omega)
          obtain ⟨c, hc, hc2, _⟩ := (h (Y (l - 1))).1 ⟨l - 1, by omega, rfl⟩
          omega
        · omega
      have := ih (l - 1) Y (fun a b hab hb => hY a b hab (by omega)) (fun v => ⟨fun ⟨a, ha, hav⟩ => by
        obtain ⟨c, hc, hc2, hc3⟩ := (h v).1 ⟨a, by omega, hav⟩
        have := hY a i (by omega) hi
        exact ⟨c, by omega, hc2, hc3⟩, fun ⟨c, hc, hc2, hc3⟩ => by
        obtain ⟨a, ha, hav⟩ := (h v).2 ⟨c, by omega, hc2, hc3⟩
        refine ⟨a, ?_, hav⟩
        rcases Nat.lt_or_ge a (l - 1) with e | e
        · exact e
        · obtain rfl : a = i := by omega
          omega⟩)
      rw [if_pos hf]; omega
    · rw [if_neg hf, Nat.add_zero]
      refine ih l Y hY (fun v => (h v).trans ⟨fun ⟨c, hc, hc2, hc3⟩ => ?_, fun ⟨c, hc, hc2, hc3⟩ => ⟨c, by omega, hc2, hc3⟩⟩)
      rcases Nat.lt_or_ge c n with e | e
      · exact ⟨c, e, hc2, hc3⟩
      · obtain rfl : c = n := by omega
        exact absurd hc3 hf
theorem i1_eqW (x : Nat) (hx : x < 18446744073709551616) : i1 (x : Int) = (s1 x : Nat) ∧ s1 x ≤ 2 * 6148914691236517205 := by
  have h1 : x / 2 &&& 6148914691236517205 ≤ 6148914691236517205 := Nat.and_le_right
  have h2 : x &&& 6148914691236517205 ≤ 6148914691236517205 := Nat.and_le_right
  have e1 := u64_and_nat (x / 2) 6148914691236517205 (by omega) (by omega)
  have e2 := u64_and_nat x 6148914691236517205 (by omega) (by omega)
  unfold i1 s1
  refine ⟨?_, by omega⟩
  rw [show ((x : Int) / 2) = ((x / 2 : Nat) : Int) by omega, show (6148914691236517205 : Int) = ((6148914691236517205 : Nat) : Int) from rfl, e1, e2, ← Int.natCast_add, wrap_u64_small _ (by omega)]
theorem i2_eqW (x : Nat) (hx : x < 18446744073709551616) : i2 (x : Int) = (s2 x : Nat) ∧ s2 x ≤ 2 * 3689348814741910323 := by
  have h1 : x / 4 &&& 3689348814741910323 ≤ 3689348814741910323 := Nat.and_le_right
  have h2 : x &&& 3689348814741910323 ≤ 3689348814741910323 := Nat.and_le_right
  have e1 := u64_and_nat (x / 4) 3689348814741910323 (by omega) (by omega)
  have e2 := u64_and_nat x 3689348814741910323 (by omega) (by omega)
  unfold i2 s2
  refine ⟨?_, by omega⟩
  rw [show ((x : Int) / 4) = ((x / 4 : Nat) : Int) by omega, show (3689348814741910323 : Int) = ((3689348814741910323 : Nat) : Int) from rfl, e1, e2, ← Int.natCast_add, wrap_u64_small _ (by omega)]
theorem i3_eqW (x : Nat) (hx : x ≤ 2 * 3689348814741910323) : i3 (x : Int) = (s3 x : Nat) ∧ s3 x ≤ 1085102592571150095 := by
  have h1 : (x / 16 + x) &&& 1085102592571150095 ≤ 1085102592571150095 := Nat.and_le_right
  have e1 := u64_and_nat (x / 16 + x) 1085102592571150095 (by omega) (by omega)
  unfold i3 s3
  refine ⟨?_, h1⟩
  rw [show ((x : Int) / 16 + x) = ((x / 16 + x : Nat) : Int) by omega, wrap_u64_small _ (by omega), show (1085102592571150095 : Int) = ((1085102592571150095 : Nat) : Int) from rfl, e1]
theorem i4_eqW (x : Nat) (hx : x ≤ 1085102592571150095) : i4 (x : Int) = (s4 x : Nat) ∧ s4 x ≤ 2 * x := by
  unfold i4 s4
  exact ⟨by rw [show ((x : Int) + x / 256) = ((x + x / 256 : Nat) : Int) by omega, wrap_u64_small _ (by omega)], by omega⟩
theorem i5_eqW (x : Nat) (hx : x ≤ 2 * 1085102592571150095) : i5 (x : Int) = (s5 x : Nat) ∧ s5 x ≤ 2 * x := by
  unfold i5 s5
  exact ⟨by rw [show ((x : Int) + x / 65536) = ((x + x / 65536 : Nat) : Int) by omega, wrap_u64_small _ (by omega)], by omega⟩
theorem i6_eqW (x : Nat) (hx : x ≤ 4 * 1085102592571150095) : i6 (x : Int) = (s6 x : Nat) ∧ s6 x ≤ 2 * x := by
  unfold i6 s6
  exact ⟨by rw [show ((x : Int) + x / 4294967296) = ((x + x / 4294967296 : Nat) : Int) by omega, wrap_u64_small _ (by omega)], by omega⟩
theorem i7_eqW (x : Nat) (hx : x ≤ 8 * 1085102592571150095) : i7 (x : Int) = ((x &&& 127 : Nat) : Int) := by
  unfold i7
  rw [wrap_small _ (by omega), show (127 : Int) = ((127 : Nat) : Int) from rfl, i64_and_nat _ _ (by omega) (by omega)]
theorem pcI_eqW (x : Nat) (hx : x < 18446744073709551616) : pcI (x : Int) = (pcF x : Nat) := by
  obtain ⟨e1, b1⟩ := i1_eqW x hx
  obtain ⟨e2, b2⟩ := i2_eqW (s1 x) (by omega)
  obtain ⟨e3, b3⟩ := i3_eqW (s2 (s1 x)) (by omega)
  obtain ⟨e4, b4⟩ := i4_eqW (s3 (s2 (s1 x))) (by omega)
  obtain ⟨e5, b5⟩ := i5_eqW (s4 (s3 (s2 (s1 x)))) (by omega)
  obtain ⟨e6, b6⟩ := i6_eqW (s5 (s4 (s3 (s2 (s1 x))))) (by omega)
  have e7 := i7_eqW (s6 (s5 (s4 (s3 (s2 (s1 x)))))) (by omega)
  rw [pcI, e1, e2, e3, e4, e5, e6, e7, pcF_eq]
set_option maxHeartbeats 400000 in
theorem onesCountW (x : Nat) (w : World) (hx : x < 18446744073709551616) :
    Calls Try.prog 133 #[.int .u64 x] w fun e w' => e = .returned (.int .i64 (cntF x.testBit 64 : Nat)) ∧ w = w' := by
  go_enter Try.func133, Try.ntmps133
  go_wp2_with fail
  go_ret
  refine ⟨?_, rfl⟩
  rw [← pcF_cnt x hx, ← pcI_eqW x hx]
  rfl
end Go.Proofs.Ytffdkfhnlgfigaa
