/- What a vector's codes read as: numbers and places. -/
import Derived.Test.YtdmdafifgaenhabDecS
import Derived.Test.YtdmdafifgaenhabFromG
namespace Go.Proofs.Ytdmdafifgaenhab
open Go.RowKit

def rdX (z : Nat) (W : Nat → Nat) (a l : Nat) : Nat := if 16 < l ∨ z < a + l then 0 else 2 ^ l + fieldN W a l
def rdY (z a l : Nat) : Nat := if 16 < l ∨ z < a + l then z + 1 else a + l
theorem rdX_le (z : Nat) (W : Nat → Nat) (a l : Nat) : rdX z W a l ≤ 131072 := by
  unfold rdX
  by_cases h : 16 < l ∨ z < a + l
  · rw [if_pos h]; omega
  · rw [if_neg h]
    have h1 := fieldN_lt W l a
    have h2 : (2 : Nat) ^ l ≤ 2 ^ 16 := Nat.pow_le_pow_right (by omega) (by omega)
    have h3 : (2 : Nat) ^ 16 = 65536 := by decide
    omega
theorem rdY_le (z a l : Nat) (_ha : a ≤ z + 1) : rdY z a l ≤ z + 1 := by
  unfold rdY
  by_cases h : 16 < l ∨ z < a + l
  · rw [if_pos h]; omega
  · rw [if_neg h]; omega
theorem rd_pos {z : Nat} {W : Nat → Nat} {a l : Nat} (h : rdY z a l ≤ z) : 1 ≤ rdX z W a l ∧ l ≤ 16 ∧ a + l ≤ z := by
  unfold rdY at h
  unfold rdX
  by_cases c : 16 < l ∨ z < a + l
  · rw [if_pos c] at h; omega
  · rw [if_neg c]
    have : 0 < 2 ^ l := Nat.two_pow_pos l
    omega
/-- What stands at each place as a gamma code: the number and the place behind it. -/
def GamAt (z : Nat) (W : Nat → Nat) (gX gY : Nat → Nat) : Prop := ∀ a, a ≤ z → (∃ k, Found W true z a k ∧ gX a = rdX z W (k + 1) (k - a) ∧ gY a = rdY z (k + 1) (k - a)) ∨ (NoneFrom W true z a ∧ gX a = 0 ∧ gY a = z + 1)
theorem gam_ex (z : Nat) (W : Nat → Nat) : ∃ gX gY, GamAt z W gX gY := by
  have h : ∀ a, ∃ p : Nat × Nat, a ≤ z → (∃ k, Found W true z a k ∧ p.1 = rdX z W (k + 1) (k - a) ∧ p.2 = rdY z (k + 1) (k - a)) ∨ (NoneFrom W true z a ∧ p.1 = 0 ∧ p.2 = z + 1) := fun a => by
    rcases found_or W true z z a (by omega) with ⟨k, hk⟩ | hn
    · exact ⟨(rdX z W (k + 1) (k - a), rdY z (k + 1) (k - a)), fun _ => .inl ⟨k, hk, rfl, rfl⟩⟩
    · exact ⟨(0, z + 1), fun _ => .inr ⟨hn, rfl, rfl⟩⟩
  obtain ⟨f, hf⟩ := Classical.axiomOfChoice h
  exact ⟨fun a => (f a).1, fun a => (f a).2, fun a ha => hf a ha⟩
theorem GamAt.bd {z : Nat} {W gX gY : Nat → Nat} (h : GamAt z W gX gY) {a : Nat} (ha : a ≤ z) : gX a ≤ 131072 ∧ gY a ≤ z + 1 ∧ (gY a ≤ z → 1 ≤ gX a) := by
  rcases h a ha with ⟨k, ⟨_, h2, _⟩, hx, hy⟩ | ⟨_, hx, hy⟩
  · rw [hx, hy]
    exact ⟨rdX_le _ _ _ _, rdY_le _ _ _ (by omega), fun h => (rd_pos h).1⟩
  · rw [hx, hy]; exact ⟨by omega, by omega, by omega⟩
/-- What stands at each place as a delta code. -/
def delX (z : Nat) (W gX gY : Nat → Nat) (a : Nat) : Nat := if gY a ≤ z then rdX z W (gY a) (gX a - 1) else gX a
def delY (z : Nat) (gX gY : Nat → Nat) (a : Nat) : Nat := if gY a ≤ z then rdY z (gY a) (gX a - 1) else gY a
theorem del_bd {z : Nat} {W gX gY : Nat → Nat} (h : GamAt z W gX gY) {a : Nat} (ha : a ≤ z) : delX z W gX gY a ≤ 131072 ∧ delY z gX gY a ≤ z + 1 ∧ (delY z gX gY a ≤ z → 1 ≤ delX z W gX gY a) := by
  unfold delX delY
  by_cases c : gY a ≤ z
  · rw [if_pos c, if_pos c]; exact ⟨rdX_le _ _ _ _, rdY_le _ _ _ (by omega), fun h => (rd_pos h).1⟩
  · rw [if_neg c, if_neg c]; exact h.bd ha
/-- The place behind the first k codes. -/
def posS (Y : Nat → Nat) : Nat → Nat
  | 0 => 0
  | k + 1 => Y (posS Y k)
/-- The first n codes are there. -/
def DecS (z n : Nat) (X Y : Nat → Nat) : Prop := ∀ i, i < n → Y (posS Y i) ≤ z ∧ X (posS Y i) ≤ 100000
def DecF (z n : Nat) (X Y : Nat → Nat) : Prop := DecS z n X Y ∧ posS Y n = z
def decV (X Y : Nat → Nat) (i : Nat) : Int := ((X (posS Y i) : Nat) : Int)
theorem DecS.next {z n : Nat} {X Y : Nat → Nat} (h : DecS z n X Y) (h1 : Y (posS Y n) ≤ z) (h2 : X (posS Y n) ≤ 100000) : DecS z (n + 1) X Y := fun i hi => by
  by_cases e : i = n
  · subst e; exact ⟨h1, h2⟩
  · exact h i (by omega)
theorem DecS.pos {z n : Nat} {X Y : Nat → Nat} (h : DecS z n X Y) : posS Y n ≤ z := by
  cases n with
  | zero => exact Nat.zero_le _
  | succ n => exact (h n (by omega)).1

theorem spec_spRead (z : Nat) (A : Option Addr) (n c : Nat) (W : Nat → Nat) (a l : Nat) (w : World) (hn : n ≤ 1048576) (hr : WRow w A n W) (hz : z ≤ 4096) (hzn : z ≤ 16 * n) (ha : a ≤ 5000) (hl : l ≤ 200000) :
    Calls Try.prog 55 #[.agg #[.int .i64 z, .slice A n c], .int .i64 a, .int .i64 l] w (PairIs (rdX z W a l : Nat) (rdY z a l : Nat) w) := by
  unfold rdX rdY
  by_cases h : 16 < l ∨ z < a + l
  · rw [if_pos h, if_pos h]
    exact spec_spRead_far z A n c W a l w hr hz ha hl h
  · rw [if_neg h, if_neg h]
    have := spec_spRead_yes z A n c W a l w hn hr hz hzn (by omega) (by omega)
    simpa only [Int.natCast_add] using this
theorem spec_spOne (z : Nat) (A : Option Addr) (n c : Nat) (W gX gY : Nat → Nat) (a : Nat) (w : World) (hn : n ≤ 1048576) (hr : WRow w A n W) (hz : z ≤ 4096) (hzn : z ≤ 16 * n) (ha : a ≤ z) (hg : GamAt z W gX gY) :
    Calls Try.prog 54 #[.agg #[.int .i64 z, .slice A n c], .int .i64 a] w (PairIs (gX a : Nat) (gY a : Nat) w) := by
  rcases hg a ha with ⟨k, hk, hx, hy⟩ | ⟨hk, hx, hy⟩
  · rw [hx, hy]
    exact spec_spOne_at z A n c W a k _ _ w hn hr hz hzn hk.1 (by have := hk.2.1; omega) hk (fun W' hw => spec_spRead z A n c W (k + 1) (k - a) W' hn hw hz hzn (by have := hk.2.1; omega) (by have := hk.2.1; omega))
  · rw [hx, hy]
    exact spec_spOne_none z A n c W a w hn hr hz hzn ha hk
end Go.Proofs.Ytdmdafifgaenhab
