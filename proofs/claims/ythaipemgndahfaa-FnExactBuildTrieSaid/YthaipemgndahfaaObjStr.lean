/- The laws' small functions on slices of strings. -/
import Derived.Test.YthaipemgndahfaaObjInt
namespace Go.Proofs.Ythaipemgndahfaa
open Go.RowKit

def sizeS (S : Nat → ByteArray) : Nat → Nat
  | 0 => 0
  | n + 1 => sizeS S n + (S n).size
theorem sizeS_le (S : Nat → ByteArray) {k n : Nat} (h : k ≤ n) : sizeS S k ≤ sizeS S n := by
  induction n with
  | zero => have : k = 0 := by omega
            subst this; exact Nat.le_refl _
  | succ n ih =>
    by_cases e : k = n + 1
    · subst e; exact Nat.le_refl _
    · have := ih (by omega); simp only [sizeS]; omega
theorem infoS : (Try.prog.info? 9).map (fun i => (i.zero, i.size, i.bytes)) = some (some (.string ByteArray.empty), 1, 16) := by kernel_rfl

set_option maxHeartbeats 400000 in
theorem sz_StringS {A : Option Addr} {n c : Nat} {S : Nat → ByteArray} {left : Int} {w : World} (hn : n ≤ maxLen) (hs : ∀ i, i < n → (S i).size ≤ maxLen) (hr : GRow w A n (strV S)) (h0 : 0 ≤ left) (h1 : left ≤ 1048576) :
    Calls Try.prog 11 #[.slice A n c, .int .i64 left] w fun e w' => e = .returned (.int .i64 (szv left (n + sizeS S n))) ∧ Below w.heap.size w w' := by
  unfold maxLen at hn hs
  by_cases h : (n : Int) ≤ left
  · have HR := Lib.hid hr
    have HS := Lib.hid hs
    clear hr hs
    have h2 : ¬ (left - n < 0) := by omega
    go_enter Try.func11, Try.ntmps11
    go_wp2_with fail
    go_loopw [1, 5] (fun q i wr => ∃ k : Nat, k ≤ n ∧ i = .int .i64 k ∧ q = .int .i64 (left - n - sizeS S k) ∧ ((n : Int) + sizeS S k ≤ left) ∧ Below w.heap.size w wr) (fun _ i _ => n - (intOf i).toNat)
    case atStart => exact ⟨0, Nat.zero_le _, rfl, by simp [sizeS], by simp [sizeS]; omega, Below.refl _ _⟩
    case round =>
      obtain ⟨k, hk, rfl, rfl, hl, hb⟩ := hrel
      by_cases hlt : k < n
      · obtain ⟨b, off, rfl, hb1, hc⟩ := HR.out.below hb (Nat.le_refl _) (by omega)
        have hck := hc k hlt
        have hsk := HS.out k hlt
        have HB := Lib.hid hb
        unfold strV at hck
        have he : sizeS S (k + 1) = sizeS S k + (S k).size := rfl
        have hle := sizeS_le S (show k + 1 ≤ n by omega)
        clear hb hc hb1
        by_cases hq : (n : Int) + sizeS S (k + 1) ≤ left
        · have hq2 : ¬ (left - n - sizeS S k - (S k).size < 0) := by omega
          go_wp2_with fail
          go_roundw
          case rel => exact ⟨k + 1, by omega, by go_num, by rw [he]; congr 1; omega, hq, HB.out⟩
          case measure => simp [intOf]; omega
        · have hq2 : left - n - sizeS S k - (S k).size < 0 := by omega
          have hz : szv left (n + sizeS S n) = -1 := szv_no (by omega)
          go_wp2_with fail
          go_ret
          exact ⟨by first | rfl | (rw [hz]; rfl), HB.out⟩
      · obtain rfl : k = n := by omega
        have HB := Lib.hid hb
        clear hb
        have hz : szv left (k + sizeS S k) = left - k - sizeS S k := by rw [szv_yes (show ((k + sizeS S k : Nat) : Int) ≤ left by omega)]; omega
        go_wp2_with fail
        go_ret
        exact ⟨by first | rfl | (rw [hz]; rfl), HB.out⟩
  · have hz : szv left (n + sizeS S n) = -1 := szv_no (by omega)
    rw [hz]
    clear hr hs
    go_enter Try.func11, Try.ntmps11
    go_wp2_with fail
    go_ret
    exact ⟨rfl, Below.refl _ _⟩

set_option maxHeartbeats 400000 in
theorem to_StringS {A : Option Addr} {n c : Nat} {S : Nat → ByteArray} {w : World} (hn : n ≤ 1048576) (hr : GRow w A n (strV S)) :
    Calls Try.prog 13 #[.slice A n c] w (NewIs w 9 n (strV S)) := by
  have hmk := fun W => run_make_row' (P := Try.prog) 22 9 (.string ByteArray.empty) 16 Try.underlying22 infoS rfl .i64 .i64 n (by omega) (by omega) W
  have HR := Lib.hid hr
  clear hr
  go_enter Try.func13, Try.ntmps13
  go_wp2_with fail
  go_loopw [4] (fun i wr => ∃ k : Nat, k ≤ n ∧ i = .int .i64 k ∧ GOwn wr 9 w.heap.size n (fun j => if j < k then strV S j else .string ByteArray.empty) ∧ Below w.heap.size w wr) (fun i _ => n - (intOf i).toNat)
  case atStart => exact ⟨0, Nat.zero_le _, rfl, (GOwn.made _ _ _ _).congr (fun _ _ => by simp), (Below.refl _ _).alloc (Nat.le_refl _) _⟩
  case round =>
    obtain ⟨k, hk, rfl, ho, hb⟩ := hrel
    by_cases hlt : k < n
    · obtain ⟨b, off, rfl, hb1, hc⟩ := HR.out.below hb (Nat.le_refl _) (by omega)
      have hck := hc k hlt
      have hok := ho.cell hlt
      have hfr := ho.frozen k
      rw [if_neg (Nat.lt_irrefl k)] at hok
      unfold strV at hck
      have HO := Lib.hid ho
      have HB := Lib.hid hb
      clear ho hb hc hb1
      go_wp2_with fail
      go_roundw
      case rel =>
        refine ⟨k + 1, by omega, by go_num, (HO.out.set k (strV S k)).congr (fun j hj => ?_), HB.out.setCell (Nat.le_refl _) _⟩
        by_cases e : j = k
        · subst e; simp
        · by_cases e2 : j < k <;> simp [e, e2] <;> omega
      case measure => simp [intOf]; omega
    · obtain rfl : k = n := by omega
      have HO := Lib.hid ho
      have HB := Lib.hid hb
      clear ho hb
      go_wp2_with fail
      go_ret
      exact ⟨_, _, rfl, ow_of_own (m := k) (HO.out.congr (fun j hj => by simp [hj])) (Nat.le_refl _) (Nat.le_refl _), HB.out⟩

set_option maxHeartbeats 400000 in
theorem eq_StringS {A B : Option Addr} {n c d : Nat} {S : Nat → ByteArray} {w : World} (hn : n ≤ 1048576) (hx : GRow w A n (strV S)) (hy : GRow w B n (strV S)) :
    Calls Try.prog 16 #[.slice A n c, .slice B n d] w (SameRow w true) := by
  have HX := Lib.hid hx
  have HY := Lib.hid hy
  clear hx hy
  go_enter Try.func16, Try.ntmps16
  go_wp2_with fail
  go_loopw [5] (fun i wr => ∃ k : Nat, k ≤ n ∧ i = .int .i64 k ∧ Below w.heap.size w wr) (fun i _ => n - (intOf i).toNat)
  case atStart => exact ⟨0, Nat.zero_le _, rfl, Below.refl _ _⟩
  case round =>
    obtain ⟨k, hk, rfl, hb⟩ := hrel
    by_cases hlt : k < n
    · obtain ⟨b1, o1, rfl, l1, hc1⟩ := HX.out.below hb (Nat.le_refl _) (by omega)
      obtain ⟨b2, o2, rfl, l2, hc2⟩ := HY.out.below hb (Nat.le_refl _) (by omega)
      have hx := hc1 k hlt
      have hy := hc2 k hlt
      unfold strV at hx hy
      have HB := Lib.hid hb
      clear hb hc1 hc2 l1 l2
      go_wp2_with fail
      go_quiet (fail)
      go_wp2_with fail
      go_roundw
      case rel => exact ⟨k + 1, by omega, by go_num, below_drewN HB.out _⟩
      case measure => simp [intOf]; omega
    · obtain rfl : k = n := by omega
      have HB := Lib.hid hb
      clear hb
      go_wp2_with fail
      go_ret
      exact ⟨rfl, HB.out⟩

/-! The text that marks a cell. -/
def digitT (k : Nat) : ByteArray := strOfNums [48 + (k : Int) % 10]
def markGo : Nat → Nat → ByteArray → ByteArray
  | 0, _, out => out
  | f + 1, k, out => if k = 0 then out else markGo f (k / 10) (digitT k ++ out)
theorem markGo_fuel : ∀ (f g k : Nat) (out : ByteArray), k ≤ f → k ≤ g → markGo f k out = markGo g k out := by
  intro f
  induction f with
  | zero =>
    intro g k out hf hg
    obtain rfl : k = 0 := by omega
    cases g <;> simp [markGo]
  | succ f ih =>
    intro g k out hf hg
    cases g with
    | zero => obtain rfl : k = 0 := by omega
              simp [markGo]
    | succ g =>
      by_cases e : k = 0
      · simp [markGo, e]
      · simp only [markGo, if_neg e]
        exact ih g (k / 10) _ (by omega) (by omega)
theorem markGo_step {k : Nat} (h : k ≠ 0) (out : ByteArray) : markGo k k out = markGo (k / 10) (k / 10) (digitT k ++ out) := by
  cases k with
  | zero => exact absurd rfl h
  | succ k =>
    rw [markGo, if_neg h]
    exact markGo_fuel _ _ _ _ (by omega) (Nat.le_refl _)
def markB (k : Nat) : ByteArray := ⟨#[109]⟩ ++ markGo k k ⟨#[]⟩

set_option maxRecDepth 100000 in
set_option maxHeartbeats 1000000 in
theorem markText_is {k : Nat} {w : World} (h0 : 1 ≤ k) (h1 : k < 1000000000) :
    Calls Try.prog 45 #[.int .i64 k] w fun e w' => e = .returned (.string (markB k)) ∧ Below w.heap.size w w' := by
  go_enter Try.func45, Try.ntmps45
  go_wp2_with fail
  go_loopw [0, 3] (fun q s wr => ∃ (j k' : Nat) (out : ByteArray), k' < 10 ^ j ∧ out.size + j ≤ 9 ∧ q = .int .i64 k' ∧ s = .string out ∧ markGo k' k' out = markGo k k ⟨#[]⟩ ∧ Below w.heap.size w wr) (fun q _ _ => (intOf q).toNat)
  case atStart => exact ⟨9, k, ⟨#[]⟩, by omega, by decide, rfl, rfl, rfl, Below.refl _ _⟩
  case round =>
    obtain ⟨j, k', out, hj, hs, rfl, rfl, hm, hb⟩ := hrel
    by_cases hz : k' = 0
    · subst hz
      have HM := Lib.hid hm
      have HB := Lib.hid hb
      clear hm hb
      go_wp2_with fail
      go_ret
      exact ⟨by unfold markB; rw [← HM.out]; rfl, HB.out⟩
    · have hj1 : 1 ≤ j := by
        rcases Nat.eq_zero_or_pos j with h | h
        · subst h; simp at hj; omega
        · exact h
      obtain ⟨i, rfl⟩ : ∃ i, j = i + 1 := ⟨j - 1, by omega⟩
      have hlt : k' < 1000000000 := by
        have : (10 : Nat) ^ (i + 1) ≤ 10 ^ 9 := Nat.pow_le_pow_right (by decide) (by omega)
        omega
      have hk10 : k' / 10 < 10 ^ i := by rw [Nat.pow_succ] at hj; omega
      have HM := Lib.hid hm
      have HB := Lib.hid hb
      have HJ := Lib.hid hj
      clear hm hb hj
      have hs1 : ((digitT k').size : Int) ≤ 8388608 := by simp [digitT, strOfNums_size]
      have hs2 : (out.size : Int) ≤ 8388608 := by omega
      have hsz : (digitT k' ++ out).size + i ≤ 9 := by
        have h1 : (digitT k').size = 1 := by simp [digitT, strOfNums_size]
        rw [ByteArray.size_append]; omega
      have hcv : (convert 80 9 (.slice (some ⟨wr.heap.size, 0, none⟩) 1 1)).run Try.prog (wr.alloc (.cells #[.int .u8 (48 + (k' : Int) % 10)] 5)) = .ok (.string (digitT k')) (wr.alloc (.cells #[.int .u8 (48 + (k' : Int) % 10)] 5)) :=
        run_convert_bytes_arg _ 80 5 Try.underlying80 Try.underlying5 wr.heap.size 0 1 1 [48 + (k' : Int) % 10] (by simp) (fun i hi => by
          obtain rfl : i = 0 := by omega
          simp [go_sem]) 9 Try.underlying9
      go_wp2_with fail
      go_roundw
      case rel => exact ⟨i, k' / 10, digitT k' ++ out, hk10, hsz, by go_num, rfl, by rw [← markGo_step hz]; exact HM.out, HB.out.alloc HB.out.size _⟩
      case measure => simp only [intOf]; omega

set_option maxHeartbeats 400000 in
theorem mark_StringSN {A : Option Addr} {n c lo hi k0 : Nat} {S : Nat → ByteArray} {w : World} (hn : n ≤ 1048576) (hx : Ow lo hi 9 A n (strV S) w) (_ht : hi ≤ w.heap.size) (h0 : 1 ≤ k0) (h1 : k0 ≤ 16777216) :
    Calls Try.prog 17 #[.slice A n c, .int .i64 k0] w fun e w' => e = .returned (.int .i64 (k0 + n)) ∧ Ow lo hi 9 A n (strV fun i => markB (k0 + i)) w' ∧ Only lo hi w w' := by
  rcases Nat.eq_zero_or_pos n with hz | hpos
  · subst hz
    clear hx
    go_enter Try.func17, Try.ntmps17
    go_wp2_with fail
    refine wp_loop_rounds 1 ?_
    rw [rounds_succ]
    go_wp2_with fail
    go_ret
    exact ⟨by simp, ow_zero _ _ _ _ _ _, Only.refl _ _ _⟩
  obtain ⟨g, off, rfl, hlo, hhi, hs⟩ := hx.seg hpos
  clear hx
  go_enter Try.func17, Try.ntmps17
  go_wp2_with fail
  go_loopw [1, 5] (fun q i wr => ∃ k : Nat, k ≤ n ∧ i = .int .i64 k ∧ q = .int .i64 ((k0 : Int) + k) ∧ OSeg wr 9 g off n (fun j => if j < k then .string (markB (k0 + j)) else strV S j) ∧ Only g (g + 1) w wr) (fun _ i _ => n - (intOf i).toNat)
  case atStart => exact ⟨0, Nat.zero_le _, rfl, by go_num, hs.congr (fun _ _ => by simp), Only.refl _ _ _⟩
  case round =>
    obtain ⟨k, hk, rfl, rfl, ho, hg⟩ := hrel
    by_cases hlt : k < n
    · have HO := Lib.hid ho
      have HG := Lib.hid hg
      have hM := markText_is (k := k0 + k) (w := wr) (by omega) (by omega)
      rw [show ((k0 + k : Nat) : Int) = (k0 : Int) + (k : Int) by omega] at hM
      have HM := Lib.hid hM
      clear ho hg hs hM
      go_wp2_with fail
      refine HM.out.mono ?_; rintro e w2 ⟨rfl, hb⟩
      have HO2 := Lib.hid (HO.out.b hb)
      have HG2 := Lib.hid (HG.out.trans (only_below hb))
      have hok := HO2.out.cell hlt
      rw [if_neg (Nat.lt_irrefl k)] at hok
      have hfr := HO2.out.frozen (off + k)
      unfold strV at hok
      clear hb HO HG HM
      go_wp2_with fail
      go_roundw
      case rel =>
        refine ⟨k + 1, by omega, by go_num, by go_num, (HO2.out.set k (.string (markB (k0 + k)))).congr (fun j hj => ?_), HG2.out.trans (only_grown (grown_setCell (World.grownBy.refl _ _) _ _))⟩
        by_cases e : j = k
        · subst e; simp
        · simp only [e, if_false, show (j < k + 1) = (j < k) by simp; omega]
      case measure => simp [intOf]; omega
    · obtain rfl : k = n := by omega
      have HO := Lib.hid ho
      have HG := Lib.hid hg
      clear ho hg hs
      go_wp2_with fail
      go_ret
      exact ⟨rfl, (HO.out.congr (G := strV fun i => markB (k0 + i)) (fun j hj => by simp [hj, strV])).ow hlo hhi, HG.out.mono hlo (by omega)⟩
theorem mark_StringS {A : Option Addr} {n c lo hi : Nat} {S : Nat → ByteArray} {k0 : Int} {w : World} (hn : n ≤ 1048576) (hx : Ow lo hi 9 A n (strV S) w) (ht : hi ≤ w.heap.size) (h0 : 1 ≤ k0) (h1 : k0 ≤ 16777216) :
    Calls Try.prog 17 #[.slice A n c, .int .i64 k0] w fun e w' => e = .returned (.int .i64 (k0 + n)) ∧ Ow lo hi 9 A n (strV fun i => markB (k0.toNat + i)) w' ∧ Only lo hi w w' := by
  obtain ⟨q, rfl⟩ : ∃ q : Nat, k0 = q := ⟨k0.toNat, by omega⟩
  exact mark_StringSN hn hx ht (by omega) (by omega)
end Go.Proofs.Ythaipemgndahfaa
