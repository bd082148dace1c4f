/- The law FnJoinsAreCut, walked. -/
import Derived.Test.YtglccgpiakadbaaVecGen
import Derived.Test.YtglccgpiakadbaaJoin
import Derived.Test.YtglccgpiakadbaaCut
namespace Go.Proofs.Ytglccgpiakadbaa
open Go.RowKit

theorem bit_words (f : Nat → Bool) (i : Nat) : bitN (wordsOf f) i = f i := by
  unfold bitN wordsOf
  rw [ofB_bit, show 16 * (i / 16) + i % 16 = i by omega]
  have : i % 16 < 16 := by omega
  simp [this]
theorem bit_wordsI (f : Nat → Bool) (i : Nat) : bitN (fun k => ((wordsOf f k : Nat) : Int).toNat) i = f i := by
  simp only [Int.toNat_natCast]; exact bit_words f i
/-- A valid vector is made of its bits. -/
theorem good_words {z : Nat} {n : Nat} {X : Nat → Int} {f : Nat → Bool} (hg : Good z n X) (hf : ∀ i, i < 16 * n → f i = (decide (i < z) && bitN (fun i => (X i).toNat) i)) {k : Nat} (hk : k < n) : ((wordsOf f k : Nat) : Int) = X k := by
  have h := words_eq (W := fun i => (X i).toNat) (m := n) (f := f) (fun i hi => by have := hg.2.2.2 i hi; have := cap_le z i; show (X i).toNat < _; omega) (fun i hi => by
    rw [hf i hi]
    by_cases c : i < z
    · simp [c]
    · rw [good_high hg (by omega) hi]; simp [c]) k hk
  have := (hg.2.2.2 k hk).1
  omega
theorem good_of_words {z n : Nat} {f : Nat → Bool} (hz : z ≤ 4096) (hn : n = (z + 15) / 16) (hf : ∀ i, z ≤ i → f i = false) : Good z n (fun k => (wordsOf f k : Int)) := by
  refine ⟨by omega, by omega, by omega, fun i hi => ⟨Int.natCast_nonneg _, ?_⟩⟩
  have h : wordsOf f i < 2 ^ (min 16 (z - 16 * i)) := by
    apply Nat.lt_pow_two_of_testBit
    intro j hj
    rw [wordsOf, ofB_bit]
    by_cases c : j < 16
    · rw [hf (16 * i + j) (by omega)]; simp
    · simp [c]
  unfold cap
  rw [show (z : Int).toNat = z from rfl]
  have e : ((2 ^ (min 16 (z - 16 * i)) : Nat) : Int) = (2 : Int) ^ (min 16 (z - 16 * i)) := by push_cast; rfl
  rw [← e]
  show ((wordsOf f i : Nat) : Int) < _
  omega
theorem cntN_shift (W V : Nat → Nat) : ∀ (k a b : Nat), (∀ i, i < k → bitN W (a + i) = bitN V (b + i)) → cntN W a k = cntN V b k := by
  intro k
  induction k with
  | zero => intro a b _; rfl
  | succ k ih =>
    intro a b h
    rw [cntN_snoc, cntN_snoc, ih a b (fun i hi => h i (by omega)), h k (by omega)]

def joinW (X Y : Nat → Int) (z y : Nat) (k : Nat) : Int := (wordsOf (joinF X Y z y) k : Int)
theorem joinW_good {X Y : Nat → Int} {z y : Nat} (h : z + y ≤ 4096) : Good ((z + y : Nat) : Int) ((z + y + 15) / 16) (joinW X Y z y) :=
  good_of_words h rfl (fun i hi => by unfold joinF; simp only [show ¬ i < z + y by omega, decide_false, Bool.false_and])
theorem joinW_bit (X Y : Nat → Int) (z y i : Nat) : bitN (fun k => (joinW X Y z y k).toNat) i = joinF X Y z y i := bit_wordsI _ _
theorem cut_first {X Y : Nat → Int} {z y n : Nat} (hg : Good z n X) {k : Nat} (hk : k < n) : ((wordsOf (cutF (joinW X Y z y) 0 z) k : Nat) : Int) = X k :=
  good_words hg (fun i _ => by
    unfold cutF; rw [joinW_bit, Nat.zero_add, Nat.sub_zero]; unfold joinF
    by_cases c : i < z
    · have : i < z + y := by omega
      simp [c, this]
    · simp [c]) hk
theorem cut_second {X Y : Nat → Int} {z y n : Nat} (hg : Good y n Y) {k : Nat} (hk : k < n) : ((wordsOf (cutF (joinW X Y z y) z (z + y)) k : Nat) : Int) = Y k :=
  good_words hg (fun i _ => by
    unfold cutF; rw [joinW_bit, Nat.add_sub_cancel_left]; unfold joinF
    by_cases c : i < y
    · have h1 : z + i < z + y := by omega
      have h2 : ¬ z + i < z := by omega
      simp [c, h1, h2]
    · simp [c]) hk
theorem cnt_join (X Y : Nat → Int) (z y : Nat) : cntN (fun k => (joinW X Y z y k).toNat) 0 (z + y) = cntN (fun i => (X i).toNat) 0 z + cntN (fun i => (Y i).toNat) 0 y := by
  have e1 := cntN_shift (fun k => (joinW X Y z y k).toNat) (fun i => (X i).toNat) z 0 0 (fun i hi => by
    rw [joinW_bit]; unfold joinF
    have : i < z + y := by omega
    simp [hi, this])
  have e2 := cntN_shift (fun k => (joinW X Y z y k).toNat) (fun i => (Y i).toNat) y z 0 (fun i hi => by
    rw [joinW_bit, Nat.zero_add]; unfold joinF
    have h2 : ¬ z + i < z := by omega
    simp [hi, h2])
  rw [cntN_add, Nat.zero_add, e1, e2]

theorem spec_join_s (z y s M : Nat) (A B : Option Addr) (n c m d : Nat) (X Y : Nat → Int) (w : World) (hn : n ≤ 1048576) (hm : m ≤ 1048576) (hr : IRow w A n X) (hs : IRow w B m Y) (hg : Good z n X) (hh : Good y m Y) (hzs : s = z + y) (hs4 : s ≤ 4096) (hM : M = (s + 15) / 16) :
    Calls Try.prog 36 #[.agg #[.int .i64 z, .slice A n c], .agg #[.int .i64 y, .slice B m d]] w (OwnIs (s : Int) M (fun k => (wordsOf (joinF X Y z y) k : Int)) true w) := by
  subst hzs
  exact spec_join_yes z y M A B n c m d X Y w hn hm hr hs hg hh hs4 hM

set_option maxRecDepth 100000 in
set_option maxHeartbeats 8000000 in
theorem walk_FnJoinsAreCut (w : World) (A : Option Addr) (n c : Nat) (D : Nat → Int) (hn : n ≤ maxLen) (hr : URow w A n D) (B : Option Addr) (m d : Nat) (E : Nat → Int) (hm : m ≤ maxLen) (_hs : URow w B m E) :
    Calls Try.prog 4 #[.slice A n c, .slice B m d] w fun e w' => e = .returned (.bool true) ∧ Below w.heap.size w w' := by
  have HR := Lib.hid hr
  clear hr
  by_cases hbig : n + m ≤ 1048576
  rotate_left
  · have hb : (!decide (n + m ≤ 1048576)) = true := by simp; omega
    go_enter Try.func4, Try.ntmps4
    go_wp2_with fail
    refine (big_is A B n c m d w hn hm).mono ?_; rintro e w' ⟨rfl, rfl⟩
    rw [hb]
    go_wp2_with fail
    go_ret
    exact ⟨rfl, Below.refl _ _⟩
  have hb : (!decide (n + m ≤ 1048576)) = false := by simp; omega
  go_enter Try.func4, Try.ntmps4
  go_wp2_with fail
  refine (big_is A B n c m d w hn hm).mono ?_; rintro e w' ⟨rfl, rfl⟩
  rw [hb]
  clear hb
  have FB := Lib.hid (At.start w)
  go_wp2_with fail
  refine (draw_joinBits A n c D w (by omega) HR.out.1 HR.out.2).mono ?_; rintro e w1 ⟨z, P, a, pc, X, y, Q, b, qc, Y, rfl, hx, hy, hb⟩
  replace FB := Lib.hid (FB.out.b hb)
  have z_w1 : w.heap.size ≤ w1.heap.size := by have hsz := hb.size; first | omega | (simp at hsz; omega)
  obtain ⟨z0, z1, ha, _, _, ho1⟩ := hx
  obtain ⟨y0, y1, hbb, _, _, ho2⟩ := hy
  have OX := Lib.hid (owned (ho1.mono (lo' := w.heap.size) (Nat.le_refl _) (Nat.le_refl _)))
  have OY := Lib.hid (owned (ho2.mono (lo' := w.heap.size) (Nat.le_refl _) (Nat.le_refl _)))
  clear hb ho1 ho2
  by_cases hok : Good z a X ∧ Good y b Y ∧ z + y ≤ 4096
  rotate_left
  · have HOK := Lib.hid hok
    clear hok
    replace FB := Lib.hid (FB.out.alloc (.cells #[.int .i64 z, .slice P a pc] 26))
    replace OX := Lib.hid (OX.out.alloc (.cells #[.int .i64 z, .slice P a pc] 26))
    replace OY := Lib.hid (OY.out.alloc (.cells #[.int .i64 z, .slice P a pc] 26))
    have BX := Lib.hid (boxed w1 #[.int .i64 z, .slice P a pc] 26)
    replace FB := Lib.hid (FB.out.alloc (.cells #[.int .i64 y, .slice Q b qc] 26))
    replace OX := Lib.hid (OX.out.alloc (.cells #[.int .i64 y, .slice Q b qc] 26))
    replace OY := Lib.hid (OY.out.alloc (.cells #[.int .i64 y, .slice Q b qc] 26))
    replace BX := Lib.hid (BX.out.alloc (.cells #[.int .i64 y, .slice Q b qc] 26))
    have BY := Lib.hid (boxed_at ((w1).alloc (.cells #[.int .i64 z, .slice P a pc] 26)) (w1.heap.size + 1) (by simp) #[.int .i64 y, .slice Q b qc] 26)
    have c_BX_0 := BX.out.now 0 _ rfl
    have c_BX_1 := BX.out.now 1 _ rfl
    have c_BY_0 := BY.out.now 0 _ rfl
    have c_BY_1 := BY.out.now 1 _ rfl
    go_wp2_with fail
    refine (impl_join_no z y P Q a pc b qc X Y _ (by omega) (by omega) OX.out.orow OY.out.orow HOK.out).mono ?_; rintro e w2 ⟨R, rc, rfl, hv, hb⟩
    replace FB := Lib.hid (FB.out.b hb)
    replace OX := Lib.hid (OX.out.b hb)
    replace OY := Lib.hid (OY.out.b hb)
    replace BX := Lib.hid (BX.out.b hb)
    replace BY := Lib.hid (BY.out.b hb)
    have z_w2 : w1.heap.size + 2 ≤ w2.heap.size := by have hsz := hb.size; first | omega | (simp at hsz; omega)
    clear c_BX_0 c_BX_1 c_BY_0 c_BY_1
    clear hb hv
    replace FB := Lib.hid (FB.out.alloc (.cells #[.int .i64 0, .slice R 0 rc] 26))
    replace OX := Lib.hid (OX.out.alloc (.cells #[.int .i64 0, .slice R 0 rc] 26))
    replace OY := Lib.hid (OY.out.alloc (.cells #[.int .i64 0, .slice R 0 rc] 26))
    replace BX := Lib.hid (BX.out.alloc (.cells #[.int .i64 0, .slice R 0 rc] 26))
    replace BY := Lib.hid (BY.out.alloc (.cells #[.int .i64 0, .slice R 0 rc] 26))
    have BR := Lib.hid (boxed w2 #[.int .i64 0, .slice R 0 rc] 26)
    have c_BX_0 := BX.out.now 0 _ rfl
    have c_BX_1 := BX.out.now 1 _ rfl
    have c_BY_0 := BY.out.now 0 _ rfl
    have c_BY_1 := BY.out.now 1 _ rfl
    go_wp2_with fail
    refine (spec_join_no z y P Q a pc b qc X Y _ (by omega) (by omega) OX.out.orow OY.out.orow HOK.out).mono ?_; rintro e w3 ⟨S, sc, rfl, hv, hb⟩
    replace FB := Lib.hid (FB.out.b hb)
    replace OX := Lib.hid (OX.out.b hb)
    replace OY := Lib.hid (OY.out.b hb)
    replace BX := Lib.hid (BX.out.b hb)
    replace BY := Lib.hid (BY.out.b hb)
    replace BR := Lib.hid (BR.out.b hb)
    have z_w3 : w2.heap.size + 1 ≤ w3.heap.size := by have hsz := hb.size; first | omega | (simp at hsz; omega)
    clear c_BX_0 c_BX_1 c_BY_0 c_BY_1
    clear hb hv
    replace FB := Lib.hid (FB.out.alloc (.cells #[.int .i64 0, .slice S 0 sc] 26))
    replace OX := Lib.hid (OX.out.alloc (.cells #[.int .i64 0, .slice S 0 sc] 26))
    replace OY := Lib.hid (OY.out.alloc (.cells #[.int .i64 0, .slice S 0 sc] 26))
    replace BX := Lib.hid (BX.out.alloc (.cells #[.int .i64 0, .slice S 0 sc] 26))
    replace BY := Lib.hid (BY.out.alloc (.cells #[.int .i64 0, .slice S 0 sc] 26))
    replace BR := Lib.hid (BR.out.alloc (.cells #[.int .i64 0, .slice S 0 sc] 26))
    have BS := Lib.hid (boxed w3 #[.int .i64 0, .slice S 0 sc] 26)
    have c_BR_0 := BR.out.now 0 _ rfl
    have c_BR_1 := BR.out.now 1 _ rfl
    have c_BS_0 := BS.out.now 0 _ rfl
    have c_BS_1 := BS.out.now 1 _ rfl
    go_wp2_with fail
    refine (pSame_yes (by omega) (X := fun _ => 0) GRow.zero GRow.zero).mono ?_; rintro e w4 ⟨rfl, hb⟩
    replace FB := Lib.hid (FB.out.b hb)
    replace OX := Lib.hid (OX.out.b hb)
    replace OY := Lib.hid (OY.out.b hb)
    replace BX := Lib.hid (BX.out.b hb)
    replace BY := Lib.hid (BY.out.b hb)
    replace BR := Lib.hid (BR.out.b hb)
    replace BS := Lib.hid (BS.out.b hb)
    have z_w4 : w3.heap.size + 1 ≤ w4.heap.size := by have hsz := hb.size; first | omega | (simp at hsz; omega)
    clear c_BR_0 c_BR_1 c_BS_0 c_BS_1
    clear hb
    go_wp2_with fail
    go_ret
    exact ⟨rfl, FB.out.now⟩
  obtain ⟨hg, hh, hzy⟩ := hok
  obtain ⟨Z, rfl⟩ : ∃ Z : Nat, z = Z := ⟨z.toNat, by have := hg.1; omega⟩
  obtain ⟨V, rfl⟩ : ∃ V : Nat, y = V := ⟨y.toNat, by have := hh.1; omega⟩
  obtain ⟨s, hs⟩ : ∃ s, s = Z + V := ⟨_, rfl⟩
  have hs4 : Z + V ≤ 4096 := by omega
  have hs5 : s ≤ 4096 := by omega
  have hzs : Z ≤ s := by omega
  have haz : a = (Z + 15) / 16 := by have := hg.2.2.1; omega
  have hbv : b = (V + 15) / 16 := by have := hh.2.2.1; omega
  have HG := Lib.hid hg
  have HH := Lib.hid hh
  have HAZ := Lib.hid haz
  have HBV := Lib.hid hbv
  have hw := joinW_good (X := X) (Y := Y) hs4
  rw [← hs] at hw
  have HW := Lib.hid hw
  have HSS := Lib.hid hs
  obtain ⟨N, hN⟩ : ∃ N, N = (s + 15) / 16 := ⟨_, rfl⟩
  have HN := Lib.hid hN
  have hN2 : N ≤ 256 := by omega
  clear hg hh haz hbv hN hw hs hs4 hzy
  replace FB := Lib.hid (FB.out.alloc (.cells #[.int .i64 (Z : Int), .slice P a pc] 26))
  replace OX := Lib.hid (OX.out.alloc (.cells #[.int .i64 (Z : Int), .slice P a pc] 26))
  replace OY := Lib.hid (OY.out.alloc (.cells #[.int .i64 (Z : Int), .slice P a pc] 26))
  have BX := Lib.hid (boxed w1 #[.int .i64 (Z : Int), .slice P a pc] 26)
  replace FB := Lib.hid (FB.out.alloc (.cells #[.int .i64 (V : Int), .slice Q b qc] 26))
  replace OX := Lib.hid (OX.out.alloc (.cells #[.int .i64 (V : Int), .slice Q b qc] 26))
  replace OY := Lib.hid (OY.out.alloc (.cells #[.int .i64 (V : Int), .slice Q b qc] 26))
  replace BX := Lib.hid (BX.out.alloc (.cells #[.int .i64 (V : Int), .slice Q b qc] 26))
  have BY := Lib.hid (boxed_at ((w1).alloc (.cells #[.int .i64 (Z : Int), .slice P a pc] 26)) (w1.heap.size + 1) (by simp) #[.int .i64 (V : Int), .slice Q b qc] 26)
  have c_BX_0 := BX.out.now 0 _ rfl
  have c_BX_1 := BX.out.now 1 _ rfl
  have c_BY_0 := BY.out.now 0 _ rfl
  have c_BY_1 := BY.out.now 1 _ rfl
  go_wp2_with fail
  refine (impl_join_yes Z V s N P Q a pc b qc X Y _ (by omega) (by omega) OX.out.orow OY.out.orow HG.out HH.out HSS.out hs5 HN.out).mono ?_; rintro e w2 ⟨R, rc, rfl, hv, hb⟩
  replace FB := Lib.hid (FB.out.b hb)
  replace OX := Lib.hid (OX.out.b hb)
  replace OY := Lib.hid (OY.out.b hb)
  replace BX := Lib.hid (BX.out.b hb)
  replace BY := Lib.hid (BY.out.b hb)
  have z_w2 : w1.heap.size + 2 ≤ w2.heap.size := by have hsz := hb.size; first | omega | (simp at hsz; omega)
  clear c_BX_0 c_BX_1 c_BY_0 c_BY_1
  have OR := Lib.hid (owned ((show Ow _ _ _ R N (intV (joinW X Y Z V)) _ from ow_of_vec hv).mono (lo' := w1.heap.size + 2) (by simp) (Nat.le_refl _)))
  clear hb hv
  replace FB := Lib.hid (FB.out.alloc (.cells #[.int .i64 (s : Int), .slice R N rc] 26))
  replace OX := Lib.hid (OX.out.alloc (.cells #[.int .i64 (s : Int), .slice R N rc] 26))
  replace OY := Lib.hid (OY.out.alloc (.cells #[.int .i64 (s : Int), .slice R N rc] 26))
  replace BX := Lib.hid (BX.out.alloc (.cells #[.int .i64 (s : Int), .slice R N rc] 26))
  replace BY := Lib.hid (BY.out.alloc (.cells #[.int .i64 (s : Int), .slice R N rc] 26))
  replace OR := Lib.hid (OR.out.alloc (.cells #[.int .i64 (s : Int), .slice R N rc] 26))
  have BR := Lib.hid (boxed w2 #[.int .i64 (s : Int), .slice R N rc] 26)
  have c_BX_0 := BX.out.now 0 _ rfl
  have c_BX_1 := BX.out.now 1 _ rfl
  have c_BY_0 := BY.out.now 0 _ rfl
  have c_BY_1 := BY.out.now 1 _ rfl
  go_wp2_with fail
  refine (spec_join_s Z V s N P Q a pc b qc X Y _ (by omega) (by omega) OX.out.orow OY.out.orow HG.out HH.out HSS.out hs5 HN.out).mono ?_; rintro e w3 ⟨S, sc, rfl, hv, hb⟩
  replace FB := Lib.hid (FB.out.b hb)
  replace OX := Lib.hid (OX.out.b hb)
  replace OY := Lib.hid (OY.out.b hb)
  replace BX := Lib.hid (BX.out.b hb)
  replace BY := Lib.hid (BY.out.b hb)
  replace OR := Lib.hid (OR.out.b hb)
  replace BR := Lib.hid (BR.out.b hb)
  have z_w3 : w2.heap.size + 1 ≤ w3.heap.size := by have hsz := hb.size; first | omega | (simp at hsz; omega)
  clear c_BX_0 c_BX_1 c_BY_0 c_BY_1
  have OS := Lib.hid (owned ((show Ow _ _ _ S N (intV (joinW X Y Z V)) _ from ow_of_vec hv).mono (lo' := w2.heap.size + 1) (by simp) (Nat.le_refl _)))
  clear hb hv
  replace FB := Lib.hid (FB.out.alloc (.cells #[.int .i64 (s : Int), .slice S N sc] 26))
  replace OX := Lib.hid (OX.out.alloc (.cells #[.int .i64 (s : Int), .slice S N sc] 26))
  replace OY := Lib.hid (OY.out.alloc (.cells #[.int .i64 (s : Int), .slice S N sc] 26))
  replace BX := Lib.hid (BX.out.alloc (.cells #[.int .i64 (s : Int), .slice S N sc] 26))
  replace BY := Lib.hid (BY.out.alloc (.cells #[.int .i64 (s : Int), .slice S N sc] 26))
  replace OR := Lib.hid (OR.out.alloc (.cells #[.int .i64 (s : Int), .slice S N sc] 26))
  replace BR := Lib.hid (BR.out.alloc (.cells #[.int .i64 (s : Int), .slice S N sc] 26))
  replace OS := Lib.hid (OS.out.alloc (.cells #[.int .i64 (s : Int), .slice S N sc] 26))
  have BS := Lib.hid (boxed w3 #[.int .i64 (s : Int), .slice S N sc] 26)
  have c_BR_0 := BR.out.now 0 _ rfl
  have c_BR_1 := BR.out.now 1 _ rfl
  have c_BS_0 := BS.out.now 0 _ rfl
  have c_BS_1 := BS.out.now 1 _ rfl
  go_wp2_with fail
  refine (pSame_yes (by omega) OR.out.orow OS.out.orow).mono ?_; rintro e w4 ⟨rfl, hb⟩
  replace FB := Lib.hid (FB.out.b hb)
  replace OX := Lib.hid (OX.out.b hb)
  replace OY := Lib.hid (OY.out.b hb)
  replace BX := Lib.hid (BX.out.b hb)
  replace BY := Lib.hid (BY.out.b hb)
  replace OR := Lib.hid (OR.out.b hb)
  replace BR := Lib.hid (BR.out.b hb)
  replace OS := Lib.hid (OS.out.b hb)
  replace BS := Lib.hid (BS.out.b hb)
  have z_w4 : w3.heap.size + 1 ≤ w4.heap.size := by have hsz := hb.size; first | omega | (simp at hsz; omega)
  clear c_BR_0 c_BR_1 c_BS_0 c_BS_1
  clear hb
  clear OS BS
  have c_BR_0 := BR.out.now 0 _ rfl
  have c_BR_1 := BR.out.now 1 _ rfl
  have c_BX_0 := BX.out.now 0 _ rfl
  have c_BX_1 := BX.out.now 1 _ rfl
  go_wp2_with fail
  refine (impl_cut_yes s Z a R N rc (joinW X Y Z V) 0 Z _ (by omega) OR.out.orow ⟨HN.out ▸ HW.out, by omega, by omega, by omega⟩ rfl HAZ.out).mono ?_; rintro e w5 ⟨C1, cc1, rfl, hv, hb⟩
  replace FB := Lib.hid (FB.out.b hb)
  replace OX := Lib.hid (OX.out.b hb)
  replace OY := Lib.hid (OY.out.b hb)
  replace BX := Lib.hid (BX.out.b hb)
  replace BY := Lib.hid (BY.out.b hb)
  replace OR := Lib.hid (OR.out.b hb)
  replace BR := Lib.hid (BR.out.b hb)
  have z_w5 : w4.heap.size ≤ w5.heap.size := by have hsz := hb.size; first | omega | (simp at hsz; omega)
  clear c_BR_0 c_BR_1 c_BX_0 c_BX_1
  have OC := Lib.hid (owned ((show Ow _ _ _ C1 a (intV X) _ from (ow_of_vec hv).congr (fun i hi => congrArg (Value.int .i64) (cut_first HG.out hi))).mono (lo' := w4.heap.size) (Nat.le_refl _) (Nat.le_refl _)))
  clear hb hv
  replace FB := Lib.hid (FB.out.alloc (.cells #[.int .i64 (Z : Int), .slice C1 a cc1] 26))
  replace OX := Lib.hid (OX.out.alloc (.cells #[.int .i64 (Z : Int), .slice C1 a cc1] 26))
  replace OY := Lib.hid (OY.out.alloc (.cells #[.int .i64 (Z : Int), .slice C1 a cc1] 26))
  replace BX := Lib.hid (BX.out.alloc (.cells #[.int .i64 (Z : Int), .slice C1 a cc1] 26))
  replace BY := Lib.hid (BY.out.alloc (.cells #[.int .i64 (Z : Int), .slice C1 a cc1] 26))
  replace OR := Lib.hid (OR.out.alloc (.cells #[.int .i64 (Z : Int), .slice C1 a cc1] 26))
  replace BR := Lib.hid (BR.out.alloc (.cells #[.int .i64 (Z : Int), .slice C1 a cc1] 26))
  replace OC := Lib.hid (OC.out.alloc (.cells #[.int .i64 (Z : Int), .slice C1 a cc1] 26))
  have BC := Lib.hid (boxed w5 #[.int .i64 (Z : Int), .slice C1 a cc1] 26)
  have c_BR_0 := BR.out.now 0 _ rfl
  have c_BR_1 := BR.out.now 1 _ rfl
  have c_BX_0 := BX.out.now 0 _ rfl
  have c_BX_1 := BX.out.now 1 _ rfl
  go_wp2_with fail
  refine (impl_cut_yes s V b R N rc (joinW X Y Z V) Z s _ (by omega) OR.out.orow ⟨HN.out ▸ HW.out, by omega, by omega, by omega⟩ (by have := HSS.out; omega) HBV.out).mono ?_; rintro e w6 ⟨C2, cc2, rfl, hv, hb⟩
  replace FB := Lib.hid (FB.out.b hb)
  replace OX := Lib.hid (OX.out.b hb)
  replace OY := Lib.hid (OY.out.b hb)
  replace BX := Lib.hid (BX.out.b hb)
  replace BY := Lib.hid (BY.out.b hb)
  replace OR := Lib.hid (OR.out.b hb)
  replace BR := Lib.hid (BR.out.b hb)
  replace OC := Lib.hid (OC.out.b hb)
  replace BC := Lib.hid (BC.out.b hb)
  have z_w6 : w5.heap.size + 1 ≤ w6.heap.size := by have hsz := hb.size; first | omega | (simp at hsz; omega)
  clear c_BR_0 c_BR_1 c_BX_0 c_BX_1
  have OD := Lib.hid (owned ((show Ow _ _ _ C2 b (intV Y) _ from (ow_of_vec hv).congr (fun i hi => congrArg (Value.int .i64) (by rw [HSS.out]; exact cut_second HH.out hi))).mono (lo' := w5.heap.size + 1) (by simp) (Nat.le_refl _)))
  clear hb hv
  replace FB := Lib.hid (FB.out.alloc (.cells #[.int .i64 (V : Int), .slice C2 b cc2] 26))
  replace OX := Lib.hid (OX.out.alloc (.cells #[.int .i64 (V : Int), .slice C2 b cc2] 26))
  replace OY := Lib.hid (OY.out.alloc (.cells #[.int .i64 (V : Int), .slice C2 b cc2] 26))
  replace BX := Lib.hid (BX.out.alloc (.cells #[.int .i64 (V : Int), .slice C2 b cc2] 26))
  replace BY := Lib.hid (BY.out.alloc (.cells #[.int .i64 (V : Int), .slice C2 b cc2] 26))
  replace OR := Lib.hid (OR.out.alloc (.cells #[.int .i64 (V : Int), .slice C2 b cc2] 26))
  replace BR := Lib.hid (BR.out.alloc (.cells #[.int .i64 (V : Int), .slice C2 b cc2] 26))
  replace OC := Lib.hid (OC.out.alloc (.cells #[.int .i64 (V : Int), .slice C2 b cc2] 26))
  replace BC := Lib.hid (BC.out.alloc (.cells #[.int .i64 (V : Int), .slice C2 b cc2] 26))
  replace OD := Lib.hid (OD.out.alloc (.cells #[.int .i64 (V : Int), .slice C2 b cc2] 26))
  have BD := Lib.hid (boxed w6 #[.int .i64 (V : Int), .slice C2 b cc2] 26)
  have c_BC_0 := BC.out.now 0 _ rfl
  have c_BC_1 := BC.out.now 1 _ rfl
  have c_BX_0 := BX.out.now 0 _ rfl
  have c_BX_1 := BX.out.now 1 _ rfl
  go_wp2_with fail
  refine (pSame_yes (by omega) OC.out.orow OX.out.orow).mono ?_; rintro e w7 ⟨rfl, hb⟩
  replace FB := Lib.hid (FB.out.b hb)
  replace OX := Lib.hid (OX.out.b hb)
  replace OY := Lib.hid (OY.out.b hb)
  replace BX := Lib.hid (BX.out.b hb)
  replace BY := Lib.hid (BY.out.b hb)
  replace OR := Lib.hid (OR.out.b hb)
  replace BR := Lib.hid (BR.out.b hb)
  replace OC := Lib.hid (OC.out.b hb)
  replace BC := Lib.hid (BC.out.b hb)
  replace OD := Lib.hid (OD.out.b hb)
  replace BD := Lib.hid (BD.out.b hb)
  have z_w7 : w6.heap.size + 1 ≤ w7.heap.size := by have hsz := hb.size; first | omega | (simp at hsz; omega)
  clear c_BC_0 c_BC_1 c_BX_0 c_BX_1
  clear hb
  have c_BD_0 := BD.out.now 0 _ rfl
  have c_BD_1 := BD.out.now 1 _ rfl
  have c_BY_0 := BY.out.now 0 _ rfl
  have c_BY_1 := BY.out.now 1 _ rfl
  go_wp2_with fail
  refine (pSame_yes (by omega) OD.out.orow OY.out.orow).mono ?_; rintro e w8 ⟨rfl, hb⟩
  replace FB := Lib.hid (FB.out.b hb)
  replace OX := Lib.hid (OX.out.b hb)
  replace OY := Lib.hid (OY.out.b hb)
  replace BX := Lib.hid (BX.out.b hb)
  replace BY := Lib.hid (BY.out.b hb)
  replace OR := Lib.hid (OR.out.b hb)
  replace BR := Lib.hid (BR.out.b hb)
  replace OC := Lib.hid (OC.out.b hb)
  replace BC := Lib.hid (BC.out.b hb)
  replace OD := Lib.hid (OD.out.b hb)
  replace BD := Lib.hid (BD.out.b hb)
  have z_w8 : w7.heap.size ≤ w8.heap.size := by have hsz := hb.size; first | omega | (simp at hsz; omega)
  clear c_BD_0 c_BD_1 c_BY_0 c_BY_1
  clear hb
  clear OC BC OD BD
  have c_BX_0 := BX.out.now 0 _ rfl
  have c_BX_1 := BX.out.now 1 _ rfl
  go_wp2_with fail
  refine (impl_count_yes Z P a pc X 0 Z _ (by omega) OX.out.orow ⟨HG.out, by omega, by omega, by omega⟩).mono ?_; rintro e w9 ⟨rfl, hb⟩
  replace FB := Lib.hid (FB.out.b hb)
  replace OX := Lib.hid (OX.out.b hb)
  replace OY := Lib.hid (OY.out.b hb)
  replace BX := Lib.hid (BX.out.b hb)
  replace BY := Lib.hid (BY.out.b hb)
  replace OR := Lib.hid (OR.out.b hb)
  replace BR := Lib.hid (BR.out.b hb)
  have z_w9 : w8.heap.size ≤ w9.heap.size := by have hsz := hb.size; first | omega | (simp at hsz; omega)
  clear c_BX_0 c_BX_1
  clear hb
  have c_BY_0 := BY.out.now 0 _ rfl
  have c_BY_1 := BY.out.now 1 _ rfl
  go_wp2_with fail
  refine (impl_count_yes V Q b qc Y 0 V _ (by omega) OY.out.orow ⟨HH.out, by omega, by omega, by omega⟩).mono ?_; rintro e w10 ⟨rfl, hb⟩
  replace FB := Lib.hid (FB.out.b hb)
  replace OX := Lib.hid (OX.out.b hb)
  replace OY := Lib.hid (OY.out.b hb)
  replace BX := Lib.hid (BX.out.b hb)
  replace BY := Lib.hid (BY.out.b hb)
  replace OR := Lib.hid (OR.out.b hb)
  replace BR := Lib.hid (BR.out.b hb)
  have z_w10 : w9.heap.size ≤ w10.heap.size := by have hsz := hb.size; first | omega | (simp at hsz; omega)
  clear c_BY_0 c_BY_1
  clear hb
  have c_BR_0 := BR.out.now 0 _ rfl
  have c_BR_1 := BR.out.now 1 _ rfl
  go_wp2_with fail
  refine (impl_count_yes (s : Int) R N rc (joinW X Y Z V) 0 s _ (by omega) OR.out.orow ⟨HN.out ▸ HW.out, by omega, by omega, by omega⟩).mono ?_; rintro e w11 ⟨rfl, hb⟩
  replace FB := Lib.hid (FB.out.b hb)
  replace OX := Lib.hid (OX.out.b hb)
  replace OY := Lib.hid (OY.out.b hb)
  replace BX := Lib.hid (BX.out.b hb)
  replace BY := Lib.hid (BY.out.b hb)
  replace OR := Lib.hid (OR.out.b hb)
  replace BR := Lib.hid (BR.out.b hb)
  have z_w11 : w10.heap.size ≤ w11.heap.size := by have hsz := hb.size; first | omega | (simp at hsz; omega)
  clear c_BR_0 c_BR_1
  clear hb
  have hcnt : cntN (fun i => (joinW X Y Z V i).toNat) 0 s = cntN (fun i => (X i).toNat) 0 Z + cntN (fun i => (Y i).toNat) 0 V := by rw [HSS.out]; exact cnt_join X Y Z V
  try simp only [Nat.sub_zero]
  rw [hcnt]
  clear hcnt
  have q1 := cntN_le (fun i => (X i).toNat) Z 0
  have q2 := cntN_le (fun i => (Y i).toNat) V 0
  generalize cntN (fun i => (X i).toNat) 0 Z = t1 at *
  generalize cntN (fun i => (Y i).toNat) 0 V = t2 at *
  go_wp2_with fail
  go_ret
  exact ⟨by simp, FB.out.now⟩
end Go.Proofs.Ytglccgpiakadbaa
