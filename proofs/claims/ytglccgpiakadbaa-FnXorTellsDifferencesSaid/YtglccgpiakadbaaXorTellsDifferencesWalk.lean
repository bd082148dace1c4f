/- The law FnXorTellsDifferences, walked. -/
import Derived.Test.YtglccgpiakadbaaJoinsAreCutWalk
import Derived.Test.YtglccgpiakadbaaCur5
import Derived.Test.YtglccgpiakadbaaNext
namespace Go.Proofs.Ytglccgpiakadbaa
open Go.RowKit

def xorW (X Y : Nat → Int) (z k : Nat) : Int := (wordsOf (xorF X Y z) k : Int)
theorem xorW_bit (X Y : Nat → Int) (z i : Nat) : bitN (fun k => (xorW X Y z k).toNat) i = xorF X Y z i := bit_wordsI _ _
theorem xorW_good {z n : Nat} {X Y : Nat → Int} (hz : z ≤ 4096) (hn : n = (z + 15) / 16) : Good z n (xorW X Y z) :=
  good_of_words hz hn (fun i hi => by unfold xorF; simp only [show ¬ i < z by omega, decide_false, Bool.false_and])
theorem xor_back {z n : Nat} {X Y : Nat → Int} (hg : Good z n X) {k : Nat} (hk : k < n) : ((wordsOf (xorF (xorW X Y z) Y z) k : Nat) : Int) = X k :=
  good_words hg (fun i _ => by
    unfold xorF; rw [xorW_bit]; unfold xorF
    by_cases c : i < z
    · simp only [c, decide_true, Bool.true_and]
      cases bitN (fun i => (X i).toNat) i <;> cases bitN (fun i => (Y i).toNat) i <;> rfl
    · simp [c]) hk
theorem first_on (f : Nat → Bool) (z : Nat) : (∀ j, j < z → f j = false) ∨ ∃ k, k < z ∧ f k = true ∧ ∀ j, j < k → f j = false := by
  induction z with
  | zero => exact .inl fun j hj => absurd hj (by omega)
  | succ z ih =>
    rcases ih with h | ⟨k, hk, h1, h2⟩
    · cases hf : f z with
      | true => exact .inr ⟨z, by omega, hf, h⟩
      | false =>
        refine .inl fun j hj => ?_
        by_cases e : j = z
        · subst e; exact hf
        · exact h j (by omega)
    · exact .inr ⟨k, by omega, h1, h2⟩
theorem xor_same {X Y : Nat → Int} {z k : Nat} (hk : k < z) (h : xorF X Y z k = false) : bitN (fun i => (Y i).toNat) k = bitN (fun i => (X i).toNat) k := by
  unfold xorF at h
  simp only [hk, decide_true, Bool.true_and] at h
  revert h
  cases bitN (fun i => (X i).toNat) k <;> cases bitN (fun i => (Y i).toNat) k <;> simp
theorem xor_diff {X Y : Nat → Int} {z k : Nat} (hk : k < z) (h : xorF X Y z k = true) : bitN (fun i => (Y i).toNat) k = !bitN (fun i => (X i).toNat) k := by
  unfold xorF at h
  simp only [hk, decide_true, Bool.true_and] at h
  revert h
  cases bitN (fun i => (X i).toNat) k <;> cases bitN (fun i => (Y i).toNat) k <;> simp

set_option maxRecDepth 100000 in
set_option maxHeartbeats 8000000 in
theorem walk_FnXorTellsDifferences (w : World) (A : Option Addr) (n c : Nat) (D : Nat → Int) (hn : n ≤ maxLen) (hr : URow w A n D) (B : Option Addr) (m d : Nat) (E : Nat → Int) (hm : m ≤ maxLen) (_hs : URow w B m E) :
    Calls Try.prog 5 #[.slice A n c, .slice B m d] w fun e w' => e = .returned (.bool true) ∧ Below w.heap.size w w' := by
  have HR := Lib.hid hr
  clear hr
  by_cases hbig : n + m ≤ 1048576
  rotate_left
  · have hb : (!decide (n + m ≤ 1048576)) = true := by simp; omega
    go_enter Try.func5, Try.ntmps5
    go_wp2_with fail
    refine (big_is A B n c m d w hn hm).mono ?_; rintro e w' ⟨rfl, rfl⟩
    rw [hb]
    go_wp2_with fail
    go_ret
    exact ⟨rfl, Below.refl _ _⟩
  have hb : (!decide (n + m ≤ 1048576)) = false := by simp; omega
  go_enter Try.func5, Try.ntmps5
  go_wp2_with fail
  refine (big_is A B n c m d w hn hm).mono ?_; rintro e w' ⟨rfl, rfl⟩
  rw [hb]
  clear hb
  have FB := Lib.hid (At.start w)
  go_wp2_with fail
  refine (draw_xorBits A n c D w (by omega) HR.out.1 HR.out.2).mono ?_; rintro e w1 ⟨z, P, a, pc, X, y, Q, b, qc, Y, rfl, hx, hy, hb⟩
  replace FB := Lib.hid (FB.out.b hb)
  have z_w1 : w.heap.size ≤ w1.heap.size := by have hsz := hb.size; first | omega | (simp at hsz; omega)
  obtain ⟨z0, z1, ha, _, _, ho1⟩ := hx
  obtain ⟨y0, y1, hbb, _, _, ho2⟩ := hy
  have OX := Lib.hid (owned (ho1.mono (lo' := w.heap.size) (Nat.le_refl _) (Nat.le_refl _)))
  have OY := Lib.hid (owned (ho2.mono (lo' := w.heap.size) (Nat.le_refl _) (Nat.le_refl _)))
  clear hb ho1 ho2
  by_cases hok : Good z a X ∧ Good y b Y ∧ z = y
  rotate_left
  · have HOK := Lib.hid hok
    clear hok
    replace FB := Lib.hid (FB.out.alloc (.cells #[.int .i64 z, .slice P a pc] 26))
    replace OX := Lib.hid (OX.out.alloc (.cells #[.int .i64 z, .slice P a pc] 26))
    replace OY := Lib.hid (OY.out.alloc (.cells #[.int .i64 z, .slice P a pc] 26))
    have BX := Lib.hid (boxed w1 #[.int .i64 z, .slice P a pc] 26)
    replace FB := Lib.hid (FB.out.alloc (.cells #[.int .i64 y, .slice Q b qc] 26))
    replace OX := Lib.hid (OX.out.alloc (.cells #[.int .i64 y, .slice Q b qc] 26))
    replace OY := Lib.hid (OY.out.alloc (.cells #[.int .i64 y, .slice Q b qc] 26))
    replace BX := Lib.hid (BX.out.alloc (.cells #[.int .i64 y, .slice Q b qc] 26))
    have BY := Lib.hid (boxed_at ((w1).alloc (.cells #[.int .i64 z, .slice P a pc] 26)) (w1.heap.size + 1) (by simp) #[.int .i64 y, .slice Q b qc] 26)
    have c_BX_0 := BX.out.now 0 _ rfl
    have c_BX_1 := BX.out.now 1 _ rfl
    have c_BY_0 := BY.out.now 0 _ rfl
    have c_BY_1 := BY.out.now 1 _ rfl
    go_wp2_with fail
    refine (impl_xor_no z y P Q a pc b qc X Y _ (by omega) (by omega) OX.out.orow OY.out.orow HOK.out).mono ?_; rintro e w2 ⟨R, rc, rfl, hv, hb⟩
    replace FB := Lib.hid (FB.out.b hb)
    replace OX := Lib.hid (OX.out.b hb)
    replace OY := Lib.hid (OY.out.b hb)
    replace BX := Lib.hid (BX.out.b hb)
    replace BY := Lib.hid (BY.out.b hb)
    have z_w2 : w1.heap.size + 2 ≤ w2.heap.size := by have hsz := hb.size; first | omega | (simp at hsz; omega)
    clear c_BX_0 c_BX_1 c_BY_0 c_BY_1
    clear hb hv
    replace FB := Lib.hid (FB.out.alloc (.cells #[.int .i64 0, .slice R 0 rc] 26))
    replace OX := Lib.hid (OX.out.alloc (.cells #[.int .i64 0, .slice R 0 rc] 26))
    replace OY := Lib.hid (OY.out.alloc (.cells #[.int .i64 0, .slice R 0 rc] 26))
    replace BX := Lib.hid (BX.out.alloc (.cells #[.int .i64 0, .slice R 0 rc] 26))
    replace BY := Lib.hid (BY.out.alloc (.cells #[.int .i64 0, .slice R 0 rc] 26))
    have BR := Lib.hid (boxed w2 #[.int .i64 0, .slice R 0 rc] 26)
    have c_BX_0 := BX.out.now 0 _ rfl
    have c_BX_1 := BX.out.now 1 _ rfl
    have c_BY_0 := BY.out.now 0 _ rfl
    have c_BY_1 := BY.out.now 1 _ rfl
    go_wp2_with fail
    refine (spec_xor_no z y P Q a pc b qc X Y _ (by omega) (by omega) OX.out.orow OY.out.orow HOK.out).mono ?_; rintro e w3 ⟨S, sc, rfl, hv, hb⟩
    replace FB := Lib.hid (FB.out.b hb)
    replace OX := Lib.hid (OX.out.b hb)
    replace OY := Lib.hid (OY.out.b hb)
    replace BX := Lib.hid (BX.out.b hb)
    replace BY := Lib.hid (BY.out.b hb)
    replace BR := Lib.hid (BR.out.b hb)
    have z_w3 : w2.heap.size + 1 ≤ w3.heap.size := by have hsz := hb.size; first | omega | (simp at hsz; omega)
    clear c_BX_0 c_BX_1 c_BY_0 c_BY_1
    clear hb hv
    replace FB := Lib.hid (FB.out.alloc (.cells #[.int .i64 0, .slice S 0 sc] 26))
    replace OX := Lib.hid (OX.out.alloc (.cells #[.int .i64 0, .slice S 0 sc] 26))
    replace OY := Lib.hid (OY.out.alloc (.cells #[.int .i64 0, .slice S 0 sc] 26))
    replace BX := Lib.hid (BX.out.alloc (.cells #[.int .i64 0, .slice S 0 sc] 26))
    replace BY := Lib.hid (BY.out.alloc (.cells #[.int .i64 0, .slice S 0 sc] 26))
    replace BR := Lib.hid (BR.out.alloc (.cells #[.int .i64 0, .slice S 0 sc] 26))
    have BS := Lib.hid (boxed w3 #[.int .i64 0, .slice S 0 sc] 26)
    have c_BR_0 := BR.out.now 0 _ rfl
    have c_BR_1 := BR.out.now 1 _ rfl
    have c_BS_0 := BS.out.now 0 _ rfl
    have c_BS_1 := BS.out.now 1 _ rfl
    go_wp2_with fail
    refine (pSame_yes (X := fun _ => 0) (by omega) GRow.zero GRow.zero).mono ?_; rintro e w4 ⟨rfl, hb⟩
    replace FB := Lib.hid (FB.out.b hb)
    replace OX := Lib.hid (OX.out.b hb)
    replace OY := Lib.hid (OY.out.b hb)
    replace BX := Lib.hid (BX.out.b hb)
    replace BY := Lib.hid (BY.out.b hb)
    replace BR := Lib.hid (BR.out.b hb)
    replace BS := Lib.hid (BS.out.b hb)
    have z_w4 : w3.heap.size + 1 ≤ w4.heap.size := by have hsz := hb.size; first | omega | (simp at hsz; omega)
    clear c_BR_0 c_BR_1 c_BS_0 c_BS_1
    clear hb
    go_wp2_with fail
    go_ret
    exact ⟨rfl, FB.out.now⟩
  obtain ⟨hg, hh, rfl⟩ := hok
  obtain ⟨Z, rfl⟩ : ∃ Z : Nat, z = Z := ⟨z.toNat, by have := hg.1; omega⟩
  obtain rfl : b = a := by have := hg.2.2.1; have := hh.2.2.1; omega
  have haz : b = (Z + 15) / 16 := by have := hg.2.2.1; omega
  have HG := Lib.hid hg
  have HH := Lib.hid hh
  have HO := Lib.hid (xorW_good (X := X) (Y := Y) (show Z ≤ 4096 by omega) haz)
  clear hg hh haz
  replace FB := Lib.hid (FB.out.alloc (.cells #[.int .i64 (Z : Int), .slice P b pc] 26))
  replace OX := Lib.hid (OX.out.alloc (.cells #[.int .i64 (Z : Int), .slice P b pc] 26))
  replace OY := Lib.hid (OY.out.alloc (.cells #[.int .i64 (Z : Int), .slice P b pc] 26))
  have BX := Lib.hid (boxed w1 #[.int .i64 (Z : Int), .slice P b pc] 26)
  replace FB := Lib.hid (FB.out.alloc (.cells #[.int .i64 (Z : Int), .slice Q b qc] 26))
  replace OX := Lib.hid (OX.out.alloc (.cells #[.int .i64 (Z : Int), .slice Q b qc] 26))
  replace OY := Lib.hid (OY.out.alloc (.cells #[.int .i64 (Z : Int), .slice Q b qc] 26))
  replace BX := Lib.hid (BX.out.alloc (.cells #[.int .i64 (Z : Int), .slice Q b qc] 26))
  have BY := Lib.hid (boxed_at ((w1).alloc (.cells #[.int .i64 (Z : Int), .slice P b pc] 26)) (w1.heap.size + 1) (by simp) #[.int .i64 (Z : Int), .slice Q b qc] 26)
  have c_BX_0 := BX.out.now 0 _ rfl
  have c_BX_1 := BX.out.now 1 _ rfl
  have c_BY_0 := BY.out.now 0 _ rfl
  have c_BY_1 := BY.out.now 1 _ rfl
  go_wp2_with fail
  refine (impl_xor_yes Z P Q b pc qc X Y _ (by omega) OX.out.orow OY.out.orow HG.out HH.out).mono ?_; rintro e w2 ⟨R, rc, rfl, hv, hb⟩
  replace FB := Lib.hid (FB.out.b hb)
  replace OX := Lib.hid (OX.out.b hb)
  replace OY := Lib.hid (OY.out.b hb)
  replace BX := Lib.hid (BX.out.b hb)
  replace BY := Lib.hid (BY.out.b hb)
  have z_w2 : w1.heap.size + 2 ≤ w2.heap.size := by have hsz := hb.size; first | omega | (simp at hsz; omega)
  clear c_BX_0 c_BX_1 c_BY_0 c_BY_1
  have OR := Lib.hid (owned ((show Ow _ _ _ R b (intV (xorW X Y Z)) _ from ow_of_vec hv).mono (lo' := w1.heap.size + 2) (by simp) (Nat.le_refl _)))
  clear hb hv
  replace FB := Lib.hid (FB.out.alloc (.cells #[.int .i64 (Z : Int), .slice R b rc] 26))
  replace OX := Lib.hid (OX.out.alloc (.cells #[.int .i64 (Z : Int), .slice R b rc] 26))
  replace OY := Lib.hid (OY.out.alloc (.cells #[.int .i64 (Z : Int), .slice R b rc] 26))
  replace BX := Lib.hid (BX.out.alloc (.cells #[.int .i64 (Z : Int), .slice R b rc] 26))
  replace BY := Lib.hid (BY.out.alloc (.cells #[.int .i64 (Z : Int), .slice R b rc] 26))
  replace OR := Lib.hid (OR.out.alloc (.cells #[.int .i64 (Z : Int), .slice R b rc] 26))
  have BR := Lib.hid (boxed w2 #[.int .i64 (Z : Int), .slice R b rc] 26)
  have c_BX_0 := BX.out.now 0 _ rfl
  have c_BX_1 := BX.out.now 1 _ rfl
  have c_BY_0 := BY.out.now 0 _ rfl
  have c_BY_1 := BY.out.now 1 _ rfl
  go_wp2_with fail
  refine (spec_xor_yes Z P Q b pc qc X Y _ (by omega) OX.out.orow OY.out.orow HG.out HH.out).mono ?_; rintro e w3 ⟨S, sc, rfl, hv, hb⟩
  replace FB := Lib.hid (FB.out.b hb)
  replace OX := Lib.hid (OX.out.b hb)
  replace OY := Lib.hid (OY.out.b hb)
  replace BX := Lib.hid (BX.out.b hb)
  replace BY := Lib.hid (BY.out.b hb)
  replace OR := Lib.hid (OR.out.b hb)
  replace BR := Lib.hid (BR.out.b hb)
  have z_w3 : w2.heap.size + 1 ≤ w3.heap.size := by have hsz := hb.size; first | omega | (simp at hsz; omega)
  clear c_BX_0 c_BX_1 c_BY_0 c_BY_1
  have OS := Lib.hid (owned ((show Ow _ _ _ S b (intV (xorW X Y Z)) _ from ow_of_vec hv).mono (lo' := w2.heap.size + 1) (by simp) (Nat.le_refl _)))
  clear hb hv
  replace FB := Lib.hid (FB.out.alloc (.cells #[.int .i64 (Z : Int), .slice S b sc] 26))
  replace OX := Lib.hid (OX.out.alloc (.cells #[.int .i64 (Z : Int), .slice S b sc] 26))
  replace OY := Lib.hid (OY.out.alloc (.cells #[.int .i64 (Z : Int), .slice S b sc] 26))
  replace BX := Lib.hid (BX.out.alloc (.cells #[.int .i64 (Z : Int), .slice S b sc] 26))
  replace BY := Lib.hid (BY.out.alloc (.cells #[.int .i64 (Z : Int), .slice S b sc] 26))
  replace OR := Lib.hid (OR.out.alloc (.cells #[.int .i64 (Z : Int), .slice S b sc] 26))
  replace BR := Lib.hid (BR.out.alloc (.cells #[.int .i64 (Z : Int), .slice S b sc] 26))
  replace OS := Lib.hid (OS.out.alloc (.cells #[.int .i64 (Z : Int), .slice S b sc] 26))
  have BS := Lib.hid (boxed w3 #[.int .i64 (Z : Int), .slice S b sc] 26)
  have c_BR_0 := BR.out.now 0 _ rfl
  have c_BR_1 := BR.out.now 1 _ rfl
  have c_BS_0 := BS.out.now 0 _ rfl
  have c_BS_1 := BS.out.now 1 _ rfl
  go_wp2_with fail
  refine (pSame_yes (by omega) OR.out.orow OS.out.orow).mono ?_; rintro e w4 ⟨rfl, hb⟩
  replace FB := Lib.hid (FB.out.b hb)
  replace OX := Lib.hid (OX.out.b hb)
  replace OY := Lib.hid (OY.out.b hb)
  replace BX := Lib.hid (BX.out.b hb)
  replace BY := Lib.hid (BY.out.b hb)
  replace OR := Lib.hid (OR.out.b hb)
  replace BR := Lib.hid (BR.out.b hb)
  replace OS := Lib.hid (OS.out.b hb)
  replace BS := Lib.hid (BS.out.b hb)
  have z_w4 : w3.heap.size + 1 ≤ w4.heap.size := by have hsz := hb.size; first | omega | (simp at hsz; omega)
  clear c_BR_0 c_BR_1 c_BS_0 c_BS_1
  clear hb
  clear OS BS
  have c_BR_0 := BR.out.now 0 _ rfl
  have c_BR_1 := BR.out.now 1 _ rfl
  have c_BY_0 := BY.out.now 0 _ rfl
  have c_BY_1 := BY.out.now 1 _ rfl
  go_wp2_with fail
  refine (impl_xor_yes Z R Q b rc qc (xorW X Y Z) Y _ (by omega) OR.out.orow OY.out.orow HO.out HH.out).mono ?_; rintro e w5 ⟨K, kc, rfl, hv, hb⟩
  replace FB := Lib.hid (FB.out.b hb)
  replace OX := Lib.hid (OX.out.b hb)
  replace OY := Lib.hid (OY.out.b hb)
  replace BX := Lib.hid (BX.out.b hb)
  replace BY := Lib.hid (BY.out.b hb)
  replace OR := Lib.hid (OR.out.b hb)
  replace BR := Lib.hid (BR.out.b hb)
  have z_w5 : w4.heap.size ≤ w5.heap.size := by have hsz := hb.size; first | omega | (simp at hsz; omega)
  clear c_BR_0 c_BR_1 c_BY_0 c_BY_1
  have OK := Lib.hid (owned ((show Ow _ _ _ K b (intV X) _ from (ow_of_vec hv).congr (fun i hi => congrArg (Value.int .i64) (xor_back HG.out hi))).mono (lo' := w4.heap.size) (Nat.le_refl _) (Nat.le_refl _)))
  clear hb hv
  replace FB := Lib.hid (FB.out.alloc (.cells #[.int .i64 (Z : Int), .slice K b kc] 26))
  replace OX := Lib.hid (OX.out.alloc (.cells #[.int .i64 (Z : Int), .slice K b kc] 26))
  replace OY := Lib.hid (OY.out.alloc (.cells #[.int .i64 (Z : Int), .slice K b kc] 26))
  replace BX := Lib.hid (BX.out.alloc (.cells #[.int .i64 (Z : Int), .slice K b kc] 26))
  replace BY := Lib.hid (BY.out.alloc (.cells #[.int .i64 (Z : Int), .slice K b kc] 26))
  replace OR := Lib.hid (OR.out.alloc (.cells #[.int .i64 (Z : Int), .slice K b kc] 26))
  replace BR := Lib.hid (BR.out.alloc (.cells #[.int .i64 (Z : Int), .slice K b kc] 26))
  replace OK := Lib.hid (OK.out.alloc (.cells #[.int .i64 (Z : Int), .slice K b kc] 26))
  have BK := Lib.hid (boxed w5 #[.int .i64 (Z : Int), .slice K b kc] 26)
  have c_BK_0 := BK.out.now 0 _ rfl
  have c_BK_1 := BK.out.now 1 _ rfl
  have c_BX_0 := BX.out.now 0 _ rfl
  have c_BX_1 := BX.out.now 1 _ rfl
  go_wp2_with fail
  refine (pSame_yes (by omega) OK.out.orow OX.out.orow).mono ?_; rintro e w6 ⟨rfl, hb⟩
  replace FB := Lib.hid (FB.out.b hb)
  replace OX := Lib.hid (OX.out.b hb)
  replace OY := Lib.hid (OY.out.b hb)
  replace BX := Lib.hid (BX.out.b hb)
  replace BY := Lib.hid (BY.out.b hb)
  replace OR := Lib.hid (OR.out.b hb)
  replace BR := Lib.hid (BR.out.b hb)
  replace OK := Lib.hid (OK.out.b hb)
  replace BK := Lib.hid (BK.out.b hb)
  have z_w6 : w5.heap.size + 1 ≤ w6.heap.size := by have hsz := hb.size; first | omega | (simp at hsz; omega)
  clear c_BK_0 c_BK_1 c_BX_0 c_BX_1
  clear hb
  clear OK BK
  have c_BR_0 := BR.out.now 0 _ rfl
  have c_BR_1 := BR.out.now 1 _ rfl
  rcases first_on (xorF X Y Z) Z with hnone | ⟨k0, hk0, hon, hoff⟩
  · skip
    have HF := Lib.hid (hnone)
    clear hnone
    go_wp2_with fail
    refine (impl_next_none Z R b rc (xorW X Y Z) 0 true _ (by omega) OR.out.orow HO.out (fun j _ hj => by rw [xorW_bit]; exact HF.out j (by omega))).mono ?_; rintro e w7 ⟨rfl, hb⟩
    replace FB := Lib.hid (FB.out.b hb)
    replace OX := Lib.hid (OX.out.b hb)
    replace OY := Lib.hid (OY.out.b hb)
    replace BX := Lib.hid (BX.out.b hb)
    replace BY := Lib.hid (BY.out.b hb)
    replace OR := Lib.hid (OR.out.b hb)
    replace BR := Lib.hid (BR.out.b hb)
    have z_w7 : w6.heap.size ≤ w7.heap.size := by have hsz := hb.size; first | omega | (simp at hsz; omega)
    clear c_BR_0 c_BR_1
    clear hb
    clear OR BR
    have c_BX_0 := BX.out.now 0 _ rfl
    have c_BX_1 := BX.out.now 1 _ rfl
    go_wp2_with fail
    go_loopw [15] (fun i wr => ∃ k : Nat, k ≤ Z ∧ i = .int .i64 k ∧ At 0 w.heap.size (fun wi => Below w.heap.size w wi) wr ∧ At (w.heap.size) (w1.heap.size) (Ow (w.heap.size) (w1.heap.size) 3 P b (intV X)) wr ∧ At (w.heap.size) (w1.heap.size) (Ow (w.heap.size) (w1.heap.size) 3 Q b (intV Y)) wr ∧
      At (w1.heap.size) (w1.heap.size + 1) (BoxC (w1.heap.size) [.int .i64 (Z : Int), .slice P b pc]) wr ∧ At (w1.heap.size + 1) (w1.heap.size + 1 + 1) (BoxC (w1.heap.size + 1) [.int .i64 (Z : Int), .slice Q b qc]) wr) (fun i _ => Z - (intOf i).toNat)
    case atStart => exact ⟨0, Nat.zero_le _, rfl, FB.out, OX.out, OY.out, BX.out, BY.out⟩
    case round =>
      obtain ⟨k, hk, rfl, hfb, hox, hor, hbx, hbr⟩ := hrel
      have FB1 := Lib.hid hfb
      have OX1 := Lib.hid hox
      have OY1 := Lib.hid hor
      have BX1 := Lib.hid hbx
      have BY1 := Lib.hid hbr
      have c0 := hbx.now 0 _ rfl
      have c1 := hbx.now 1 _ rfl
      clear hfb hox hor hbx hbr FB OX OY BX BY
      by_cases hlt : k < Z
      · go_wp2_with fail
        refine (impl_bitAt_yes Z P b pc X k wr (by omega) OX1.out.orow ⟨HG.out, by omega, by omega, by omega, by omega⟩).mono ?_; rintro e v1 ⟨rfl, hb⟩
        have FB2 := Lib.hid (FB1.out.b hb)
        have OX2 := Lib.hid (OX1.out.b hb)
        have OY2 := Lib.hid (OY1.out.b hb)
        have BX2 := Lib.hid (BX1.out.b hb)
        have BY2 := Lib.hid (BY1.out.b hb)
        clear hb FB1 OX1 OY1 BX1 BY1 c0 c1
        have d0 := BY2.out.now 0 _ rfl
        have d1 := BY2.out.now 1 _ rfl
        go_wp2_with fail
        refine (impl_bitAt_yes Z Q b qc Y k v1 (by omega) OY2.out.orow ⟨HH.out, by omega, by omega, by omega, by omega⟩).mono ?_; rintro e v2 ⟨rfl, hb⟩
        have FB3 := Lib.hid (FB2.out.b hb)
        have OX3 := Lib.hid (OX2.out.b hb)
        have OY3 := Lib.hid (OY2.out.b hb)
        have BX3 := Lib.hid (BX2.out.b hb)
        have BY3 := Lib.hid (BY2.out.b hb)
        clear hb FB2 OX2 OY2 BX2 BY2 d0 d1
        rw [xor_same hlt (HF.out k (by omega))]
        generalize bitN (fun i => (X i).toNat) k = b1
        cases b1
        all_goals
          go_wp2_with fail
          go_roundw
          case rel => exact ⟨k + 1, by omega, by go_num, FB3.out, OX3.out, OY3.out, BX3.out, BY3.out⟩
          case measure => simp [intOf]; omega
      · go_wp2_with fail
        go_ret
        exact ⟨rfl, FB1.out.now⟩
  · skip
    have HF := Lib.hid (hoff)
    have HON := Lib.hid hon
    clear hon hoff
    go_wp2_with fail
    refine (impl_next_yes Z R b rc (xorW X Y Z) 0 k0 true _ (by omega) OR.out.orow HO.out ⟨Nat.zero_le _, by omega, by rw [xorW_bit]; exact HON.out, fun j _ hj => by rw [xorW_bit]; exact HF.out j hj⟩).mono ?_; rintro e w7 ⟨rfl, hb⟩
    replace FB := Lib.hid (FB.out.b hb)
    replace OX := Lib.hid (OX.out.b hb)
    replace OY := Lib.hid (OY.out.b hb)
    replace BX := Lib.hid (BX.out.b hb)
    replace BY := Lib.hid (BY.out.b hb)
    replace OR := Lib.hid (OR.out.b hb)
    replace BR := Lib.hid (BR.out.b hb)
    have z_w7 : w6.heap.size ≤ w7.heap.size := by have hsz := hb.size; first | omega | (simp at hsz; omega)
    clear c_BR_0 c_BR_1
    clear hb
    clear OR BR
    have c_BX_0 := BX.out.now 0 _ rfl
    have c_BX_1 := BX.out.now 1 _ rfl
    go_wp2_with fail
    go_loopw [15] (fun i wr => ∃ k : Nat, k ≤ k0 ∧ i = .int .i64 k ∧ At 0 w.heap.size (fun wi => Below w.heap.size w wi) wr ∧ At (w.heap.size) (w1.heap.size) (Ow (w.heap.size) (w1.heap.size) 3 P b (intV X)) wr ∧ At (w.heap.size) (w1.heap.size) (Ow (w.heap.size) (w1.heap.size) 3 Q b (intV Y)) wr ∧
      At (w1.heap.size) (w1.heap.size + 1) (BoxC (w1.heap.size) [.int .i64 (Z : Int), .slice P b pc]) wr ∧ At (w1.heap.size + 1) (w1.heap.size + 1 + 1) (BoxC (w1.heap.size + 1) [.int .i64 (Z : Int), .slice Q b qc]) wr) (fun i _ => Z - (intOf i).toNat)
    case atStart => exact ⟨0, Nat.zero_le _, rfl, FB.out, OX.out, OY.out, BX.out, BY.out⟩
    case round =>
      obtain ⟨k, hk, rfl, hfb, hox, hor, hbx, hbr⟩ := hrel
      have FB1 := Lib.hid hfb
      have OX1 := Lib.hid hox
      have OY1 := Lib.hid hor
      have BX1 := Lib.hid hbx
      have BY1 := Lib.hid hbr
      have c0 := hbx.now 0 _ rfl
      have c1 := hbx.now 1 _ rfl
      clear hfb hox hor hbx hbr FB OX OY BX BY
      by_cases hlt : k < Z
      · go_wp2_with fail
        refine (impl_bitAt_yes Z P b pc X k wr (by omega) OX1.out.orow ⟨HG.out, by omega, by omega, by omega, by omega⟩).mono ?_; rintro e v1 ⟨rfl, hb⟩
        have FB2 := Lib.hid (FB1.out.b hb)
        have OX2 := Lib.hid (OX1.out.b hb)
        have OY2 := Lib.hid (OY1.out.b hb)
        have BX2 := Lib.hid (BX1.out.b hb)
        have BY2 := Lib.hid (BY1.out.b hb)
        clear hb FB1 OX1 OY1 BX1 BY1 c0 c1
        have d0 := BY2.out.now 0 _ rfl
        have d1 := BY2.out.now 1 _ rfl
        go_wp2_with fail
        refine (impl_bitAt_yes Z Q b qc Y k v1 (by omega) OY2.out.orow ⟨HH.out, by omega, by omega, by omega, by omega⟩).mono ?_; rintro e v2 ⟨rfl, hb⟩
        have FB3 := Lib.hid (FB2.out.b hb)
        have OX3 := Lib.hid (OX2.out.b hb)
        have OY3 := Lib.hid (OY2.out.b hb)
        have BX3 := Lib.hid (BX2.out.b hb)
        have BY3 := Lib.hid (BY2.out.b hb)
        clear hb FB2 OX2 OY2 BX2 BY2 d0 d1
        by_cases hkk : k < k0
        · rw [xor_same hlt (HF.out k (by omega))]
          generalize bitN (fun i => (X i).toNat) k = b1
          cases b1
          all_goals
            go_wp2_with fail
            go_roundw
            case rel => exact ⟨k + 1, by omega, by go_num, FB3.out, OX3.out, OY3.out, BX3.out, BY3.out⟩
            case measure => simp [intOf]; omega
        · obtain rfl : k = k0 := by omega
          rw [xor_diff hlt HON.out]
          generalize bitN (fun i => (X i).toNat) k = b1
          cases b1
          all_goals
            go_wp2_with fail
            go_ret
            exact ⟨by simp, FB3.out.now⟩
      · exact absurd hlt (by omega)
end Go.Proofs.Ytglccgpiakadbaa
