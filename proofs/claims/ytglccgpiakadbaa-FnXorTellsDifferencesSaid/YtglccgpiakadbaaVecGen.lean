/- Vectors that a law draws, and the laws' test whether two are the same. -/
import Derived.Test.YtglccgpiakadbaaCur3
import Derived.Test.YtglccgpiakadbaaOpenB
namespace Go.Proofs.Ytglccgpiakadbaa
open Go.RowKit

set_option maxHeartbeats 400000 in
theorem pSameInts_yes {A B : Option Addr} {n c d : Nat} {X : Nat → Int} {w : World} (hn : n ≤ 1048576) (hx : GRow w A n (intV X)) (hy : GRow w B n (intV X)) :
    Calls Try.prog 98 #[.slice A n c, .slice B n d] w (SameRow w true) := by
  have HX := Lib.hid hx
  have HY := Lib.hid hy
  clear hx hy
  go_enter Try.func98, Try.ntmps98
  go_wp2_with fail
  go_loopw [13] (fun i wr => ∃ k : Nat, k ≤ n ∧ i = .int .i64 k ∧ Below w.heap.size w wr) (fun i _ => n - (intOf i).toNat)
  case atStart => exact ⟨0, Nat.zero_le _, rfl, Below.refl _ _⟩
  case round =>
    obtain ⟨k, hk, rfl, hb⟩ := hrel
    by_cases hlt : k < n
    · obtain ⟨b1, o1, rfl, l1, hc1⟩ := HX.out.below hb (Nat.le_refl _) (by omega)
      obtain ⟨b2, o2, rfl, l2, hc2⟩ := HY.out.below hb (Nat.le_refl _) (by omega)
      have hx := hc1 k hlt
      have hy := hc2 k hlt
      unfold intV at hx hy
      have HB := Lib.hid hb
      clear hb hc1 hc2 l1 l2
      go_wp2_with fail
      go_quiet (fail)
      go_wp2_with fail
      go_roundw
      case rel => exact ⟨k + 1, by omega, by go_num, below_drewN HB.out _⟩
      case measure => simp [intOf]; omega
    · obtain rfl : k = n := by omega
      have HB := Lib.hid hb
      clear hb
      go_wp2_with fail
      go_ret
      exact ⟨rfl, HB.out⟩
set_option maxHeartbeats 400000 in
theorem pSame_yes {z : Int} {A B : Option Addr} {n c d : Nat} {X : Nat → Int} {w : World} (hn : n ≤ 1048576) (hx : GRow w A n (intV X)) (hy : GRow w B n (intV X)) :
    Calls Try.prog 31 #[.agg #[.int .i64 z, .slice A n c], .agg #[.int .i64 z, .slice B n d]] w (SameRow w true) := by
  have HX := Lib.hid ((hx.al (.cells #[.int .i64 z, .slice A n c] 26)).al (.cells #[.int .i64 z, .slice B n d] 26))
  have HY := Lib.hid ((hy.al (.cells #[.int .i64 z, .slice A n c] 26)).al (.cells #[.int .i64 z, .slice B n d] 26))
  have FB := Lib.hid (((At.start w).alloc (.cells #[.int .i64 z, .slice A n c] 26)).alloc (.cells #[.int .i64 z, .slice B n d] 26))
  clear hx hy
  go_enter Try.func31, Try.ntmps31
  go_wp2_with fail
  refine (pSameInts_yes hn HX.out HY.out).mono ?_; rintro e w1 ⟨rfl, hb⟩
  have F1 := Lib.hid (FB.out.b hb)
  clear hb
  go_wp2_with fail
  go_ret
  exact ⟨rfl, F1.out.now⟩

def VecIn (w : World) (z : Int) (B : Option Addr) (m d : Nat) (X : Nat → Int) (w' : World) : Prop := -1 ≤ z ∧ z ≤ 4096 ∧ m ≤ 257 ∧ m ≤ d ∧ d ≤ maxLen ∧ Ow w.heap.size w'.heap.size 3 B m (intV X) w'

set_option maxRecDepth 100000 in
set_option maxHeartbeats 1000000 in
theorem draw_joinBits (A : Option Addr) (n c : Nat) (D : Nat → Int) (w : World) (hn : n ≤ 1048576) (hr : GRow w A n (u8V D)) (hD : ∀ i, i < n → 0 ≤ D i ∧ D i < 256) :
    Calls Try.prog 34 #[.slice A n c] w fun e w' => ∃ (z : Int) (B : Option Addr) (m d : Nat) (X : Nat → Int) (y : Int) (C : Option Addr) (p q : Nat) (Y : Nat → Int),
      e = .returned (.tuple #[.agg #[.int .i64 z, .slice B m d], .agg #[.int .i64 y, .slice C p q]]) ∧ VecIn w z B m d X w' ∧ VecIn w y C p q Y w' ∧ Below w.heap.size w w' := by
  have h0 := (CurS.start (w := (w.alloc (.cells #[.int .i64 0, .slice none 0 0] 26)).alloc (.cells #[.int .i64 0, .slice none 0 0] 26)) c ((hr.al _).al _) hD).still
  have hx := (NBX.mk0 w #[.int .i64 0, .slice none 0 0] 26).at1 (.cells #[.int .i64 0, .slice none 0 0] 26)
  have hy := NBX.mk0 (w.alloc (.cells #[.int .i64 0, .slice none 0 0] 26)) #[.int .i64 0, .slice none 0 0] 26
  simp only [World.size_alloc] at h0 hy
  have H0 := Lib.hid h0
  have HX := Lib.hid (hx.at1 (.cells #[.slice A n c, .int .i64 0, .int .u64 0] 81))
  have HY := Lib.hid (hy.at1 (.cells #[.slice A n c, .int .i64 0, .int .u64 0] 81))
  have FB := Lib.hid ((((At.start w).alloc (.cells #[.int .i64 0, .slice none 0 0] 26)).alloc (.cells #[.int .i64 0, .slice none 0 0] 26)).alloc (.cells #[.slice A n c, .int .i64 0, .int .u64 0] 81))
  clear h0 hx hy hr hD
  go_enter Try.func34, Try.ntmps34
  go_wp2_with fail
  refine (cur_anyBits H0.out.1 (by omega) hn).mono ?_; rintro e w1 ⟨z, m, d, B, X, z0, z1, hm, hmd, hdm, rfl, ho, hd⟩
  have H1 := Lib.hid (H0.out.trans hd)
  have HX1 := Lib.hid (HX.out.only hd.2 (by omega))
  have HY1 := Lib.hid (HY.out.only hd.2 (by omega))
  have F1 := Lib.hid (FB.out.far hd.2 (.inl (by omega)))
  have hs1 := hd.2.size
  simp only [World.size_alloc] at ho hs1
  have HO1 := Lib.hid (owned ho)
  clear hd ho H0 HX HY FB
  go_wp2_with fail
  refine (cur_anyBits H1.out.1 (by omega) hn).mono ?_; rintro e w2 ⟨y, p, q, C, Y, y0, y1, hp, hpq, hqm, rfl, ho, hd⟩
  have HX2 := Lib.hid (HX1.out.only hd.2 (by omega))
  have HY2 := Lib.hid (HY1.out.only hd.2 (by omega))
  have F2 := Lib.hid (F1.out.far hd.2 (.inl (by omega)))
  have HO2 := Lib.hid (HO1.out.far hd.2 (.inr (by omega)))
  have HP2 := Lib.hid (owned (ho.mono (lo' := w.heap.size + 3) (by omega) (Nat.le_refl _)))
  have hs2 := hd.2.size
  clear hd ho HX1 HY1 F1 H1 HO1
  have c0 := HX2.out.cell 0 _ rfl
  have c1 := HX2.out.cell 1 _ rfl
  have c2 := HY2.out.cell 0 _ rfl
  have c3 := HY2.out.cell 1 _ rfl
  have f0 := HX2.out.free 0
  have f1 := HX2.out.free 1
  have f2 := HY2.out.free 0
  have f3 := HY2.out.free 1
  go_wp2_with fail
  refine bodyPost_ret (v := .tuple #[.agg #[.int .i64 z, .slice B m d], .agg #[.int .i64 y, .slice C p q]]) (by simp [results, Try.results34, go_sem, c0, c1, c2, c3]) rfl ?_
  have HF := (((HO2.out.setC (q := w.heap.size) (by omega) 0 (.int .i64 z)).setC (q := w.heap.size) (by omega) 1 (.slice B m d)).setC (q := w.heap.size + 1) (by omega) 0 (.int .i64 y)).setC (q := w.heap.size + 1) (by omega) 1 (.slice C p q)
  have HG := (((HP2.out.setC (q := w.heap.size) (by omega) 0 (.int .i64 z)).setC (q := w.heap.size) (by omega) 1 (.slice B m d)).setC (q := w.heap.size + 1) (by omega) 0 (.int .i64 y)).setC (q := w.heap.size + 1) (by omega) 1 (.slice C p q)
  exact ⟨z, B, m, d, X, y, C, p, q, Y, rfl, ⟨z0, z1, hm, hmd, hdm, HF.now.mono (by omega) HF.top⟩, ⟨y0, y1, hp, hpq, hqm, HG.now.mono (by omega) HG.top⟩, below_setAt (below_setAt (below_setAt (below_setAt F2.out.now (by omega) _) (by omega) _) (by omega) _) (by omega) _⟩
end Go.Proofs.Ytglccgpiakadbaa
