/- What is drawn for a field that is put. -/
import Derived.Test.YtbflgbmobbbebaaVecGen
import Derived.Deep.RegionHeld3
namespace Go.Proofs.Ytbflgbmobbbebaa
open Go.RowKit

theorem l1Most_is (a b : Int) (w : World) : Calls Try.prog 100 #[.int .i64 a, .int .i64 b] w fun e w' => e = .returned (.int .i64 (max a b)) ∧ w = w' := by
  by_cases h : b < a
  · rw [show max a b = a by omega]
    go_enter Try.func100, Try.ntmps100
    go_wp2_with fail
    go_ret
    exact ⟨rfl, rfl⟩
  · rw [show max a b = b by omega]
    go_enter Try.func100, Try.ntmps100
    go_wp2_with fail
    go_ret
    exact ⟨rfl, rfl⟩
set_option maxHeartbeats 1000000 in
theorem cur_place {b n c k : Nat} {A : Option Addr} {D : Nat → Int} {z : Int} {w : World} (h : CurS b A n c k D w) (hk : k ≤ 100000000000) (hn : n ≤ 1048576) (hz : z ≤ 1048576) :
    Calls Try.prog 61 #[.pointer (some ⟨b, 0, none⟩), .int .i64 z] w fun e w' => ∃ x : Int, -1 ≤ x ∧ x ≤ 1048580 ∧ e = .returned (.int .i64 x) ∧ Drawn b A n c (k + 2) D w w' := by
  have H := Lib.hid h
  clear h
  go_enter Try.func61, Try.ntmps61
  go_wp2_with fail
  refine (l1Most_is _ _ _).mono ?_; rintro e w' ⟨rfl, rfl⟩
  obtain ⟨q, hq⟩ : ∃ q, max z 0 = q := ⟨_, rfl⟩
  rw [hq]
  have q0 : 0 ≤ q := by omega
  have q1 : q ≤ 1048576 := by omega
  clear hq
  go_wp2_with fail
  refine (cur_pick H.out (by omega) hn).mono ?_; rintro e w1 ⟨x, x0, x1, rfl, hd⟩
  have H1 := Lib.hid hd
  clear hd
  go_wp2_with fail
  go_ret
  exact ⟨x - 1, by omega, by omega, rfl, H1.out⟩

end Go.Proofs.Ytbflgbmobbbebaa
