/- What a cursor draws: a limit; a number of numbers and a limit. -/
import Derived.Test.YtffdkfhnlgfigaaCur2
namespace Go.Proofs.Ytffdkfhnlgfigaa
open Go.RowKit

set_option maxRecDepth 100000 in
set_option maxHeartbeats 1000000 in
theorem cur_limit {b n c k : Nat} {A : Option Addr} {D : Nat → Int} {w : World} (h : CurS b A n c k D w) (hk : k ≤ 100000000000) (hn : n ≤ 1048576) :
    Calls Try.prog 42 #[.pointer (some ⟨b, 0, none⟩)] w fun e w' => ∃ x : Int, -1 ≤ x ∧ x ≤ 100001 ∧ e = .returned (.int .i64 x) ∧ Drawn b A n c (k + 4) D w w' := by
  have H := Lib.hid h
  clear h
  go_enter Try.func42, Try.ntmps42
  go_wp2_with fail
  refine (cur_pick H.out (by omega) hn).mono ?_; rintro e w1 ⟨x, x0, x1, rfl, hd⟩
  have H1 := Lib.hid hd
  have hlt := hd.1.lt
  clear hd
  by_cases e0 : x = 0
  · subst e0
    have HA := Lib.hid (H1.out.alloc (.cells #[.int .i64 (-1), .int .i64 0, .int .i64 1, .int .i64 2, .int .i64 100000, .int .i64 100001] 3))
    have hrow := int_row w1 [-1, 0, 1, 2, 100000, 100001] 3
    have HM := Lib.hid (cur_among (d := 6) (lo := -1) (hi := 100001) HA.out.1 (by omega) hn (by decide) (by decide) hrow (fun g o e => by injection e with e; injection e with e1 e2; omega) (fun i hi => by
      have hi3 : i < 6 := hi
      have : i = 0 ∨ i = 1 ∨ i = 2 ∨ i = 3 ∨ i = 4 ∨ i = 5 := by omega
      rcases this with rfl | rfl | rfl | rfl | rfl | rfl <;> decide))
    clear hrow
    go_wp2_with fail
    refine HM.out.mono ?_; rintro e w2 ⟨y, y0, y1, rfl, hd⟩
    have H2 := Lib.hid (HA.out.trans hd)
    clear hd
    go_wp2_with fail
    go_ret
    exact ⟨y, y0, y1, rfl, H2.out.low (by omega)⟩
  · by_cases e1 : x = 1
    · subst e1
      go_wp2_with fail
      refine (cur_pick H1.out.1 (by omega) hn).mono ?_; rintro e w2 ⟨y, y0, y1, rfl, hd⟩
      have H2 := Lib.hid (H1.out.trans hd)
      clear hd
      go_wp2_with fail
      go_ret
      exact ⟨1 + y, by omega, by omega, rfl, H2.out.low (by omega)⟩
    · have b0 : (x == 0) = false := by simpa using e0
      have b1 : (x == 1) = false := by simpa using e1
      go_wp2_with fail
      refine (cur_pick H1.out.1 (by omega) hn).mono ?_; rintro e w2 ⟨y, y0, y1, rfl, hd⟩
      have H2 := Lib.hid (H1.out.trans hd)
      clear hd
      go_wp2_with fail
      go_ret
      exact ⟨1 + y, by omega, by omega, rfl, H2.out.low (by omega)⟩
set_option maxRecDepth 100000 in
set_option maxHeartbeats 1000000 in
theorem draw_widthFor (A : Option Addr) (n c : Nat) (D : Nat → Int) (w : World) (hn : n ≤ 1048576) (hr : GRow w A n (u8V D)) (hD : ∀ i, i < n → 0 ≤ D i ∧ D i < 256) :
    Calls Try.prog 9 #[.slice A n c] w fun e w' => ∃ x y : Int, -1 ≤ x ∧ x ≤ 61 ∧ -1 ≤ y ∧ y ≤ 100001 ∧ e = .returned (.tuple #[.int .i64 x, .int .i64 y]) ∧ Below w.heap.size w w' := by
  have H0 := Lib.hid (CurS.start c hr hD).still
  clear hr hD
  go_enter Try.func9, Try.ntmps9
  go_wp2_with fail
  refine (cur_pick H0.out.1 (by omega) hn).mono ?_; rintro e w1 ⟨x, x0, x1, rfl, hd⟩
  have H1 := Lib.hid (H0.out.trans hd)
  clear hd H0
  go_wp2_with fail
  refine (cur_one H1.out.1 (by omega) hn).mono ?_; rintro e w2 ⟨r, rfl, hd⟩
  have H2 := Lib.hid (H1.out.trans hd)
  have hlt := H2.out.1.lt
  clear hd H1
  cases r with
  | true =>
    have HA := Lib.hid (H2.out.alloc (.cells #[.int .i64 (-1), .int .i64 0, .int .i64 60, .int .i64 61] 3))
    have hrow := int_row w2 [-1, 0, 60, 61] 3
    have HM := Lib.hid (cur_among (d := 4) (lo := -1) (hi := 61) HA.out.1 (by omega) hn (by decide) (by decide) hrow (fun g o e => by injection e with e; injection e with e1 e2; omega) (fun i hi => by
      have hi3 : i < 4 := hi
      have : i = 0 ∨ i = 1 ∨ i = 2 ∨ i = 3 := by omega
      rcases this with rfl | rfl | rfl | rfl <;> decide))
    clear hrow
    go_wp2_with fail
    refine HM.out.mono ?_; rintro e w3 ⟨y, y0, y1, rfl, hd⟩
    have H3 := Lib.hid (HA.out.trans hd)
    clear hd H2 HA HM
    go_wp2_with fail
    refine (cur_limit H3.out.1 (by omega) hn).mono ?_; rintro e w4 ⟨z, z0, z1, rfl, hd⟩
    have H4 := Lib.hid (H3.out.trans hd)
    clear hd H3
    go_wp2_with fail
    refine bodyPost_ret (v := .tuple #[.int .i64 y, .int .i64 z]) (by simp [results, Try.results9, go_sem]) rfl ?_
    exact ⟨y, z, y0, y1, z0, z1, rfl, H4.out.end⟩
  | false =>
    go_wp2_with fail
    refine (cur_limit H2.out.1 (by omega) hn).mono ?_; rintro e w4 ⟨z, z0, z1, rfl, hd⟩
    have H4 := Lib.hid (H2.out.trans hd)
    clear hd H2
    go_wp2_with fail
    refine bodyPost_ret (v := .tuple #[.int .i64 x, .int .i64 z]) (by simp [results, Try.results9, go_sem]) rfl ?_
    exact ⟨x, z, by omega, by omega, z0, z1, rfl, H4.out.end⟩
end Go.Proofs.Ytffdkfhnlgfigaa
