/- Two bit vectors compared, the program's way. -/
import Derived.Test.YtdkkflejpcgipabSameI
namespace Go.Proofs.Ytdkkflejpcgipab
open Go.RowKit

set_option maxRecDepth 100000 in
set_option maxHeartbeats 1000000 in
theorem eqBits_impl (z y : Int) (A B : Option Addr) (n c m d : Nat) (X Y : Nat → Int) (w : World) (hn : n ≤ 1048576) (hm : m ≤ 1048576) (hx : IRow w A n X) (hy : IRow w B m Y) :
    Calls Try.prog 63 #[.agg #[.int .i64 z, .slice A n c], .agg #[.int .i64 y, .slice B m d]] w (BoolIs (z = y ∧ SameI n X m Y) w) := by
  have HB := Lib.hid (((Below.refl w.heap.size w).alloc (Nat.le_refl _) (.cells #[.int .i64 z, .slice A n c] 27)).alloc (by simp) (.cells #[.int .i64 y, .slice B m d] 27))
  have HX := Lib.hid (hx.b HB.out)
  have HY := Lib.hid (hy.b HB.out)
  clear hx hy
  by_cases e : z = y
  · have d1 : (z == y) = true := by simpa using e
    have HE := Lib.hid e
    clear e
    go_enter Try.func63, Try.ntmps63
    go_wp2_with fail
    refine (slices_equal A B n c m d X Y _ hn hm HX.out HY.out).mono ?_; rintro e w1 ⟨b, rfl, hb, hbl⟩
    have HS := Lib.hid hb
    have HL := Lib.hid (HB.out.trans (hbl.mono (by simp; omega)))
    clear hb hbl
    go_wp2_with fail
    go_ret
    exact ⟨b, rfl, by rw [HS.out]; exact ⟨fun h => ⟨HE.out, h⟩, fun h => h.2⟩, HL.out⟩
  · have d1 : (z == y) = false := by simpa using e
    have HE := Lib.hid e
    clear e
    go_enter Try.func63, Try.ntmps63
    go_wp2_with fail
    go_ret
    exact ⟨false, rfl, by simp only [Bool.false_eq_true, false_iff]; exact fun h => HE.out h.1, HB.out⟩
end Go.Proofs.Ytdkkflejpcgipab
