/- A Ranked that a law draws. -/
import Derived.Test.YtpmedeefoaoabaaCurR
import Derived.Test.YtpmedeefoaoabaaCur4
namespace Go.Proofs.Ytpmedeefoaoabaa
open Go.RowKit

/-- A drawn Ranked: its sizes; its rows are the call's own. -/
def RkIn (w : World) (z : Int) (A1 : Option Addr) (m : Nat) (X : Nat → Int) (A2 : Option Addr) (s : Nat) (Y : Nat → Int) (A3 : Option Addr) (p : Nat) (Z : Nat → Int) (w' : World) : Prop :=
  -1 ≤ z ∧ z ≤ 4096 ∧ m ≤ 257 ∧ s ≤ 257 ∧ p ≤ 258 ∧ Ow w.heap.size w'.heap.size 3 A1 m (intV X) w' ∧ Ow w.heap.size w'.heap.size 3 A2 s (intV Y) w' ∧ Ow w.heap.size w'.heap.size 3 A3 p (intV Z) w'

set_option maxRecDepth 100000 in
set_option maxHeartbeats 1000000 in
theorem draw_packDirectory (A : Option Addr) (n c : Nat) (D : Nat → Int) (w : World) (hn : n ≤ 1048576) (hr : GRow w A n (u8V D)) (hD : ∀ i, i < n → 0 ≤ D i ∧ D i < 256) :
    Calls Try.prog 5 #[.slice A n c] w fun e w' => ∃ (z : Int) (A1 : Option Addr) (m d1 : Nat) (X : Nat → Int) (A2 : Option Addr) (s d2 : Nat) (Y : Nat → Int) (A3 : Option Addr) (p d3 : Nat) (Z : Nat → Int),
      e = .returned (.agg #[.int .i64 z, .slice A1 m d1, .slice A2 s d2, .slice A3 p d3]) ∧ RkIn w z A1 m X A2 s Y A3 p Z w' ∧ Below w.heap.size w w' := by
  have h0 := (CurS.start (w := w.alloc (.cells (rkC 0 none 0 0 none 0 0 none 0 0) 28)) c (hr.al _) hD).still
  have hx := NBX.mk0 w (rkC 0 none 0 0 none 0 0 none 0 0) 28
  simp only [World.size_alloc] at h0
  have H0 := Lib.hid h0
  have HX := Lib.hid (hx.at1 (.cells #[.slice A n c, .int .i64 0, .int .u64 0] 44))
  have FB := Lib.hid (((At.start w).alloc (.cells (rkC 0 none 0 0 none 0 0 none 0 0) 28)).alloc (.cells #[.slice A n c, .int .i64 0, .int .u64 0] 44))
  clear h0 hx hr hD
  go_enter Try.func5, Try.ntmps5
  go_wp2_with fail
  refine (cur_ranked H0.out.1 (by omega) hn).mono ?_; rintro e w1 ⟨z, A1, m, d1, X, A2, s, d2, Y, A3, p, d3, Z, q1, q2, q3, q4, q5, rfl, o1, o2, o3, hd⟩
  have HX1 := Lib.hid (HX.out.only hd.2 (by omega))
  have F1 := Lib.hid (FB.out.far hd.2 (.inl (by omega)))
  have hs1 := hd.2.size
  simp only [World.size_alloc] at hs1 o1 o2 o3
  have O1 := Lib.hid (owned o1)
  have O2 := Lib.hid (owned o2)
  have O3 := Lib.hid (owned o3)
  clear hd o1 o2 o3 H0 HX FB
  have e0 := HX1.out.cell 0 _ rfl
  have e1 := HX1.out.cell 1 _ rfl
  have e2 := HX1.out.cell 2 _ rfl
  have e3 := HX1.out.cell 3 _ rfl
  have f0 := HX1.out.free 0
  have f1 := HX1.out.free 1
  have f2 := HX1.out.free 2
  have f3 := HX1.out.free 3
  go_wp2_with fail
  have N9 := Lib.hid ((((HX1.out.set 0 (.int .i64 z)).set 1 (.slice A1 m d1)).set 2 (.slice A2 s d2)).set 3 (.slice A3 p d3))
  clear e0 e1 e2 e3
  have r0 := N9.out.cell 0 (.int .i64 z) (by simp)
  have r1 := N9.out.cell 1 (.slice A1 m d1) (by simp)
  have r2 := N9.out.cell 2 (.slice A2 s d2) (by simp)
  have r3 := N9.out.cell 3 (.slice A3 p d3) (by simp)
  refine bodyPost_ret (v := .agg #[.int .i64 z, .slice A1 m d1, .slice A2 s d2, .slice A3 p d3]) (by simp [results, Try.results5, go_sem, r0, r1, r2, r3]) rfl ?_
  have k1 := ((((O1.out).setD (q := w.heap.size) (.inr (by omega)) 0 (.int .i64 z)).setD (q := w.heap.size) (.inr (by omega)) 1 (.slice A1 m d1)).setD (q := w.heap.size) (.inr (by omega)) 2 (.slice A2 s d2)).setD (q := w.heap.size) (.inr (by omega)) 3 (.slice A3 p d3)
  have k2 := ((((O2.out).setD (q := w.heap.size) (.inr (by omega)) 0 (.int .i64 z)).setD (q := w.heap.size) (.inr (by omega)) 1 (.slice A1 m d1)).setD (q := w.heap.size) (.inr (by omega)) 2 (.slice A2 s d2)).setD (q := w.heap.size) (.inr (by omega)) 3 (.slice A3 p d3)
  have k3 := ((((O3.out).setD (q := w.heap.size) (.inr (by omega)) 0 (.int .i64 z)).setD (q := w.heap.size) (.inr (by omega)) 1 (.slice A1 m d1)).setD (q := w.heap.size) (.inr (by omega)) 2 (.slice A2 s d2)).setD (q := w.heap.size) (.inr (by omega)) 3 (.slice A3 p d3)
  exact ⟨z, A1, m, d1, X, A2, s, d2, Y, A3, p, d3, Z, rfl, ⟨q1, q2, q3, q4, q5, k1.now.mono (by omega) k1.top, k2.now.mono (by omega) k2.top, k3.now.mono (by omega) k3.top⟩, below_setAt (below_setAt (below_setAt (below_setAt (F1.out.now) (b := w.heap.size) (o := 0) (by omega) (.int .i64 z)) (b := w.heap.size) (o := 1) (by omega) (.slice A1 m d1)) (b := w.heap.size) (o := 2) (by omega) (.slice A2 s d2)) (b := w.heap.size) (o := 3) (by omega) (.slice A3 p d3)⟩

end Go.Proofs.Ytpmedeefoaoabaa
