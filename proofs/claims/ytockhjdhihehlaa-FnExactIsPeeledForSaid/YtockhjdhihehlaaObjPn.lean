/- Copies of a Peeled whose capacity is their length. -/
import Derived.Test.YtockhjdhihehlaaObjPe
namespace Go.Proofs.Ytockhjdhihehlaa
open Go.RowKit

theorem to_IntSm {A : Option Addr} {n c : Nat} {X : Nat → Int} {w : World} (hn : n ≤ 1048576) (hr : GRow w A n (intV X)) :
    Calls Try.prog 43 #[.slice A n c] w fun e w' => ∃ A', e = .returned (.slice A' n n) ∧ Ow w.heap.size w'.heap.size 3 A' n (intV X) w' ∧ Below w.heap.size w w' :=
  (toIntS_any A n c X w hn hr).mono fun _ _ ⟨_, he, hg, ho, hb⟩ => ⟨_, he, ow_of_own (m := n) ho hg (Nat.le_refl _), hb⟩
set_option maxRecDepth 100000 in
set_option maxHeartbeats 2000000 in
theorem to_Peeledn {z0 : Int} {z1 : Int} {n2 : Nat} {X2 : Nat → Int} {A2 : Option Addr} {c2 : Nat} {w : World} (hn2 : n2 ≤ 1048576) (hr2 : GRow w A2 n2 (intV X2)) :
    Calls Try.prog 11 #[.agg #[.int .i64 z0, .int .i64 z1, .slice A2 n2 c2]] w fun e w' => ∃ dA2, e = .returned (.agg #[.int .i64 z0, .int .i64 z1, .slice dA2 n2 n2]) ∧ Ow w.heap.size w'.heap.size 3 dA2 n2 (intV X2) w' ∧ Below w.heap.size w w' := by
  have FB := Lib.hid ((((At.start w).alloc (.cells #[.int .i64 z0, .int .i64 z1, .slice A2 n2 c2] 24)).alloc (.cells #[.int .i64 0, .int .i64 0, .slice none 0 0] 30)).alloc (.cells #[.int .i64 z0, .int .i64 z1, .slice none 0 0] 30))
  have R2 := Lib.hid ((((rd_of_row hr2).alloc (.cells #[.int .i64 z0, .int .i64 z1, .slice A2 n2 c2] 24)).alloc (.cells #[.int .i64 0, .int .i64 0, .slice none 0 0] 30)).alloc (.cells #[.int .i64 z0, .int .i64 z1, .slice none 0 0] 30))
  have BX := Lib.hid (((boxed w #[.int .i64 z0, .int .i64 z1, .slice A2 n2 c2] 24).alloc (.cells #[.int .i64 0, .int .i64 0, .slice none 0 0] 30)).alloc (.cells #[.int .i64 z0, .int .i64 z1, .slice none 0 0] 30))
  have nb := nbx0 ((w.alloc (.cells #[.int .i64 z0, .int .i64 z1, .slice A2 n2 c2] 24)).alloc (.cells #[.int .i64 0, .int .i64 0, .slice none 0 0] 30)) #[.int .i64 z0, .int .i64 z1, .slice none 0 0] 30
  have nr := (nbx0 (w.alloc (.cells #[.int .i64 z0, .int .i64 z1, .slice A2 n2 c2] 24)) #[.int .i64 0, .int .i64 0, .slice none 0 0] 30).b ((Below.refl _ _).alloc (Nat.le_refl _) (.cells #[.int .i64 z0, .int .i64 z1, .slice none 0 0] 30))
  simp only [World.size_alloc] at nb nr
  have NB := Lib.hid nb
  have NR := Lib.hid nr
  clear nb nr hr2
  go_enter Try.func11, Try.ntmps11
  go_wp2_with fail
  refine (to_IntSm hn2 R2.out.row).mono ?_; rintro e w1 ⟨dA2, rfl, ho2, hb⟩
  replace FB := Lib.hid (FB.out.b hb)
  replace R2 := Lib.hid (R2.out.b hb)
  replace BX := Lib.hid (BX.out.b hb)
  have z_w1 : w.heap.size + 3 ≤ w1.heap.size := by have hsz := hb.size; first | omega | (simp at hsz; omega)
  replace NB := Lib.hid (NB.out.b hb)
  replace NR := Lib.hid (NR.out.b hb)
  have O2 := Lib.hid (owned (ho2.mono (lo' := w.heap.size + 3) (by simp) (Nat.le_refl _)))
  clear hb ho2
  have d2 := NB.out.cell 2 _ rfl
  have f2 := NB.out.free 2
  have c_BX_0 := BX.out.now 0 _ rfl
  have c_BX_1 := BX.out.now 1 _ rfl
  have c_BX_2 := BX.out.now 2 _ rfl
  have g0 := NR.out.free 0
  have e0 := NR.out.cell 0 _ rfl
  have g1 := NR.out.free 1
  have e1 := NR.out.cell 1 _ rfl
  have g2 := NR.out.free 2
  have e2 := NR.out.cell 2 _ rfl
  have d0 := NB.out.cell 0 _ rfl
  have d1 := NB.out.cell 1 _ rfl
  go_wp2_with fail
  refine bodyPost_ret (v := .agg #[.int .i64 z0, .int .i64 z1, .slice dA2 n2 n2]) (by simp [results, Try.results11, go_sem, e0, e1, e2]) rfl ?_
  replace FB := Lib.hid (((((((((FB.out).setD (q := w.heap.size + 1 + 1) (.inl (by omega)) 2 (.slice dA2 n2 n2))).setD (q := w.heap.size + 1) (.inl (by omega)) 0 (.int .i64 z0))).setD (q := w.heap.size + 1) (.inl (by omega)) 1 (.int .i64 z1))).setD (q := w.heap.size + 1) (.inl (by omega)) 2 (.slice dA2 n2 n2)))
  replace R2 := Lib.hid (((((((((R2.out).setD (q := w.heap.size + 1 + 1) (.inl (by omega)) 2 (.slice dA2 n2 n2))).setD (q := w.heap.size + 1) (.inl (by omega)) 0 (.int .i64 z0))).setD (q := w.heap.size + 1) (.inl (by omega)) 1 (.int .i64 z1))).setD (q := w.heap.size + 1) (.inl (by omega)) 2 (.slice dA2 n2 n2)))
  replace BX := Lib.hid (((((((((BX.out).setD (q := w.heap.size + 1 + 1) (.inl (by omega)) 2 (.slice dA2 n2 n2))).setD (q := w.heap.size + 1) (.inl (by omega)) 0 (.int .i64 z0))).setD (q := w.heap.size + 1) (.inl (by omega)) 1 (.int .i64 z1))).setD (q := w.heap.size + 1) (.inl (by omega)) 2 (.slice dA2 n2 n2)))
  replace O2 := Lib.hid (((((((((O2.out).setD (q := w.heap.size + 1 + 1) (.inr (by omega)) 2 (.slice dA2 n2 n2))).setD (q := w.heap.size + 1) (.inr (by omega)) 0 (.int .i64 z0))).setD (q := w.heap.size + 1) (.inr (by omega)) 1 (.int .i64 z1))).setD (q := w.heap.size + 1) (.inr (by omega)) 2 (.slice dA2 n2 n2)))
  exact ⟨dA2, rfl, O2.out.now.mono (by omega) O2.out.top, FB.out.now⟩

end Go.Proofs.Ytockhjdhihehlaa
