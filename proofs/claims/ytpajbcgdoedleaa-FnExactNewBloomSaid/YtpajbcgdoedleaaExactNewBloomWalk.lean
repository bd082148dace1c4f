/- The law of NewBloom, walked: what both sides answer comes in as hypotheses. -/
import Derived.Test.YtpajbcgdoedleaaObjBl
import Derived.Test.YtpajbcgdoedleaaBlB
import Derived.Deep.RegionHeld3
namespace Go.Proofs.Ytpajbcgdoedleaa
open Go.RowKit

set_option maxRecDepth 100000 in
set_option maxHeartbeats 8000000 in
theorem main_FnExactNewBloom (a0z0 : Int) (a1z0 : Int) (a2z0 : Int) (r0z0 : Int) (r0z1 : Int) (r0z2 : Int) (r0n3 : Nat) (r0X3 : Nat → Int) (r1z0 : Bool) (w : World) (hr0m3 : r0n3 ≤ 1048576)
    (s1 : ∀ (w : World), Calls Try.prog 19 #[.int .i64 a0z0, .int .i64 a1z0, .int .i64 a2z0] w fun e w' => ∃ vr0A3 vr0c3, e = .returned (.tuple #[.agg #[.int .i64 r0z0, .int .i64 r0z1, .int .i64 r0z2, .slice vr0A3 r0n3 vr0c3], .bool r1z0]) ∧ GRow w' vr0A3 r0n3 (intV r0X3) ∧ Below w.heap.size w w')
    (s2 : ∀ (w : World), Calls Try.prog 20 #[.int .i64 a0z0, .int .i64 a1z0, .int .i64 a2z0] w fun e w' => ∃ vr0A3 vr0c3, e = .returned (.tuple #[.agg #[.int .i64 r0z0, .int .i64 r0z1, .int .i64 r0z2, .slice vr0A3 r0n3 vr0c3], .bool r1z0]) ∧ Ow w.heap.size w'.heap.size 3 vr0A3 r0n3 (intV r0X3) w' ∧ Below w.heap.size w w') :
    Calls Try.prog 4 #[.int .i64 a0z0, .int .i64 a1z0, .int .i64 a2z0] w fun e w' => e = .returned (.bool true) ∧ Below w.heap.size w w' := by
  have S1 := Lib.hid s1
  have S2 := Lib.hid s2
  clear s1 s2
  have FB := Lib.hid (At.start w)
  go_enter Try.func4, Try.ntmps4
  go_wp2_with fail
  refine (S1.out _).mono ?_; rintro e w1 ⟨mr0A3, mr0c3, rfl, hrr03, hb⟩
  replace FB := Lib.hid (FB.out.b hb)
  have z_w1 : w.heap.size ≤ w1.heap.size := by have hsz := hb.size; first | omega | (simp at hsz; omega)
  have Vmr03 := Lib.hid (rd_of_row hrr03)
  clear hb hrr03
  replace FB := Lib.hid (FB.out.alloc (.cells #[.int .i64 r0z0, .int .i64 r0z1, .int .i64 r0z2, .slice mr0A3 r0n3 mr0c3] 31))
  replace Vmr03 := Lib.hid (Vmr03.out.alloc (.cells #[.int .i64 r0z0, .int .i64 r0z1, .int .i64 r0z2, .slice mr0A3 r0n3 mr0c3] 31))
  have Xmr0 := Lib.hid (boxed w1 #[.int .i64 r0z0, .int .i64 r0z1, .int .i64 r0z2, .slice mr0A3 r0n3 mr0c3] 31)
  go_wp2_with fail
  refine (S2.out _).mono ?_; rintro e w2 ⟨gr0A3, gr0c3, rfl, hrr03, hb⟩
  replace FB := Lib.hid (FB.out.b hb)
  replace Vmr03 := Lib.hid (Vmr03.out.b hb)
  replace Xmr0 := Lib.hid (Xmr0.out.b hb)
  have z_w2 : w1.heap.size + 1 ≤ w2.heap.size := by have hsz := hb.size; first | omega | (simp at hsz; omega)
  have Ogr03 := Lib.hid (owned (hrr03.mono (lo' := w1.heap.size + 1) (by simp) (Nat.le_refl _)))
  clear hb hrr03
  replace FB := Lib.hid (FB.out.alloc (.cells #[.int .i64 r0z0, .int .i64 r0z1, .int .i64 r0z2, .slice gr0A3 r0n3 gr0c3] 31))
  replace Vmr03 := Lib.hid (Vmr03.out.alloc (.cells #[.int .i64 r0z0, .int .i64 r0z1, .int .i64 r0z2, .slice gr0A3 r0n3 gr0c3] 31))
  replace Xmr0 := Lib.hid (Xmr0.out.alloc (.cells #[.int .i64 r0z0, .int .i64 r0z1, .int .i64 r0z2, .slice gr0A3 r0n3 gr0c3] 31))
  replace Ogr03 := Lib.hid (Ogr03.out.alloc (.cells #[.int .i64 r0z0, .int .i64 r0z1, .int .i64 r0z2, .slice gr0A3 r0n3 gr0c3] 31))
  have Xgr0 := Lib.hid (boxed w2 #[.int .i64 r0z0, .int .i64 r0z1, .int .i64 r0z2, .slice gr0A3 r0n3 gr0c3] 31)
  have c_Xgr0_0 := Xgr0.out.now 0 _ rfl
  have c_Xgr0_1 := Xgr0.out.now 1 _ rfl
  have c_Xgr0_2 := Xgr0.out.now 2 _ rfl
  have c_Xgr0_3 := Xgr0.out.now 3 _ rfl
  have c_Xmr0_0 := Xmr0.out.now 0 _ rfl
  have c_Xmr0_1 := Xmr0.out.now 1 _ rfl
  have c_Xmr0_2 := Xmr0.out.now 2 _ rfl
  have c_Xmr0_3 := Xmr0.out.now 3 _ rfl
  go_wp2_with fail
  refine (eq_Bloom hr0m3 Ogr03.out.orow Vmr03.out.row).mono ?_; rintro e w3 ⟨rfl, hb⟩
  replace FB := Lib.hid (FB.out.b hb)
  replace Vmr03 := Lib.hid (Vmr03.out.b hb)
  replace Xmr0 := Lib.hid (Xmr0.out.b hb)
  replace Ogr03 := Lib.hid (Ogr03.out.b hb)
  replace Xgr0 := Lib.hid (Xgr0.out.b hb)
  have z_w3 : w2.heap.size + 1 ≤ w3.heap.size := by have hsz := hb.size; first | omega | (simp at hsz; omega)
  clear c_Xgr0_0 c_Xgr0_1 c_Xgr0_2 c_Xgr0_3 c_Xmr0_0 c_Xmr0_1 c_Xmr0_2 c_Xmr0_3
  clear hb
  have c_Xgr0_0 := Xgr0.out.now 0 _ rfl
  have c_Xgr0_1 := Xgr0.out.now 1 _ rfl
  have c_Xgr0_2 := Xgr0.out.now 2 _ rfl
  have c_Xgr0_3 := Xgr0.out.now 3 _ rfl
  go_wp2_with fail
  refine (mark_Bloom hr0m3 Ogr03.out.now Ogr03.out.top (by omega) (by omega)).mono ?_; rintro e w4 ⟨rfl, hm0, hg⟩
  replace FB := Lib.hid (FB.out.far hg (by omega))
  replace Vmr03 := Lib.hid (Vmr03.out.far hg (by omega))
  replace Xmr0 := Lib.hid (Xmr0.out.far hg (by omega))
  replace Xgr0 := Lib.hid (Xgr0.out.far hg (by omega))
  have z_w4 : w3.heap.size ≤ w4.heap.size := by have hsz := hg.size; first | omega | (simp at hsz; omega)
  replace Ogr03 := Lib.hid (At.mk hm0 (Nat.le_trans Ogr03.out.top hg.size) (Ow.lives _ _ _ _ _ _))
  clear c_Xgr0_0 c_Xgr0_1 c_Xgr0_2 c_Xgr0_3
  clear hg hm0
  have c_Xgr0_0 := Xgr0.out.now 0 _ rfl
  have c_Xgr0_1 := Xgr0.out.now 1 _ rfl
  have c_Xgr0_2 := Xgr0.out.now 2 _ rfl
  have c_Xgr0_3 := Xgr0.out.now 3 _ rfl
  go_wp2_with fail
  refine (held_Bloom hr0m3 Ogr03.out.orow (by omega) (by omega)).mono ?_; rintro e w5 ⟨rfl, hb⟩
  replace FB := Lib.hid (FB.out.b hb)
  replace Vmr03 := Lib.hid (Vmr03.out.b hb)
  replace Xmr0 := Lib.hid (Xmr0.out.b hb)
  replace Ogr03 := Lib.hid (Ogr03.out.b hb)
  replace Xgr0 := Lib.hid (Xgr0.out.b hb)
  have z_w5 : w4.heap.size ≤ w5.heap.size := by have hsz := hb.size; first | omega | (simp at hsz; omega)
  clear c_Xgr0_0 c_Xgr0_1 c_Xgr0_2 c_Xgr0_3
  clear hb
  go_wp2_with fail
  refine (S2.out _).mono ?_; rintro e w6 ⟨hr0A3, hr0c3, rfl, hrr03, hb⟩
  replace FB := Lib.hid (FB.out.b hb)
  replace Vmr03 := Lib.hid (Vmr03.out.b hb)
  replace Xmr0 := Lib.hid (Xmr0.out.b hb)
  replace Ogr03 := Lib.hid (Ogr03.out.b hb)
  replace Xgr0 := Lib.hid (Xgr0.out.b hb)
  have z_w6 : w5.heap.size ≤ w6.heap.size := by have hsz := hb.size; first | omega | (simp at hsz; omega)
  have Ohr03 := Lib.hid (owned (hrr03.mono (lo' := w5.heap.size) (Nat.le_refl _) (Nat.le_refl _)))
  clear hb hrr03
  replace FB := Lib.hid (FB.out.alloc (.cells #[.int .i64 r0z0, .int .i64 r0z1, .int .i64 r0z2, .slice hr0A3 r0n3 hr0c3] 31))
  replace Vmr03 := Lib.hid (Vmr03.out.alloc (.cells #[.int .i64 r0z0, .int .i64 r0z1, .int .i64 r0z2, .slice hr0A3 r0n3 hr0c3] 31))
  replace Xmr0 := Lib.hid (Xmr0.out.alloc (.cells #[.int .i64 r0z0, .int .i64 r0z1, .int .i64 r0z2, .slice hr0A3 r0n3 hr0c3] 31))
  replace Ogr03 := Lib.hid (Ogr03.out.alloc (.cells #[.int .i64 r0z0, .int .i64 r0z1, .int .i64 r0z2, .slice hr0A3 r0n3 hr0c3] 31))
  replace Xgr0 := Lib.hid (Xgr0.out.alloc (.cells #[.int .i64 r0z0, .int .i64 r0z1, .int .i64 r0z2, .slice hr0A3 r0n3 hr0c3] 31))
  replace Ohr03 := Lib.hid (Ohr03.out.alloc (.cells #[.int .i64 r0z0, .int .i64 r0z1, .int .i64 r0z2, .slice hr0A3 r0n3 hr0c3] 31))
  have Xhr0 := Lib.hid (boxed w6 #[.int .i64 r0z0, .int .i64 r0z1, .int .i64 r0z2, .slice hr0A3 r0n3 hr0c3] 31)
  have c_Xhr0_0 := Xhr0.out.now 0 _ rfl
  have c_Xhr0_1 := Xhr0.out.now 1 _ rfl
  have c_Xhr0_2 := Xhr0.out.now 2 _ rfl
  have c_Xhr0_3 := Xhr0.out.now 3 _ rfl
  have c_Xmr0_0 := Xmr0.out.now 0 _ rfl
  have c_Xmr0_1 := Xmr0.out.now 1 _ rfl
  have c_Xmr0_2 := Xmr0.out.now 2 _ rfl
  have c_Xmr0_3 := Xmr0.out.now 3 _ rfl
  go_wp2_with fail
  refine (eq_Bloom hr0m3 Ohr03.out.orow Vmr03.out.row).mono ?_; rintro e w7 ⟨rfl, hb⟩
  replace FB := Lib.hid (FB.out.b hb)
  replace Vmr03 := Lib.hid (Vmr03.out.b hb)
  replace Xmr0 := Lib.hid (Xmr0.out.b hb)
  replace Ogr03 := Lib.hid (Ogr03.out.b hb)
  replace Xgr0 := Lib.hid (Xgr0.out.b hb)
  replace Ohr03 := Lib.hid (Ohr03.out.b hb)
  replace Xhr0 := Lib.hid (Xhr0.out.b hb)
  have z_w7 : w6.heap.size + 1 ≤ w7.heap.size := by have hsz := hb.size; first | omega | (simp at hsz; omega)
  clear c_Xhr0_0 c_Xhr0_1 c_Xhr0_2 c_Xhr0_3 c_Xmr0_0 c_Xmr0_1 c_Xmr0_2 c_Xmr0_3
  clear hb
  have c_Xgr0_0 := Xgr0.out.now 0 _ rfl
  have c_Xgr0_1 := Xgr0.out.now 1 _ rfl
  have c_Xgr0_2 := Xgr0.out.now 2 _ rfl
  have c_Xgr0_3 := Xgr0.out.now 3 _ rfl
  go_wp2_with fail
  refine (held_Bloom hr0m3 Ogr03.out.orow (by omega) (by omega)).mono ?_; rintro e w8 ⟨rfl, hb⟩
  replace FB := Lib.hid (FB.out.b hb)
  replace Vmr03 := Lib.hid (Vmr03.out.b hb)
  replace Xmr0 := Lib.hid (Xmr0.out.b hb)
  replace Ogr03 := Lib.hid (Ogr03.out.b hb)
  replace Xgr0 := Lib.hid (Xgr0.out.b hb)
  replace Ohr03 := Lib.hid (Ohr03.out.b hb)
  replace Xhr0 := Lib.hid (Xhr0.out.b hb)
  have z_w8 : w7.heap.size ≤ w8.heap.size := by have hsz := hb.size; first | omega | (simp at hsz; omega)
  clear c_Xgr0_0 c_Xgr0_1 c_Xgr0_2 c_Xgr0_3
  clear hb
  go_wp2_with fail
  go_ret
  exact ⟨rfl, FB.out.now⟩
/-! last -/
theorem walk_FnExactNewBloom (w : World) (z0 : Int) (_w0 : (Lit.int .i64 z0).wf = true) (z1 : Int) (_w1 : (Lit.int .i64 z1).wf = true) (z2 : Int) (_w2 : (Lit.int .i64 z2).wf = true) :
    Calls Try.prog 4 #[.int .i64 z0, .int .i64 z1, .int .i64 z2] w fun e w' => e = .returned (.bool true) ∧ Below w.heap.size w w' := by
  cases h : fiB z0 z1 z2 with
  | true =>
    obtain ⟨p, z, rfl, rfl, h1, h2, h3, h4⟩ := fiB_nat h
    exact main_FnExactNewBloom z0 p z z0 p z ((z + 15) / 16) (fun _ => 0) true w (by omega)
      (fun w => (spec_newBloom h).mono fun e w' h => h.row) (fun w => impl_newBloom h)
  | false =>
    exact main_FnExactNewBloom z0 z1 z2 0 0 0 0 (fun _ => 0) false w (by omega)
      (fun w => (spec_newBloom_no h).mono fun e w' h => h.row) (fun w => impl_newBloom_no h)
end Go.Proofs.Ytpajbcgdoedleaa
