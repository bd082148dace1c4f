/- The law of NewCuckoo, walked: what both sides answer comes in as hypotheses. -/
import Derived.Test.YtfjimjbndkhkcaaObjCu
import Derived.Test.YtfjimjbndkhkcaaCuNew
import Derived.Deep.RegionHeld3
namespace Go.Proofs.Ytfjimjbndkhkcaa
open Go.RowKit

set_option maxRecDepth 100000 in
set_option maxHeartbeats 8000000 in
theorem main_FnExactNewCuckoo (a0z0 : Int) (a1z0 : Int) (r0z0 : Int) (r0n1 : Nat) (r0X1 : Nat → ByteArray) (r0n2 : Nat) (r0X2 : Nat → ByteArray) (r1z0 : Bool) (w : World) (hr0m1 : r0n1 ≤ 1048576) (hr0m2 : r0n2 ≤ 1048576)
    (s1 : ∀ (w : World), Calls Try.prog 26 #[.int .i64 a0z0, .int .i64 a1z0] w fun e w' => ∃ vr0A1 vr0c1 vr0A2 vr0c2, e = .returned (.tuple #[.agg #[.int .i64 r0z0, .slice vr0A1 r0n1 vr0c1, .slice vr0A2 r0n2 vr0c2], .bool r1z0]) ∧ GRow w' vr0A1 r0n1 (strV r0X1) ∧ GRow w' vr0A2 r0n2 (strV r0X2) ∧ Below w.heap.size w w')
    (s2 : ∀ (w : World), Calls Try.prog 27 #[.int .i64 a0z0, .int .i64 a1z0] w fun e w' => ∃ vr0A1 vr0c1 vr0A2 vr0c2, e = .returned (.tuple #[.agg #[.int .i64 r0z0, .slice vr0A1 r0n1 vr0c1, .slice vr0A2 r0n2 vr0c2], .bool r1z0]) ∧ Ow w.heap.size w'.heap.size 9 vr0A1 r0n1 (strV r0X1) w' ∧ Ow w.heap.size w'.heap.size 9 vr0A2 r0n2 (strV r0X2) w' ∧ Apart r0n1 vr0A1 r0n2 vr0A2 ∧ Below w.heap.size w w') :
    Calls Try.prog 6 #[.int .i64 a0z0, .int .i64 a1z0] w fun e w' => e = .returned (.bool true) ∧ Below w.heap.size w w' := by
  have S1 := Lib.hid s1
  have S2 := Lib.hid s2
  clear s1 s2
  have FB := Lib.hid (At.start w)
  go_enter Try.func6, Try.ntmps6
  go_wp2_with fail
  refine (S1.out _).mono ?_; rintro e w1 ⟨mr0A1, mr0c1, mr0A2, mr0c2, rfl, hrr01, hrr02, hb⟩
  replace FB := Lib.hid (FB.out.b hb)
  have z_w1 : w.heap.size ≤ w1.heap.size := by have hsz := hb.size; first | omega | (simp at hsz; omega)
  have Vmr01 := Lib.hid (rd_of_row hrr01)
  have Vmr02 := Lib.hid (rd_of_row hrr02)
  clear hb hrr01 hrr02
  replace FB := Lib.hid (FB.out.alloc (.cells #[.int .i64 r0z0, .slice mr0A1 r0n1 mr0c1, .slice mr0A2 r0n2 mr0c2] 36))
  replace Vmr01 := Lib.hid (Vmr01.out.alloc (.cells #[.int .i64 r0z0, .slice mr0A1 r0n1 mr0c1, .slice mr0A2 r0n2 mr0c2] 36))
  replace Vmr02 := Lib.hid (Vmr02.out.alloc (.cells #[.int .i64 r0z0, .slice mr0A1 r0n1 mr0c1, .slice mr0A2 r0n2 mr0c2] 36))
  have Xmr0 := Lib.hid (boxed w1 #[.int .i64 r0z0, .slice mr0A1 r0n1 mr0c1, .slice mr0A2 r0n2 mr0c2] 36)
  go_wp2_with fail
  refine (S2.out _).mono ?_; rintro e w2 ⟨gr0A1, gr0c1, gr0A2, gr0c2, rfl, hrr01, hrr02, hap_g_0, hb⟩
  replace FB := Lib.hid (FB.out.b hb)
  replace Vmr01 := Lib.hid (Vmr01.out.b hb)
  replace Vmr02 := Lib.hid (Vmr02.out.b hb)
  replace Xmr0 := Lib.hid (Xmr0.out.b hb)
  have z_w2 : w1.heap.size + 1 ≤ w2.heap.size := by have hsz := hb.size; first | omega | (simp at hsz; omega)
  have Ogr01 := Lib.hid (owned (hrr01.mono (lo' := w1.heap.size + 1) (by simp) (Nat.le_refl _)))
  have Ogr02 := Lib.hid (owned (hrr02.mono (lo' := w1.heap.size + 1) (by simp) (Nat.le_refl _)))
  clear hb hrr01 hrr02
  replace FB := Lib.hid (FB.out.alloc (.cells #[.int .i64 r0z0, .slice gr0A1 r0n1 gr0c1, .slice gr0A2 r0n2 gr0c2] 36))
  replace Vmr01 := Lib.hid (Vmr01.out.alloc (.cells #[.int .i64 r0z0, .slice gr0A1 r0n1 gr0c1, .slice gr0A2 r0n2 gr0c2] 36))
  replace Vmr02 := Lib.hid (Vmr02.out.alloc (.cells #[.int .i64 r0z0, .slice gr0A1 r0n1 gr0c1, .slice gr0A2 r0n2 gr0c2] 36))
  replace Xmr0 := Lib.hid (Xmr0.out.alloc (.cells #[.int .i64 r0z0, .slice gr0A1 r0n1 gr0c1, .slice gr0A2 r0n2 gr0c2] 36))
  replace Ogr01 := Lib.hid (Ogr01.out.alloc (.cells #[.int .i64 r0z0, .slice gr0A1 r0n1 gr0c1, .slice gr0A2 r0n2 gr0c2] 36))
  replace Ogr02 := Lib.hid (Ogr02.out.alloc (.cells #[.int .i64 r0z0, .slice gr0A1 r0n1 gr0c1, .slice gr0A2 r0n2 gr0c2] 36))
  have Xgr0 := Lib.hid (boxed w2 #[.int .i64 r0z0, .slice gr0A1 r0n1 gr0c1, .slice gr0A2 r0n2 gr0c2] 36)
  have c_Xgr0_0 := Xgr0.out.now 0 _ rfl
  have c_Xgr0_1 := Xgr0.out.now 1 _ rfl
  have c_Xgr0_2 := Xgr0.out.now 2 _ rfl
  have c_Xmr0_0 := Xmr0.out.now 0 _ rfl
  have c_Xmr0_1 := Xmr0.out.now 1 _ rfl
  have c_Xmr0_2 := Xmr0.out.now 2 _ rfl
  go_wp2_with fail
  refine (eq_Cuckoo hr0m1 hr0m2 Ogr01.out.orow Ogr02.out.orow Vmr01.out.row Vmr02.out.row).mono ?_; rintro e w3 ⟨rfl, hb⟩
  replace FB := Lib.hid (FB.out.b hb)
  replace Vmr01 := Lib.hid (Vmr01.out.b hb)
  replace Vmr02 := Lib.hid (Vmr02.out.b hb)
  replace Xmr0 := Lib.hid (Xmr0.out.b hb)
  replace Ogr01 := Lib.hid (Ogr01.out.b hb)
  replace Ogr02 := Lib.hid (Ogr02.out.b hb)
  replace Xgr0 := Lib.hid (Xgr0.out.b hb)
  have z_w3 : w2.heap.size + 1 ≤ w3.heap.size := by have hsz := hb.size; first | omega | (simp at hsz; omega)
  clear c_Xgr0_0 c_Xgr0_1 c_Xgr0_2 c_Xmr0_0 c_Xmr0_1 c_Xmr0_2
  clear hb
  have c_Xgr0_0 := Xgr0.out.now 0 _ rfl
  have c_Xgr0_1 := Xgr0.out.now 1 _ rfl
  have c_Xgr0_2 := Xgr0.out.now 2 _ rfl
  go_wp2_with fail
  refine (mark_Cuckoo hr0m1 hr0m2 Ogr01.out.now Ogr02.out.now Ogr01.out.top hap_g_0 (by omega) (by omega)).mono ?_; rintro e w4 ⟨rfl, hm0, hm1, hg⟩
  replace FB := Lib.hid (FB.out.far hg (by omega))
  replace Vmr01 := Lib.hid (Vmr01.out.far hg (by omega))
  replace Vmr02 := Lib.hid (Vmr02.out.far hg (by omega))
  replace Xmr0 := Lib.hid (Xmr0.out.far hg (by omega))
  replace Xgr0 := Lib.hid (Xgr0.out.far hg (by omega))
  have z_w4 : w3.heap.size ≤ w4.heap.size := by have hsz := hg.size; first | omega | (simp at hsz; omega)
  replace Ogr01 := Lib.hid (At.mk hm0 (Nat.le_trans Ogr01.out.top hg.size) (Ow.lives _ _ _ _ _ _))
  replace Ogr02 := Lib.hid (At.mk hm1 (Nat.le_trans Ogr02.out.top hg.size) (Ow.lives _ _ _ _ _ _))
  clear c_Xgr0_0 c_Xgr0_1 c_Xgr0_2
  clear hg hm0 hm1
  have c_Xgr0_0 := Xgr0.out.now 0 _ rfl
  have c_Xgr0_1 := Xgr0.out.now 1 _ rfl
  have c_Xgr0_2 := Xgr0.out.now 2 _ rfl
  go_wp2_with fail
  refine (held_Cuckoo hr0m1 hr0m2 Ogr01.out.orow Ogr02.out.orow (by omega) (by omega)).mono ?_; rintro e w5 ⟨rfl, hb⟩
  replace FB := Lib.hid (FB.out.b hb)
  replace Vmr01 := Lib.hid (Vmr01.out.b hb)
  replace Vmr02 := Lib.hid (Vmr02.out.b hb)
  replace Xmr0 := Lib.hid (Xmr0.out.b hb)
  replace Ogr01 := Lib.hid (Ogr01.out.b hb)
  replace Ogr02 := Lib.hid (Ogr02.out.b hb)
  replace Xgr0 := Lib.hid (Xgr0.out.b hb)
  have z_w5 : w4.heap.size ≤ w5.heap.size := by have hsz := hb.size; first | omega | (simp at hsz; omega)
  clear c_Xgr0_0 c_Xgr0_1 c_Xgr0_2
  clear hb
  go_wp2_with fail
  refine (S2.out _).mono ?_; rintro e w6 ⟨hr0A1, hr0c1, hr0A2, hr0c2, rfl, hrr01, hrr02, hap_h_0, hb⟩
  replace FB := Lib.hid (FB.out.b hb)
  replace Vmr01 := Lib.hid (Vmr01.out.b hb)
  replace Vmr02 := Lib.hid (Vmr02.out.b hb)
  replace Xmr0 := Lib.hid (Xmr0.out.b hb)
  replace Ogr01 := Lib.hid (Ogr01.out.b hb)
  replace Ogr02 := Lib.hid (Ogr02.out.b hb)
  replace Xgr0 := Lib.hid (Xgr0.out.b hb)
  have z_w6 : w5.heap.size ≤ w6.heap.size := by have hsz := hb.size; first | omega | (simp at hsz; omega)
  have Ohr01 := Lib.hid (owned (hrr01.mono (lo' := w5.heap.size) (Nat.le_refl _) (Nat.le_refl _)))
  have Ohr02 := Lib.hid (owned (hrr02.mono (lo' := w5.heap.size) (Nat.le_refl _) (Nat.le_refl _)))
  clear hb hrr01 hrr02
  replace FB := Lib.hid (FB.out.alloc (.cells #[.int .i64 r0z0, .slice hr0A1 r0n1 hr0c1, .slice hr0A2 r0n2 hr0c2] 36))
  replace Vmr01 := Lib.hid (Vmr01.out.alloc (.cells #[.int .i64 r0z0, .slice hr0A1 r0n1 hr0c1, .slice hr0A2 r0n2 hr0c2] 36))
  replace Vmr02 := Lib.hid (Vmr02.out.alloc (.cells #[.int .i64 r0z0, .slice hr0A1 r0n1 hr0c1, .slice hr0A2 r0n2 hr0c2] 36))
  replace Xmr0 := Lib.hid (Xmr0.out.alloc (.cells #[.int .i64 r0z0, .slice hr0A1 r0n1 hr0c1, .slice hr0A2 r0n2 hr0c2] 36))
  replace Ogr01 := Lib.hid (Ogr01.out.alloc (.cells #[.int .i64 r0z0, .slice hr0A1 r0n1 hr0c1, .slice hr0A2 r0n2 hr0c2] 36))
  replace Ogr02 := Lib.hid (Ogr02.out.alloc (.cells #[.int .i64 r0z0, .slice hr0A1 r0n1 hr0c1, .slice hr0A2 r0n2 hr0c2] 36))
  replace Xgr0 := Lib.hid (Xgr0.out.alloc (.cells #[.int .i64 r0z0, .slice hr0A1 r0n1 hr0c1, .slice hr0A2 r0n2 hr0c2] 36))
  replace Ohr01 := Lib.hid (Ohr01.out.alloc (.cells #[.int .i64 r0z0, .slice hr0A1 r0n1 hr0c1, .slice hr0A2 r0n2 hr0c2] 36))
  replace Ohr02 := Lib.hid (Ohr02.out.alloc (.cells #[.int .i64 r0z0, .slice hr0A1 r0n1 hr0c1, .slice hr0A2 r0n2 hr0c2] 36))
  have Xhr0 := Lib.hid (boxed w6 #[.int .i64 r0z0, .slice hr0A1 r0n1 hr0c1, .slice hr0A2 r0n2 hr0c2] 36)
  have c_Xhr0_0 := Xhr0.out.now 0 _ rfl
  have c_Xhr0_1 := Xhr0.out.now 1 _ rfl
  have c_Xhr0_2 := Xhr0.out.now 2 _ rfl
  have c_Xmr0_0 := Xmr0.out.now 0 _ rfl
  have c_Xmr0_1 := Xmr0.out.now 1 _ rfl
  have c_Xmr0_2 := Xmr0.out.now 2 _ rfl
  go_wp2_with fail
  refine (eq_Cuckoo hr0m1 hr0m2 Ohr01.out.orow Ohr02.out.orow Vmr01.out.row Vmr02.out.row).mono ?_; rintro e w7 ⟨rfl, hb⟩
  replace FB := Lib.hid (FB.out.b hb)
  replace Vmr01 := Lib.hid (Vmr01.out.b hb)
  replace Vmr02 := Lib.hid (Vmr02.out.b hb)
  replace Xmr0 := Lib.hid (Xmr0.out.b hb)
  replace Ogr01 := Lib.hid (Ogr01.out.b hb)
  replace Ogr02 := Lib.hid (Ogr02.out.b hb)
  replace Xgr0 := Lib.hid (Xgr0.out.b hb)
  replace Ohr01 := Lib.hid (Ohr01.out.b hb)
  replace Ohr02 := Lib.hid (Ohr02.out.b hb)
  replace Xhr0 := Lib.hid (Xhr0.out.b hb)
  have z_w7 : w6.heap.size + 1 ≤ w7.heap.size := by have hsz := hb.size; first | omega | (simp at hsz; omega)
  clear c_Xhr0_0 c_Xhr0_1 c_Xhr0_2 c_Xmr0_0 c_Xmr0_1 c_Xmr0_2
  clear hb
  have c_Xgr0_0 := Xgr0.out.now 0 _ rfl
  have c_Xgr0_1 := Xgr0.out.now 1 _ rfl
  have c_Xgr0_2 := Xgr0.out.now 2 _ rfl
  go_wp2_with fail
  refine (held_Cuckoo hr0m1 hr0m2 Ogr01.out.orow Ogr02.out.orow (by omega) (by omega)).mono ?_; rintro e w8 ⟨rfl, hb⟩
  replace FB := Lib.hid (FB.out.b hb)
  replace Vmr01 := Lib.hid (Vmr01.out.b hb)
  replace Vmr02 := Lib.hid (Vmr02.out.b hb)
  replace Xmr0 := Lib.hid (Xmr0.out.b hb)
  replace Ogr01 := Lib.hid (Ogr01.out.b hb)
  replace Ogr02 := Lib.hid (Ogr02.out.b hb)
  replace Xgr0 := Lib.hid (Xgr0.out.b hb)
  replace Ohr01 := Lib.hid (Ohr01.out.b hb)
  replace Ohr02 := Lib.hid (Ohr02.out.b hb)
  replace Xhr0 := Lib.hid (Xhr0.out.b hb)
  have z_w8 : w7.heap.size ≤ w8.heap.size := by have hsz := hb.size; first | omega | (simp at hsz; omega)
  clear c_Xgr0_0 c_Xgr0_1 c_Xgr0_2
  clear hb
  go_wp2_with fail
  go_ret
  exact ⟨rfl, FB.out.now⟩
theorem newCu_i {z : Int} {n : Nat} {w : World} (e : Ending) (w' : World) (h : NewCuIs z n w e w') : ∃ vr0A1 vr0c1 vr0A2 vr0c2, e = .returned (.tuple #[.agg #[.int .i64 z, .slice vr0A1 n vr0c1, .slice vr0A2 0 vr0c2], .bool true]) ∧ Ow w.heap.size w'.heap.size 9 vr0A1 n (strV fun _ => ⟨#[]⟩) w' ∧ Ow w.heap.size w'.heap.size 9 vr0A2 0 (strV fun _ => ⟨#[]⟩) w' ∧ Apart n vr0A1 0 vr0A2 ∧ Below w.heap.size w w' := by
  obtain ⟨A, c, he, ho, hb⟩ := h
  exact ⟨A, c, none, 0, he, ho, ow_zero _ _ _ _ _ _, fun _ h => absurd h (by omega), hb⟩
theorem newCu_s {z : Int} {n : Nat} {w : World} (e : Ending) (w' : World) (h : NewCuIs z n w e w') : ∃ vr0A1 vr0c1 vr0A2 vr0c2, e = .returned (.tuple #[.agg #[.int .i64 z, .slice vr0A1 n vr0c1, .slice vr0A2 0 vr0c2], .bool true]) ∧ GRow w' vr0A1 n (strV fun _ => ⟨#[]⟩) ∧ GRow w' vr0A2 0 (strV fun _ => ⟨#[]⟩) ∧ Below w.heap.size w w' := by
  obtain ⟨A, c, he, ho, hb⟩ := h
  exact ⟨A, c, none, 0, he, ho.rd.row (Nat.le_refl _), GRow.zero, hb⟩
theorem noCu_i {w : World} (e : Ending) (w' : World) (h : NoCu w e w') : ∃ vr0A1 vr0c1 vr0A2 vr0c2, e = .returned (.tuple #[.agg #[.int .i64 0, .slice vr0A1 0 vr0c1, .slice vr0A2 0 vr0c2], .bool false]) ∧ Ow w.heap.size w'.heap.size 9 vr0A1 0 (strV fun _ => ⟨#[]⟩) w' ∧ Ow w.heap.size w'.heap.size 9 vr0A2 0 (strV fun _ => ⟨#[]⟩) w' ∧ Apart 0 vr0A1 0 vr0A2 ∧ Below w.heap.size w w' := by
  obtain ⟨he, hb⟩ := h
  exact ⟨none, 0, none, 0, he, ow_zero _ _ _ _ _ _, ow_zero _ _ _ _ _ _, fun h => absurd h (by omega), hb⟩
theorem noCu_s {w : World} (e : Ending) (w' : World) (h : NoCu w e w') : ∃ vr0A1 vr0c1 vr0A2 vr0c2, e = .returned (.tuple #[.agg #[.int .i64 0, .slice vr0A1 0 vr0c1, .slice vr0A2 0 vr0c2], .bool false]) ∧ GRow w' vr0A1 0 (strV fun _ => ⟨#[]⟩) ∧ GRow w' vr0A2 0 (strV fun _ => ⟨#[]⟩) ∧ Below w.heap.size w w' := by
  obtain ⟨he, hb⟩ := h
  exact ⟨none, 0, none, 0, he, GRow.zero, GRow.zero, hb⟩
theorem walk_FnExactNewCuckoo (w : World) (z : Int) (_wz : (Lit.int .i64 z).wf = true) (P : Int) (_wp : (Lit.int .i64 P).wf = true) :
    Calls Try.prog 6 #[.int .i64 z, .int .i64 P] w fun e w' => e = .returned (.bool true) ∧ Below w.heap.size w w' := by
  cases h : sizeB z P with
  | true =>
    have hs := sizeB_out h
    obtain ⟨n, rfl⟩ : ∃ n : Nat, P = n := ⟨P.toNat, by omega⟩
    exact main_FnExactNewCuckoo z n z n _ 0 _ true w (by omega) (by omega) (fun w => (spec_newCu z w n h).mono newCu_s) (fun w => (impl_newCu z w n h).mono newCu_i)
  | false => exact main_FnExactNewCuckoo z P 0 0 _ 0 _ false w (by omega) (by omega) (fun w => (spec_newCu_no z w P h).mono noCu_s) (fun w => (impl_newCu_no z w P h).mono noCu_i)
end Go.Proofs.Ytfjimjbndkhkcaa
