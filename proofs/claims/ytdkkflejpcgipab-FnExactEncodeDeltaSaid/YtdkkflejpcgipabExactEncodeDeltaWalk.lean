/- The law of EncodeDelta, walked: what both sides answer comes in as hypotheses. -/
import Derived.Test.YtdkkflejpcgipabObjInt
import Derived.Test.YtdkkflejpcgipabEncM
import Derived.Deep.RegionHeld3
namespace Go.Proofs.Ytdkkflejpcgipab
open Go.RowKit

set_option maxRecDepth 100000 in
set_option maxHeartbeats 8000000 in
theorem main_FnExactEncodeDelta (a0n0 : Nat) (a0X0 : Nat → Int) (r0z0 : Int) (r0n1 : Nat) (r0X1 : Nat → Int) (r1z0 : Bool) (a0A0 : Option Addr) (a0c0 : Nat) (w : World) (_ha0m0 : a0n0 ≤ maxLen) (ha0r0 : GRow w a0A0 a0n0 (intV a0X0)) (hr0m1 : r0n1 ≤ 1048576)
    (s1 : a0n0 ≤ 1048576 → ∀ (ua0A0 : Option Addr) (ua0c0 : Nat) (w : World), GRow w ua0A0 a0n0 (intV a0X0) → Calls Try.prog 29 #[.slice ua0A0 a0n0 ua0c0] w fun e w' => ∃ vr0A1 vr0c1, e = .returned (.tuple #[.agg #[.int .i64 r0z0, .slice vr0A1 r0n1 vr0c1], .bool r1z0]) ∧ GRow w' vr0A1 r0n1 (intV r0X1) ∧ Below w.heap.size w w')
    (s2 : a0n0 ≤ 1048576 → ∀ (ua0A0 : Option Addr) (ua0c0 : Nat) (w : World), GRow w ua0A0 a0n0 (intV a0X0) → Calls Try.prog 30 #[.slice ua0A0 a0n0 ua0c0] w fun e w' => ∃ vr0A1 vr0c1, e = .returned (.tuple #[.agg #[.int .i64 r0z0, .slice vr0A1 r0n1 vr0c1], .bool r1z0]) ∧ Ow w.heap.size w'.heap.size 3 vr0A1 r0n1 (intV r0X1) w' ∧ Below w.heap.size w w') :
    Calls Try.prog 7 #[.slice a0A0 a0n0 a0c0] w fun e w' => e = .returned (.bool true) ∧ Below w.heap.size w w' := by
  have S1 := Lib.hid s1
  have S2 := Lib.hid s2
  clear s1 s2
  have FB := Lib.hid (At.start w)
  have Fa00 := Lib.hid (rd_of_row ha0r0)
  clear ha0r0
  by_cases hlong_a0 : (1048576 : Int) < (a0n0 : Int)
  · go_enter Try.func7, Try.ntmps7
    go_wp2_with fail
    go_ret
    exact ⟨rfl, FB.out.now⟩
  go_enter Try.func7, Try.ntmps7
  replace S1 := Lib.hid (S1.out (by omega))
  replace S2 := Lib.hid (S2.out (by omega))
  have ha0k0 : a0n0 ≤ 1048576 := by omega
  go_wp2_with fail
  refine (to_IntS ha0k0 Fa00.out.row).mono ?_; rintro e w1 ⟨tma0A0, tma0c0, rfl, ho0, hb⟩
  replace FB := Lib.hid (FB.out.b hb)
  replace Fa00 := Lib.hid (Fa00.out.b hb)
  have z_w1 : w.heap.size ≤ w1.heap.size := by have hsz := hb.size; first | omega | (simp at hsz; omega)
  have Otma00 := Lib.hid (owned (ho0.mono (lo' := w.heap.size) (Nat.le_refl _) (Nat.le_refl _)))
  clear hb ho0
  go_wp2_with fail
  refine (S1.out _ _ _ Otma00.out.orow).mono ?_; rintro e w2 ⟨mr0A1, mr0c1, rfl, hrr01, hb⟩
  replace FB := Lib.hid (FB.out.b hb)
  replace Fa00 := Lib.hid (Fa00.out.b hb)
  replace Otma00 := Lib.hid (Otma00.out.b hb)
  have z_w2 : w1.heap.size ≤ w2.heap.size := by have hsz := hb.size; first | omega | (simp at hsz; omega)
  have Vmr01 := Lib.hid (rd_of_row hrr01)
  clear hb hrr01
  clear Otma00
  replace FB := Lib.hid (FB.out.alloc (.cells #[.int .i64 r0z0, .slice mr0A1 r0n1 mr0c1] 27))
  replace Fa00 := Lib.hid (Fa00.out.alloc (.cells #[.int .i64 r0z0, .slice mr0A1 r0n1 mr0c1] 27))
  replace Vmr01 := Lib.hid (Vmr01.out.alloc (.cells #[.int .i64 r0z0, .slice mr0A1 r0n1 mr0c1] 27))
  have Xmr0 := Lib.hid (boxed w2 #[.int .i64 r0z0, .slice mr0A1 r0n1 mr0c1] 27)
  go_wp2_with fail
  refine (to_IntS ha0k0 Fa00.out.row).mono ?_; rintro e w3 ⟨xa0A0, xa0c0, rfl, ho0, hb⟩
  replace FB := Lib.hid (FB.out.b hb)
  replace Fa00 := Lib.hid (Fa00.out.b hb)
  replace Vmr01 := Lib.hid (Vmr01.out.b hb)
  replace Xmr0 := Lib.hid (Xmr0.out.b hb)
  have z_w3 : w2.heap.size + 1 ≤ w3.heap.size := by have hsz := hb.size; first | omega | (simp at hsz; omega)
  have Oxa00 := Lib.hid (owned (ho0.mono (lo' := w2.heap.size + 1) (by simp) (Nat.le_refl _)))
  clear hb ho0
  go_wp2_with fail
  refine (S2.out _ _ _ Oxa00.out.orow).mono ?_; rintro e w4 ⟨gr0A1, gr0c1, rfl, hrr01, hb⟩
  replace FB := Lib.hid (FB.out.b hb)
  replace Fa00 := Lib.hid (Fa00.out.b hb)
  replace Vmr01 := Lib.hid (Vmr01.out.b hb)
  replace Xmr0 := Lib.hid (Xmr0.out.b hb)
  replace Oxa00 := Lib.hid (Oxa00.out.b hb)
  have z_w4 : w3.heap.size ≤ w4.heap.size := by have hsz := hb.size; first | omega | (simp at hsz; omega)
  have Ogr01 := Lib.hid (owned (hrr01.mono (lo' := w3.heap.size) (Nat.le_refl _) (Nat.le_refl _)))
  clear hb hrr01
  replace FB := Lib.hid (FB.out.alloc (.cells #[.int .i64 r0z0, .slice gr0A1 r0n1 gr0c1] 27))
  replace Fa00 := Lib.hid (Fa00.out.alloc (.cells #[.int .i64 r0z0, .slice gr0A1 r0n1 gr0c1] 27))
  replace Vmr01 := Lib.hid (Vmr01.out.alloc (.cells #[.int .i64 r0z0, .slice gr0A1 r0n1 gr0c1] 27))
  replace Xmr0 := Lib.hid (Xmr0.out.alloc (.cells #[.int .i64 r0z0, .slice gr0A1 r0n1 gr0c1] 27))
  replace Oxa00 := Lib.hid (Oxa00.out.alloc (.cells #[.int .i64 r0z0, .slice gr0A1 r0n1 gr0c1] 27))
  replace Ogr01 := Lib.hid (Ogr01.out.alloc (.cells #[.int .i64 r0z0, .slice gr0A1 r0n1 gr0c1] 27))
  have Xgr0 := Lib.hid (boxed w4 #[.int .i64 r0z0, .slice gr0A1 r0n1 gr0c1] 27)
  have c_Xgr0_0 := Xgr0.out.now 0 _ rfl
  have c_Xgr0_1 := Xgr0.out.now 1 _ rfl
  have c_Xmr0_0 := Xmr0.out.now 0 _ rfl
  have c_Xmr0_1 := Xmr0.out.now 1 _ rfl
  go_wp2_with fail
  refine (eq_Bits hr0m1 Ogr01.out.orow Vmr01.out.row).mono ?_; rintro e w5 ⟨rfl, hb⟩
  replace FB := Lib.hid (FB.out.b hb)
  replace Fa00 := Lib.hid (Fa00.out.b hb)
  replace Vmr01 := Lib.hid (Vmr01.out.b hb)
  replace Xmr0 := Lib.hid (Xmr0.out.b hb)
  replace Oxa00 := Lib.hid (Oxa00.out.b hb)
  replace Ogr01 := Lib.hid (Ogr01.out.b hb)
  replace Xgr0 := Lib.hid (Xgr0.out.b hb)
  have z_w5 : w4.heap.size + 1 ≤ w5.heap.size := by have hsz := hb.size; first | omega | (simp at hsz; omega)
  clear c_Xgr0_0 c_Xgr0_1 c_Xmr0_0 c_Xmr0_1
  clear hb
  go_wp2_with fail
  refine (to_IntS ha0k0 Fa00.out.row).mono ?_; rintro e w6 ⟨ya0A0, ya0c0, rfl, ho0, hb⟩
  replace FB := Lib.hid (FB.out.b hb)
  replace Fa00 := Lib.hid (Fa00.out.b hb)
  replace Vmr01 := Lib.hid (Vmr01.out.b hb)
  replace Xmr0 := Lib.hid (Xmr0.out.b hb)
  replace Oxa00 := Lib.hid (Oxa00.out.b hb)
  replace Ogr01 := Lib.hid (Ogr01.out.b hb)
  replace Xgr0 := Lib.hid (Xgr0.out.b hb)
  have z_w6 : w5.heap.size ≤ w6.heap.size := by have hsz := hb.size; first | omega | (simp at hsz; omega)
  have Oya00 := Lib.hid (owned (ho0.mono (lo' := w5.heap.size) (Nat.le_refl _) (Nat.le_refl _)))
  clear hb ho0
  go_wp2_with fail
  refine (eq_IntS ha0k0 Oxa00.out.orow Oya00.out.orow).mono ?_; rintro e w7 ⟨rfl, hb⟩
  replace FB := Lib.hid (FB.out.b hb)
  replace Fa00 := Lib.hid (Fa00.out.b hb)
  replace Vmr01 := Lib.hid (Vmr01.out.b hb)
  replace Xmr0 := Lib.hid (Xmr0.out.b hb)
  replace Oxa00 := Lib.hid (Oxa00.out.b hb)
  replace Ogr01 := Lib.hid (Ogr01.out.b hb)
  replace Xgr0 := Lib.hid (Xgr0.out.b hb)
  replace Oya00 := Lib.hid (Oya00.out.b hb)
  have z_w7 : w6.heap.size ≤ w7.heap.size := by have hsz := hb.size; first | omega | (simp at hsz; omega)
  clear hb
  clear Oya00
  go_wp2_with fail
  refine (mark_IntS ha0k0 Oxa00.out.now Oxa00.out.top (by omega) (by omega)).mono ?_; rintro e w8 ⟨rfl, hm0, hg⟩
  replace FB := Lib.hid (FB.out.far hg (by omega))
  replace Fa00 := Lib.hid (Fa00.out.far hg (by omega))
  replace Vmr01 := Lib.hid (Vmr01.out.far hg (by omega))
  replace Xmr0 := Lib.hid (Xmr0.out.far hg (by omega))
  replace Ogr01 := Lib.hid (Ogr01.out.far hg (by omega))
  replace Xgr0 := Lib.hid (Xgr0.out.far hg (by omega))
  have z_w8 : w7.heap.size ≤ w8.heap.size := by have hsz := hg.size; first | omega | (simp at hsz; omega)
  replace Oxa00 := Lib.hid (At.mk hm0 (Nat.le_trans Oxa00.out.top hg.size) (Ow.lives _ _ _ _ _ _))
  clear hg hm0
  clear Oxa00
  have c_Xgr0_0 := Xgr0.out.now 0 _ rfl
  have c_Xgr0_1 := Xgr0.out.now 1 _ rfl
  have c_Xmr0_0 := Xmr0.out.now 0 _ rfl
  have c_Xmr0_1 := Xmr0.out.now 1 _ rfl
  go_wp2_with fail
  refine (eq_Bits hr0m1 Ogr01.out.orow Vmr01.out.row).mono ?_; rintro e w9 ⟨rfl, hb⟩
  replace FB := Lib.hid (FB.out.b hb)
  replace Fa00 := Lib.hid (Fa00.out.b hb)
  replace Vmr01 := Lib.hid (Vmr01.out.b hb)
  replace Xmr0 := Lib.hid (Xmr0.out.b hb)
  replace Ogr01 := Lib.hid (Ogr01.out.b hb)
  replace Xgr0 := Lib.hid (Xgr0.out.b hb)
  have z_w9 : w8.heap.size ≤ w9.heap.size := by have hsz := hb.size; first | omega | (simp at hsz; omega)
  clear c_Xgr0_0 c_Xgr0_1 c_Xmr0_0 c_Xmr0_1
  clear hb
  have c_Xgr0_0 := Xgr0.out.now 0 _ rfl
  have c_Xgr0_1 := Xgr0.out.now 1 _ rfl
  go_wp2_with fail
  refine (mark_Bits hr0m1 Ogr01.out.now Ogr01.out.top (by omega) (by omega)).mono ?_; rintro e w10 ⟨rfl, hm0, hg⟩
  replace FB := Lib.hid (FB.out.far hg (by omega))
  replace Fa00 := Lib.hid (Fa00.out.far hg (by omega))
  replace Vmr01 := Lib.hid (Vmr01.out.far hg (by omega))
  replace Xmr0 := Lib.hid (Xmr0.out.far hg (by omega))
  replace Xgr0 := Lib.hid (Xgr0.out.far hg (by omega))
  have z_w10 : w9.heap.size ≤ w10.heap.size := by have hsz := hg.size; first | omega | (simp at hsz; omega)
  replace Ogr01 := Lib.hid (At.mk hm0 (Nat.le_trans Ogr01.out.top hg.size) (Ow.lives _ _ _ _ _ _))
  clear c_Xgr0_0 c_Xgr0_1
  clear hg hm0
  have c_Xgr0_0 := Xgr0.out.now 0 _ rfl
  have c_Xgr0_1 := Xgr0.out.now 1 _ rfl
  go_wp2_with fail
  refine (held_Bits hr0m1 Ogr01.out.orow (by omega) (by omega)).mono ?_; rintro e w11 ⟨rfl, hb⟩
  replace FB := Lib.hid (FB.out.b hb)
  replace Fa00 := Lib.hid (Fa00.out.b hb)
  replace Vmr01 := Lib.hid (Vmr01.out.b hb)
  replace Xmr0 := Lib.hid (Xmr0.out.b hb)
  replace Ogr01 := Lib.hid (Ogr01.out.b hb)
  replace Xgr0 := Lib.hid (Xgr0.out.b hb)
  have z_w11 : w10.heap.size ≤ w11.heap.size := by have hsz := hb.size; first | omega | (simp at hsz; omega)
  clear c_Xgr0_0 c_Xgr0_1
  clear hb
  go_wp2_with fail
  refine (to_IntS ha0k0 Fa00.out.row).mono ?_; rintro e w12 ⟨tha0A0, tha0c0, rfl, ho0, hb⟩
  replace FB := Lib.hid (FB.out.b hb)
  replace Fa00 := Lib.hid (Fa00.out.b hb)
  replace Vmr01 := Lib.hid (Vmr01.out.b hb)
  replace Xmr0 := Lib.hid (Xmr0.out.b hb)
  replace Ogr01 := Lib.hid (Ogr01.out.b hb)
  replace Xgr0 := Lib.hid (Xgr0.out.b hb)
  have z_w12 : w11.heap.size ≤ w12.heap.size := by have hsz := hb.size; first | omega | (simp at hsz; omega)
  have Otha00 := Lib.hid (owned (ho0.mono (lo' := w11.heap.size) (Nat.le_refl _) (Nat.le_refl _)))
  clear hb ho0
  go_wp2_with fail
  refine (S2.out _ _ _ Otha00.out.orow).mono ?_; rintro e w13 ⟨hr0A1, hr0c1, rfl, hrr01, hb⟩
  replace FB := Lib.hid (FB.out.b hb)
  replace Fa00 := Lib.hid (Fa00.out.b hb)
  replace Vmr01 := Lib.hid (Vmr01.out.b hb)
  replace Xmr0 := Lib.hid (Xmr0.out.b hb)
  replace Ogr01 := Lib.hid (Ogr01.out.b hb)
  replace Xgr0 := Lib.hid (Xgr0.out.b hb)
  replace Otha00 := Lib.hid (Otha00.out.b hb)
  have z_w13 : w12.heap.size ≤ w13.heap.size := by have hsz := hb.size; first | omega | (simp at hsz; omega)
  have Ohr01 := Lib.hid (owned (hrr01.mono (lo' := w12.heap.size) (Nat.le_refl _) (Nat.le_refl _)))
  clear hb hrr01
  clear Otha00
  replace FB := Lib.hid (FB.out.alloc (.cells #[.int .i64 r0z0, .slice hr0A1 r0n1 hr0c1] 27))
  replace Fa00 := Lib.hid (Fa00.out.alloc (.cells #[.int .i64 r0z0, .slice hr0A1 r0n1 hr0c1] 27))
  replace Vmr01 := Lib.hid (Vmr01.out.alloc (.cells #[.int .i64 r0z0, .slice hr0A1 r0n1 hr0c1] 27))
  replace Xmr0 := Lib.hid (Xmr0.out.alloc (.cells #[.int .i64 r0z0, .slice hr0A1 r0n1 hr0c1] 27))
  replace Ogr01 := Lib.hid (Ogr01.out.alloc (.cells #[.int .i64 r0z0, .slice hr0A1 r0n1 hr0c1] 27))
  replace Xgr0 := Lib.hid (Xgr0.out.alloc (.cells #[.int .i64 r0z0, .slice hr0A1 r0n1 hr0c1] 27))
  replace Ohr01 := Lib.hid (Ohr01.out.alloc (.cells #[.int .i64 r0z0, .slice hr0A1 r0n1 hr0c1] 27))
  have Xhr0 := Lib.hid (boxed w13 #[.int .i64 r0z0, .slice hr0A1 r0n1 hr0c1] 27)
  have c_Xhr0_0 := Xhr0.out.now 0 _ rfl
  have c_Xhr0_1 := Xhr0.out.now 1 _ rfl
  have c_Xmr0_0 := Xmr0.out.now 0 _ rfl
  have c_Xmr0_1 := Xmr0.out.now 1 _ rfl
  go_wp2_with fail
  refine (eq_Bits hr0m1 Ohr01.out.orow Vmr01.out.row).mono ?_; rintro e w14 ⟨rfl, hb⟩
  replace FB := Lib.hid (FB.out.b hb)
  replace Fa00 := Lib.hid (Fa00.out.b hb)
  replace Vmr01 := Lib.hid (Vmr01.out.b hb)
  replace Xmr0 := Lib.hid (Xmr0.out.b hb)
  replace Ogr01 := Lib.hid (Ogr01.out.b hb)
  replace Xgr0 := Lib.hid (Xgr0.out.b hb)
  replace Ohr01 := Lib.hid (Ohr01.out.b hb)
  replace Xhr0 := Lib.hid (Xhr0.out.b hb)
  have z_w14 : w13.heap.size + 1 ≤ w14.heap.size := by have hsz := hb.size; first | omega | (simp at hsz; omega)
  clear c_Xhr0_0 c_Xhr0_1 c_Xmr0_0 c_Xmr0_1
  clear hb
  have c_Xgr0_0 := Xgr0.out.now 0 _ rfl
  have c_Xgr0_1 := Xgr0.out.now 1 _ rfl
  go_wp2_with fail
  refine (held_Bits hr0m1 Ogr01.out.orow (by omega) (by omega)).mono ?_; rintro e w15 ⟨rfl, hb⟩
  replace FB := Lib.hid (FB.out.b hb)
  replace Fa00 := Lib.hid (Fa00.out.b hb)
  replace Vmr01 := Lib.hid (Vmr01.out.b hb)
  replace Xmr0 := Lib.hid (Xmr0.out.b hb)
  replace Ogr01 := Lib.hid (Ogr01.out.b hb)
  replace Xgr0 := Lib.hid (Xgr0.out.b hb)
  replace Ohr01 := Lib.hid (Ohr01.out.b hb)
  replace Xhr0 := Lib.hid (Xhr0.out.b hb)
  have z_w15 : w14.heap.size ≤ w15.heap.size := by have hsz := hb.size; first | omega | (simp at hsz; omega)
  clear c_Xgr0_0 c_Xgr0_1
  clear hb
  go_wp2_with fail
  go_ret
  exact ⟨rfl, FB.out.now⟩
theorem walk_FnExactEncodeDelta (w : World) (A : Option Addr) (n c : Nat) (X : Nat → Int) (hm : n ≤ maxLen) (hr : IRow w A n X) :
    Calls Try.prog 7 #[.slice A n c] w fun e w' => e = .returned (.bool true) ∧ Below w.heap.size w w' := by
  by_cases hg : n ≤ 60 ∧ InAll n X 1 100000
  · obtain ⟨h60, hg⟩ := hg
    have hle := catS_le (sz := delS X) n (fun i hi => delS_le (hg i hi))
    exact main_FnExactEncodeDelta n X (catS (delS X) n) ((catS (delS X) n + 15) / 16) (fun i => (wordsOf (catB (delS X) (delF X) n) i : Int)) true A c w hm hr (by omega)
      (fun _ A c w h => (spec_encDelta A n c _ X w h h60 hg rfl).mono fun e w' ⟨A', c', h1, h2, h3⟩ => ⟨A', c', h1, h2.row, h3⟩)
      (fun _ A c w h => (impl_encDelta A n c _ X w h h60 hg rfl).mono OwnIs.post)
  · exact main_FnExactEncodeDelta n X 0 0 (fun _ => 0) false A c w hm hr (by omega)
      (fun hn A c w h => (spec_encDelta_no A n c X w hn h hg).mono fun e w' ⟨A', c', h1, h2, h3⟩ => ⟨A', c', h1, h2.row, h3⟩)
      (fun _ A c w h => (impl_encDelta_no A n c X w h hg).mono OwnIs.post)
end Go.Proofs.Ytdkkflejpcgipab
