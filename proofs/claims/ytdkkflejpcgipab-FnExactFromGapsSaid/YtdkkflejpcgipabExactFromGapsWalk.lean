/- The law of FromGaps, walked: what both sides answer comes in as hypotheses. -/
import Derived.Test.YtdkkflejpcgipabObjInt
import Derived.Test.YtdkkflejpcgipabFromG
import Derived.Deep.RegionHeld3
namespace Go.Proofs.Ytdkkflejpcgipab
open Go.RowKit

set_option maxRecDepth 100000 in
set_option maxHeartbeats 8000000 in
theorem main_FnExactFromGaps (a0n0 : Nat) (a0X0 : Nat → Int) (r0n0 : Nat) (r0X0 : Nat → Int) (r1z0 : Bool) (a0A0 : Option Addr) (a0c0 : Nat) (w : World) (_ha0m0 : a0n0 ≤ maxLen) (ha0r0 : GRow w a0A0 a0n0 (intV a0X0)) (hr0m0 : r0n0 ≤ 1048576)
    (s1 : a0n0 ≤ 1048576 → ∀ (ua0A0 : Option Addr) (ua0c0 : Nat) (w : World), GRow w ua0A0 a0n0 (intV a0X0) → Calls Try.prog 35 #[.slice ua0A0 a0n0 ua0c0] w fun e w' => ∃ vr0A0 vr0c0, e = .returned (.tuple #[.slice vr0A0 r0n0 vr0c0, .bool r1z0]) ∧ GRow w' vr0A0 r0n0 (intV r0X0) ∧ Below w.heap.size w w')
    (s2 : a0n0 ≤ 1048576 → ∀ (ua0A0 : Option Addr) (ua0c0 : Nat) (w : World), GRow w ua0A0 a0n0 (intV a0X0) → Calls Try.prog 36 #[.slice ua0A0 a0n0 ua0c0] w fun e w' => ∃ vr0A0 vr0c0, e = .returned (.tuple #[.slice vr0A0 r0n0 vr0c0, .bool r1z0]) ∧ Ow w.heap.size w'.heap.size 3 vr0A0 r0n0 (intV r0X0) w' ∧ Below w.heap.size w w') :
    Calls Try.prog 10 #[.slice a0A0 a0n0 a0c0] w fun e w' => e = .returned (.bool true) ∧ Below w.heap.size w w' := by
  have S1 := Lib.hid s1
  have S2 := Lib.hid s2
  clear s1 s2
  have FB := Lib.hid (At.start w)
  have Fa00 := Lib.hid (rd_of_row ha0r0)
  clear ha0r0
  by_cases hlong_a0 : (1048576 : Int) < (a0n0 : Int)
  · go_enter Try.func10, Try.ntmps10
    go_wp2_with fail
    go_ret
    exact ⟨rfl, FB.out.now⟩
  go_enter Try.func10, Try.ntmps10
  replace S1 := Lib.hid (S1.out (by omega))
  replace S2 := Lib.hid (S2.out (by omega))
  have ha0k0 : a0n0 ≤ 1048576 := by omega
  go_wp2_with fail
  refine (to_IntS ha0k0 Fa00.out.row).mono ?_; rintro e w1 ⟨tma0A0, tma0c0, rfl, ho0, hb⟩
  replace FB := Lib.hid (FB.out.b hb)
  replace Fa00 := Lib.hid (Fa00.out.b hb)
  have z_w1 : w.heap.size ≤ w1.heap.size := by have hsz := hb.size; first | omega | (simp at hsz; omega)
  have Otma00 := Lib.hid (owned (ho0.mono (lo' := w.heap.size) (Nat.le_refl _) (Nat.le_refl _)))
  clear hb ho0
  go_wp2_with fail
  refine (S1.out _ _ _ Otma00.out.orow).mono ?_; rintro e w2 ⟨mr0A0, mr0c0, rfl, hrr00, hb⟩
  replace FB := Lib.hid (FB.out.b hb)
  replace Fa00 := Lib.hid (Fa00.out.b hb)
  replace Otma00 := Lib.hid (Otma00.out.b hb)
  have z_w2 : w1.heap.size ≤ w2.heap.size := by have hsz := hb.size; first | omega | (simp at hsz; omega)
  have Vmr00 := Lib.hid (rd_of_row hrr00)
  clear hb hrr00
  clear Otma00
  go_wp2_with fail
  refine (to_IntS ha0k0 Fa00.out.row).mono ?_; rintro e w3 ⟨xa0A0, xa0c0, rfl, ho0, hb⟩
  replace FB := Lib.hid (FB.out.b hb)
  replace Fa00 := Lib.hid (Fa00.out.b hb)
  replace Vmr00 := Lib.hid (Vmr00.out.b hb)
  have z_w3 : w2.heap.size ≤ w3.heap.size := by have hsz := hb.size; first | omega | (simp at hsz; omega)
  have Oxa00 := Lib.hid (owned (ho0.mono (lo' := w2.heap.size) (Nat.le_refl _) (Nat.le_refl _)))
  clear hb ho0
  go_wp2_with fail
  refine (S2.out _ _ _ Oxa00.out.orow).mono ?_; rintro e w4 ⟨gr0A0, gr0c0, rfl, hrr00, hb⟩
  replace FB := Lib.hid (FB.out.b hb)
  replace Fa00 := Lib.hid (Fa00.out.b hb)
  replace Vmr00 := Lib.hid (Vmr00.out.b hb)
  replace Oxa00 := Lib.hid (Oxa00.out.b hb)
  have z_w4 : w3.heap.size ≤ w4.heap.size := by have hsz := hb.size; first | omega | (simp at hsz; omega)
  have Ogr00 := Lib.hid (owned (hrr00.mono (lo' := w3.heap.size) (Nat.le_refl _) (Nat.le_refl _)))
  clear hb hrr00
  go_wp2_with fail
  refine (eq_IntS hr0m0 Ogr00.out.orow Vmr00.out.row).mono ?_; rintro e w5 ⟨rfl, hb⟩
  replace FB := Lib.hid (FB.out.b hb)
  replace Fa00 := Lib.hid (Fa00.out.b hb)
  replace Vmr00 := Lib.hid (Vmr00.out.b hb)
  replace Oxa00 := Lib.hid (Oxa00.out.b hb)
  replace Ogr00 := Lib.hid (Ogr00.out.b hb)
  have z_w5 : w4.heap.size ≤ w5.heap.size := by have hsz := hb.size; first | omega | (simp at hsz; omega)
  clear hb
  go_wp2_with fail
  refine (to_IntS ha0k0 Fa00.out.row).mono ?_; rintro e w6 ⟨ya0A0, ya0c0, rfl, ho0, hb⟩
  replace FB := Lib.hid (FB.out.b hb)
  replace Fa00 := Lib.hid (Fa00.out.b hb)
  replace Vmr00 := Lib.hid (Vmr00.out.b hb)
  replace Oxa00 := Lib.hid (Oxa00.out.b hb)
  replace Ogr00 := Lib.hid (Ogr00.out.b hb)
  have z_w6 : w5.heap.size ≤ w6.heap.size := by have hsz := hb.size; first | omega | (simp at hsz; omega)
  have Oya00 := Lib.hid (owned (ho0.mono (lo' := w5.heap.size) (Nat.le_refl _) (Nat.le_refl _)))
  clear hb ho0
  go_wp2_with fail
  refine (eq_IntS ha0k0 Oxa00.out.orow Oya00.out.orow).mono ?_; rintro e w7 ⟨rfl, hb⟩
  replace FB := Lib.hid (FB.out.b hb)
  replace Fa00 := Lib.hid (Fa00.out.b hb)
  replace Vmr00 := Lib.hid (Vmr00.out.b hb)
  replace Oxa00 := Lib.hid (Oxa00.out.b hb)
  replace Ogr00 := Lib.hid (Ogr00.out.b hb)
  replace Oya00 := Lib.hid (Oya00.out.b hb)
  have z_w7 : w6.heap.size ≤ w7.heap.size := by have hsz := hb.size; first | omega | (simp at hsz; omega)
  clear hb
  clear Oya00
  go_wp2_with fail
  refine (mark_IntS ha0k0 Oxa00.out.now Oxa00.out.top (by omega) (by omega)).mono ?_; rintro e w8 ⟨rfl, hm0, hg⟩
  replace FB := Lib.hid (FB.out.far hg (by omega))
  replace Fa00 := Lib.hid (Fa00.out.far hg (by omega))
  replace Vmr00 := Lib.hid (Vmr00.out.far hg (by omega))
  replace Ogr00 := Lib.hid (Ogr00.out.far hg (by omega))
  have z_w8 : w7.heap.size ≤ w8.heap.size := by have hsz := hg.size; first | omega | (simp at hsz; omega)
  replace Oxa00 := Lib.hid (At.mk hm0 (Nat.le_trans Oxa00.out.top hg.size) (Ow.lives _ _ _ _ _ _))
  clear hg hm0
  clear Oxa00
  go_wp2_with fail
  refine (eq_IntS hr0m0 Ogr00.out.orow Vmr00.out.row).mono ?_; rintro e w9 ⟨rfl, hb⟩
  replace FB := Lib.hid (FB.out.b hb)
  replace Fa00 := Lib.hid (Fa00.out.b hb)
  replace Vmr00 := Lib.hid (Vmr00.out.b hb)
  replace Ogr00 := Lib.hid (Ogr00.out.b hb)
  have z_w9 : w8.heap.size ≤ w9.heap.size := by have hsz := hb.size; first | omega | (simp at hsz; omega)
  clear hb
  go_wp2_with fail
  refine (mark_IntS hr0m0 Ogr00.out.now Ogr00.out.top (by omega) (by omega)).mono ?_; rintro e w10 ⟨rfl, hm0, hg⟩
  replace FB := Lib.hid (FB.out.far hg (by omega))
  replace Fa00 := Lib.hid (Fa00.out.far hg (by omega))
  replace Vmr00 := Lib.hid (Vmr00.out.far hg (by omega))
  have z_w10 : w9.heap.size ≤ w10.heap.size := by have hsz := hg.size; first | omega | (simp at hsz; omega)
  replace Ogr00 := Lib.hid (At.mk hm0 (Nat.le_trans Ogr00.out.top hg.size) (Ow.lives _ _ _ _ _ _))
  clear hg hm0
  go_wp2_with fail
  refine (held_IntS hr0m0 Ogr00.out.orow (by omega) (by omega)).mono ?_; rintro e w11 ⟨rfl, hb⟩
  replace FB := Lib.hid (FB.out.b hb)
  replace Fa00 := Lib.hid (Fa00.out.b hb)
  replace Vmr00 := Lib.hid (Vmr00.out.b hb)
  replace Ogr00 := Lib.hid (Ogr00.out.b hb)
  have z_w11 : w10.heap.size ≤ w11.heap.size := by have hsz := hb.size; first | omega | (simp at hsz; omega)
  clear hb
  go_wp2_with fail
  refine (to_IntS ha0k0 Fa00.out.row).mono ?_; rintro e w12 ⟨tha0A0, tha0c0, rfl, ho0, hb⟩
  replace FB := Lib.hid (FB.out.b hb)
  replace Fa00 := Lib.hid (Fa00.out.b hb)
  replace Vmr00 := Lib.hid (Vmr00.out.b hb)
  replace Ogr00 := Lib.hid (Ogr00.out.b hb)
  have z_w12 : w11.heap.size ≤ w12.heap.size := by have hsz := hb.size; first | omega | (simp at hsz; omega)
  have Otha00 := Lib.hid (owned (ho0.mono (lo' := w11.heap.size) (Nat.le_refl _) (Nat.le_refl _)))
  clear hb ho0
  go_wp2_with fail
  refine (S2.out _ _ _ Otha00.out.orow).mono ?_; rintro e w13 ⟨hr0A0, hr0c0, rfl, hrr00, hb⟩
  replace FB := Lib.hid (FB.out.b hb)
  replace Fa00 := Lib.hid (Fa00.out.b hb)
  replace Vmr00 := Lib.hid (Vmr00.out.b hb)
  replace Ogr00 := Lib.hid (Ogr00.out.b hb)
  replace Otha00 := Lib.hid (Otha00.out.b hb)
  have z_w13 : w12.heap.size ≤ w13.heap.size := by have hsz := hb.size; first | omega | (simp at hsz; omega)
  have Ohr00 := Lib.hid (owned (hrr00.mono (lo' := w12.heap.size) (Nat.le_refl _) (Nat.le_refl _)))
  clear hb hrr00
  clear Otha00
  go_wp2_with fail
  refine (eq_IntS hr0m0 Ohr00.out.orow Vmr00.out.row).mono ?_; rintro e w14 ⟨rfl, hb⟩
  replace FB := Lib.hid (FB.out.b hb)
  replace Fa00 := Lib.hid (Fa00.out.b hb)
  replace Vmr00 := Lib.hid (Vmr00.out.b hb)
  replace Ogr00 := Lib.hid (Ogr00.out.b hb)
  replace Ohr00 := Lib.hid (Ohr00.out.b hb)
  have z_w14 : w13.heap.size ≤ w14.heap.size := by have hsz := hb.size; first | omega | (simp at hsz; omega)
  clear hb
  go_wp2_with fail
  refine (held_IntS hr0m0 Ogr00.out.orow (by omega) (by omega)).mono ?_; rintro e w15 ⟨rfl, hb⟩
  replace FB := Lib.hid (FB.out.b hb)
  replace Fa00 := Lib.hid (Fa00.out.b hb)
  replace Vmr00 := Lib.hid (Vmr00.out.b hb)
  replace Ogr00 := Lib.hid (Ogr00.out.b hb)
  replace Ohr00 := Lib.hid (Ohr00.out.b hb)
  have z_w15 : w14.heap.size ≤ w15.heap.size := by have hsz := hb.size; first | omega | (simp at hsz; omega)
  clear hb
  go_wp2_with fail
  go_ret
  exact ⟨rfl, FB.out.now⟩

theorem walk_FnExactFromGaps (w : World) (A : Option Addr) (n c : Nat) (X : Nat → Int) (hm : n ≤ maxLen) (hr : IRow w A n X) :
    Calls Try.prog 10 #[.slice A n c] w fun e w' => e = .returned (.bool true) ∧ Below w.heap.size w w' := by
  by_cases hg : n ≤ 60 ∧ FromOk n X
  · obtain ⟨h60, hg⟩ := hg
    exact main_FnExactFromGaps n X n (fromF X) true A c w hm hr (by omega)
      (fun _ A c w h => (spec_fromGaps A n c X w h h60 hg.1).mono fun e w' h => by obtain ⟨A', c', h1, h2, h3⟩ := h.1 hg; exact ⟨A', c', h1, h2.rd.row (Nat.le_refl _), h3⟩)
      (fun _ A c w h => (impl_fromGaps A n c X w h60 h).mono fun e w' h => h.1 hg)
  · refine main_FnExactFromGaps n X 0 (fun _ => 0) false A c w hm hr (by omega) ?_ ?_
    · intro hn A c w h
      by_cases hc : n ≤ 60 ∧ InAll n X 1 100000
      · exact (spec_fromGaps A n c X w h hc.1 hc.2).mono fun e w' h => by obtain ⟨A', c', h1, h2, h3⟩ := h.2 (fun hr => hg ⟨hc.1, hr⟩); exact ⟨A', c', h1, h2.rd.row (Nat.le_refl _), h3⟩
      · exact (spec_fromGaps_coded A n c X w hn h hc).mono fun e w' ⟨A', c', h1, h2, h3⟩ => ⟨A', c', h1, h2.rd.row (Nat.le_refl _), h3⟩
    · intro hn A c w h
      by_cases h60 : n ≤ 60
      · exact (impl_fromGaps A n c X w h60 h).mono fun e w' h => h.2 (fun hr => hg ⟨h60, hr⟩)
      · exact impl_fromGaps_long A n c w (by omega) hn
end Go.Proofs.Ytdkkflejpcgipab
