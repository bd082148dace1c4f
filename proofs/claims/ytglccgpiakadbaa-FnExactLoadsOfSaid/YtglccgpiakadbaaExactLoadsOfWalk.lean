/- The law of LoadsOf, walked: what both sides answer comes in as hypotheses. -/
import Derived.Test.YtglccgpiakadbaaObjStr
import Derived.Test.YtglccgpiakadbaaLoads
import Derived.Deep.RegionHeld3
namespace Go.Proofs.Ytglccgpiakadbaa
open Go.RowKit

set_option maxRecDepth 100000 in
set_option maxHeartbeats 8000000 in
theorem main_FnExactLoadsOf (a0z0 : Int) (a1z0 : Int) (a2n0 : Nat) (a2X0 : Nat → ByteArray) (a3z0 : Int) (r0n0 : Nat) (r0X0 : Nat → Int) (r1z0 : Bool) (a2A0 : Option Addr) (a2c0 : Nat) (w : World) (ha2m0 : a2n0 ≤ maxLen) (ha2r0 : GRow w a2A0 a2n0 (strV a2X0)) (ha2s0 : ∀ i, i < a2n0 → (a2X0 i).size ≤ maxLen) (hr0m0 : r0n0 ≤ 1048576)
    (s1 : a2n0 + (sizeS a2X0 a2n0) ≤ 1048576 → ∀ (ua2A0 : Option Addr) (ua2c0 : Nat) (w : World), GRow w ua2A0 a2n0 (strV a2X0) → Calls Try.prog 76 #[.int .i64 a0z0, .int .i64 a1z0, .slice ua2A0 a2n0 ua2c0, .int .i64 a3z0] w fun e w' => ∃ vr0A0 vr0c0, e = .returned (.tuple #[.slice vr0A0 r0n0 vr0c0, .bool r1z0]) ∧ GRow w' vr0A0 r0n0 (intV r0X0) ∧ Below w.heap.size w w')
    (s2 : a2n0 + (sizeS a2X0 a2n0) ≤ 1048576 → ∀ (ua2A0 : Option Addr) (ua2c0 : Nat) (w : World), GRow w ua2A0 a2n0 (strV a2X0) → Calls Try.prog 77 #[.int .i64 a0z0, .int .i64 a1z0, .slice ua2A0 a2n0 ua2c0, .int .i64 a3z0] w fun e w' => ∃ vr0A0 vr0c0, e = .returned (.tuple #[.slice vr0A0 r0n0 vr0c0, .bool r1z0]) ∧ Ow w.heap.size w'.heap.size 3 vr0A0 r0n0 (intV r0X0) w' ∧ Below w.heap.size w w') :
    Calls Try.prog 25 #[.int .i64 a0z0, .int .i64 a1z0, .slice a2A0 a2n0 a2c0, .int .i64 a3z0] w fun e w' => e = .returned (.bool true) ∧ Below w.heap.size w w' := by
  have S1 := Lib.hid s1
  have S2 := Lib.hid s2
  clear s1 s2
  have FB := Lib.hid (At.start w)
  have Fa20 := Lib.hid (rd_of_row ha2r0)
  clear ha2r0
  go_enter Try.func25, Try.ntmps25
  go_wp2_with fail
  refine (sz_StringS ha2m0 ha2s0 Fa20.out.row (by omega) (by omega)).mono ?_; rintro e w1 ⟨rfl, hb⟩
  replace FB := Lib.hid (FB.out.b hb)
  replace Fa20 := Lib.hid (Fa20.out.b hb)
  have z_w1 : w.heap.size ≤ w1.heap.size := by have hsz := hb.size; first | omega | (simp at hsz; omega)
  clear hb
  by_cases hZ_a2 : ((a2n0 + (sizeS a2X0 a2n0) : Nat) : Int) ≤ (1048576 : Int)
  rotate_left
  · rw [szv_no hZ_a2]
    go_wp2_with fail
    go_ret
    exact ⟨rfl, FB.out.now⟩
  rw [szv_yes hZ_a2]
  have hL_a2 : ¬ (((1048576 : Int) - ((a2n0 + (sizeS a2X0 a2n0) : Nat) : Int)) < 0) := by omega
  replace S1 := Lib.hid (S1.out (by omega))
  replace S2 := Lib.hid (S2.out (by omega))
  have ha2k0 : a2n0 ≤ 1048576 := by omega
  go_wp2_with fail
  refine (to_StringS ha2k0 Fa20.out.row).mono ?_; rintro e w2 ⟨tma2A0, tma2c0, rfl, ho0, hb⟩
  replace FB := Lib.hid (FB.out.b hb)
  replace Fa20 := Lib.hid (Fa20.out.b hb)
  have z_w2 : w1.heap.size ≤ w2.heap.size := by have hsz := hb.size; first | omega | (simp at hsz; omega)
  have Otma20 := Lib.hid (owned (ho0.mono (lo' := w1.heap.size) (Nat.le_refl _) (Nat.le_refl _)))
  clear hb ho0
  go_wp2_with fail
  refine (S1.out _ _ _ Otma20.out.orow).mono ?_; rintro e w3 ⟨mr0A0, mr0c0, rfl, hrr00, hb⟩
  replace FB := Lib.hid (FB.out.b hb)
  replace Fa20 := Lib.hid (Fa20.out.b hb)
  replace Otma20 := Lib.hid (Otma20.out.b hb)
  have z_w3 : w2.heap.size ≤ w3.heap.size := by have hsz := hb.size; first | omega | (simp at hsz; omega)
  have Vmr00 := Lib.hid (rd_of_row hrr00)
  clear hb hrr00
  clear Otma20
  go_wp2_with fail
  refine (to_StringS ha2k0 Fa20.out.row).mono ?_; rintro e w4 ⟨xa2A0, xa2c0, rfl, ho0, hb⟩
  replace FB := Lib.hid (FB.out.b hb)
  replace Fa20 := Lib.hid (Fa20.out.b hb)
  replace Vmr00 := Lib.hid (Vmr00.out.b hb)
  have z_w4 : w3.heap.size ≤ w4.heap.size := by have hsz := hb.size; first | omega | (simp at hsz; omega)
  have Oxa20 := Lib.hid (owned (ho0.mono (lo' := w3.heap.size) (Nat.le_refl _) (Nat.le_refl _)))
  clear hb ho0
  go_wp2_with fail
  refine (S2.out _ _ _ Oxa20.out.orow).mono ?_; rintro e w5 ⟨gr0A0, gr0c0, rfl, hrr00, hb⟩
  replace FB := Lib.hid (FB.out.b hb)
  replace Fa20 := Lib.hid (Fa20.out.b hb)
  replace Vmr00 := Lib.hid (Vmr00.out.b hb)
  replace Oxa20 := Lib.hid (Oxa20.out.b hb)
  have z_w5 : w4.heap.size ≤ w5.heap.size := by have hsz := hb.size; first | omega | (simp at hsz; omega)
  have Ogr00 := Lib.hid (owned (hrr00.mono (lo' := w4.heap.size) (Nat.le_refl _) (Nat.le_refl _)))
  clear hb hrr00
  go_wp2_with fail
  refine (eq_IntS hr0m0 Ogr00.out.orow Vmr00.out.row).mono ?_; rintro e w6 ⟨rfl, hb⟩
  replace FB := Lib.hid (FB.out.b hb)
  replace Fa20 := Lib.hid (Fa20.out.b hb)
  replace Vmr00 := Lib.hid (Vmr00.out.b hb)
  replace Oxa20 := Lib.hid (Oxa20.out.b hb)
  replace Ogr00 := Lib.hid (Ogr00.out.b hb)
  have z_w6 : w5.heap.size ≤ w6.heap.size := by have hsz := hb.size; first | omega | (simp at hsz; omega)
  clear hb
  go_wp2_with fail
  refine (to_StringS ha2k0 Fa20.out.row).mono ?_; rintro e w7 ⟨ya2A0, ya2c0, rfl, ho0, hb⟩
  replace FB := Lib.hid (FB.out.b hb)
  replace Fa20 := Lib.hid (Fa20.out.b hb)
  replace Vmr00 := Lib.hid (Vmr00.out.b hb)
  replace Oxa20 := Lib.hid (Oxa20.out.b hb)
  replace Ogr00 := Lib.hid (Ogr00.out.b hb)
  have z_w7 : w6.heap.size ≤ w7.heap.size := by have hsz := hb.size; first | omega | (simp at hsz; omega)
  have Oya20 := Lib.hid (owned (ho0.mono (lo' := w6.heap.size) (Nat.le_refl _) (Nat.le_refl _)))
  clear hb ho0
  go_wp2_with fail
  refine (eq_StringS ha2k0 Oxa20.out.orow Oya20.out.orow).mono ?_; rintro e w8 ⟨rfl, hb⟩
  replace FB := Lib.hid (FB.out.b hb)
  replace Fa20 := Lib.hid (Fa20.out.b hb)
  replace Vmr00 := Lib.hid (Vmr00.out.b hb)
  replace Oxa20 := Lib.hid (Oxa20.out.b hb)
  replace Ogr00 := Lib.hid (Ogr00.out.b hb)
  replace Oya20 := Lib.hid (Oya20.out.b hb)
  have z_w8 : w7.heap.size ≤ w8.heap.size := by have hsz := hb.size; first | omega | (simp at hsz; omega)
  clear hb
  clear Oya20
  go_wp2_with fail
  refine (mark_StringS ha2k0 Oxa20.out.now Oxa20.out.top (by omega) (by omega)).mono ?_; rintro e w9 ⟨rfl, hm0, hg⟩
  replace FB := Lib.hid (FB.out.far hg (by omega))
  replace Fa20 := Lib.hid (Fa20.out.far hg (by omega))
  replace Vmr00 := Lib.hid (Vmr00.out.far hg (by omega))
  replace Ogr00 := Lib.hid (Ogr00.out.far hg (by omega))
  have z_w9 : w8.heap.size ≤ w9.heap.size := by have hsz := hg.size; first | omega | (simp at hsz; omega)
  replace Oxa20 := Lib.hid (At.mk hm0 (Nat.le_trans Oxa20.out.top hg.size) (Ow.lives _ _ _ _ _ _))
  clear hg hm0
  clear Oxa20
  go_wp2_with fail
  refine (eq_IntS hr0m0 Ogr00.out.orow Vmr00.out.row).mono ?_; rintro e w10 ⟨rfl, hb⟩
  replace FB := Lib.hid (FB.out.b hb)
  replace Fa20 := Lib.hid (Fa20.out.b hb)
  replace Vmr00 := Lib.hid (Vmr00.out.b hb)
  replace Ogr00 := Lib.hid (Ogr00.out.b hb)
  have z_w10 : w9.heap.size ≤ w10.heap.size := by have hsz := hb.size; first | omega | (simp at hsz; omega)
  clear hb
  go_wp2_with fail
  refine (mark_IntS hr0m0 Ogr00.out.now Ogr00.out.top (by omega) (by omega)).mono ?_; rintro e w11 ⟨rfl, hm0, hg⟩
  replace FB := Lib.hid (FB.out.far hg (by omega))
  replace Fa20 := Lib.hid (Fa20.out.far hg (by omega))
  replace Vmr00 := Lib.hid (Vmr00.out.far hg (by omega))
  have z_w11 : w10.heap.size ≤ w11.heap.size := by have hsz := hg.size; first | omega | (simp at hsz; omega)
  replace Ogr00 := Lib.hid (At.mk hm0 (Nat.le_trans Ogr00.out.top hg.size) (Ow.lives _ _ _ _ _ _))
  clear hg hm0
  go_wp2_with fail
  refine (held_IntS hr0m0 Ogr00.out.orow (by omega) (by omega)).mono ?_; rintro e w12 ⟨rfl, hb⟩
  replace FB := Lib.hid (FB.out.b hb)
  replace Fa20 := Lib.hid (Fa20.out.b hb)
  replace Vmr00 := Lib.hid (Vmr00.out.b hb)
  replace Ogr00 := Lib.hid (Ogr00.out.b hb)
  have z_w12 : w11.heap.size ≤ w12.heap.size := by have hsz := hb.size; first | omega | (simp at hsz; omega)
  clear hb
  go_wp2_with fail
  refine (to_StringS ha2k0 Fa20.out.row).mono ?_; rintro e w13 ⟨tha2A0, tha2c0, rfl, ho0, hb⟩
  replace FB := Lib.hid (FB.out.b hb)
  replace Fa20 := Lib.hid (Fa20.out.b hb)
  replace Vmr00 := Lib.hid (Vmr00.out.b hb)
  replace Ogr00 := Lib.hid (Ogr00.out.b hb)
  have z_w13 : w12.heap.size ≤ w13.heap.size := by have hsz := hb.size; first | omega | (simp at hsz; omega)
  have Otha20 := Lib.hid (owned (ho0.mono (lo' := w12.heap.size) (Nat.le_refl _) (Nat.le_refl _)))
  clear hb ho0
  go_wp2_with fail
  refine (S2.out _ _ _ Otha20.out.orow).mono ?_; rintro e w14 ⟨hr0A0, hr0c0, rfl, hrr00, hb⟩
  replace FB := Lib.hid (FB.out.b hb)
  replace Fa20 := Lib.hid (Fa20.out.b hb)
  replace Vmr00 := Lib.hid (Vmr00.out.b hb)
  replace Ogr00 := Lib.hid (Ogr00.out.b hb)
  replace Otha20 := Lib.hid (Otha20.out.b hb)
  have z_w14 : w13.heap.size ≤ w14.heap.size := by have hsz := hb.size; first | omega | (simp at hsz; omega)
  have Ohr00 := Lib.hid (owned (hrr00.mono (lo' := w13.heap.size) (Nat.le_refl _) (Nat.le_refl _)))
  clear hb hrr00
  clear Otha20
  go_wp2_with fail
  refine (eq_IntS hr0m0 Ohr00.out.orow Vmr00.out.row).mono ?_; rintro e w15 ⟨rfl, hb⟩
  replace FB := Lib.hid (FB.out.b hb)
  replace Fa20 := Lib.hid (Fa20.out.b hb)
  replace Vmr00 := Lib.hid (Vmr00.out.b hb)
  replace Ogr00 := Lib.hid (Ogr00.out.b hb)
  replace Ohr00 := Lib.hid (Ohr00.out.b hb)
  have z_w15 : w14.heap.size ≤ w15.heap.size := by have hsz := hb.size; first | omega | (simp at hsz; omega)
  clear hb
  go_wp2_with fail
  refine (held_IntS hr0m0 Ogr00.out.orow (by omega) (by omega)).mono ?_; rintro e w16 ⟨rfl, hb⟩
  replace FB := Lib.hid (FB.out.b hb)
  replace Fa20 := Lib.hid (Fa20.out.b hb)
  replace Vmr00 := Lib.hid (Vmr00.out.b hb)
  replace Ogr00 := Lib.hid (Ogr00.out.b hb)
  replace Ohr00 := Lib.hid (Ohr00.out.b hb)
  have z_w16 : w15.heap.size ≤ w16.heap.size := by have hsz := hb.size; first | omega | (simp at hsz; omega)
  clear hb
  go_wp2_with fail
  go_ret
  exact ⟨rfl, FB.out.now⟩

theorem walk_FnExactLoadsOf (w : World) (seed : Int) (_w0 : (Lit.int .i64 seed).wf = true) (part : Int) (_w1 : (Lit.int .i64 part).wf = true) (A : Option Addr) (n c : Nat) (S : Nat → ByteArray) (hn : n ≤ maxLen) (hr : SRow w A n S) (P : Int) (_w2 : (Lit.int .i64 P).wf = true) :
    Calls Try.prog 25 #[.int .i64 seed, .int .i64 part, .slice A n c, .int .i64 P] w fun e w' => e = .returned (.bool true) ∧ Below w.heap.size w w' := by
  by_cases h : LoadsOk seed part S n P
  · obtain ⟨Q, rfl⟩ : ∃ Q : Nat, P = Q := ⟨P.toNat, by have := h.2.2.1; omega⟩
    have hq : Q ≤ 1048576 := by have := h.2.2.2; omega
    exact main_FnExactLoadsOf seed part n S Q Q (cnt (plF seed part S Q) n) true A c w hn hr.grow hr.size hq
      (fun hb uA uc v h1 => (spec_loads_yes seed part Q uA n uc S v (by omega) hr.size h1 h).mono RowIs.read)
      (fun hb uA uc v h1 => (impl_loads_yes seed part Q uA n uc S v (by omega) hr.size h1 h).mono RowIs.post)
  · exact main_FnExactLoadsOf seed part n S P 0 (fun _ => 0) false A c w hn hr.grow hr.size (by omega)
      (fun hb uA uc v h1 => (spec_loads_no seed part P uA n uc S v (by omega) hr.size h1 h).mono fun e w' h => RowIs.read e w' (NoRow.is e w' h))
      (fun hb uA uc v h1 => (impl_loads_no seed part P uA n uc S v (by omega) hr.size h1 h).mono NoRow.is)
end Go.Proofs.Ytglccgpiakadbaa
