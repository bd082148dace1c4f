/- The law of CollisionOf, walked: what both sides answer comes in as hypotheses. -/
import Derived.Test.YtglccgpiakadbaaObjStr
import Derived.Test.YtglccgpiakadbaaColl
import Derived.Deep.RegionHeld3
namespace Go.Proofs.Ytglccgpiakadbaa
open Go.RowKit

set_option maxRecDepth 100000 in
set_option maxHeartbeats 8000000 in
theorem main_FnExactCollisionOf (a0z0 : Int) (a1z0 : Int) (a2n0 : Nat) (a2X0 : Nat → ByteArray) (a3z0 : Int) (r0z0 : Int) (r1z0 : Int) (r2z0 : Bool) (a2A0 : Option Addr) (a2c0 : Nat) (w : World) (ha2m0 : a2n0 ≤ maxLen) (ha2r0 : GRow w a2A0 a2n0 (strV a2X0)) (ha2s0 : ∀ i, i < a2n0 → (a2X0 i).size ≤ maxLen)
    (s1 : a2n0 + (sizeS a2X0 a2n0) ≤ 1048576 → ∀ (ua2A0 : Option Addr) (ua2c0 : Nat) (w : World), GRow w ua2A0 a2n0 (strV a2X0) → Calls Try.prog 82 #[.int .i64 a0z0, .int .i64 a1z0, .slice ua2A0 a2n0 ua2c0, .int .i64 a3z0] w fun e w' => e = .returned (.tuple #[.int .i64 r0z0, .int .i64 r1z0, .bool r2z0]) ∧ Below w.heap.size w w')
    (s2 : a2n0 + (sizeS a2X0 a2n0) ≤ 1048576 → ∀ (ua2A0 : Option Addr) (ua2c0 : Nat) (w : World), GRow w ua2A0 a2n0 (strV a2X0) → Calls Try.prog 83 #[.int .i64 a0z0, .int .i64 a1z0, .slice ua2A0 a2n0 ua2c0, .int .i64 a3z0] w fun e w' => e = .returned (.tuple #[.int .i64 r0z0, .int .i64 r1z0, .bool r2z0]) ∧ Below w.heap.size w w') :
    Calls Try.prog 26 #[.int .i64 a0z0, .int .i64 a1z0, .slice a2A0 a2n0 a2c0, .int .i64 a3z0] w fun e w' => e = .returned (.bool true) ∧ Below w.heap.size w w' := by
  have S1 := Lib.hid s1
  have S2 := Lib.hid s2
  clear s1 s2
  have FB := Lib.hid (At.start w)
  have Fa20 := Lib.hid (rd_of_row ha2r0)
  clear ha2r0
  go_enter Try.func26, Try.ntmps26
  go_wp2_with fail
  refine (sz_StringS ha2m0 ha2s0 Fa20.out.row (by omega) (by omega)).mono ?_; rintro e w1 ⟨rfl, hb⟩
  replace FB := Lib.hid (FB.out.b hb)
  replace Fa20 := Lib.hid (Fa20.out.b hb)
  have z_w1 : w.heap.size ≤ w1.heap.size := by have hsz := hb.size; first | omega | (simp at hsz; omega)
  clear hb
  by_cases hZ_a2 : ((a2n0 + (sizeS a2X0 a2n0) : Nat) : Int) ≤ (1048576 : Int)
  rotate_left
  · rw [szv_no hZ_a2]
    go_wp2_with fail
    go_ret
    exact ⟨rfl, FB.out.now⟩
  rw [szv_yes hZ_a2]
  have hL_a2 : ¬ (((1048576 : Int) - ((a2n0 + (sizeS a2X0 a2n0) : Nat) : Int)) < 0) := by omega
  replace S1 := Lib.hid (S1.out (by omega))
  replace S2 := Lib.hid (S2.out (by omega))
  have ha2k0 : a2n0 ≤ 1048576 := by omega
  go_wp2_with fail
  refine (to_StringS ha2k0 Fa20.out.row).mono ?_; rintro e w2 ⟨tma2A0, tma2c0, rfl, ho0, hb⟩
  replace FB := Lib.hid (FB.out.b hb)
  replace Fa20 := Lib.hid (Fa20.out.b hb)
  have z_w2 : w1.heap.size ≤ w2.heap.size := by have hsz := hb.size; first | omega | (simp at hsz; omega)
  have Otma20 := Lib.hid (owned (ho0.mono (lo' := w1.heap.size) (Nat.le_refl _) (Nat.le_refl _)))
  clear hb ho0
  go_wp2_with fail
  refine (S1.out _ _ _ Otma20.out.orow).mono ?_; rintro e w3 ⟨rfl, hb⟩
  replace FB := Lib.hid (FB.out.b hb)
  replace Fa20 := Lib.hid (Fa20.out.b hb)
  replace Otma20 := Lib.hid (Otma20.out.b hb)
  have z_w3 : w2.heap.size ≤ w3.heap.size := by have hsz := hb.size; first | omega | (simp at hsz; omega)
  clear hb 
  clear Otma20
  go_wp2_with fail
  refine (to_StringS ha2k0 Fa20.out.row).mono ?_; rintro e w4 ⟨xa2A0, xa2c0, rfl, ho0, hb⟩
  replace FB := Lib.hid (FB.out.b hb)
  replace Fa20 := Lib.hid (Fa20.out.b hb)
  have z_w4 : w3.heap.size ≤ w4.heap.size := by have hsz := hb.size; first | omega | (simp at hsz; omega)
  have Oxa20 := Lib.hid (owned (ho0.mono (lo' := w3.heap.size) (Nat.le_refl _) (Nat.le_refl _)))
  clear hb ho0
  go_wp2_with fail
  refine (S2.out _ _ _ Oxa20.out.orow).mono ?_; rintro e w5 ⟨rfl, hb⟩
  replace FB := Lib.hid (FB.out.b hb)
  replace Fa20 := Lib.hid (Fa20.out.b hb)
  replace Oxa20 := Lib.hid (Oxa20.out.b hb)
  have z_w5 : w4.heap.size ≤ w5.heap.size := by have hsz := hb.size; first | omega | (simp at hsz; omega)
  clear hb 
  go_wp2_with fail
  refine (to_StringS ha2k0 Fa20.out.row).mono ?_; rintro e w6 ⟨ya2A0, ya2c0, rfl, ho0, hb⟩
  replace FB := Lib.hid (FB.out.b hb)
  replace Fa20 := Lib.hid (Fa20.out.b hb)
  replace Oxa20 := Lib.hid (Oxa20.out.b hb)
  have z_w6 : w5.heap.size ≤ w6.heap.size := by have hsz := hb.size; first | omega | (simp at hsz; omega)
  have Oya20 := Lib.hid (owned (ho0.mono (lo' := w5.heap.size) (Nat.le_refl _) (Nat.le_refl _)))
  clear hb ho0
  go_wp2_with fail
  refine (eq_StringS ha2k0 Oxa20.out.orow Oya20.out.orow).mono ?_; rintro e w7 ⟨rfl, hb⟩
  replace FB := Lib.hid (FB.out.b hb)
  replace Fa20 := Lib.hid (Fa20.out.b hb)
  replace Oxa20 := Lib.hid (Oxa20.out.b hb)
  replace Oya20 := Lib.hid (Oya20.out.b hb)
  have z_w7 : w6.heap.size ≤ w7.heap.size := by have hsz := hb.size; first | omega | (simp at hsz; omega)
  clear hb
  clear Oya20
  go_wp2_with fail
  go_ret
  exact ⟨rfl, FB.out.now⟩

theorem walk_FnExactCollisionOf (w : World) (seed : Int) (_w0 : (Lit.int .i64 seed).wf = true) (part : Int) (_w1 : (Lit.int .i64 part).wf = true) (A : Option Addr) (n c : Nat) (S : Nat → ByteArray) (hn : n ≤ maxLen) (hr : SRow w A n S) (P : Int) (_w2 : (Lit.int .i64 P).wf = true) :
    Calls Try.prog 26 #[.int .i64 seed, .int .i64 part, .slice A n c, .int .i64 P] w fun e w' => e = .returned (.bool true) ∧ Below w.heap.size w w' := by
  by_cases h : CollOk seed part S n P
  · obtain ⟨Q, rfl⟩ : ∃ Q : Nat, P = Q := ⟨P.toNat, by have := h.2.2.1; omega⟩
    cases hc : coll (plF seed part S Q) 0 n with
    | none =>
      exact main_FnExactCollisionOf seed part n S Q 0 0 false A c w hn hr.grow hr.size
        (fun hb uA uc v h1 => by have h2 := spec_coll_yes seed part Q uA n uc S v (by omega) hr.size h1 h; rw [hc] at h2; exact h2)
        (fun hb uA uc v h1 => by have h2 := impl_coll_yes seed part Q uA n uc S v (by omega) hr.size h1 h; rw [hc] at h2; exact h2)
    | some p =>
      exact main_FnExactCollisionOf seed part n S Q p.1 p.2 true A c w hn hr.grow hr.size
        (fun hb uA uc v h1 => by have h2 := spec_coll_yes seed part Q uA n uc S v (by omega) hr.size h1 h; rw [hc] at h2; exact h2)
        (fun hb uA uc v h1 => by have h2 := impl_coll_yes seed part Q uA n uc S v (by omega) hr.size h1 h; rw [hc] at h2; exact h2)
  · exact main_FnExactCollisionOf seed part n S P 0 0 false A c w hn hr.grow hr.size
      (fun hb uA uc v h1 => (spec_coll_no seed part P uA n uc S v (by omega) hr.size h1 h).mono fun _ _ ⟨he, hw⟩ => ⟨he, hw ▸ Below.refl _ _⟩)
      (fun hb uA uc v h1 => (impl_coll_no seed part P uA n uc S v (by omega) hr.size h1 h).mono fun _ _ ⟨he, hw⟩ => ⟨he, hw ▸ Below.refl _ _⟩)
end Go.Proofs.Ytglccgpiakadbaa
