/- Single bits and fields: the program's and the model's. -/
import Derived.Test.YtffdkfhnlgfigaaGood
import Derived.Test.YtffdkfhnlgfigaaBitmath
import Derived.Deep.RegionHeld3
namespace Go.Proofs.Ytffdkfhnlgfigaa
open Go.RowKit

/-- The slice reads as words of sixteen bits. -/
def WRow (w : World) (A : Option Addr) (n : Nat) (W : Nat → Nat) : Prop := IRow w A n (fun i => (W i : Int)) ∧ ∀ i, i < n → W i < 65536

theorem good_row {z : Int} {n : Nat} {X : Nat → Int} {w : World} {A : Option Addr} (hg : Good z n X) (hr : IRow w A n X) : WRow w A n (fun i => (X i).toNat) :=
  ⟨hr.congr (fun i hi => by have := (hg.2.2.2 i hi).1; show _ = (((X i).toNat : Nat) : Int); omega), fun i hi => by have := hg.2.2.2 i hi; have := cap_le z i; show (X i).toNat < _; omega⟩
theorem WRow.b {w w' : World} {A : Option Addr} {n : Nat} {W : Nat → Nat} (h : WRow w A n W) (hb : Below w.heap.size w w') : WRow w' A n W := ⟨h.1.b hb, h.2⟩

set_option maxHeartbeats 400000 in
theorem spec_biAt (z : Int) (A : Option Addr) (n c : Nat) (W : Nat → Nat) (i : Nat) (w : World) (hn : n ≤ 1048576) (hr : WRow w A n W) (hi : i < 16 * n) :
    Calls Try.prog 107 #[.agg #[.int .i64 z, .slice A n c], .int .i64 i] w fun e w' => e = .returned (.bool (bitN W i)) ∧ Below w.heap.size w w' := by
  obtain ⟨b1, o1, rfl, l1, hc1⟩ := hr.1 (by omega)
  have hx := hc1 (i / 16) (by omega)
  have hw := hr.2 (i / 16) (by omega)
  have h1 : (i : Int) / 16 < (n : Int) := by omega
  have h2 : 0 ≤ (i : Int) / 16 := by omega
  have h3 : ((i : Int) / 16).toNat = i / 16 := by omega
  have h4 : ((i : Int) % 16).toNat = i % 16 := by omega
  have HF := Lib.hid (show bitN W i = (bits .and .i64 ((W (i / 16) : Int) / 2 ^ (i % 16)) 1 == 1) by rw [bit_and_one _ _ hw]; rfl)
  clear hc1 hr
  go_enter Try.func107, Try.ntmps107
  go_wp2_with fail
  go_ret
  exact ⟨ret_bool HF.out.symm, (Below.refl _ _).alloc (Nat.le_refl _) _⟩

set_option maxHeartbeats 400000 in
theorem impl_isOn (A : Option Addr) (n c : Nat) (W : Nat → Nat) (i : Nat) (w : World) (hn : n ≤ 1048576) (hr : WRow w A n W) (hi : i < 16 * n) :
    Calls Try.prog 118 #[.slice A n c, .int .i64 i] w fun e w' => e = .returned (.bool (bitN W i)) ∧ w = w' := by
  obtain ⟨b1, o1, rfl, l1, hc1⟩ := hr.1 (by omega)
  have hx := hc1 (i / 16) (by omega)
  have hw := hr.2 (i / 16) (by omega)
  have h1 : (i : Int) / 16 < (n : Int) := by omega
  have h2 : 0 ≤ (i : Int) / 16 := by omega
  have h3 : ((i : Int) / 16).toNat = i / 16 := by omega
  have h4 : ((i : Int) % 16).toNat = i % 16 := by omega
  have HF := Lib.hid (show bitN W i = (bits .and .i64 ((W (i / 16) : Int) / 2 ^ (i % 16)) 1 == 1) by rw [bit_and_one _ _ hw]; rfl)
  clear hc1 hr
  go_enter Try.func118, Try.ntmps118
  go_wp2_with fail
  go_ret
  exact ⟨ret_bool HF.out.symm, rfl⟩

set_option maxHeartbeats 400000 in
theorem impl_fieldOf (A : Option Addr) (n c : Nat) (W : Nat → Nat) (at_ width : Nat) (w : World) (hn : n ≤ 1048576) (hr : WRow w A n W) (hi : at_ + width ≤ 16 * n) (hw : width ≤ 24) :
    Calls Try.prog 120 #[.slice A n c, .int .i64 at_, .int .i64 width] w fun e w' => e = .returned (.int .i64 (fieldN W at_ width)) ∧ w = w' := by
  have HR := Lib.hid hr
  clear hr
  go_enter Try.func120, Try.ntmps120
  go_wp2_with fail
  go_loop [7, 8] (fun v d => ∃ D V : Nat, D < 40 ∧ V < 1099511627776 ∧ d = .int .i64 D ∧ v = .int .i64 V ∧ Hid (∀ j, V.testBit j = (decide (j < D) && bitN W (at_ + j)))) (fun _ d => 40 - (intOf d).toNat)
  case atStart => exact ⟨0, 0, by omega, by omega, rfl, rfl, fun j => by simp⟩
  case round =>
    obtain ⟨D, V, hD, hV, rfl, rfl, hp⟩ := hrel
    by_cases hlt : D < width
    · obtain ⟨b1, o1, rfl, l1, hc1⟩ := HR.out.1 (by omega)
      have hx := hc1 ((at_ + D) / 16) (by omega)
      have hw2 := HR.out.2 ((at_ + D) / 16) (by omega)
      have h1 : ((at_ : Int) + D) / 16 < (n : Int) := by omega
      have h2 : 0 ≤ ((at_ : Int) + D) / 16 := by omega
      have h3 : (((at_ : Int) + D) / 16).toNat = (at_ + D) / 16 := by omega
      have h4 : (((at_ : Int) + D) % 16).toNat = (at_ + D) % 16 := by omega
      obtain ⟨V', hV', he, hq⟩ := field_step W V at_ D hV (by omega) hw2 hp.out
      have HE := Lib.hid he
      have HQ := Lib.hid hq
      clear hc1 l1 he hq
      go_wp2_with fail
      go_round
      case rel => exact ⟨D + (16 - (at_ + D) % 16), V', by omega, hV', by go_num, by rw [HE.out], HQ.out⟩
      case measure => simp [intOf]; omega
    · have hE := Lib.hid (field_end W V at_ D width hV (by omega) hw hp.out)
      obtain ⟨p0, p1⟩ := two_bd (m := width) (k := 24) hw
      go_wp2_with fail
      go_ret
      exact ⟨ret_int hE.out, rfl⟩

set_option maxHeartbeats 400000 in
theorem spec_biField (z : Int) (A : Option Addr) (n c : Nat) (W : Nat → Nat) (at_ width : Nat) (w : World) (hn : n ≤ 1048576) (hr : WRow w A n W) (hi : at_ + width ≤ 16 * n) (hw : width ≤ 24) :
    Calls Try.prog 108 #[.agg #[.int .i64 z, .slice A n c], .int .i64 at_, .int .i64 width] w fun e w' => e = .returned (.int .i64 (fieldN W at_ width)) ∧ Below w.heap.size w w' := by
  have HR := Lib.hid hr
  clear hr
  go_enter Try.func108, Try.ntmps108
  go_wp2_with fail
  go_loopw [7, 8] (fun v j wr => ∃ J : Nat, J ≤ width ∧ j = .int .i64 ((J : Int) - 1) ∧ v = .int .i64 (fieldN W (at_ + J) (width - J)) ∧ Below (w.heap.size + 1) (w.alloc (.cells #[.int .i64 z, .slice A n c] 30)) wr) (fun _ j _ => ((intOf j) + 1).toNat)
  case atStart => exact ⟨width, Nat.le_refl _, by go_num, by simp [fieldN], Below.refl _ _⟩
  case round =>
    obtain ⟨J, hJ, rfl, rfl, hb⟩ := hrel
    by_cases h0 : J = 0
    · subst h0
      have HB := Lib.hid hb
      clear hb
      go_wp2_with fail
      go_ret
      refine ⟨ret_int (by simp), ((Below.refl _ _).alloc (Nat.le_refl _) _).trans (HB.out.mono (by omega))⟩
    · have c0 : wr.cell? ⟨w.heap.size, 0, none⟩ = some (.int .i64 z) := (hb.cell (p := ⟨w.heap.size, 0, none⟩) (by simp)).trans (by simp [go_sem])
      have c1 : wr.cell? ⟨w.heap.size, 1, none⟩ = some (.slice A n c) := (hb.cell (p := ⟨w.heap.size, 1, none⟩) (by simp)).trans (by simp [go_sem])
      have hrow := Lib.hid ((HR.out.b ((Below.refl _ _).alloc (Nat.le_refl _) (.cells #[.int .i64 z, .slice A n c] 30))).b (hb.mono (by simp)))
      have hsz := hb.size
      simp at hsz
      have HB := Lib.hid hb
      clear hb
      have hfl : (fieldN W (at_ + J) (width - J) : Int) ≤ 16777215 := by
        have := fieldN_lt W (width - J) (at_ + J)
        have h2 : 2 ^ (width - J) ≤ 2 ^ 24 := Nat.pow_le_pow_right (by omega) (by omega)
        have h4 : (2 : Nat) ^ 24 = 16777216 := by decide
        omega
      have HS := Lib.hid (show fieldN W (at_ + (J - 1)) (width - (J - 1)) = (if bitN W (at_ + (J - 1)) then 1 else 0) + 2 * fieldN W (at_ + J) (width - J) by
        rw [show width - (J - 1) = (width - J) + 1 by omega, fieldN_snoc, show at_ + (J - 1) + 1 = at_ + J by omega])
      have hJ1 : ((at_ + (J - 1) : Nat) : Int) = (at_ : Int) + ((J : Int) - 1) := by omega
      have HJ := Lib.hid hJ1
      clear hJ1
      generalize fieldN W (at_ + J) (width - J) = v at *
      by_cases hbit : bitN W (at_ + (J - 1)) = true
      · go_wp2_with fail
        rw [← HJ.out]
        refine (spec_biAt z A n c W _ _ hn hrow.out (by omega)).mono ?_; rintro e w2 ⟨rfl, hb2⟩
        have HB2 := Lib.hid (HB.out.trans (hb2.mono (by omega)))
        clear hb2
        go_wp2_with fail
        go_roundw
        case rel => exact ⟨J - 1, by omega, by go_num, by rw [HS.out]; simp [hbit]; omega, HB2.out⟩
        case measure => simp [intOf]; omega
      · have hbit : bitN W (at_ + (J - 1)) = false := by simpa using hbit
        go_wp2_with fail
        rw [← HJ.out]
        refine (spec_biAt z A n c W _ _ hn hrow.out (by omega)).mono ?_; rintro e w2 ⟨rfl, hb2⟩
        have HB2 := Lib.hid (HB.out.trans (hb2.mono (by omega)))
        clear hb2
        go_wp2_with fail
        go_roundw
        case rel => exact ⟨J - 1, by omega, by go_num, by rw [HS.out]; simp [hbit]; omega, HB2.out⟩
        case measure => simp [intOf]; omega
end Go.Proofs.Ytffdkfhnlgfigaa
