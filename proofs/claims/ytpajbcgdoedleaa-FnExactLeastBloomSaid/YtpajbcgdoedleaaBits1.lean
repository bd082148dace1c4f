/- Single bits and fields: the program's and the model's. -/
import Derived.Test.YtpajbcgdoedleaaGood
import Derived.Test.YtpajbcgdoedleaaBitmath
import Derived.Deep.RegionHeld3
namespace Go.Proofs.Ytpajbcgdoedleaa
open Go.RowKit

/-- The slice reads as words of sixteen bits. -/
def WRow (w : World) (A : Option Addr) (n : Nat) (W : Nat → Nat) : Prop := IRow w A n (fun i => (W i : Int)) ∧ ∀ i, i < n → W i < 65536

theorem good_row {z : Int} {n : Nat} {X : Nat → Int} {w : World} {A : Option Addr} (hg : Good z n X) (hr : IRow w A n X) : WRow w A n (fun i => (X i).toNat) :=
  ⟨hr.congr (fun i hi => by have := (hg.2.2.2 i hi).1; show _ = (((X i).toNat : Nat) : Int); omega), fun i hi => by have := hg.2.2.2 i hi; have := cap_le z i; show (X i).toNat < _; omega⟩
theorem WRow.b {w w' : World} {A : Option Addr} {n : Nat} {W : Nat → Nat} (h : WRow w A n W) (hb : Below w.heap.size w w') : WRow w' A n W := ⟨h.1.b hb, h.2⟩

set_option maxHeartbeats 400000 in
theorem spec_biAt (z : Int) (A : Option Addr) (n c : Nat) (W : Nat → Nat) (i : Nat) (w : World) (hn : n ≤ 1048576) (hr : WRow w A n W) (hi : i < 16 * n) :
    Calls Try.prog 72 #[.agg #[.int .i64 z, .slice A n c], .int .i64 i] w fun e w' => e = .returned (.bool (bitN W i)) ∧ Below w.heap.size w w' := by
  obtain ⟨b1, o1, rfl, l1, hc1⟩ := hr.1 (by omega)
  have hx := hc1 (i / 16) (by omega)
  have hw := hr.2 (i / 16) (by omega)
  have h1 : (i : Int) / 16 < (n : Int) := by omega
  have h2 : 0 ≤ (i : Int) / 16 := by omega
  have h3 : ((i : Int) / 16).toNat = i / 16 := by omega
  have h4 : ((i : Int) % 16).toNat = i % 16 := by omega
  have HF := Lib.hid (show bitN W i = (bits .and .i64 ((W (i / 16) : Int) / 2 ^ (i % 16)) 1 == 1) by rw [bit_and_one _ _ hw]; rfl)
  clear hc1 hr
  go_enter Try.func72, Try.ntmps72
  go_wp2_with fail
  go_ret
  exact ⟨ret_bool HF.out.symm, (Below.refl _ _).alloc (Nat.le_refl _) _⟩

set_option maxHeartbeats 400000 in
theorem impl_isOn (A : Option Addr) (n c : Nat) (W : Nat → Nat) (i : Nat) (w : World) (hn : n ≤ 1048576) (hr : WRow w A n W) (hi : i < 16 * n) :
    Calls Try.prog 97 #[.slice A n c, .int .i64 i] w fun e w' => e = .returned (.bool (bitN W i)) ∧ w = w' := by
  obtain ⟨b1, o1, rfl, l1, hc1⟩ := hr.1 (by omega)
  have hx := hc1 (i / 16) (by omega)
  have hw := hr.2 (i / 16) (by omega)
  have h1 : (i : Int) / 16 < (n : Int) := by omega
  have h2 : 0 ≤ (i : Int) / 16 := by omega
  have h3 : ((i : Int) / 16).toNat = i / 16 := by omega
  have h4 : ((i : Int) % 16).toNat = i % 16 := by omega
  have HF := Lib.hid (show bitN W i = (bits .and .i64 ((W (i / 16) : Int) / 2 ^ (i % 16)) 1 == 1) by rw [bit_and_one _ _ hw]; rfl)
  clear hc1 hr
  go_enter Try.func97, Try.ntmps97
  go_wp2_with fail
  go_ret
  exact ⟨ret_bool HF.out.symm, rfl⟩

set_option maxHeartbeats 400000 in
theorem impl_fieldOf (A : Option Addr) (n c : Nat) (W : Nat → Nat) (at_ width : Nat) (w : World) (hn : n ≤ 1048576) (hr : WRow w A n W) (hi : at_ + width ≤ 16 * n) (hw : width ≤ 24) :
    Calls Try.prog 99 #[.slice A n c, .int .i64 at_, .int .i64 width] w fun e w' => e = .returned (.int .i64 (fieldN W at_ width)) ∧ w = w' := by
  have HR := Lib.hid hr
  clear hr
  go_enter Try.func99, Try.ntmps99
  go_wp2_with fail
  go_loop [7, 8] (fun v d => ∃ D V : Nat, D < 40 ∧ V < 1099511627776 ∧ d = .int .i64 D ∧ v = .int .i64 V ∧ Hid (∀ j, V.testBit j = (decide (j < D) && bitN W (at_ + j)))) (fun _ d => 40 - (intOf d).toNat)
  case atStart => exact ⟨0, 0, by omega, by omega, rfl, rfl, fun j => by simp⟩
  case round =>
    obtain ⟨D, V, hD, hV, rfl, rfl, hp⟩ := hrel
    by_cases hlt : D < width
    · obtain ⟨b1, o1, rfl, l1, hc1⟩ := HR.out.1 (by omega)
      have hx := hc1 ((at_ + D) / 16) (by omega)
      have hw2 := HR.out.2 ((at_ + D) / 16) (by omega)
      have h1 : ((at_ : Int) + D) / 16 < (n : Int) := by omega
      have h2 : 0 ≤ ((at_ : Int) + D) / 16 := by omega
      have h3 : (((at_ : Int) + D) / 16).toNat = (at_ + D) / 16 := by omega
      have h4 : (((at_ : Int) + D) % 16).toNat = (at_ + D) % 16 := by omega
      obtain ⟨V', hV', he, hq⟩ := field_step W V at_ D hV (by omega) hw2 hp.out
      have HE := Lib.hid he
      have HQ := Lib.hid hq
      clear hc1 l1 he hq
      go_wp2_with fail
      go_round
      case rel => exact ⟨D + (16 - (at_ + D) % 16), V', by omega, hV', by go_num, by rw [HE.out], HQ.out⟩
      case measure => simp [intOf]; omega
    · have hE := Lib.hid (field_end W V at_ D width hV (by omega) hw hp.out)
      obtain ⟨p0, p1⟩ := two_bd (m := width) (k := 24) hw
      go_wp2_with fail
      go_ret
      exact ⟨ret_int hE.out, rfl⟩

end Go.Proofs.Ytpajbcgdoedleaa
