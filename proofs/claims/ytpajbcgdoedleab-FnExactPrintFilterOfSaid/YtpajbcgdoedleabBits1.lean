/- Single bits and fields: the program's and the model's. -/
import Derived.Test.YtpajbcgdoedleabGood
import Derived.Test.YtpajbcgdoedleabBitmath
import Derived.Deep.RegionHeld3
namespace Go.Proofs.Ytpajbcgdoedleab
open Go.RowKit

/-- The slice reads as words of sixteen bits. -/
def WRow (w : World) (A : Option Addr) (n : Nat) (W : Nat → Nat) : Prop := IRow w A n (fun i => (W i : Int)) ∧ ∀ i, i < n → W i < 65536

theorem good_row {z : Int} {n : Nat} {X : Nat → Int} {w : World} {A : Option Addr} (hg : Good z n X) (hr : IRow w A n X) : WRow w A n (fun i => (X i).toNat) :=
  ⟨hr.congr (fun i hi => by have := (hg.2.2.2 i hi).1; show _ = (((X i).toNat : Nat) : Int); omega), fun i hi => by have := hg.2.2.2 i hi; have := cap_le z i; show (X i).toNat < _; omega⟩
theorem WRow.b {w w' : World} {A : Option Addr} {n : Nat} {W : Nat → Nat} (h : WRow w A n W) (hb : Below w.heap.size w w') : WRow w' A n W := ⟨h.1.b hb, h.2⟩

set_option maxHeartbeats 400000 in
theorem spec_biAt (z : Int) (A : Option Addr) (n c : Nat) (W : Nat → Nat) (i : Nat) (w : World) (hn : n ≤ 1048576) (hr : WRow w A n W) (hi : i < 16 * n) :
    Calls Try.prog 96 #[.agg #[.int .i64 z, .slice A n c], .int .i64 i] w fun e w' => e = .returned (.bool (bitN W i)) ∧ Below w.heap.size w w' := by
  obtain ⟨b1, o1, rfl, l1, hc1⟩ := hr.1 (by omega)
  have hx := hc1 (i / 16) (by omega)
  have hw := hr.2 (i / 16) (by omega)
  have h1 : (i : Int) / 16 < (n : Int) := by omega
  have h2 : 0 ≤ (i : Int) / 16 := by omega
  have h3 : ((i : Int) / 16).toNat = i / 16 := by omega
  have h4 : ((i : Int) % 16).toNat = i % 16 := by omega
  have HF := Lib.hid (show bitN W i = (bits .and .i64 ((W (i / 16) : Int) / 2 ^ (i % 16)) 1 == 1) by rw [bit_and_one _ _ hw]; rfl)
  clear hc1 hr
  go_enter Try.func96, Try.ntmps96
  go_wp2_with fail
  go_ret
  exact ⟨ret_bool HF.out.symm, (Below.refl _ _).alloc (Nat.le_refl _) _⟩

end Go.Proofs.Ytpajbcgdoedleab
