/- What a filter answers, both sides; bits turned on at the probes of a key, the program's side. -/
import Derived.Test.YtpajbcgdoedleabBlP
namespace Go.Proofs.Ytpajbcgdoedleab
open Go.RowKit

section
variable {z0 : Int} {p z : Nat} {A : Option Addr} {n c : Nat} {X : Nat → Int} {s : ByteArray} {w : World}
set_option maxRecDepth 100000 in
set_option maxHeartbeats 1000000 in
theorem spec_fiHas (h : fiB z0 p z = true) (hn : n ≤ 1048576) (hg : Good z n X) (hs : s.size ≤ maxLen) (hr : IRow w A n X) :
    Calls Try.prog 64 #[.agg #[.int .i64 z0, .int .i64 p, .int .i64 z, .slice A n c], .string s] w fun e w' => e = .returned (.bool (hasP (bitX X) (prN z0 s z) p)) ∧ Below w.heap.size w w' := by
  obtain ⟨h0, h1, h2⟩ := fiB_out h
  have S0 := Lib.hid (BlC.start (z0 := z0) (z1 := p) (z2 := z) (c := c) hr)
  have x0 := S0.out.box.cell 0 _ rfl
  have x1 := S0.out.box.cell 1 _ rfl
  have x2 := S0.out.box.cell 2 _ rfl
  have HG := Lib.hid hg
  have hzn : z ≤ 16 * n := by have := hg.2.2.1; omega
  clear hr hg
  go_enter Try.func64, Try.ntmps64
  go_wp2_with fail
  refine (spec_fiProbes h0 (by omega) (by omega) hs).mono ?_; rintro e w1 ⟨PA, pc, rfl, hop, hb⟩
  have R1 := Lib.hid (show IRow w1 PA p (prI z0 s z) from (owned_vec hop).row)
  have S1 := Lib.hid (S0.out.step hb)
  clear hop hb x0 x1 x2 S0
  go_wp2_with fail
  go_loopw [17] (fun i wr => ∃ k : Nat, k ≤ p ∧ i = .int .i64 k ∧ Hid (hasP (bitX X) (prN z0 s z) k = true) ∧ Hid (Below w1.heap.size w1 wr)) (fun i _ => p - (intOf i).toNat)
  case atStart => exact ⟨0, Nat.zero_le _, rfl, Lib.hid rfl, Lib.hid (Below.refl _ _)⟩
  case round =>
    obtain ⟨k, hk, rfl, HH, HL⟩ := hrel
    have S2 := Lib.hid (S1.out.step HL.out)
    by_cases hlt : k < p
    · obtain ⟨v1, v2⟩ := prI_nat z0 s (z := z) (by omega) k
      obtain ⟨b, off, hPA, _, hc⟩ := (R1.out.b HL.out) (by omega)
      have hx := hc k hlt
      rw [v1] at hx
      have x2 := S2.out.box.cell 2 _ rfl
      have x3 := S2.out.box.cell 3 _ rfl
      have RW := Lib.hid (wrow_good S2.out.row HG.out)
      have hr16 : prN z0 s z k < 16 * n := by omega
      clear v1 hc
      subst hPA
      go_wp2_with fail
      refine (spec_biAt z A n c _ (prN z0 s z k) wr hn RW.out hr16).mono ?_; rintro e w2 ⟨rfl, hb2⟩
      have HL2 := Lib.hid (HL.out.trans (hb2.mono HL.out.size))
      cases hbit : bitN (fun i => (X i).toNat) (prN z0 s z k) with
      | false =>
        have HF := Lib.hid (hasP_no (F := bitX X) (P := prN z0 s z) (j := k) hbit p hlt)
        clear hbit hb2
        go_wp2_with fail
        go_ret
        exact ⟨by rw [HF.out]; rfl, (S1.out.step HL2.out).below⟩
      | true =>
        have HN := Lib.hid (show hasP (bitX X) (prN z0 s z) (k + 1) = true by rw [hasP, HH.out]; exact hbit)
        clear hbit hb2 x2 x3 hx
        go_wp2_with fail
        go_roundw
        case rel => exact ⟨k + 1, by omega, by go_num, HN, HL2⟩
        case measure => simp [intOf]; omega
    · obtain rfl : k = p := by omega
      go_wp2_with fail
      go_ret
      exact ⟨by rw [HH.out]; rfl, S2.out.below⟩
end
end Go.Proofs.Ytpajbcgdoedleab
