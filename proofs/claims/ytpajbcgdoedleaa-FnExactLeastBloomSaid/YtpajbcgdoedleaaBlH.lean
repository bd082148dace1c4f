/- What a filter answers, both sides; bits turned on at the probes of a key, the program's side. -/
import Derived.Test.YtpajbcgdoedleaaBlP
namespace Go.Proofs.Ytpajbcgdoedleaa
open Go.RowKit

section
variable {z0 : Int} {p z : Nat} {A : Option Addr} {n c : Nat} {X : Nat → Int} {s : ByteArray} {w : World}
set_option maxRecDepth 100000 in
set_option maxHeartbeats 1000000 in
theorem impl_turnOn {g m : Nat} {F : Nat → Bool} (h : fiB z0 p z = true) (hm : m = (z + 15) / 16) (hs : s.size ≤ maxLen) (ho : OB w g m F) :
    Calls Try.prog 65 #[.agg #[.int .i64 z0, .int .i64 p, .int .i64 z, .slice (some ⟨g, 0, none⟩) m c], .string s] w fun e w' => e = .returned (.tuple #[]) ∧ OB w' g m (onP F (prN z0 s z) p) ∧ w.grownBy w' (some g) := by
  obtain ⟨h0, h1, h2⟩ := fiB_out h
  have B0 := Lib.hid (boxed w #[.int .i64 z0, .int .i64 p, .int .i64 z, .slice (some ⟨g, 0, none⟩) m c] 31)
  have L0 := Lib.hid ((Below.refl w.heap.size w).alloc (Nat.le_refl _) (.cells #[.int .i64 z0, .int .i64 p, .int .i64 z, .slice (some ⟨g, 0, none⟩) m c] 31))
  have O0 := Lib.hid (ho.alloc (.cells #[.int .i64 z0, .int .i64 p, .int .i64 z, .slice (some ⟨g, 0, none⟩) m c] 31))
  have hgl := ho.lt
  have x0 := B0.out.now 0 _ rfl
  have x1 := B0.out.now 1 _ rfl
  have x2 := B0.out.now 2 _ rfl
  have x3 := B0.out.now 3 _ rfl
  have HM := Lib.hid hm
  have hm2 : m ≤ 256 := by omega
  have hmz : z ≤ 16 * m := by omega
  clear ho hm
  go_enter Try.func65, Try.ntmps65
  go_wp2_with fail
  refine (impl_probesFor h hs).mono ?_; rintro e w1 ⟨gp, rfl, hgp, hop, hb⟩
  rw [World.size_alloc] at hgp
  have R1 := Lib.hid hop
  have hgpl := hop.lt
  have B1 := Lib.hid (B0.out.b hb)
  have O1 := Lib.hid (O0.out.b hb)
  have G1 := Lib.hid (grown_of_below (L0.out.trans (hb.mono (by simp))) (some g))
  have hs1 := hb.size
  rw [World.size_alloc] at hs1
  clear hop hb x0 x1 x2 x3 O0
  go_wp2_with fail
  go_loopw [10] (fun i wr => ∃ k : Nat, k ≤ p ∧ i = .int .i64 k ∧ Hid (OB wr g m (onP F (prN z0 s z) k)) ∧ Hid (w1.grownBy wr (some g))) (fun i _ => p - (intOf i).toNat)
  case atStart => exact ⟨0, Nat.zero_le _, rfl, O1, Lib.hid (World.grownBy.refl w1 _)⟩
  case round =>
    obtain ⟨k, hk, rfl, HO, HG⟩ := hrel
    by_cases hlt : k < p
    · obtain ⟨v1, v2⟩ := prI_nat z0 s (z := z) (by omega) k
      have hx := (R1.out.grown HG.out (by intro e; injection e with e; omega)).cell hlt
      rw [v1] at hx
      have x3 := (World.cell?_of_block (a := ⟨w.heap.size, 3, none⟩) (HG.out.block w.heap.size (by omega) (by intro e; injection e with e; omega))).trans (B1.out.now 3 _ rfl)
      have HC := Lib.hid (impl_setOn (c := c) (i := prN z0 s z k) HO.out hm2 (by omega))
      clear v1
      go_wp2_with fail
      refine HC.out.mono ?_; rintro e w2 ⟨rfl, ho2, hg2⟩
      have HO2 := Lib.hid (show OB w2 g m (onP F (prN z0 s z) (k + 1)) from ho2)
      have HG2 := Lib.hid (grown_two HG.out hg2)
      clear ho2 hg2 x3 hx
      go_wp2_with fail
      go_roundw
      case rel => exact ⟨k + 1, by omega, by go_num, HO2, HG2⟩
      case measure => simp [intOf]; omega
    · obtain rfl : k = p := by omega
      go_wp2_with fail
      go_end0
      exact ⟨rfl, HO.out, grown_two G1.out HG.out⟩
set_option maxRecDepth 100000 in
set_option maxHeartbeats 1000000 in
theorem impl_answersYes (h : fiB z0 p z = true) (hn : n ≤ 1048576) (hg : Good z n X) (hs : s.size ≤ maxLen) (hr : IRow w A n X) :
    Calls Try.prog 67 #[.agg #[.int .i64 z0, .int .i64 p, .int .i64 z, .slice A n c], .string s] w fun e w' => e = .returned (.bool (hasP (bitX X) (prN z0 s z) p)) ∧ Below w.heap.size w w' := by
  obtain ⟨h0, h1, h2⟩ := fiB_out h
  have S0 := Lib.hid (BlC.start (z0 := z0) (z1 := p) (z2 := z) (c := c) hr)
  have x0 := S0.out.box.cell 0 _ rfl
  have x1 := S0.out.box.cell 1 _ rfl
  have x2 := S0.out.box.cell 2 _ rfl
  have x3 := S0.out.box.cell 3 _ rfl
  have HG := Lib.hid hg
  have hzn : z ≤ 16 * n := by have := hg.2.2.1; omega
  clear hr hg
  go_enter Try.func67, Try.ntmps67
  go_wp2_with fail
  refine (impl_probesFor h hs).mono ?_; rintro e w1 ⟨gp, rfl, hgp, hop, hb⟩
  have R1 := Lib.hid (show IRow w1 (some ⟨gp, 0, none⟩) p (prI z0 s z) from hop.row)
  have S1 := Lib.hid (S0.out.step hb)
  have RW := Lib.hid (wrow_good S1.out.row HG.out)
  clear hop hb x0 x1 x2 x3 S0 hgp
  generalize (some (⟨gp, 0, none⟩ : Addr)) = PA at *
  have x3 := S1.out.box.cell 3 _ rfl
  go_wp2_with fail
  go_loop [11] (fun i => ∃ k : Nat, k ≤ p ∧ i = .int .i64 k ∧ Hid (hasP (bitX X) (prN z0 s z) k = true)) (fun i => p - (intOf i).toNat)
  case atStart => exact ⟨0, Nat.zero_le _, rfl, Lib.hid rfl⟩
  case round =>
    obtain ⟨k, hk, rfl, HH⟩ := hrel
    by_cases hlt : k < p
    · obtain ⟨v1, v2⟩ := prI_nat z0 s (z := z) (by omega) k
      obtain ⟨b, off, hPA, _, hc⟩ := R1.out (by omega)
      have hx := hc k hlt
      rw [v1] at hx
      have HC := Lib.hid (impl_isOn A n c (fun i => (X i).toNat) (prN z0 s z k) w1 hn RW.out (by omega))
      clear v1 hc
      subst hPA
      go_wp2_with fail
      refine HC.out.mono ?_; rintro e w2 ⟨rfl, rfl⟩
      cases hbit : bitN (fun i => (X i).toNat) (prN z0 s z k) with
      | false =>
        have HF := Lib.hid (hasP_no (F := bitX X) (P := prN z0 s z) (j := k) hbit p hlt)
        clear hbit
        go_wp2_with fail
        go_ret
        exact ⟨by rw [HF.out]; rfl, S1.out.below⟩
      | true =>
        have HN := Lib.hid (show hasP (bitX X) (prN z0 s z) (k + 1) = true by rw [hasP, HH.out]; exact hbit)
        clear hbit
        go_wp2_with fail
        go_round
        case rel => exact ⟨k + 1, by omega, by go_num, HN⟩
        case measure => simp [intOf]; omega
    · obtain rfl : k = p := by omega
      go_wp2_with fail
      go_ret
      exact ⟨by rw [HH.out]; rfl, S1.out.below⟩
set_option maxRecDepth 100000 in
set_option maxHeartbeats 1000000 in
theorem spec_fiHas (h : fiB z0 p z = true) (hn : n ≤ 1048576) (hg : Good z n X) (hs : s.size ≤ maxLen) (hr : IRow w A n X) :
    Calls Try.prog 66 #[.agg #[.int .i64 z0, .int .i64 p, .int .i64 z, .slice A n c], .string s] w fun e w' => e = .returned (.bool (hasP (bitX X) (prN z0 s z) p)) ∧ Below w.heap.size w w' := by
  obtain ⟨h0, h1, h2⟩ := fiB_out h
  have S0 := Lib.hid (BlC.start (z0 := z0) (z1 := p) (z2 := z) (c := c) hr)
  have x0 := S0.out.box.cell 0 _ rfl
  have x1 := S0.out.box.cell 1 _ rfl
  have x2 := S0.out.box.cell 2 _ rfl
  have HG := Lib.hid hg
  have hzn : z ≤ 16 * n := by have := hg.2.2.1; omega
  clear hr hg
  go_enter Try.func66, Try.ntmps66
  go_wp2_with fail
  refine (spec_fiProbes h0 (by omega) (by omega) hs).mono ?_; rintro e w1 ⟨PA, pc, rfl, hop, hb⟩
  have R1 := Lib.hid (show IRow w1 PA p (prI z0 s z) from (owned_vec hop).row)
  have S1 := Lib.hid (S0.out.step hb)
  clear hop hb x0 x1 x2 S0
  go_wp2_with fail
  go_loopw [17] (fun i wr => ∃ k : Nat, k ≤ p ∧ i = .int .i64 k ∧ Hid (hasP (bitX X) (prN z0 s z) k = true) ∧ Hid (Below w1.heap.size w1 wr)) (fun i _ => p - (intOf i).toNat)
  case atStart => exact ⟨0, Nat.zero_le _, rfl, Lib.hid rfl, Lib.hid (Below.refl _ _)⟩
  case round =>
    obtain ⟨k, hk, rfl, HH, HL⟩ := hrel
    have S2 := Lib.hid (S1.out.step HL.out)
    by_cases hlt : k < p
    · obtain ⟨v1, v2⟩ := prI_nat z0 s (z := z) (by omega) k
      obtain ⟨b, off, hPA, _, hc⟩ := (R1.out.b HL.out) (by omega)
      have hx := hc k hlt
      rw [v1] at hx
      have x2 := S2.out.box.cell 2 _ rfl
      have x3 := S2.out.box.cell 3 _ rfl
      have RW := Lib.hid (wrow_good S2.out.row HG.out)
      have hr16 : prN z0 s z k < 16 * n := by omega
      clear v1 hc
      subst hPA
      go_wp2_with fail
      refine (spec_biAt z A n c _ (prN z0 s z k) wr hn RW.out hr16).mono ?_; rintro e w2 ⟨rfl, hb2⟩
      have HL2 := Lib.hid (HL.out.trans (hb2.mono HL.out.size))
      cases hbit : bitN (fun i => (X i).toNat) (prN z0 s z k) with
      | false =>
        have HF := Lib.hid (hasP_no (F := bitX X) (P := prN z0 s z) (j := k) hbit p hlt)
        clear hbit hb2
        go_wp2_with fail
        go_ret
        exact ⟨by rw [HF.out]; rfl, (S1.out.step HL2.out).below⟩
      | true =>
        have HN := Lib.hid (show hasP (bitX X) (prN z0 s z) (k + 1) = true by rw [hasP, HH.out]; exact hbit)
        clear hbit hb2 x2 x3 hx
        go_wp2_with fail
        go_roundw
        case rel => exact ⟨k + 1, by omega, by go_num, HN, HL2⟩
        case measure => simp [intOf]; omega
    · obtain rfl : k = p := by omega
      go_wp2_with fail
      go_ret
      exact ⟨by rw [HH.out]; rfl, S2.out.below⟩
end
end Go.Proofs.Ytpajbcgdoedleaa
