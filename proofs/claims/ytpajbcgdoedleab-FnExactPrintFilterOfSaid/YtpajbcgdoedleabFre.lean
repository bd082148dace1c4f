/- Places that just one of some edges has: the model's. -/
import Derived.Test.YtpajbcgdoedleabEdAt
namespace Go.Proofs.Ytpajbcgdoedleab
open Go.RowKit

/-- The places below p whose degree is 1, increasing. -/
def freL (D : Nat → Int) : Nat → List Nat
  | 0 => []
  | p + 1 => if D p = 1 then freL D p ++ [p] else freL D p
theorem freL_len (D : Nat → Int) : ∀ k, (freL D k).length ≤ k
  | 0 => Nat.le_refl _
  | k + 1 => by
    have := freL_len D k
    rw [freL]; split
    · simp; omega
    · omega
theorem mem_freL {D : Nat → Int} {x : Nat} : ∀ {k}, x ∈ freL D k ↔ x < k ∧ D x = 1
  | 0 => by simp [freL]
  | k + 1 => by
    have ih := mem_freL (D := D) (x := x) (k := k)
    rw [freL]
    by_cases h : D k = 1
    · rw [if_pos h, List.mem_append, ih, List.mem_singleton]
      constructor
      · rintro (⟨h1, h2⟩ | rfl)
        · exact ⟨by omega, h2⟩
        · exact ⟨by omega, h⟩
      · rintro ⟨h1, h2⟩
        by_cases e : x = k
        · exact .inr e
        · exact .inl ⟨by omega, h2⟩
    · rw [if_neg h, ih]
      constructor
      · rintro ⟨h1, h2⟩; exact ⟨by omega, h2⟩
      · rintro ⟨h1, h2⟩
        by_cases e : x = k
        · subst e; exact absurd h2 h
        · exact ⟨by omega, h2⟩
theorem freL_nil {D : Nat → Int} {k : Nat} : (freL D k).length = 0 ↔ ∀ p, p < k → D p ≠ 1 := by
  rw [List.length_eq_zero_iff, List.eq_nil_iff_forall_not_mem]
  constructor
  · intro h p hp e; exact h p (mem_freL.2 ⟨hp, e⟩)
  · intro h p hp; rw [mem_freL] at hp; exact h p hp.1 hp.2
set_option maxRecDepth 100000 in
set_option maxHeartbeats 4000000 in
theorem spec_peFree (z : Nat) (A : Option Addr) (n c : Nat) (B : Nat → Option Addr) (l d : Nat → Nat) (X : Nat → Nat → Int) (EA : Option Addr) (m ec : Nat) (E : Nat → Nat) (w : World) (hn : n ≤ 40) (hm : m ≤ 60) (hz : z ≤ 72) (hr : HR w A n B l d X) (he : IRow w EA m (idxV E)) (hE : EdIdx n m E) (h3 : ∀ i, i < n → l i = 3) (hx : ∀ i, i < n → ∀ j, j < l i → 0 ≤ X i j ∧ X i j < z) :
    Calls Try.prog 125 #[.agg #[.int .i64 z, .slice A n c], .slice EA m ec] w fun e w' => ∃ FA fc, e = .returned (.slice FA (freL (dgF E l X m 0) z).length fc) ∧ w'.ownsRow (w.heap.size + 1) 3 1 (.slice FA (freL (dgF E l X m 0) z).length fc) (freL (dgF E l X m 0) z).length (vals (intV (lstV (freL (dgF E l X m 0) z))) (freL (dgF E l X m 0) z).length) ∧ Below w.heap.size w w' := by
  have L0 := Lib.hid (LH.start (z := (z : Int)) (c := c) hr 109)
  have HE0 := Lib.hid (he.b ((Below.refl _ _).alloc (Nat.le_refl _) (.cells #[.int .i64 z, .slice A n c] 109)))
  have HE := Lib.hid hE
  have H3 := Lib.hid h3
  have HX := Lib.hid hx
  obtain ⟨D, hD⟩ : ∃ D, D = dgF E l X m 0 := ⟨_, rfl⟩
  rw [← hD]
  have HDD := Lib.hid hD
  clear hr h3 hx he hE hD
  obtain ⟨hsz, b0, b1⟩ := L0.out.box
  go_enter Try.func125, Try.ntmps125
  go_wp2_with fail
  refine (spec_peDegrees z A n c B l d X EA m ec E _ hn hm hz L0.out.row HE0.out HE.out H3.out HX.out).mono ?_; rintro e w1 ⟨g, rfl, hg, ho, hb⟩
  have L1 := Lib.hid (L0.out.step hb)
  have HD := Lib.hid (show ORow w1 g z (fun p => D p) by rw [HDD.out]; exact ho)
  have hglt := ho.lt
  simp only [World.size_alloc] at hg
  clear hb L0 ho b0 b1
  go_wp2_with fail
  go_loopw [5, 12] (fun v i wr => ∃ (q : Nat) (A1 : Option Addr) (k1 : Nat), q ≤ z ∧ i = .int .i64 q ∧ v = .slice A1 (freL D q).length k1 ∧ Hid (wr.ownsRow (w1.heap.size) 3 1 (.slice A1 (freL D q).length k1) (freL D q).length (vals (intV (lstV (freL D q))) (freL D q).length)) ∧ Hid (Below w1.heap.size w1 wr)) (fun _ i _ => z - (intOf i).toNat)
  case atStart => exact ⟨0, none, 0, Nat.zero_le _, rfl, rfl, Lib.hid (World.ownsRow_nil _ _ _ _), by first | exact Lib.hid (Below.refl _ _) | exact Lib.hid (below_drewN (Below.refl _ _) _)⟩
  case round =>
    obtain ⟨q, A1, k1, hq, rfl, rfl, HO, HL⟩ := hrel
    have hlen := HL.out.size
    have hal := freL_len D q
    by_cases hlt : q < z
    · have hd := (HD.out.b HL.out).cell hlt
      by_cases hc : D q = 1
      · have HA := Lib.hid (show freL D (q + 1) = freL D q ++ [q] by rw [freL, if_pos hc])
        have HP := Lib.hid (push_lst (x := q) HO.out)
        have HV := Lib.hid (show intV (lstV (freL D q ++ [q])) (freL D q).length = .int .i64 (q : Int) by unfold intV; rw [lstV_new])
        rw [hc] at hd
        clear hc
        go_upto_region 6 with fail
        go_wp2_with (at_builtin; refine wpList_push rfl _ _ 22 rfl (w1.heap.size) 3 (.int .i64 0) 8 Try.underlying22 infoI rfl A1 (freL D q).length k1 (intV (lstV (freL D q ++ [q]))) (.int .i64 (q : Int)) _ rfl HP.out rfl HV.out rfl (by omega) (by omega) (by omega) ?_)
        intro A' c' w5 hown' hb5
        have L5 := Lib.hid (HL.out.trans hb5)
        have hlen1 : (freL D q).length + 1 = (freL D (q + 1)).length := by rw [HA.out]; simp
        rw [← HA.out] at hown'
        have HO5 := Lib.hid hown'
        clear hown' hb5 HO HL HP
        go_wp2_with fail
        go_roundw
        case rel => exact ⟨q + 1, A', c', by omega, by go_num, by rw [← hlen1], by rw [← hlen1]; exact HO5, L5⟩
        case measure => simp [intOf]; omega
      · have HA := Lib.hid (show freL D (q + 1) = freL D q by rw [freL, if_neg hc])
        have d1 : (D q == 1) = false := by simpa using hc
        generalize D q = v at hd d1
        clear hc
        go_wp2_with fail
        go_roundw
        case rel => exact ⟨q + 1, A1, k1, by omega, by go_num, by rw [HA.out], by rw [HA.out]; exact HO, HL⟩
        case measure => simp [intOf]; omega
    · obtain rfl : q = z := by omega
      go_wp2_with fail
      go_ret
      exact ⟨A1, k1, rfl, World.ownsRow.mono HO.out (show w.heap.size + 1 ≤ w1.heap.size by omega), L1.out.below.trans (HL.out.mono L1.out.below.size)⟩
end Go.Proofs.Ytpajbcgdoedleab
