/- BuildSparse: no Sparse; the model's way. -/
import Derived.Test.YtffdkfhnlgfigaaBuildT
import Derived.Test.YtffdkfhnlgfigaaLists
namespace Go.Proofs.Ytffdkfhnlgfigaa
open Go.RowKit

/-- Numbers that have a Sparse. -/
def SpOk (n : Nat) (X : Nat → Int) (L : Int) : Prop := n ≤ 60 ∧ 1 ≤ L ∧ L ≤ 100000 ∧ SrtI n X L
theorem spOk_num {n : Nat} {X : Nat → Int} {L : Int} (h : SpOk n X L) : ∃ l v : Nat, L = l ∧ (∀ i, i < n → X i = numI (fun j => (X j).toNat) i) ∧ SpN n l v (fun j => (X j).toNat) := by
  obtain ⟨h1, h2, h3, h4⟩ := h
  obtain ⟨l, rfl⟩ := Int.eq_ofNat_of_zero_le (show 0 ≤ L by omega)
  obtain ⟨v, hv⟩ := isW_ex n l
  refine ⟨l, v, rfl, fun i hi => ?_, ⟨h1, by omega, by omega, hv, fun i hi => ?_, fun i hi => ?_⟩⟩
  · have := h4 i hi; show X i = (((X i).toNat : Nat) : Int); omega
  · have := h4 i hi; show (X i).toNat < l; omega
  · have := h4 i (by omega)
    have h6 := h4 (i + 1) hi
    have h5 := h6.2.2 (by omega)
    rw [show i + 1 - 1 = i by omega] at h5; show (X i).toNat ≤ (X (i + 1)).toNat; omega
theorem spN_ok {n l v : Nat} {f : Nat → Nat} (h : SpN n l v f) : SpOk n (numI f) l := ⟨h.hc, by have := h.h1; omega, by have := h.hL; omega, srt_num h⟩

set_option maxRecDepth 100000 in
set_option maxHeartbeats 1000000 in
theorem impl_build_no (A : Option Addr) (n d : Nat) (X : Nat → Int) (L : Int) (w : World) (hn : n ≤ 1048576) (hr : IRow w A n X) (h : ¬ SpOk n X L) :
    Calls Try.prog 12 #[.slice A n d, .int .i64 L] w (SpOwn 0 0 0 0 0 (fun _ => 0) 0 0 (fun _ => 0) false w) := by
  have HR := Lib.hid hr
  clear hr
  by_cases hw : WOk n L
  · obtain ⟨c, l, v, hc, hl, h1, h2, h3, h4⟩ := wOk_nat hw
    obtain rfl : n = c := by omega
    have HS := Lib.hid (show ¬ SrtI n X L from fun hs => h ⟨h1, by omega, by omega, hs⟩)
    subst hl
    clear h hw
    go_enter Try.func12, Try.ntmps12
    go_wp2_with fail
    refine (impl_width_yes n l v _ h1 h2 h3 h4).mono ?_; rintro e w' ⟨rfl, rfl⟩
    go_wp2_with fail
    refine (impl_isSorted A n d X l _ hn (HR.out.b ((Below.refl _ _).alloc (Nat.le_refl _) _))).mono ?_; rintro e w' ⟨b, rfl, hb, rfl⟩
    obtain rfl : b = false := by cases b; rfl; exact absurd (hb.1 rfl) HS.out
    clear hb
    go_wp2_with fail
    refine bodyPost_ret (v := .tuple #[.agg #[.int .i64 0, .int .i64 0, .int .i64 0, .int .i64 0, .slice none 0 0, .int .i64 0, .slice none 0 0], .bool false]) (by simp [results, Try.results12, go_sem]) rfl ?_
    exact spOwn_none rfl (by first | exact (Below.refl _ _).alloc (Nat.le_refl _) _ | go_grown)
  · have HW := Lib.hid hw
    clear h hw
    go_enter Try.func12, Try.ntmps12
    go_wp2_with fail
    refine (impl_width_no n L _ HW.out).mono ?_; rintro e w' ⟨rfl, rfl⟩
    go_wp2_with fail
    refine bodyPost_ret (v := .tuple #[.agg #[.int .i64 0, .int .i64 0, .int .i64 0, .int .i64 0, .slice none 0 0, .int .i64 0, .slice none 0 0], .bool false]) (by simp [results, Try.results12, go_sem]) rfl ?_
    exact spOwn_none rfl (by first | exact (Below.refl _ _).alloc (Nat.le_refl _) _ | go_grown)

/-! The model. -/
def SokIs (n : Nat) (X : Nat → Int) (L : Int) (w : World) (e : Ending) (w' : World) : Prop := ∃ b : Bool, e = .returned (.bool b) ∧ (b = true ↔ SpOk n X L) ∧ w = w'
theorem bef_at {X : Nat → Int} {q : Nat} (h : 0 < q) : befI X q = X (q - 1) := by unfold befI; rw [if_neg (by omega)]

set_option maxRecDepth 100000 in
set_option maxHeartbeats 2000000 in
theorem spec_spSorted (A : Option Addr) (n c : Nat) (X : Nat → Int) (L : Int) (w : World) (hn : n ≤ 1048576) (hr : IRow w A n X) :
    Calls Try.prog 104 #[.slice A n c, .int .i64 L] w (SokIs n X L w) := by
  have HR := Lib.hid hr
  clear hr
  by_cases hL : 1 ≤ L ∧ L ≤ 100000
  · obtain ⟨l0, l1⟩ := hL
    go_enter Try.func104, Try.ntmps104
    go_wp2_with fail
    go_loop [5, 9] (fun l i => ∃ q : Nat, q ≤ n ∧ i = .int .i64 q ∧ Hid (SrtI q X L)) (fun _ i => n - (intOf i).toNat)
    case atStart => exact ⟨0, Nat.zero_le _, rfl, Lib.hid (fun i hi => absurd hi (by omega))⟩
    case round =>
      obtain ⟨q, hq, rfl, HS⟩ := hrel
      have b0 := srt_bef HS.out
      by_cases hlt : q < n
      · obtain ⟨b, off, rfl, hbl, hc⟩ := HR.out (by omega)
        have hcq := hc q hlt
        have HC := Lib.hid hc
        clear hc
        by_cases hin : 0 ≤ X q ∧ X q ≤ L - 1
        · by_cases h0 : q = 0
          · have HN := Lib.hid (srt_snoc HS.out (by subst h0; exact hin.1) (by omega) b0)
            have d0 : decide (0 < q) = false := by simp; omega
            clear b0 h0
            go_wp2_with fail
            refine (l1In_yes _ _ _ _ hin.1 hin.2).mono ?_; rintro e w' ⟨rfl, rfl⟩
            go_wp2_with fail
            go_round
            case rel => exact ⟨q + 1, by omega, by go_num, HN⟩
            case measure => simp [intOf]; omega
          · have hcp := HC.out (q - 1) (by omega)
            have d0 : decide (0 < (q : Int)) = true := by simp; omega
            have hbe := bef_at (X := X) (show 0 < q by omega)
            have e1 : ((q : Int) - 1).toNat = q - 1 := by omega
            have HE := Lib.hid hbe
            clear hbe b0
            by_cases hle : X (q - 1) ≤ X q
            · have HN := Lib.hid (srt_snoc HS.out (by rw [HE.out]; exact hle) (by omega) (srt_bef HS.out))
              have d1 : decide (X q < X (q - 1)) = false := by simp; omega
              go_wp2_with fail
              refine (l1In_yes _ _ _ _ hin.1 hin.2).mono ?_; rintro e w' ⟨rfl, rfl⟩
              go_wp2_with fail
              go_round
              case rel => exact ⟨q + 1, by omega, by go_num, HN⟩
              case measure => simp [intOf]; omega
            · have HF := Lib.hid (srt_not (L := L) hlt (by rw [HE.out]; omega))
              have d1 : decide (X q < X (q - 1)) = true := by simp; omega
              go_wp2_with fail
              refine (l1In_yes _ _ _ _ hin.1 hin.2).mono ?_; rintro e w' ⟨rfl, rfl⟩
              go_wp2_with fail
              go_ret
              exact ⟨false, rfl, by simp only [Bool.false_eq_true, false_iff]; exact fun h => HF.out h.2.2.2, rfl⟩
        · have HF := Lib.hid (show ¬ SrtI n X L from fun h => hin (by have := h q hlt; omega))
          have HI := Lib.hid hin
          clear b0 hin
          go_wp2_with fail
          refine (l1In_no _ _ _ _ HI.out).mono ?_; rintro e w' ⟨rfl, rfl⟩
          go_wp2_with fail
          go_ret
          exact ⟨false, rfl, by simp only [Bool.false_eq_true, false_iff]; exact fun h => HF.out h.2.2.2, rfl⟩
      · obtain rfl : q = n := by omega
        clear b0
        by_cases h60 : q ≤ 60
        · have d0 : decide ((q : Int) ≤ 60) = true := by simp; omega
          go_wp2_with fail
          refine (spec_limit_yes L _ l0 l1).mono ?_; rintro e w' ⟨rfl, rfl⟩
          go_wp2_with fail
          go_ret
          exact ⟨true, rfl, by simp only [true_iff]; exact ⟨h60, l0, l1, HS.out⟩, rfl⟩
        · have d0 : decide ((q : Int) ≤ 60) = false := by simp; omega
          go_wp2_with fail
          go_ret
          exact ⟨false, rfl, by simp only [Bool.false_eq_true, false_iff]; exact fun h => h60 h.1, rfl⟩
  · have HL := Lib.hid hL
    clear hL
    have HF := Lib.hid (show ¬ SpOk n X L from fun h => HL.out ⟨h.2.1, h.2.2.1⟩)
    go_enter Try.func104, Try.ntmps104
    go_wp2_with fail
    go_loop [5, 9] (fun l i => ∃ q : Nat, q ≤ n ∧ i = .int .i64 q) (fun _ i => n - (intOf i).toNat)
    case atStart => exact ⟨0, Nat.zero_le _, rfl⟩
    case round =>
      obtain ⟨q, hq, rfl⟩ := hrel
      by_cases hlt : q < n
      · obtain ⟨b, off, rfl, hbl, hc⟩ := HR.out (by omega)
        have hcq := hc q hlt
        have HC := Lib.hid hc
        clear hc
        go_wp2_with fail
        refine (l1In_any _ _ _ _).mono ?_; rintro e w' ⟨rfl, rfl⟩
        generalize decide (0 ≤ X q ∧ X q ≤ _) = bb
        cases bb with
        | false =>
          go_wp2_with fail
          go_ret
          exact ⟨false, rfl, by simp only [Bool.false_eq_true, false_iff]; exact HF.out, rfl⟩
        | true =>
          by_cases h0 : q = 0
          · have d0 : decide (0 < q) = false := by simp; omega
            clear h0
            go_wp2_with fail
            go_round
            case rel => exact ⟨q + 1, by omega, by go_num⟩
            case measure => simp [intOf]; omega
          · have hcp := HC.out (q - 1) (by omega)
            have d0 : decide (0 < (q : Int)) = true := by simp; omega
            have e1 : ((q : Int) - 1).toNat = q - 1 := by omega
            by_cases hle : X (q - 1) ≤ X q
            · have d1 : decide (X q < X (q - 1)) = false := by simp; omega
              go_wp2_with fail
              go_round
              case rel => exact ⟨q + 1, by omega, by go_num⟩
              case measure => simp [intOf]; omega
            · have d1 : decide (X q < X (q - 1)) = true := by simp; omega
              go_wp2_with fail
              go_ret
              exact ⟨false, rfl, by simp only [Bool.false_eq_true, false_iff]; exact HF.out, rfl⟩
      · obtain rfl : q = n := by omega
        by_cases h60 : q ≤ 60
        · have d0 : decide ((q : Int) ≤ 60) = true := by simp; omega
          go_wp2_with fail
          refine (spec_limit_no L _ HL.out).mono ?_; rintro e w' ⟨rfl, rfl⟩
          go_wp2_with fail
          go_ret
          exact ⟨false, rfl, by simp only [Bool.false_eq_true, false_iff]; exact HF.out, rfl⟩
        · have d0 : decide ((q : Int) ≤ 60) = false := by simp; omega
          go_wp2_with fail
          go_ret
          exact ⟨false, rfl, by simp only [Bool.false_eq_true, false_iff]; exact HF.out, rfl⟩
end Go.Proofs.Ytffdkfhnlgfigaa
