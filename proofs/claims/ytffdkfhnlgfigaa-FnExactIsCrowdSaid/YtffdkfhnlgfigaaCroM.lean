/- Crowds: both ways. -/
import Derived.Test.YtffdkfhnlgfigaaPopW
import Derived.Test.YtffdkfhnlgfigaaWideM
import Derived.Test.YtffdkfhnlgfigaaPlcJ
import Derived.Test.YtffdkfhnlgfigaaEdge
import Derived.Test.YtffdkfhnlgfigaaObjTch
import Derived.BigQuiet
namespace Go.Proofs.Ytffdkfhnlgfigaa
open Go.RowKit

/-- The cells of the first q keys of a list. -/
def orW (V : Nat → Nat → Int) (F : Nat → Int) : Nat → Nat
  | 0 => 0
  | q + 1 => orW V F q ||| setN (V (F q).toNat) 2
theorem orW_lt {V : Nat → Nat → Int} {F : Nat → Int} (h : ∀ i k, ∃ p : Nat, V i k = (p : Int) ∧ p < 64) : ∀ q, orW V F q < 18446744073709551616
  | 0 => by simp [orW]
  | q + 1 => Nat.or_lt_two_pow (n := 64) (orW_lt h q) (setN_lt (fun k _ => h _ k) 2 (by omega))
theorem orW_bit {V : Nat → Nat → Int} {F : Nat → Int} (h : ∀ i k, ∃ p : Nat, V i k = (p : Int) ∧ p < 64) (c : Nat) : ∀ q, ((orW V F q).testBit c = true ↔ ∃ i, i < q ∧ ∃ k, k < 2 ∧ V (F i).toNat k = (c : Int))
  | 0 => by simp [orW]
  | q + 1 => by
    rw [orW, Nat.testBit_or, Bool.or_eq_true, orW_bit h c q, setN_bit (fun k _ => h _ k) c 2 (by omega)]
    constructor
    · rintro (⟨i, hi, k, hk, e⟩ | ⟨k, hk, e⟩)
      · exact ⟨i, by omega, k, hk, e⟩
      · exact ⟨q, by omega, k, hk, e⟩
    · rintro ⟨i, hi, k, hk, e⟩
      rcases Nat.lt_or_ge i q with e2 | e2
      · exact .inl ⟨i, e2, k, hk, e⟩
      · obtain rfl : i = q := by omega
        exact .inr ⟨k, hk, e⟩
theorem wide_cnt {V : Nat → Nat → Int} {F Y : Nat → Int} {m l : Nat} (h : ∀ i k, ∃ p : Nat, V i k = (p : Int) ∧ p < 64) (hY : RisQ Y l) (hm : WMem V F m Y l) : l = cntF (orW V F m).testBit 64 :=
  ris_cnt _ 64 l Y hY fun v => (hm v).trans ⟨fun ⟨i, hi, k, hk, e⟩ => by
    obtain ⟨p, hp, hp2⟩ := h (F i).toNat k
    exact ⟨p, hp2, by rw [← e, hp], (orW_bit h p m).2 ⟨i, hi, k, hk, hp⟩⟩, fun ⟨c, _, hc2, hc3⟩ => by
    obtain ⟨i, hi, k, hk, e⟩ := (orW_bit h c m).1 hc3
    exact ⟨i, hi, k, hk, by rw [e, hc2]⟩⟩
theorem risT_ge {h : Int} {m : Nat} {F : Nat → Int} (hr : RisT h m F) : ∀ i, i < m → (i : Int) ≤ F i := by
  intro i
  induction i with
  | zero => intro hi; exact (hr 0 hi).1
  | succ i ih => intro hi; have := ih (by omega); have := (hr (i + 1) hi).2.2 (by omega); rw [Nat.add_sub_cancel] at this; omega
theorem risT_len {n m : Nat} {F : Nat → Int} (hr : RisT ((n : Int) - 1) m F) : m ≤ n := by
  rcases Nat.eq_zero_or_pos m with e | e
  · omega
  · have h1 := risT_ge hr (m - 1) (by omega)
    have h2 := (hr (m - 1) (by omega)).2.1
    omega
theorem risT_key {n m : Nat} {F : Nat → Int} (hr : RisT ((n : Int) - 1) m F) : ∀ i, i < m → ∃ f : Nat, F i = (f : Int) ∧ f < n := fun i hi => by
  obtain ⟨h1, h2, _⟩ := hr i hi
  exact ⟨(F i).toNat, by omega, by omega⟩
/-- A list of keys that have fewer cells than they are. -/
def CrP (V : Nat → Nat → Int) (n : Nat) (F : Nat → Int) (m : Nat) : Prop := RisT ((n : Int) - 1) m F ∧ cntF (orW V F m).testBit 64 < m
set_option maxRecDepth 100000 in
set_option maxHeartbeats 2000000 in
theorem spec_isCrowd (z P : Int) (KA : Option Addr) (n kc : Nat) (S : Nat → ByteArray) (FA : Option Addr) (m mc : Nat) (F : Nat → Int) (w : World) (hn : n ≤ 1048576) (hs : ∀ i, i < n → (S i).size ≤ maxLen) (hr : GRow w KA n (strV S)) (hm : m ≤ 1048576) (hf : IRow w FA m F) :
    Calls Try.prog 35 #[.int .i64 z, .slice KA n kc, .int .i64 P, .slice FA m mc] w (WordIs (sizeB z P && keysB S n) (CrP (celV2 z P S) n F m) w) := by
  have HR := Lib.hid hr
  have HS := Lib.hid hs
  have HF := Lib.hid hf
  clear hr hs hf
  cases hk : (sizeB z P && keysB S n) with
  | false =>
    go_enter Try.func35, Try.ntmps35
    go_wp2_with fail
    refine (spec_cuKeyed z P KA n kc S _ hn HS.out HR.out).mono ?_; rintro e w' ⟨rfl, rfl⟩
    rw [hk]
    go_wp2_with fail
    go_ret2
    exact ⟨false, rfl, by simp, Below.refl _ _⟩
  | true =>
    have hz : sizeB z P = true := by simp only [Bool.and_eq_true] at hk; exact hk.1
    have hkb : n ≤ 40 := by simp only [Bool.and_eq_true, keysB, decide_eq_true_eq] at hk; exact hk.2.1
    go_enter Try.func35, Try.ntmps35
    go_wp2_with fail
    refine (spec_cuKeyed z P KA n kc S _ hn HS.out HR.out).mono ?_; rintro e w' ⟨rfl, rfl⟩
    rw [hk]
    go_wp2_with fail
    refine (spec_l1RisT FA m mc F ((n : Int) - 1) _ hm HF.out).mono ?_; rintro e w2 ⟨b, rfl, hb, k, rfl⟩
    cases b with
    | false =>
      have HX := Lib.hid (show ¬ CrP (celV2 z P S) n F m from fun h => by have := hb.2 h.1; cases this)
      clear hb
      go_wp2_with fail
      go_ret2
      exact ⟨false, rfl, by simp only [Bool.false_eq_true, true_and, false_iff]; exact HX.out, below_drewN (Below.refl _ _) k⟩
    | true =>
      have HX := Lib.hid (hb.1 rfl)
      have hmn := risT_len (hb.1 rfl)
      clear hb
      go_wp2_with fail
      refine (spec_cuPairs z P KA n kc S _ hn HS.out (HR.out.b (below_drewN (Below.refl _ _) k)) hz).mono ?_; rintro e w2 ⟨A, c, G, rfl, hp, hb⟩
      have HP := Lib.hid hp
      have HB := Lib.hid ((below_drewN (Below.refl w.heap.size w) k).trans (hb.mono (by simp)))
      have HF2 := Lib.hid (HF.out.b HB.out)
      clear hp hb
      go_wp2_with fail
      refine (spec_cuWide A n c G _ FA m mc F _ (by omega) HP.out HF2.out (risT_key HX.out)).mono ?_; rintro e w3 ⟨l, Y, rfl, hY, hW, hb⟩
      have hl := wide_cnt (fun i k => celV2_bd hz i k) hY hW
      have HL := Lib.hid hl
      have HBB := Lib.hid (HB.out.trans (hb.mono HB.out.size))
      clear hb hY hW hl
      go_wp2_with fail
      go_ret2
      exact ⟨decide (l < m), by simp, by simp only [decide_eq_true_eq, true_and, CrP]; rw [← HL.out]; exact ⟨fun h => ⟨HX.out, h⟩, fun h => h.2⟩, HBB.out⟩
end Go.Proofs.Ytffdkfhnlgfigaa
