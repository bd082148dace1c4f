/- Placements: the program's answer. -/
import Derived.Test.YtfjimjbndkhkcaaPlcK
import Derived.Shelf.Abstract
namespace Go.Proofs.Ytfjimjbndkhkcaa
open Go.RowKit

def DifQ (F : Nat → Int) (n : Nat) : Prop := ∀ a b, a < b → b < n → F b ≠ F a
set_option maxRecDepth 100000 in
set_option maxHeartbeats 1000000 in
theorem impl_areDifferentQ (A : Option Addr) (n c : Nat) (F : Nat → Int) (w : World) (hn : n ≤ 1048576) (hnc : n ≤ c) (hr : IRow w A n F) :
    Calls Try.prog 105 #[.slice A n c] w (DecIs (DifQ F n) w) := by
  have HL := Lib.hid hr
  clear hr
  go_enter Try.func105, Try.ntmps105
  go_wp2_with fail
  go_loop [7] (fun i => ∃ k : Nat, k ≤ n ∧ i = .int .i64 k ∧ Hid (DifQ F k)) (fun i => n - (intOf i).toNat)
  case atStart => exact ⟨0, Nat.zero_le _, rfl, Lib.hid (fun a b h1 h2 => by omega)⟩
  case round =>
    obtain ⟨k, hk, rfl, HN⟩ := hrel
    by_cases hlt : k < n
    · obtain ⟨b, off, rfl, hbl, hcc⟩ := HL.out (by omega)
      have hx := hcc k hlt
      have HSL := Lib.hid (fun W => run_headQ (some ⟨b, off, none⟩) n c k (by omega) W)
      have HRW := Lib.hid (show IRow w (some ⟨b, off, none⟩) k F from fun _ => ⟨b, off, rfl, hbl, fun j hj => hcc j (by omega)⟩)
      have hsl := HSL.out
      clear hcc
      go_wp2_with fail
      refine (contains_is _ k c F (F k) _ (by omega) HRW.out).mono ?_; rintro e w2 ⟨r, rfl, hrr, rfl⟩
      cases r with
      | true =>
        obtain ⟨i, hi1, hi2⟩ := hrr.1 rfl
        have HX := Lib.hid (show ¬ DifQ F n from fun h => h i k hi1 hlt hi2.symm)
        clear hrr hi2
        go_wp2_with fail
        go_ret
        exact ⟨false, rfl, by simp only [Bool.false_eq_true, false_iff]; exact HX.out, rfl⟩
      | false =>
        have HX := Lib.hid (show DifQ F (k + 1) from fun a b h1 h2 => by
          by_cases e : b = k
          · subst e; exact fun he => absurd (hrr.2 ⟨a, h1, he.symm⟩) (by simp)
          · exact HN.out a b h1 (by omega))
        clear hrr
        go_wp2_with fail
        go_round
        case rel => exact ⟨k + 1, by omega, by go_num, HX⟩
        case measure => simp [intOf]; omega
    · obtain rfl : k = n := by omega
      go_wp2_with fail
      go_ret
      exact ⟨true, rfl, by simp only [true_iff]; exact HN.out, rfl⟩
theorem plP_iff {V : Nat → Nat → Int} {n m : Nat} {F : Nat → Int} (h : ∀ i k, ∃ p : Nat, V i k = (p : Int) ∧ p < 64) : PlP V n F m ↔ EqP (fun i => setN (V i) 2) n F m ∧ DifQ F m := by
  have hb : ∀ i, (∃ k, k < 2 ∧ V i k = F i) ↔ hasB (setN (V i) 2) (F i) = true := fun i => by
    unfold hasB
    by_cases h0 : 0 ≤ F i
    · rw [decide_eq_true h0, Bool.true_and, setN_bit (fun k _ => h i k) _ 2 (Nat.le_refl _), Int.toNat_of_nonneg h0]
    · rw [decide_eq_false h0, Bool.false_and]
      simp only [Bool.false_eq_true, iff_false]
      rintro ⟨k, _, hk⟩
      obtain ⟨p, hp, _⟩ := h i k
      omega
  constructor
  · rintro ⟨rfl, h1, h2⟩
    exact ⟨⟨rfl, fun i hi => (hb i).1 (h1 i hi)⟩, fun a b hab hbn he => h2 b hbn a hab he.symm⟩
  · rintro ⟨⟨rfl, h1⟩, h2⟩
    exact ⟨rfl, fun i hi => (hb i).2 (h1 i hi), fun i hi j hj he => h2 j i hj hi he.symm⟩
set_option maxRecDepth 100000 in
set_option maxHeartbeats 2000000 in
theorem impl_isPlaced (A : Option Addr) (n c : Nat) (V : Nat → Nat → Int) (FA : Option Addr) (m mc : Nat) (F : Nat → Int) (w : World) (hn : n ≤ 1048576) (hm : m ≤ 1048576) (hmc : m ≤ mc) (hV : ∀ i k, ∃ p : Nat, V i k = (p : Int) ∧ p < 64)
    (hr : GRow w A n (setV V)) (hf : IRow w FA m F) : Calls Try.prog 63 #[.slice A n c, .slice FA m mc] w (DecIs (PlP V n F m) w) := by
  have HI := Lib.hid (plP_iff (n := n) (m := m) (F := F) hV)
  have HE := Lib.hid (fun W (h1 : GRow W A n (setV V)) (h2 : IRow W FA m F) => equal_has 104 (enters_of Try.func104 (by kernel_rfl) rfl) #[] A n c (fun i => setN (V i) 2) FA m mc F W hn hm h1 h2 (fun i _ x W' => impl_has _ x W' (setN_lt (fun k _ => hV i k) 2 (Nat.le_refl _))))
  have HR := Lib.hid hr
  have HF := Lib.hid hf
  clear hr hf
  go_enter Try.func63, Try.ntmps63
  go_wp2_with fail
  refine (HE.out _ HR.out HF.out).mono ?_; rintro e w2 ⟨r, rfl, hrr, rfl⟩
  cases r with
  | false =>
    have HX := Lib.hid (show ¬ PlP V n F m from fun h => by have := hrr.2 (HI.out.1 h).1; cases this)
    clear hrr
    go_wp2_with fail
    go_ret
    exact ⟨false, rfl, by simp only [Bool.false_eq_true, false_iff]; exact HX.out, rfl⟩
  | true =>
    have HX := Lib.hid (hrr.1 rfl)
    clear hrr
    go_wp2_with fail
    refine (impl_areDifferentQ FA m mc F _ hm hmc HF.out).mono ?_; rintro e w2 ⟨r, rfl, hrr, rfl⟩
    have HY := Lib.hid hrr
    clear hrr
    go_wp2_with fail
    go_ret
    exact ⟨r, rfl, HY.out.trans ⟨fun h => HI.out.2 ⟨HX.out, h⟩, fun h => (HI.out.1 h).2⟩, rfl⟩
set_option maxRecDepth 100000 in
set_option maxHeartbeats 2000000 in
theorem impl_isPlacement (z P : Int) (KA : Option Addr) (n kc : Nat) (S : Nat → ByteArray) (FA : Option Addr) (m mc : Nat) (F : Nat → Int) (w : World) (hn : n ≤ 1048576) (hs : ∀ i, i < n → (S i).size ≤ maxLen) (hr : GRow w KA n (strV S)) (hm : m ≤ 1048576) (hmc : m ≤ mc) (hf : IRow w FA m F) :
    Calls Try.prog 21 #[.int .i64 z, .slice KA n kc, .int .i64 P, .slice FA m mc] w (WordIs (sizeB z P && keysB S n) (PlP (celV2 z P S) n F m) w) := by
  have HR := Lib.hid hr
  have HS := Lib.hid hs
  have HF := Lib.hid hf
  clear hr hs hf
  go_enter Try.func21, Try.ntmps21
  go_wp2_with fail
  refine (impl_cellSetsOf z P KA n kc S _ hn HS.out HR.out).mono ?_; rintro e w2 ⟨hb, hor⟩
  have HB := Lib.hid hb
  have HF2 := Lib.hid (HF.out.b hb)
  clear hb
  rcases hor with ⟨hk, rfl⟩ | ⟨hk, A, c, rfl, ha⟩
  · go_wp2_with fail
    go_ret2
    exact ⟨false, by rw [hk]; rfl, by simp [hk], HB.out⟩
  · have HA := Lib.hid ha
    have hV := Lib.hid (fun i k => celV2_bd (S := S) (z := z) (P := P) (by simp only [Bool.and_eq_true] at hk; exact hk.1) i k)
    clear ha
    go_wp2_with fail
    refine (impl_isPlaced A n c _ FA m mc F _ hn hm hmc hV.out HA.out HF2.out).mono ?_; rintro e w3 ⟨b, rfl, hb, rfl⟩
    have HBB := Lib.hid hb
    clear hb
    go_wp2_with fail
    go_ret2
    exact ⟨b, by rw [hk]; rfl, by rw [hk]; simp only [true_and]; exact HBB.out, HB.out⟩
end Go.Proofs.Ytfjimjbndkhkcaa
