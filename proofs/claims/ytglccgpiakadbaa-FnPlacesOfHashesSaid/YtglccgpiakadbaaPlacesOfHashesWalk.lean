/- The law FnPlacesOfHashes, walked. -/
import Derived.Test.YtglccgpiakadbaaOpenB
import Derived.Test.YtglccgpiakadbaaCur2
import Derived.Test.YtglccgpiakadbaaHash
namespace Go.Proofs.Ytglccgpiakadbaa
open Go.RowKit

theorem placeR_yes {s p : Int} {l : List UInt8} {x : Int} (h : seedB s p = true ∧ isKeyB l = true ∧ 1 ≤ x ∧ x ≤ 4096) : placeR s p l x = (placeI s p l x, true) := by unfold placeR; rw [if_pos h]
theorem placeR_no {s p : Int} {l : List UInt8} {x : Int} (h : ¬ (seedB s p = true ∧ isKeyB l = true ∧ 1 ≤ x ∧ x ≤ 4096)) : placeR s p l x = (0, false) := by unfold placeR; rw [if_neg h]
theorem hashR_yes {s p : Int} {l : List UInt8} (h : seedB s p = true ∧ isKeyB l = true) : hashR s p l = (hashI s p l, true) := by unfold hashR; rw [if_pos h]
theorem hashR_no {s p : Int} {l : List UInt8} (h : ¬ (seedB s p = true ∧ isKeyB l = true)) : hashR s p l = (0, false) := by unfold hashR; rw [if_neg h]
theorem place_mono {g h x : Int} (h0 : 0 ≤ x) (hgh : g ≤ h) : g * x / 65521 ≤ h * x / 65521 :=
  Int.ediv_le_ediv (by omega) (Int.mul_le_mul_of_nonneg_right hgh h0)

set_option maxRecDepth 100000 in
set_option maxHeartbeats 4000000 in
theorem walk_FnPlacesOfHashes (w : World) (A : Option Addr) (n c : Nat) (D : Nat → Int) (hn : n ≤ maxLen) (hr : URow w A n D) (B : Option Addr) (m d : Nat) (E : Nat → Int) (hm : m ≤ maxLen) (hs : URow w B m E) :
    Calls Try.prog 7 #[.slice A n c, .slice B m d] w fun e w' => e = .returned (.bool true) ∧ Below w.heap.size w w' := by
  have HR := Lib.hid hr
  have HS := Lib.hid hs
  clear hr hs
  by_cases hbig : n + m ≤ 1048576
  rotate_left
  · have hb : (!decide (n + m ≤ 1048576)) = true := by simp; omega
    go_enter Try.func7, Try.ntmps7
    go_wp2_with fail
    refine (big_is A B n c m d w hn hm).mono ?_; rintro e w' ⟨rfl, rfl⟩
    rw [hb]
    go_wp2_with fail
    go_ret
    exact ⟨rfl, Below.refl _ _⟩
  have hb : (!decide (n + m ≤ 1048576)) = false := by simp; omega
  go_enter Try.func7, Try.ntmps7
  go_wp2_with fail
  refine (big_is A B n c m d w hn hm).mono ?_; rintro e w' ⟨rfl, rfl⟩
  rw [hb]
  clear hb
  go_wp2_with fail
  refine (draw_placeOf A n c D w (by omega) HR.out.1 HR.out.2).mono ?_; rintro e w1 ⟨s, p, t, x, s0, s1, p0, p1, ht, x0, x1, rfl, hb1⟩
  have HB1 := Lib.hid hb1
  have hts : t.size ≤ maxLen := by unfold maxLen; omega
  clear hb1
  by_cases hok : seedB s p = true ∧ isKeyB t.data.toList = true ∧ 1 ≤ x ∧ x ≤ 4096
  · have HP := Lib.hid (placeR_yes hok)
    have HH := Lib.hid (hashR_yes ⟨hok.1, hok.2.1⟩)
    obtain ⟨h0, h1⟩ := hashI_bd s p t.data.toList
    obtain ⟨q0, q1⟩ := hash_mul_bd s p t.data.toList x (by omega) (by omega)
    have hpl := Lib.hid (show placeI s p t.data.toList x = hashI s p t.data.toList * x / 65521 from rfl)
    obtain ⟨hsd, hkey, y1, y2⟩ := hok
    go_wp2_with fail
    refine (impl_placeOf s p x t _ hts).mono ?_; rintro e w' ⟨rfl, rfl⟩
    rw [HP.out]
    go_wp2_with fail
    refine (spec_placeOf s p x t _ hts).mono ?_; rintro e w' ⟨rfl, rfl⟩
    rw [HP.out]
    go_wp2_with fail
    refine (impl_hashOf s p t _ hts).mono ?_; rintro e w' ⟨rfl, rfl⟩
    rw [HH.out]
    go_wp2_with fail
    refine (spec_hashOf s p t _ hts).mono ?_; rintro e w' ⟨rfl, rfl⟩
    rw [HH.out]
    go_wp2_with fail
    refine (draw_placeOf B m d E _ (by omega) (HS.out.1.b HB1.out) HS.out.2).mono ?_; rintro e w2 ⟨s', p', o, x', _, _, _, _, ho, _, _, rfl, hb2⟩
    have HB2 := Lib.hid (HB1.out.trans (hb2.mono HB1.out.size))
    have hos : o.size ≤ maxLen := by unfold maxLen; omega
    clear hb2
    cases hko : isKeyB o.data.toList with
    | false =>
      have HP2 := Lib.hid (placeR_no (s := s) (p := p) (l := o.data.toList) (x := x) (by rw [hko]; simp))
      have HH2 := Lib.hid (hashR_no (s := s) (p := p) (l := o.data.toList) (by rw [hko]; simp))
      rw [hpl.out]
      generalize hashI s p t.data.toList = h at *
      go_wp2_with fail
      refine (impl_placeOf s p x o _ hos).mono ?_; rintro e w' ⟨rfl, rfl⟩
      rw [HP2.out]
      go_wp2_with fail
      refine (impl_hashOf s p o _ hos).mono ?_; rintro e w' ⟨rfl, rfl⟩
      rw [HH2.out]
      go_wp2_with fail
      go_ret
      exact ⟨rfl, HB2.out⟩
    | true =>
      have HP2 := Lib.hid (placeR_yes (s := s) (p := p) (l := o.data.toList) (x := x) ⟨hsd, hko, y1, y2⟩)
      have HH2 := Lib.hid (hashR_yes (s := s) (p := p) (l := o.data.toList) ⟨hsd, hko⟩)
      have hpo := Lib.hid (show placeI s p o.data.toList x = hashI s p o.data.toList * x / 65521 from rfl)
      have hm1 := Lib.hid (fun h => place_mono (g := hashI s p t.data.toList) (h := hashI s p o.data.toList) (x := x) (by omega) h)
      have hm2 := Lib.hid (fun h => place_mono (g := hashI s p o.data.toList) (h := hashI s p t.data.toList) (x := x) (by omega) h)
      have ho1 := impl_placeOf s p x o w2 hos
      have ho2 := impl_hashOf s p o w2 hos
      rw [HP2.out, hpo.out] at ho1
      rw [HH2.out] at ho2
      have HO1 := Lib.hid ho1
      have HO2 := Lib.hid ho2
      clear ho1 ho2 HP2 HH2 hpo
      rw [hpl.out]
      generalize hashI s p t.data.toList = h at *
      generalize hashI s p o.data.toList = g at *
      go_wp2_with fail
      refine HO1.out.mono ?_; rintro e w' ⟨rfl, rfl⟩
      go_wp2_with fail
      refine HO2.out.mono ?_; rintro e w' ⟨rfl, rfl⟩
      rcases Int.lt_trichotomy g h with hlt | heq | hgt
      · have hf := hm2.out (by omega)
        go_wp2_with fail
        go_ret
        exact ⟨rfl, HB2.out⟩
      · subst heq
        go_wp2_with fail
        go_ret
        exact ⟨by simp, HB2.out⟩
      · have hf := hm1.out (by omega)
        go_wp2_with fail
        go_ret
        exact ⟨by simp, HB2.out⟩
  · have HP := Lib.hid (placeR_no hok)
    obtain ⟨a, b, hab⟩ : ∃ a b, hashR s p t.data.toList = (a, b) := ⟨_, _, rfl⟩
    have HH := Lib.hid hab
    clear hok hab
    go_wp2_with fail
    refine (impl_placeOf s p x t _ hts).mono ?_; rintro e w' ⟨rfl, rfl⟩
    rw [HP.out]
    go_wp2_with fail
    refine (spec_placeOf s p x t _ hts).mono ?_; rintro e w' ⟨rfl, rfl⟩
    rw [HP.out]
    go_wp2_with fail
    refine (impl_hashOf s p t _ hts).mono ?_; rintro e w' ⟨rfl, rfl⟩
    rw [HH.out]
    go_wp2_with fail
    refine (spec_hashOf s p t _ hts).mono ?_; rintro e w' ⟨rfl, rfl⟩
    rw [HH.out]
    cases b with
    | false =>
      go_wp2_with fail
      go_ret
      exact ⟨rfl, HB1.out⟩
    | true =>
      go_wp2_with fail
      go_ret
      exact ⟨rfl, HB1.out⟩
end Go.Proofs.Ytglccgpiakadbaa
