/- Valid bit vectors: the program's test and the model's. -/
import Derived.Test.YtffdkfhnlgfigaaBitsFns
import Derived.Test.YtffdkfhnlgfigaaKeys
namespace Go.Proofs.Ytffdkfhnlgfigaa
open Go.RowKit

def cap (z : Int) (i : Nat) : Int := 2 ^ (min 16 (z.toNat - 16 * i))
def Good (z : Int) (n : Nat) (X : Nat → Int) : Prop := 0 ≤ z ∧ z ≤ 4096 ∧ (n : Int) = (z + 15) / 16 ∧ ∀ i, i < n → 0 ≤ X i ∧ X i < cap z i
theorem cap_big {z : Int} {k : Nat} (h : 16 ≤ z - 16 * (k : Int)) : cap z k = 65536 := by
  unfold cap; rw [Nat.min_eq_left (by omega)]; rfl
theorem cap_small {z : Int} {k : Nat} (h : ¬ 16 ≤ z - 16 * (k : Int)) (h0 : 0 ≤ z) : cap z k = 2 ^ (z - 16 * (k : Int)).toNat := by
  unfold cap; rw [Nat.min_eq_right (by omega)]; congr 1; omega
theorem two_bd {m : Nat} {k : Nat} (h : m ≤ k) : (0 : Int) < 2 ^ m ∧ (2 : Int) ^ m ≤ 2 ^ k := by
  constructor
  · exact Int.pow_pos (by omega)
  · exact_mod_cast Nat.pow_le_pow_right (n := 2) (by omega) h
theorem good_bad {z : Int} {n k : Nat} {X : Nat → Int} (hk : k < n) (h : ¬ (0 ≤ X k ∧ X k < cap z k)) : ¬ Good z n X := fun hg => h (hg.2.2.2 k hk)
def GoodIs (z : Int) (n : Nat) (X : Nat → Int) (w : World) (e : Ending) (w' : World) : Prop := ∃ b : Bool, e = .returned (.bool b) ∧ (b = true ↔ Good z n X) ∧ Below w.heap.size w w'

theorem impl_wordCount (z : Int) (w : World) (h0 : 0 ≤ z) (h1 : z ≤ 9000) :
    Calls Try.prog 91 #[.int .i64 z] w fun e w' => e = .returned (.int .i64 ((z + 15) / 16)) ∧ w = w' := by
  go_enter Try.func91, Try.ntmps91
  go_wp2
  go_ret
  exact ⟨ret_int (by show (z + 16 - 1) / 16 = _; omega), rfl⟩

set_option maxHeartbeats 400000 in
theorem impl_isBits (z : Int) (A : Option Addr) (n c : Nat) (X : Nat → Int) (w : World) (hn : n ≤ 1048576) (hr : IRow w A n X) :
    Calls Try.prog 99 #[.agg #[.int .i64 z, .slice A n c]] w (GoodIs z n X w) := by
  have HR := Lib.hid hr
  clear hr
  by_cases z0 : z < 0
  · have d0 : decide (z < 0) = true := by simpa using z0
    go_enter Try.func99, Try.ntmps99
    go_wp2_with fail
    go_quiet (fail)
    go_wp2_with fail
    go_ret
    exact ⟨false, rfl, by simp [Good]; omega, below_drewN ((Below.refl _ _).alloc (Nat.le_refl _) _) _⟩
  · by_cases z1 : 4096 < z
    · have d0 : decide (z < 0) = false := by simpa using z0
      have d1 : decide (4096 < z) = true := by simpa using z1
      go_enter Try.func99, Try.ntmps99
      go_wp2_with fail
      go_quiet (fail)
      go_wp2_with fail
      go_ret
      exact ⟨false, rfl, by simp [Good]; omega, below_drewN ((Below.refl _ _).alloc (Nat.le_refl _) _) _⟩
    · by_cases z2 : (n : Int) = (z + 15) / 16
      · have d0 : decide (z < 0) = false := by simpa using z0
        have d1 : decide (4096 < z) = false := by simpa using z1
        have d2 : ((n : Int) == (z + 15) / 16) = true := by simpa using z2
        have d3 : ((n : Int) != (z + 15) / 16) = false := by simpa using z2
        have Z2 := Lib.hid z2
        clear z2
        go_enter Try.func99, Try.ntmps99
        go_wp2_with fail
        go_quiet ((go_at_call 91; exact quiet_left (impl_wordCount _ _ (by omega) (by omega))))
        go_wp2_with fail
        go_loop [26] (fun i => ∃ k : Nat, k ≤ n ∧ i = .int .i64 k ∧ Hid (∀ i, i < k → 0 ≤ X i ∧ X i < 2 ^ (min 16 (z.toNat - 16 * i)))) (fun i => n - (intOf i).toNat)
        case atStart => exact ⟨0, Nat.zero_le _, rfl, fun i hi => absurd hi (by omega)⟩
        case round =>
          obtain ⟨k, hk, rfl, hp⟩ := hrel
          by_cases hlt : k < n
          · obtain ⟨b1, o1, rfl, l1, hc1⟩ := HR.out (by omega)
            have hx := hc1 k hlt
            have hz2 := Z2.out
            have hkz : 16 * (k : Int) < z := by omega
            clear hz2
            by_cases hw : 16 ≤ z - 16 * (k : Int)
            · have hcap := cap_big hw
              by_cases x0 : X k < 0
              · have hb := Lib.hid (good_bad (X := X) (z := z) hlt (by omega))
                clear hcap
                go_wp2_with fail
                go_ret
                exact ⟨false, rfl, by simp [hb.out], below_drewN ((Below.refl _ _).alloc (Nat.le_refl _) _) _⟩
              · have hd : decide (X k < 0) = false := by simpa using x0
                by_cases x1 : 65536 ≤ X k
                · have hb := Lib.hid (good_bad (X := X) (z := z) hlt (by omega))
                  clear hcap
                  go_wp2_with fail
                  go_ret
                  exact ⟨false, rfl, by simp [hb.out], below_drewN ((Below.refl _ _).alloc (Nat.le_refl _) _) _⟩
                · have hq : Hid (∀ i, i < k + 1 → 0 ≤ X i ∧ X i < cap z i) := fun i hi => by
                    by_cases e : i = k
                    · subst e; omega
                    · exact hp.out i (by omega)
                  clear hcap
                  go_wp2_with fail
                  go_round
                  case rel => exact ⟨k + 1, by omega, by go_num, hq⟩
                  case measure => simp [intOf]; omega
            · have hcap := cap_small hw z0
              obtain ⟨p0, p1⟩ := two_bd (m := (z - 16 * (k : Int)).toNat) (k := 15) (by omega)
              by_cases x0 : X k < 0
              · have hb := Lib.hid (good_bad (X := X) (z := z) hlt (by omega))
                clear hcap
                go_wp2_with fail
                go_ret
                exact ⟨false, rfl, by simp [hb.out], below_drewN ((Below.refl _ _).alloc (Nat.le_refl _) _) _⟩
              · have hd : decide (X k < 0) = false := by simpa using x0
                by_cases x1 : (2 : Int) ^ (z - 16 * (k : Int)).toNat ≤ X k
                · have hb := Lib.hid (good_bad (X := X) (z := z) hlt (by omega))
                  clear hcap
                  go_wp2_with fail
                  go_ret
                  exact ⟨false, rfl, by simp [hb.out], below_drewN ((Below.refl _ _).alloc (Nat.le_refl _) _) _⟩
                · have hq : Hid (∀ i, i < k + 1 → 0 ≤ X i ∧ X i < cap z i) := fun i hi => by
                    by_cases e : i = k
                    · subst e; omega
                    · exact hp.out i (by omega)
                  clear hcap
                  go_wp2_with fail
                  go_round
                  case rel => exact ⟨k + 1, by omega, by go_num, hq⟩
                  case measure => simp [intOf]; omega
          · obtain rfl : k = n := by omega
            go_wp2_with fail
            go_ret
            exact ⟨true, rfl, by simp only [Good, true_iff]; exact ⟨by omega, by omega, Z2.out, hp.out⟩, below_drewN ((Below.refl _ _).alloc (Nat.le_refl _) _) _⟩
      · have d0 : decide (z < 0) = false := by simpa using z0
        have d1 : decide (4096 < z) = false := by simpa using z1
        have d2 : ((n : Int) == (z + 15) / 16) = false := by simpa using z2
        have d3 : ((n : Int) != (z + 15) / 16) = true := by simpa using z2
        have Z2 := Lib.hid z2
        clear z2
        go_enter Try.func99, Try.ntmps99
        go_wp2_with fail
        go_quiet ((go_at_call 91; exact quiet_left (impl_wordCount _ _ (by omega) (by omega))))
        go_wp2_with fail
        go_ret
        exact ⟨false, rfl, by have := Z2.out; simp [Good]; omega, below_drewN ((Below.refl _ _).alloc (Nat.le_refl _) _) _⟩

/-- All of the first n lie in 0 .. 65535. -/
def AllIs (n : Nat) (X : Nat → Int) (w : World) (e : Ending) (w' : World) : Prop := ∃ b : Bool, e = .returned (.bool b) ∧ (b = true ↔ ∀ i, i < n → 0 ≤ X i ∧ X i ≤ 65535) ∧ w = w'

set_option maxHeartbeats 400000 in
theorem spec_l1All (A : Option Addr) (n c : Nat) (X : Nat → Int) (w : World) (hn : n ≤ 1048576) (hr : IRow w A n X) :
    Calls Try.prog 122 #[.slice A n c, .int .i64 0, .int .i64 65535] w (AllIs n X w) := by
  have HR := Lib.hid hr
  clear hr
  go_enter Try.func122, Try.ntmps122
  go_wp2_with fail
  go_loop [11] (fun i => ∃ k : Nat, k ≤ n ∧ i = .int .i64 k ∧ Hid (∀ i, i < k → 0 ≤ X i ∧ X i ≤ 65535)) (fun i => n - (intOf i).toNat)
  case atStart => exact ⟨0, Nat.zero_le _, rfl, fun i hi => absurd hi (by omega)⟩
  case round =>
    obtain ⟨k, hk, rfl, hp⟩ := hrel
    by_cases hlt : k < n
    · obtain ⟨b1, o1, rfl, l1, hc1⟩ := HR.out (by omega)
      have hx := hc1 k hlt
      clear hc1 l1
      by_cases hin : 0 ≤ X k ∧ X k ≤ 65535
      · have hq : Hid (∀ i, i < k + 1 → 0 ≤ X i ∧ X i ≤ 65535) := fun i hi => by
          by_cases e : i = k
          · subst e; omega
          · exact hp.out i (by omega)
        go_wp2_with (go_at_call 43; refine (l1In_yes _ _ _ _ hin.1 hin.2).mono ?_; rintro e w' ⟨rfl, rfl⟩)
        go_round
        case rel => exact ⟨k + 1, by omega, by go_num, hq⟩
        case measure => simp [intOf]; omega
      · have hb := Lib.hid (show ¬ (∀ i, i < n → 0 ≤ X i ∧ X i ≤ 65535) from fun h => hin (h k hlt))
        go_wp2_with (go_at_call 43; refine (l1In_no _ _ _ _ hin).mono ?_; rintro e w' ⟨rfl, rfl⟩)
        go_ret
        exact ⟨false, rfl, by simp only [Bool.false_eq_true, false_iff]; exact hb.out, rfl⟩
    · obtain rfl : k = n := by omega
      go_wp2_with fail
      go_ret
      exact ⟨true, rfl, by simp only [true_iff]; exact hp.out, rfl⟩

theorem l1All_yes (A : Option Addr) (n c : Nat) (X : Nat → Int) (w : World) (hn : n ≤ 1048576) (hr : IRow w A n X) (h : ∀ i, i < n → 0 ≤ X i ∧ X i ≤ 65535) :
    Calls Try.prog 122 #[.slice A n c, .int .i64 0, .int .i64 65535] w fun e w' => e = .returned (.bool true) ∧ w = w' :=
  (spec_l1All A n c X w hn hr).mono fun _ _ ⟨_, he, hb, hw⟩ => ⟨by rw [he, hb.2 h], hw⟩
theorem l1All_no (A : Option Addr) (n c : Nat) (X : Nat → Int) (w : World) (hn : n ≤ 1048576) (hr : IRow w A n X) (h : ¬ ∀ i, i < n → 0 ≤ X i ∧ X i ≤ 65535) :
    Calls Try.prog 122 #[.slice A n c, .int .i64 0, .int .i64 65535] w fun e w' => e = .returned (.bool false) ∧ w = w' :=
  (spec_l1All A n c X w hn hr).mono fun _ _ ⟨b, he, hb, hw⟩ => ⟨by rw [he]; cases b; rfl; exact absurd (hb.1 rfl) h, hw⟩

theorem cap_le (z : Int) (i : Nat) : cap z i ≤ 65536 := (two_bd (Nat.min_le_left 16 _)).2

theorem good_last {z : Int} {n : Nat} {X : Nat → Int} (z0 : 0 ≤ z) (z1 : z ≤ 4096) (z2 : (n : Int) = (z + 15) / 16) (ha : ∀ i, i < n → 0 ≤ X i ∧ X i ≤ 65535) (zm : ¬ z % 16 = 0) :
    (X (n - 1) / 2 ^ (z % 16).toNat == 0) = true ↔ Good z n X := by
  have hn0 : 0 < n := by omega
  have e : z - 16 * ((n - 1 : Nat) : Int) = z % 16 := by omega
  have hs : ¬ 16 ≤ z - 16 * ((n - 1 : Nat) : Int) := by omega
  have hc : cap z (n - 1) = 2 ^ (z % 16).toNat := by rw [cap_small hs z0, e]
  obtain ⟨p0, _⟩ := two_bd (m := (z % 16).toNat) (k := 16) (by omega)
  rw [beq_iff_eq]
  constructor
  · intro h
    refine ⟨z0, z1, z2, fun i hi => ⟨(ha i hi).1, ?_⟩⟩
    by_cases ei : i = n - 1
    · subst ei
      rw [hc]
      have := Int.lt_ediv_add_one_mul_self (X (n - 1)) p0
      rw [h] at this; omega
    · rw [cap_big (by omega)]; have := ha i hi; omega
  · intro hg
    have := hg.2.2.2 (n - 1) (by omega)
    rw [hc] at this
    exact Int.ediv_eq_zero_of_lt this.1 this.2
theorem good_full {z : Int} {n : Nat} {X : Nat → Int} (z0 : 0 ≤ z) (z1 : z ≤ 4096) (z2 : (n : Int) = (z + 15) / 16) (ha : ∀ i, i < n → 0 ≤ X i ∧ X i ≤ 65535) (zm : z % 16 = 0) : Good z n X :=
  ⟨z0, z1, z2, fun i hi => ⟨(ha i hi).1, by rw [cap_big (by omega)]; have := ha i hi; omega⟩⟩

set_option maxHeartbeats 400000 in
theorem spec_biGood (z : Int) (A : Option Addr) (n c : Nat) (X : Nat → Int) (w : World) (hn : n ≤ 1048576) (hr : IRow w A n X) :
    Calls Try.prog 96 #[.agg #[.int .i64 z, .slice A n c]] w (GoodIs z n X w) := by
  have hr1 := hr.b ((Below.refl _ _).alloc (Nat.le_refl _) (.cells #[.int .i64 z, .slice A n c] 30))
  have HR := Lib.hid hr
  have HR1 := Lib.hid hr1
  clear hr hr1
  have hB : Below w.heap.size w (w.alloc (.cells #[.int .i64 z, .slice A n c] 30)) := (Below.refl _ _).alloc (Nat.le_refl _) _
  have HB := Lib.hid hB
  clear hB
  by_cases z0 : 0 ≤ z ∧ z ≤ 4096
  · obtain ⟨z0, z1⟩ := z0
    by_cases z2 : (n : Int) = (z + 15) / 16
    · have d2 : ((n : Int) == (z + 15) / 16) = true := by simpa using z2
      have d3 : ((n : Int) != (z + 15) / 16) = false := by simpa using z2
      have Z2 := Lib.hid z2
      clear z2
      by_cases ha : ∀ i, i < n → 0 ≤ X i ∧ X i ≤ 65535
      · have HA := Lib.hid ha
        clear ha
        by_cases zm : z % 16 = 0
        · have dm : (z % 16 == 0) = true := by simpa using zm
          have HG := Lib.hid (good_full z0 z1 Z2.out HA.out zm)
          clear zm
          go_enter Try.func96, Try.ntmps96
          go_wp2_with (first
            | (go_at_call 43; refine (l1In_yes _ _ _ _ z0 z1).mono ?_; rintro e w' ⟨rfl, rfl⟩)
            | (go_at_call 122; refine (l1All_yes _ _ _ X _ hn HR1.out HA.out).mono ?_; rintro e w' ⟨rfl, rfl⟩))
          go_quiet (fail)
          go_wp2_with fail
          go_ret
          exact ⟨true, rfl, by simp only [true_iff]; exact HG.out, below_drewN HB.out _⟩
        · have dm : (z % 16 == 0) = false := by simpa using zm
          have hn0 : 0 < n := by have := Z2.out; omega
          obtain ⟨b1, o1, rfl, l1, hc1⟩ := HR.out hn0
          have hx := hc1 (n - 1) (by omega)
          have hi : (n : Int) - 1 = ((n - 1 : Nat) : Int) := by omega
          have HI := Lib.hid hi
          clear hc1 hi
          go_enter Try.func96, Try.ntmps96
          go_wp2_with (first
            | (go_at_call 43; refine (l1In_yes _ _ _ _ z0 z1).mono ?_; rintro e w' ⟨rfl, rfl⟩)
            | (go_at_call 122; refine (l1All_yes _ _ _ X _ hn HR1.out HA.out).mono ?_; rintro e w' ⟨rfl, rfl⟩))
          have e1 : IntKind.i64.wrap ((n : Int) - 1) = (n : Int) - 1 := IntWalk.i64_in _ (by omega)
          have e2 : 0 ≤ (n : Int) - 1 := by omega
          have e3 : ((n : Int) - 1).toNat = n - 1 := by omega
          have e4 : (n : Int) - 1 < (n : Int) := by omega
          go_quiet (fail)
          clear e1 e2 e3 e4
          go_wp2_with fail
          go_ret
          exact ⟨_, rfl, good_last z0 z1 Z2.out HA.out zm, below_drewN HB.out _⟩
      · have HA := Lib.hid ha
        clear ha
        go_enter Try.func96, Try.ntmps96
        go_wp2_with (first
          | (go_at_call 43; refine (l1In_yes _ _ _ _ z0 z1).mono ?_; rintro e w' ⟨rfl, rfl⟩)
          | (go_at_call 122; refine (l1All_no _ _ _ X _ hn HR1.out HA.out).mono ?_; rintro e w' ⟨rfl, rfl⟩))
        go_ret
        exact ⟨false, rfl, by simp only [Bool.false_eq_true, false_iff]; exact fun hg => HA.out (fun i hi => by have := hg.2.2.2 i hi; have := cap_le z i; omega), HB.out⟩
    · have d2 : ((n : Int) == (z + 15) / 16) = false := by simpa using z2
      have d3 : ((n : Int) != (z + 15) / 16) = true := by simpa using z2
      have Z2 := Lib.hid z2
      clear z2
      go_enter Try.func96, Try.ntmps96
      go_wp2_with (go_at_call 43; refine (l1In_yes _ _ _ _ z0 z1).mono ?_; rintro e w' ⟨rfl, rfl⟩)
      go_ret
      exact ⟨false, rfl, by simp only [Bool.false_eq_true, false_iff]; exact fun hg => Z2.out hg.2.2.1, HB.out⟩
  · go_enter Try.func96, Try.ntmps96
    go_wp2_with (go_at_call 43; refine (l1In_no _ _ _ _ z0).mono ?_; rintro e w' ⟨rfl, rfl⟩)
    go_ret
    exact ⟨false, rfl, by simp only [Bool.false_eq_true, false_iff]; exact fun hg => z0 ⟨hg.1, hg.2.1⟩, HB.out⟩

theorem good_two {z : Int} {A : Option Addr} {n c : Nat} {X : Nat → Int} {w : World} {f : FuncId} (h : Calls Try.prog f #[.agg #[.int .i64 z, .slice A n c]] w (GoodIs z n X w)) :
    (Good z n X → Calls Try.prog f #[.agg #[.int .i64 z, .slice A n c]] w fun e w' => e = .returned (.bool true) ∧ Below w.heap.size w w') ∧
    (¬ Good z n X → Calls Try.prog f #[.agg #[.int .i64 z, .slice A n c]] w fun e w' => e = .returned (.bool false) ∧ Below w.heap.size w w') :=
  ⟨fun hg => h.mono fun _ _ ⟨_, he, hb, hw⟩ => ⟨by rw [he, hb.2 hg], hw⟩,
   fun hg => h.mono fun _ _ ⟨b, he, hb, hw⟩ => ⟨by rw [he]; cases b; rfl; exact absurd (hb.1 rfl) hg, hw⟩⟩

/-- What a law keeps while it goes from call to call: what was there is as it was; the argument reads as it did; its box holds it. -/
structure LS (w : World) (b : Nat) (z : Int) (A : Option Addr) (n c : Nat) (X : Nat → Int) (wi : World) : Prop where
  below : Below w.heap.size w wi
  row : IRow wi A n X
  box : Box wi b z A n c
theorem LS.start {w : World} {z : Int} {A : Option Addr} {n c : Nat} {X : Nat → Int} (hr : IRow w A n X) (t : TypeId) : LS w w.heap.size z A n c X (w.alloc (.cells #[.int .i64 z, .slice A n c] t)) :=
  ⟨(Below.refl _ _).alloc (Nat.le_refl _) _, hr.b ((Below.refl _ _).alloc (Nat.le_refl _) _), Box.new _ _ _ _ _ _⟩
theorem LS.step {w wi wj : World} {b : Nat} {z : Int} {A : Option Addr} {n c : Nat} {X : Nat → Int} (h : LS w b z A n c X wi) (hb : Below wi.heap.size wi wj) : LS w b z A n c X wj :=
  ⟨h.below.trans (hb.mono h.below.size), h.row.b hb, h.box.b hb⟩
end Go.Proofs.Ytffdkfhnlgfigaa
