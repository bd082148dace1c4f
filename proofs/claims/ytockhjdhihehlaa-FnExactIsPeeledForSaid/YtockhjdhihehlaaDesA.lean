/- What a design promises: numbersIn, areDifferent, areIndices, keepsPromise, isDesignFor of the program. Made by tools/gendes.py. -/
import Derived.Test.YtockhjdhihehlaaPlB
import Derived.Test.YtockhjdhihehlaaCont
import Derived.Test.YtockhjdhihehlaaPlS
import Derived.Test.YtockhjdhihehlaaDesT
namespace Go.Proofs.Ytockhjdhihehlaa
open Go.RowKit

/-- All numbers of a list differ. -/
def DifP (F : Nat → Int) (n : Nat) : Prop := ∀ a b, a < b → b < n → F b ≠ F a
/-- A word of truth beside 'true'. -/
def TwoIs (P : Prop) (w : World) (e : Ending) (w' : World) : Prop := ∃ b : Bool, e = .returned (.tuple #[.bool b, .bool true]) ∧ (b = true ↔ P) ∧ Below w.heap.size w w'
theorem TwoIs.iff {P Q : Prop} {w w' : World} {e : Ending} (h : TwoIs P w e w') (hq : P ↔ Q) : TwoIs Q w e w' := by
  obtain ⟨b, h1, h2, h3⟩ := h
  exact ⟨b, h1, h2.trans hq, h3⟩
theorem TwoIs.yes {P : Prop} {w w' : World} {e : Ending} (h : TwoIs P w e w') (hp : P) : e = .returned (.tuple #[.bool true, .bool true]) ∧ Below w.heap.size w w' := by
  obtain ⟨b, h1, h2, h3⟩ := h
  exact ⟨by rw [h1, show b = true from h2.2 hp], h3⟩
theorem TwoIs.no {P : Prop} {w w' : World} {e : Ending} (h : TwoIs P w e w') (hp : ¬ P) : e = .returned (.tuple #[.bool false, .bool true]) ∧ Below w.heap.size w w' := by
  obtain ⟨b, h1, h2, h3⟩ := h
  refine ⟨?_, h3⟩
  rw [h1]
  cases b
  · rfl
  · exact absurd (h2.1 rfl) hp
set_option maxRecDepth 100000 in
set_option maxHeartbeats 1000000 in
theorem impl_areDifferent (A : Option Addr) (n c : Nat) (F : Nat → Int) (w : World) (hn : n ≤ 1048576) (hnc : n ≤ c) (hr : IRow w A n F) :
    Calls Try.prog 84 #[.slice A n c] w (DecIs (DifP F n) w) := by
  have HL := Lib.hid hr
  clear hr
  go_enter Try.func84, Try.ntmps84
  go_wp2_with fail
  go_loop [7] (fun i => ∃ k : Nat, k ≤ n ∧ i = .int .i64 k ∧ Hid (DifP F k)) (fun i => n - (intOf i).toNat)
  case atStart => exact ⟨0, Nat.zero_le _, rfl, Lib.hid (fun a b h1 h2 => by omega)⟩
  case round =>
    obtain ⟨k, hk, rfl, HN⟩ := hrel
    by_cases hlt : k < n
    · obtain ⟨b, off, rfl, hbl, hcc⟩ := HL.out (by omega)
      have hx := hcc k hlt
      have HSL := Lib.hid (fun W => run_head (some ⟨b, off, none⟩) n c k (by omega) W)
      have HRW := Lib.hid (show IRow w (some ⟨b, off, none⟩) k F from fun _ => ⟨b, off, rfl, hbl, fun j hj => hcc j (by omega)⟩)
      have hsl := HSL.out
      clear hcc
      go_wp2_with fail
      refine (contains_is _ k c F (F k) _ (by omega) HRW.out).mono ?_; rintro e w2 ⟨r, rfl, hrr, rfl⟩
      cases r with
      | true =>
        obtain ⟨i, hi1, hi2⟩ := hrr.1 rfl
        have HX := Lib.hid (show ¬ DifP F n from fun h => h i k hi1 hlt hi2.symm)
        clear hrr hi2
        go_wp2_with fail
        go_ret
        exact ⟨false, rfl, by simp only [Bool.false_eq_true, false_iff]; exact HX.out, rfl⟩
      | false =>
        have HX := Lib.hid (show DifP F (k + 1) from fun a b h1 h2 => by
          by_cases e : b = k
          · subst e; exact fun he => absurd (hrr.2 ⟨a, h1, he.symm⟩) (by simp)
          · exact HN.out a b h1 (by omega))
        clear hrr
        go_wp2_with fail
        go_round
        case rel => exact ⟨k + 1, by omega, by go_num, HX⟩
        case measure => simp [intOf]; omega
    · obtain rfl : k = n := by omega
      go_wp2_with fail
      go_ret
      exact ⟨true, rfl, by simp only [true_iff]; exact HN.out, rfl⟩
set_option maxRecDepth 100000 in
set_option maxHeartbeats 1000000 in
theorem impl_areIndices (A : Option Addr) (n c : Nat) (F : Nat → Int) (w : World) (hn : n ≤ 1048576) (hr : IRow w A n F) :
    Calls Try.prog 86 #[.slice A n c] w (DecIs (∀ i, i < n → F i = i) w) := by
  have HL := Lib.hid hr
  clear hr
  go_enter Try.func86, Try.ntmps86
  go_wp2_with fail
  go_loop [7] (fun i => ∃ k : Nat, k ≤ n ∧ i = .int .i64 k ∧ Hid (∀ i, i < k → F i = i)) (fun i => n - (intOf i).toNat)
  case atStart => exact ⟨0, Nat.zero_le _, rfl, Lib.hid (fun i h => absurd h (by omega))⟩
  case round =>
    obtain ⟨k, hk, rfl, HN⟩ := hrel
    by_cases hlt : k < n
    · obtain ⟨b, off, rfl, hbl, hcc⟩ := HL.out (by omega)
      have hx := hcc k hlt
      clear hcc
      by_cases he : F k = k
      · have HX := Lib.hid (show ∀ i, i < k + 1 → F i = i from fun i hi => by
          by_cases e : i = k
          · subst e; exact he
          · exact HN.out i (by omega))
        rw [he] at hx
        clear he
        go_wp2_with fail
        go_round
        case rel => exact ⟨k + 1, by omega, by go_num, HX⟩
        case measure => simp [intOf]; omega
      · have HX := Lib.hid (show ¬ ∀ i, i < n → F i = i from fun h => he (h k hlt))
        have d1 : (F k != (k : Int)) = true := by simpa using he
        have d2 : (F k == (k : Int)) = false := by simpa using he
        clear he
        generalize F k = fk at *
        go_wp2_with fail
        go_ret
        exact ⟨false, rfl, by simp only [Bool.false_eq_true, false_iff]; exact HX.out, rfl⟩
    · obtain rfl : k = n := by omega
      go_wp2_with fail
      go_ret
      exact ⟨true, rfl, by simp only [true_iff]; exact HN.out, rfl⟩
set_option maxRecDepth 100000 in
set_option maxHeartbeats 2000000 in
theorem impl_numbersIn_Displaced (z0 : Int) (g q : Nat) (A : Option Addr) (n c : Nat) (X : Nat → Int) (KA : Option Addr) (m kc : Nat) (S : Nat → ByteArray) (w : World) (hm : m ≤ 1048576) (hs : ∀ i, i < m → (S i).size ≤ maxLen) (hk : GRow w KA m (strV S)) (hr : IRow w A n X) (hv : DiV z0 g q n X) :
    Calls Try.prog 50 #[.iface 40 (.agg #[.int .i64 z0, .int .i64 g, .int .i64 q, .slice A n c]), .slice KA m kc] w fun e w' => e = .returned (.tuple #[.slice (some ⟨w.heap.size, 0, none⟩) m m, .bool true]) ∧ ORow w' w.heap.size m (fun i => slI z0 g q (S i) X) ∧ Below w.heap.size w w' := by
  have HS := Lib.hid hs
  have HK := Lib.hid hk
  have HR := Lib.hid hr
  have HV := Lib.hid hv
  have hmk := fun W => run_make_row' (P := Try.prog) 22 3 (.int .i64 0) 8 Try.underlying22 infoI rfl .i64 .i64 m (by omega) (by omega) W
  clear hs hk hr hv
  go_enter Try.func50, Try.ntmps50
  go_wp2_with fail
  go_loopw [16] (fun i wr => ∃ k : Nat, k ≤ m ∧ i = .int .i64 k ∧ Hid (ORow wr w.heap.size m (fun i => if i < k then ((slI z0 g q (S i) X : Nat) : Int) else 0)) ∧ Hid (Below w.heap.size w wr)) (fun i _ => m - (intOf i).toNat)
  case atStart => exact ⟨0, Nat.zero_le _, rfl, Lib.hid ((ORow.made _ _).congr (fun _ _ => rfl)), Lib.hid ((Below.refl _ _).alloc (Nat.le_refl _) _)⟩
  case round =>
    obtain ⟨k, hk', rfl, HO, HB⟩ := hrel
    by_cases hlt : k < m
    · obtain ⟨b, off, hKA, _, hc⟩ := HK.out.below HB.out (Nat.le_refl _) (by omega)
      subst hKA
      have hck := hc k hlt
      unfold strV at hck
      have HC := Lib.hid (impl_numberOf_Displaced z0 g q A n c X (S k) wr (HS.out k hlt) (HR.out.below HB.out (Nat.le_refl _)) HV.out)
      clear hc
      go_wp2_with fail
      refine HC.out.mono ?_; rintro e w3 ⟨rfl, hb⟩
      have HO3 := Lib.hid (HO.out.b hb)
      have HB3 := Lib.hid (HB.out.trans (hb.mono HB.out.size))
      clear hb
      have hx := HO3.out.cell hlt
      have hf := HO3.out.frozen k
      go_wp2_with fail
      go_roundw
      case rel =>
        refine ⟨k + 1, by omega, by go_num, Lib.hid ((HO3.out.set k _).congr (fun j hj => ?_)), Lib.hid (HB3.out.setCell (Nat.le_refl _) _)⟩
        by_cases e : j = k
        · subst e; simp
        · simp only [e, if_false]
          by_cases h2 : j < k
          · rw [if_pos h2, if_pos (by omega)]
          · rw [if_neg h2, if_neg (by omega)]
      case measure => simp [intOf]; omega
    · obtain rfl : k = m := by omega
      go_wp2_with fail
      go_ret2
      exact ⟨rfl, HO.out.congr (fun j hj => by simp only [hj, if_true]), HB.out⟩
set_option maxRecDepth 100000 in
set_option maxHeartbeats 2000000 in
theorem impl_keepsPromise_Displaced (z0 z1 z2 : Int) (XA : Option Addr) (xn xc : Nat) (A : Option Addr) (n c : Nat) (F : Nat → Int) (w : World) (hn : n ≤ 1048576) (hnc : n ≤ c) (hr : IRow w A n F) :
    Calls Try.prog 68 #[.iface 40 (.agg #[.int .i64 z0, .int .i64 z1, .int .i64 z2, .slice XA xn xc]), .slice A n c] w (BoolIs (DifP F n) w) := by
  have HR := Lib.hid hr
  clear hr
  have hta := fun W => run_assert_no (t := 40) (x := 92) (v := .agg #[.int .i64 z0, .int .i64 z1, .int .i64 z2, .slice XA xn xc]) niP zeP (by decide) W
  have htb := fun W => run_assert_no (t := 40) (x := 92) (v := .agg #[.int .i64 z0, .int .i64 z1, .int .i64 z2, .slice XA xn xc]) niO zeO (by decide) W
  go_enter Try.func68, Try.ntmps68
  go_wp2_with fail
  refine (impl_areDifferent A n c F _ hn hnc HR.out).mono ?_; rintro e w2 ⟨r, rfl, hrr, rfl⟩
  have HP := Lib.hid hrr
  clear hrr
  go_wp2_with fail
  go_ret
  exact ⟨r, rfl, HP.out, Below.refl _ _⟩
set_option maxRecDepth 100000 in
set_option maxHeartbeats 2000000 in
theorem impl_isDesignFor_Displaced (z0 : Int) (g q : Nat) (A : Option Addr) (n c : Nat) (X : Nat → Int) (KA : Option Addr) (m kc : Nat) (S : Nat → ByteArray) (w : World) (hn : n ≤ 1048576) (hs : ∀ i, i < m → (S i).size ≤ maxLen) (hk : GRow w KA m (strV S)) (hr : IRow w A n X) (hv : DiV z0 g q n X) (hkb : keysB S m = true) :
    Calls Try.prog 44 #[.iface 40 (.agg #[.int .i64 z0, .int .i64 g, .int .i64 q, .slice A n c]), .slice KA m kc] w (TwoIs (DifP (fun i => ((slI z0 g q (S i) X : Nat) : Int)) m) w) := by
  have HS := Lib.hid hs
  have HK := Lib.hid hk
  have HR := Lib.hid hr
  have HV := Lib.hid hv
  have hm := keysB_size hkb
  clear hs hk hr hv
  go_enter Try.func44, Try.ntmps44
  go_wp2_with fail
  refine (impl_isValid_Displaced z0 g q A n c X _ hn HR.out).mono ?_; rintro e w1 ⟨b, rfl, hb, hw⟩
  obtain rfl : b = true := hb.2 HV.out
  have HB := Lib.hid hw
  clear hb hw
  go_wp2_with fail
  refine (impl_areKeys KA m kc S _ (by omega) HS.out (HK.out.b HB.out)).mono ?_; rintro e w2 ⟨rfl, rfl⟩
  rw [hkb]
  go_wp2_with fail
  refine (impl_numbersIn_Displaced z0 g q A n c X KA m kc S _ (by omega) HS.out (HK.out.b HB.out) (HR.out.b HB.out) HV.out).mono ?_; rintro e w3 ⟨rfl, ho, hb⟩
  have HO := Lib.hid ho
  have HB3 := Lib.hid (HB.out.trans (hb.mono HB.out.size))
  clear ho hb
  go_wp2_with fail
  refine (impl_keepsPromise_Displaced z0 g q A n c _ m m _ _ (by omega) (Nat.le_refl _) HO.out.row).mono ?_; rintro e w4 ⟨r, rfl, hr, hb⟩
  have HB4 := Lib.hid (HB3.out.trans (hb.mono HB3.out.size))
  have HP := Lib.hid hr
  clear hb hr
  go_wp2_with fail
  go_ret2
  exact ⟨r, rfl, HP.out, HB4.out⟩
set_option maxRecDepth 100000 in
set_option maxHeartbeats 2000000 in
theorem impl_isDesignFor_Displaced_no (z0 z1 z2 : Int) (A : Option Addr) (n c : Nat) (X : Nat → Int) (KA : Option Addr) (m kc : Nat) (S : Nat → ByteArray) (w : World) (hn : n ≤ 1048576) (hm : m ≤ 1048576) (hs : ∀ i, i < m → (S i).size ≤ maxLen) (hk : GRow w KA m (strV S)) (hr : IRow w A n X) (h : ¬ (DiV z0 z1 z2 n X ∧ keysB S m = true)) :
    Calls Try.prog 44 #[.iface 40 (.agg #[.int .i64 z0, .int .i64 z1, .int .i64 z2, .slice A n c]), .slice KA m kc] w fun e w' => e = .returned (.tuple #[.bool false, .bool false]) ∧ Below w.heap.size w w' := by
  have HS := Lib.hid hs
  have HK := Lib.hid hk
  have HR := Lib.hid hr
  clear hs hk hr
  by_cases hv : DiV z0 z1 z2 n X
  · have hkb : keysB S m = false := by
      cases e : keysB S m
      · rfl
      · exact absurd ⟨hv, e⟩ h
    go_enter Try.func44, Try.ntmps44
    go_wp2_with fail
    refine (impl_isValid_Displaced z0 z1 z2 A n c X _ hn HR.out).mono ?_; rintro e w1 ⟨b, rfl, hb, hw⟩
    obtain rfl : b = true := hb.2 hv
    have HB := Lib.hid hw
    clear hb hw
    go_wp2_with fail
    refine (impl_areKeys KA m kc S _ hm HS.out (HK.out.b HB.out)).mono ?_; rintro e w2 ⟨rfl, rfl⟩
    rw [hkb]
    go_wp2_with fail
    go_ret2
    exact ⟨rfl, HB.out⟩
  · go_enter Try.func44, Try.ntmps44
    go_wp2_with fail
    refine (impl_isValid_Displaced z0 z1 z2 A n c X _ hn HR.out).mono ?_; rintro e w1 ⟨b, rfl, hb, hw⟩
    obtain rfl : b = false := by
      cases b
      · rfl
      · exact absurd (hb.1 rfl) hv
    have HB := Lib.hid hw
    clear hb hw
    go_wp2_with fail
    go_ret2
    exact ⟨rfl, HB.out⟩
set_option maxRecDepth 100000 in
set_option maxHeartbeats 2000000 in
theorem impl_numbersIn_Ordered (z0 : Int) (g q : Nat) (A : Option Addr) (n c : Nat) (X : Nat → Int) (KA : Option Addr) (m kc : Nat) (S : Nat → ByteArray) (w : World) (hm : m ≤ 1048576) (hs : ∀ i, i < m → (S i).size ≤ maxLen) (hk : GRow w KA m (strV S)) (hr : IRow w A n X) (hv : OrV z0 g q n X) :
    Calls Try.prog 50 #[.iface 48 (.agg #[.int .i64 z0, .int .i64 g, .int .i64 q, .slice A n c]), .slice KA m kc] w fun e w' => e = .returned (.tuple #[.slice (some ⟨w.heap.size, 0, none⟩) m m, .bool true]) ∧ ORow w' w.heap.size m (fun i => orI z0 g q (S i) X) ∧ Below w.heap.size w w' := by
  have HS := Lib.hid hs
  have HK := Lib.hid hk
  have HR := Lib.hid hr
  have HV := Lib.hid hv
  have hmk := fun W => run_make_row' (P := Try.prog) 22 3 (.int .i64 0) 8 Try.underlying22 infoI rfl .i64 .i64 m (by omega) (by omega) W
  clear hs hk hr hv
  go_enter Try.func50, Try.ntmps50
  go_wp2_with fail
  go_loopw [16] (fun i wr => ∃ k : Nat, k ≤ m ∧ i = .int .i64 k ∧ Hid (ORow wr w.heap.size m (fun i => if i < k then ((orI z0 g q (S i) X : Nat) : Int) else 0)) ∧ Hid (Below w.heap.size w wr)) (fun i _ => m - (intOf i).toNat)
  case atStart => exact ⟨0, Nat.zero_le _, rfl, Lib.hid ((ORow.made _ _).congr (fun _ _ => rfl)), Lib.hid ((Below.refl _ _).alloc (Nat.le_refl _) _)⟩
  case round =>
    obtain ⟨k, hk', rfl, HO, HB⟩ := hrel
    by_cases hlt : k < m
    · obtain ⟨b, off, hKA, _, hc⟩ := HK.out.below HB.out (Nat.le_refl _) (by omega)
      subst hKA
      have hck := hc k hlt
      unfold strV at hck
      have HC := Lib.hid (impl_numberOf_Ordered z0 g q A n c X (S k) wr (HS.out k hlt) (HR.out.below HB.out (Nat.le_refl _)) HV.out)
      clear hc
      go_wp2_with fail
      refine HC.out.mono ?_; rintro e w3 ⟨rfl, hb⟩
      have HO3 := Lib.hid (HO.out.b hb)
      have HB3 := Lib.hid (HB.out.trans (hb.mono HB.out.size))
      clear hb
      have hx := HO3.out.cell hlt
      have hf := HO3.out.frozen k
      go_wp2_with fail
      go_roundw
      case rel =>
        refine ⟨k + 1, by omega, by go_num, Lib.hid ((HO3.out.set k _).congr (fun j hj => ?_)), Lib.hid (HB3.out.setCell (Nat.le_refl _) _)⟩
        by_cases e : j = k
        · subst e; simp
        · simp only [e, if_false]
          by_cases h2 : j < k
          · rw [if_pos h2, if_pos (by omega)]
          · rw [if_neg h2, if_neg (by omega)]
      case measure => simp [intOf]; omega
    · obtain rfl : k = m := by omega
      go_wp2_with fail
      go_ret2
      exact ⟨rfl, HO.out.congr (fun j hj => by simp only [hj, if_true]), HB.out⟩
set_option maxRecDepth 100000 in
set_option maxHeartbeats 2000000 in
theorem impl_keepsPromise_Ordered (z0 z1 z2 : Int) (XA : Option Addr) (xn xc : Nat) (A : Option Addr) (n c : Nat) (F : Nat → Int) (w : World) (hn : n ≤ 1048576) (_hnc : n ≤ c) (hr : IRow w A n F) :
    Calls Try.prog 68 #[.iface 48 (.agg #[.int .i64 z0, .int .i64 z1, .int .i64 z2, .slice XA xn xc]), .slice A n c] w (BoolIs ((n : Int) = z2 ∧ ∀ i, i < n → F i = i) w) := by
  have HR := Lib.hid (hr.b ((Below.refl _ w).alloc (Nat.le_refl _) (.cells #[.int .i64 z0, .int .i64 z1, .int .i64 z2, .slice XA xn xc] 48)))
  have HB := Lib.hid ((Below.refl w.heap.size w).alloc (Nat.le_refl _) (.cells #[.int .i64 z0, .int .i64 z1, .int .i64 z2, .slice XA xn xc] 48))
  clear hr
  have hta := fun W => run_assert_no (t := 48) (x := 92) (v := .agg #[.int .i64 z0, .int .i64 z1, .int .i64 z2, .slice XA xn xc]) niP zeP (by decide) W
  have htb := fun W => run_assert_yes (x := 92) (v := .agg #[.int .i64 z0, .int .i64 z1, .int .i64 z2, .slice XA xn xc]) niO W
  by_cases h2 : (n : Int) = z2
  · subst h2
    go_enter Try.func68, Try.ntmps68
    go_wp2_with fail
    refine (impl_areIndices A n c F _ hn HR.out).mono ?_; rintro e w2 ⟨r, rfl, hrr, rfl⟩
    have HP := Lib.hid hrr
    clear hrr
    go_wp2_with fail
    go_ret
    exact ⟨r, rfl, by first | exact ⟨fun h => ⟨rfl, HP.out.1 h⟩, fun h => HP.out.2 h.2⟩ | exact ⟨fun h => ⟨trivial, HP.out.1 h⟩, fun h => HP.out.2 h.2⟩, HB.out⟩
  · have d2 : ((n : Int) == z2) = false := by simpa using h2
    go_enter Try.func68, Try.ntmps68
    go_wp2_with fail
    go_ret
    exact ⟨false, rfl, by simp only [Bool.false_eq_true, false_iff]; exact fun h => h2 h.1, HB.out⟩
set_option maxRecDepth 100000 in
set_option maxHeartbeats 2000000 in
theorem impl_isDesignFor_Ordered (z0 : Int) (g q : Nat) (A : Option Addr) (n c : Nat) (X : Nat → Int) (KA : Option Addr) (m kc : Nat) (S : Nat → ByteArray) (w : World) (hn : n ≤ 1048576) (hs : ∀ i, i < m → (S i).size ≤ maxLen) (hk : GRow w KA m (strV S)) (hr : IRow w A n X) (hv : OrV z0 g q n X) (hkb : keysB S m = true) :
    Calls Try.prog 44 #[.iface 48 (.agg #[.int .i64 z0, .int .i64 g, .int .i64 q, .slice A n c]), .slice KA m kc] w (TwoIs ((m : Int) = (q : Int) ∧ ∀ i, i < m → ((orI z0 g q (S i) X : Nat) : Int) = i) w) := by
  have HS := Lib.hid hs
  have HK := Lib.hid hk
  have HR := Lib.hid hr
  have HV := Lib.hid hv
  have hm := keysB_size hkb
  clear hs hk hr hv
  go_enter Try.func44, Try.ntmps44
  go_wp2_with fail
  refine (impl_isValid_Ordered z0 g q A n c X _ hn HR.out).mono ?_; rintro e w1 ⟨b, rfl, hb, hw⟩
  obtain rfl : b = true := hb.2 HV.out
  have HB := Lib.hid hw
  clear hb hw
  go_wp2_with fail
  refine (impl_areKeys KA m kc S _ (by omega) HS.out (HK.out.b HB.out)).mono ?_; rintro e w2 ⟨rfl, rfl⟩
  rw [hkb]
  go_wp2_with fail
  refine (impl_numbersIn_Ordered z0 g q A n c X KA m kc S _ (by omega) HS.out (HK.out.b HB.out) (HR.out.b HB.out) HV.out).mono ?_; rintro e w3 ⟨rfl, ho, hb⟩
  have HO := Lib.hid ho
  have HB3 := Lib.hid (HB.out.trans (hb.mono HB.out.size))
  clear ho hb
  go_wp2_with fail
  refine (impl_keepsPromise_Ordered z0 g q A n c _ m m _ _ (by omega) (Nat.le_refl _) HO.out.row).mono ?_; rintro e w4 ⟨r, rfl, hr, hb⟩
  have HB4 := Lib.hid (HB3.out.trans (hb.mono HB3.out.size))
  have HP := Lib.hid hr
  clear hb hr
  go_wp2_with fail
  go_ret2
  exact ⟨r, rfl, HP.out, HB4.out⟩
set_option maxRecDepth 100000 in
set_option maxHeartbeats 2000000 in
theorem impl_isDesignFor_Ordered_no (z0 z1 z2 : Int) (A : Option Addr) (n c : Nat) (X : Nat → Int) (KA : Option Addr) (m kc : Nat) (S : Nat → ByteArray) (w : World) (hn : n ≤ 1048576) (hm : m ≤ 1048576) (hs : ∀ i, i < m → (S i).size ≤ maxLen) (hk : GRow w KA m (strV S)) (hr : IRow w A n X) (h : ¬ (OrV z0 z1 z2 n X ∧ keysB S m = true)) :
    Calls Try.prog 44 #[.iface 48 (.agg #[.int .i64 z0, .int .i64 z1, .int .i64 z2, .slice A n c]), .slice KA m kc] w fun e w' => e = .returned (.tuple #[.bool false, .bool false]) ∧ Below w.heap.size w w' := by
  have HS := Lib.hid hs
  have HK := Lib.hid hk
  have HR := Lib.hid hr
  clear hs hk hr
  by_cases hv : OrV z0 z1 z2 n X
  · have hkb : keysB S m = false := by
      cases e : keysB S m
      · rfl
      · exact absurd ⟨hv, e⟩ h
    go_enter Try.func44, Try.ntmps44
    go_wp2_with fail
    refine (impl_isValid_Ordered z0 z1 z2 A n c X _ hn HR.out).mono ?_; rintro e w1 ⟨b, rfl, hb, hw⟩
    obtain rfl : b = true := hb.2 hv
    have HB := Lib.hid hw
    clear hb hw
    go_wp2_with fail
    refine (impl_areKeys KA m kc S _ hm HS.out (HK.out.b HB.out)).mono ?_; rintro e w2 ⟨rfl, rfl⟩
    rw [hkb]
    go_wp2_with fail
    go_ret2
    exact ⟨rfl, HB.out⟩
  · go_enter Try.func44, Try.ntmps44
    go_wp2_with fail
    refine (impl_isValid_Ordered z0 z1 z2 A n c X _ hn HR.out).mono ?_; rintro e w1 ⟨b, rfl, hb, hw⟩
    obtain rfl : b = false := by
      cases b
      · rfl
      · exact absurd (hb.1 rfl) hv
    have HB := Lib.hid hw
    clear hb hw
    go_wp2_with fail
    go_ret2
    exact ⟨rfl, HB.out⟩
end Go.Proofs.Ytockhjdhihehlaa
