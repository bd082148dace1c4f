/- IsPeeledFor: both sides. -/
import Derived.Test.YtockhjdhihehlaaDesA
import Derived.Test.YtockhjdhihehlaaPlC
import Derived.Test.YtockhjdhihehlaaHas
namespace Go.Proofs.Ytockhjdhihehlaa
open Go.RowKit

theorem usedN_mono {X : Nat → Int} {p : Nat} : ∀ {q}, p ≤ q → usedN X p ≤ usedN X q
  | 0, h => by obtain rfl : p = 0 := by omega
               exact Nat.le_refl _
  | q + 1, h => by
    by_cases e : p = q + 1
    · subst e; exact Nat.le_refl _
    · have := usedN_mono (X := X) (p := p) (q := q) (by omega)
      rw [usedN]; omega
theorem usedN_lt {X : Nat → Int} {p q : Nat} (h3 : X p ≠ 3) (h : p < q) : usedN X p < usedN X q := by
  have h1 : usedN X (p + 1) = usedN X p + 1 := by rw [usedN, if_neg h3]
  have := usedN_mono (X := X) (p := p + 1) (q := q) (by omega)
  omega
/-- The place of a key. -/
def plN (z0 : Int) (g : Nat) (S : Nat → ByteArray) (X : Nat → Int) (i : Nat) : Nat := (plP z0 g (S i) X).toNat
theorem plN_is {z0 : Int} {g : Nat} {S : Nat → ByteArray} {X : Nat → Int} {n : Nat} (hv : PeV z0 g n X) (i : Nat) : plP z0 g (S i) X = ((plN z0 g S X i : Nat) : Int) ∧ plN z0 g S X i < n := by
  obtain ⟨p, h1, h2⟩ := plP_nat (s := S i) hv
  unfold plN
  rw [h1, Int.toNat_natCast]
  exact ⟨rfl, h2⟩
/-- All keys are led to places that are not free, no two to one, and no other place is in use. -/
def FitP (P : Nat → Nat) (X : Nat → Int) (n m : Nat) : Prop := (∀ i, i < m → X (P i) ≠ 3) ∧ DifP (fun i => ((P i : Nat) : Int)) m ∧ usedN X n = m
theorem fit_used {P : Nat → Nat} {X : Nat → Int} {m : Nat} (h : ∀ i, i < m → X (P i) ≠ 3) : DifP (fun i => ((usedN X (P i) : Nat) : Int)) m ↔ DifP (fun i => ((P i : Nat) : Int)) m := by
  constructor
  · intro hd a b h1 h2 he
    have he' : P b = P a := by have h3 : ((P b : Nat) : Int) = ((P a : Nat) : Int) := he; omega
    exact hd a b h1 h2 (by show ((usedN X (P b) : Nat) : Int) = _; rw [he'])
  · intro hd a b h1 h2 he
    have he' : usedN X (P b) = usedN X (P a) := by have h3 : ((usedN X (P b) : Nat) : Int) = ((usedN X (P a) : Nat) : Int) := he; omega
    have hne : P b ≠ P a := fun e => hd a b h1 h2 (by show ((P b : Nat) : Int) = _; rw [e])
    rcases Nat.lt_or_gt_of_ne hne with h3 | h3
    · have := usedN_lt (h b h2) h3; omega
    · have := usedN_lt (h a (by omega)) h3; omega
section
variable (z0 : Int) (g : Nat) (A : Option Addr) (n : Nat) (X : Nat → Int) (KA : Option Addr) (m kc : Nat) (S : Nat → ByteArray) (w : World)
set_option maxRecDepth 100000 in
set_option maxHeartbeats 2000000 in
theorem impl_numbersIn_Peeled (hm : m ≤ 1048576) (hs : ∀ i, i < m → (S i).size ≤ maxLen) (hk : GRow w KA m (strV S)) (hr : IRow w A n X) (hv : PeV z0 g n X) :
    Calls Try.prog 50 #[.iface 30 (.agg #[.int .i64 z0, .int .i64 g, .slice A n n]), .slice KA m kc] w fun e w' => Below w.heap.size w w' ∧ (((∀ i, i < m → X (plN z0 g S X i) ≠ 3) ∧ e = .returned (.tuple #[.slice (some ⟨w.heap.size, 0, none⟩) m m, .bool true]) ∧ ORow w' w.heap.size m (fun i => ((usedN X (plN z0 g S X i) : Nat) : Int))) ∨ ((∃ i, i < m ∧ X (plN z0 g S X i) = 3) ∧ e = .returned (.tuple #[.slice none 0 0, .bool false]))) := by
  have HS := Lib.hid hs
  have HK := Lib.hid hk
  have HR := Lib.hid hr
  have HV := Lib.hid hv
  have hmk := fun W => run_make_row' (P := Try.prog) 22 3 (.int .i64 0) 8 Try.underlying22 infoI rfl .i64 .i64 m (by omega) (by omega) W
  clear hs hk hr hv
  go_enter Try.func50, Try.ntmps50
  go_wp2_with fail
  go_loopw [16] (fun i wr => ∃ k : Nat, k ≤ m ∧ i = .int .i64 k ∧ Hid (∀ i, i < k → X (plN z0 g S X i) ≠ 3) ∧ Hid (ORow wr w.heap.size m (fun i => if i < k then ((usedN X (plN z0 g S X i) : Nat) : Int) else 0)) ∧ Hid (Below w.heap.size w wr)) (fun i _ => m - (intOf i).toNat)
  case atStart => exact ⟨0, Nat.zero_le _, rfl, Lib.hid (fun i h => absurd h (by omega)), Lib.hid ((ORow.made _ _).congr (fun _ _ => rfl)), Lib.hid ((Below.refl _ _).alloc (Nat.le_refl _) _)⟩
  case round =>
    obtain ⟨k, hk', rfl, HN, HO, HB⟩ := hrel
    by_cases hlt : k < m
    · obtain ⟨b, off, hKA, _, hc⟩ := HK.out.below HB.out (Nat.le_refl _) (by omega)
      subst hKA
      have hck := hc k hlt
      unfold strV at hck
      have HC := Lib.hid (impl_numberOf_Peeled z0 g A n X (S k) (plN z0 g S X k) wr (HS.out k hlt) (HR.out.below HB.out (Nat.le_refl _)) HV.out (plN_is HV.out k).1 (plN_is HV.out k).2)
      clear hc
      by_cases h3 : X (plN z0 g S X k) = 3
      · rw [if_pos h3, show decide (X (plN z0 g S X k) ≠ 3) = false by simpa using h3] at HC
        have H3 := Lib.hid h3
        clear h3
        go_wp2_with fail
        refine HC.out.mono ?_; rintro e w3 ⟨rfl, hb⟩
        have HB3 := Lib.hid (HB.out.trans (hb.mono HB.out.size))
        clear hb
        go_wp2_with fail
        go_ret2
        exact ⟨HB3.out, .inr ⟨⟨k, hlt, H3.out⟩, rfl⟩⟩
      · rw [if_neg h3, show decide (X (plN z0 g S X k) ≠ 3) = true by simpa using h3] at HC
        have HN2 := Lib.hid (show ∀ i, i < k + 1 → X (plN z0 g S X i) ≠ 3 from fun i hi => by
          by_cases e : i = k
          · subst e; exact h3
          · exact HN.out i (by omega))
        clear h3
        go_wp2_with fail
        refine HC.out.mono ?_; rintro e w3 ⟨rfl, hb⟩
        have HO3 := Lib.hid (HO.out.b hb)
        have HB3 := Lib.hid (HB.out.trans (hb.mono HB.out.size))
        clear hb
        have hx := HO3.out.cell hlt
        have hf := HO3.out.frozen k
        go_wp2_with fail
        go_roundw
        case rel =>
          refine ⟨k + 1, by omega, by go_num, HN2, Lib.hid ((HO3.out.set k _).congr (fun j hj => ?_)), Lib.hid (HB3.out.setCell (Nat.le_refl _) _)⟩
          by_cases e : j = k
          · subst e; simp
          · simp only [e, if_false]
            by_cases h2 : j < k
            · rw [if_pos h2, if_pos (by omega)]
            · rw [if_neg h2, if_neg (by omega)]
        case measure => simp [intOf]; omega
    · obtain rfl : k = m := by omega
      go_wp2_with fail
      go_ret2
      exact ⟨HB.out, .inl ⟨HN.out, rfl, HO.out.congr (fun j hj => by simp only [hj, if_true])⟩⟩
end
set_option maxRecDepth 100000 in
set_option maxHeartbeats 2000000 in
theorem impl_keepsPromise_Peeled (z0 z1 : Int) (XA : Option Addr) (xn xc : Nat) (X : Nat → Int) (A : Option Addr) (n c : Nat) (F : Nat → Int) (w : World) (hn : n ≤ 1048576) (hxn : xn ≤ 1048576) (hnc : n ≤ c) (hr : IRow w A n F) (hx : IRow w XA xn X) :
    Calls Try.prog 68 #[.iface 30 (.agg #[.int .i64 z0, .int .i64 z1, .slice XA xn xc]), .slice A n c] w (BoolIs (DifP F n ∧ usedN X xn = n) w) := by
  have S0 := Lib.hid (BX1.start (cs := #[.int .i64 z0, .int .i64 z1, .slice XA xn xc]) (t := 30) hx)
  have HR := Lib.hid (hr.b ((Below.refl _ w).alloc (Nat.le_refl _) (.cells #[.int .i64 z0, .int .i64 z1, .slice XA xn xc] 30)))
  have x2 := S0.out.box.cell 2 _ rfl
  clear hr hx
  have hta := fun W => run_assert_yes (x := 92) (v := .agg #[.int .i64 z0, .int .i64 z1, .slice XA xn xc]) niP W
  by_cases hd : DifP F n
  · go_enter Try.func68, Try.ntmps68
    go_wp2_with fail
    refine (impl_areDifferent A n c F _ hn hnc HR.out).mono ?_; rintro e w2 ⟨r, rfl, hrr, rfl⟩
    obtain rfl : r = true := hrr.2 hd
    clear hrr
    go_wp2_with fail
    refine (impl_usedAmong XA xn xc X _ hxn S0.out.row).mono ?_; rintro e w2 ⟨rfl, rfl⟩
    by_cases he : usedN X xn = n
    · rw [he]
      go_wp2_with fail
      go_ret
      exact ⟨true, rfl, by simp only [true_iff]; exact ⟨hd, he⟩, S0.out.below⟩
    · have d1 : (((usedN X xn : Nat) : Int) == (n : Int)) = false := by simp; omega
      have d2 : (usedN X xn == n) = false := by simpa using he
      have HE := Lib.hid he
      generalize usedN X xn = u at *
      go_wp2_with fail
      go_ret
      exact ⟨false, rfl, by simp only [Bool.false_eq_true, false_iff]; exact fun h => HE.out h.2, S0.out.below⟩
  · go_enter Try.func68, Try.ntmps68
    go_wp2_with fail
    refine (impl_areDifferent A n c F _ hn hnc HR.out).mono ?_; rintro e w2 ⟨r, rfl, hrr, rfl⟩
    obtain rfl : r = false := by
      cases r
      · rfl
      · exact absurd (hrr.1 rfl) hd
    clear hrr
    go_wp2_with fail
    go_ret
    exact ⟨false, rfl, by simp only [Bool.false_eq_true, false_iff]; exact fun h => hd h.1, S0.out.below⟩
section
variable (z0 : Int) (g : Nat) (A : Option Addr) (n : Nat) (X : Nat → Int) (KA : Option Addr) (m kc : Nat) (S : Nat → ByteArray) (w : World)
set_option maxRecDepth 100000 in
set_option maxHeartbeats 2000000 in
theorem impl_isDesignFor_Peeled (hn : n ≤ 1048576) (hs : ∀ i, i < m → (S i).size ≤ maxLen) (hk : GRow w KA m (strV S)) (hr : IRow w A n X) (hv : PeV z0 g n X) (hkb : keysB S m = true) :
    Calls Try.prog 44 #[.iface 30 (.agg #[.int .i64 z0, .int .i64 g, .slice A n n]), .slice KA m kc] w (TwoIs (FitP (plN z0 g S X) X n m) w) := by
  have HS := Lib.hid hs
  have HK := Lib.hid hk
  have HR := Lib.hid hr
  have HV := Lib.hid hv
  have hm := keysB_size hkb
  clear hs hk hr hv
  go_enter Try.func44, Try.ntmps44
  go_wp2_with fail
  refine (impl_isValid_Peeled z0 g A n n X _ hn HR.out).mono ?_; rintro e w1 ⟨b, rfl, hb, hw⟩
  obtain rfl : b = true := hb.2 HV.out
  have HB := Lib.hid hw
  clear hb hw
  go_wp2_with fail
  refine (impl_areKeys KA m kc S _ (by omega) HS.out (HK.out.b HB.out)).mono ?_; rintro e w2 ⟨rfl, rfl⟩
  rw [hkb]
  go_wp2_with fail
  refine (impl_numbersIn_Peeled z0 g A n X KA m kc S _ (by omega) HS.out (HK.out.b HB.out) (HR.out.b HB.out) HV.out).mono ?_
  rintro e w3 ⟨hb, ⟨hall, rfl, ho⟩ | ⟨hno, rfl⟩⟩
  · have HO := Lib.hid ho
    have HALL := Lib.hid hall
    have HB3 := Lib.hid (HB.out.trans (hb.mono HB.out.size))
    clear ho hb hall
    go_wp2_with fail
    refine (impl_keepsPromise_Peeled z0 g A n n X _ m m _ _ (by omega) hn (Nat.le_refl _) HO.out.row (HR.out.b HB3.out)).mono ?_; rintro e w4 ⟨r, rfl, hr, hb⟩
    have HB4 := Lib.hid (HB3.out.trans (hb.mono HB3.out.size))
    have HP := Lib.hid hr
    clear hb hr
    go_wp2_with fail
    go_ret2
    exact ⟨r, rfl, HP.out.trans ⟨fun h => ⟨HALL.out, (fit_used HALL.out).1 h.1, h.2⟩, fun h => ⟨(fit_used HALL.out).2 h.2.1, h.2.2⟩⟩, HB4.out⟩
  · have HNO := Lib.hid hno
    have HB3 := Lib.hid (HB.out.trans (hb.mono HB.out.size))
    clear hb hno
    go_wp2_with fail
    go_ret2
    exact ⟨false, rfl, by simp only [Bool.false_eq_true, false_iff]; exact fun h => by obtain ⟨i, hi, h3⟩ := HNO.out; exact h.1 i hi h3, HB3.out⟩
end
set_option maxRecDepth 100000 in
set_option maxHeartbeats 2000000 in
theorem impl_isDesignFor_Peeled_no (z0 z1 : Int) (A : Option Addr) (n : Nat) (X : Nat → Int) (KA : Option Addr) (m kc : Nat) (S : Nat → ByteArray) (w : World) (hn : n ≤ 1048576) (hm : m ≤ 1048576) (hs : ∀ i, i < m → (S i).size ≤ maxLen) (hk : GRow w KA m (strV S)) (hr : IRow w A n X) (h : ¬ (PeV z0 z1 n X ∧ keysB S m = true)) :
    Calls Try.prog 44 #[.iface 30 (.agg #[.int .i64 z0, .int .i64 z1, .slice A n n]), .slice KA m kc] w fun e w' => e = .returned (.tuple #[.bool false, .bool false]) ∧ Below w.heap.size w w' := by
  have HS := Lib.hid hs
  have HK := Lib.hid hk
  have HR := Lib.hid hr
  clear hs hk hr
  by_cases hv : PeV z0 z1 n X
  · have hkb : keysB S m = false := by
      cases e : keysB S m
      · rfl
      · exact absurd ⟨hv, e⟩ h
    go_enter Try.func44, Try.ntmps44
    go_wp2_with fail
    refine (impl_isValid_Peeled z0 z1 A n n X _ hn HR.out).mono ?_; rintro e w1 ⟨b, rfl, hb, hw⟩
    obtain rfl : b = true := hb.2 hv
    have HB := Lib.hid hw
    clear hb hw
    go_wp2_with fail
    refine (impl_areKeys KA m kc S _ hm HS.out (HK.out.b HB.out)).mono ?_; rintro e w2 ⟨rfl, rfl⟩
    rw [hkb]
    go_wp2_with fail
    go_ret2
    exact ⟨rfl, HB.out⟩
  · go_enter Try.func44, Try.ntmps44
    go_wp2_with fail
    refine (impl_isValid_Peeled z0 z1 A n n X _ hn HR.out).mono ?_; rintro e w1 ⟨b, rfl, hb, hw⟩
    obtain rfl : b = false := by
      cases b
      · rfl
      · exact absurd (hb.1 rfl) hv
    have HB := Lib.hid hw
    clear hb hw
    go_wp2_with fail
    go_ret2
    exact ⟨rfl, HB.out⟩
section
variable (z0 z1 : Int) (A : Option Addr) (n : Nat) (X : Nat → Int) (KA : Option Addr) (m kc : Nat) (S : Nat → ByteArray) (w : World)
set_option maxRecDepth 100000 in
set_option maxHeartbeats 2000000 in
theorem impl_isPeeledFor (hn : n ≤ 1048576) (hs : ∀ i, i < m → (S i).size ≤ maxLen) (hk : GRow w KA m (strV S)) (hr : IRow w A n X) (hv : PeV z0 z1 n X) (hkb : keysB S m = true) :
    Calls Try.prog 13 #[.agg #[.int .i64 z0, .int .i64 z1, .slice A n n], .slice KA m kc] w (TwoIs (FitP (plN z0 z1.toNat S X) X n m) w) := by
  obtain ⟨g, rfl⟩ : ∃ g : Nat, z1 = g := ⟨z1.toNat, by have := hv.2.1; omega⟩
  rw [Int.toNat_natCast]
  have S0 := Lib.hid (BX1.start (cs := #[.int .i64 z0, .int .i64 g, .slice A n n]) (t := 30) hr)
  have HK := Lib.hid (hk.b S0.out.below)
  have HS := Lib.hid hs
  have HV := Lib.hid hv
  have x0 := S0.out.box.cell 0 _ rfl
  have x1 := S0.out.box.cell 1 _ rfl
  have x2 := S0.out.box.cell 2 _ rfl
  clear hr hk hs hv
  go_enter Try.func13, Try.ntmps13
  go_wp2_with fail
  refine (impl_isDesignFor_Peeled z0 g A n X KA m kc S _ hn HS.out HK.out S0.out.row HV.out hkb).mono ?_; rintro e w1 ⟨b, rfl, hb, hw⟩
  have S1 := Lib.hid (S0.out.step hw)
  have HP := Lib.hid hb
  clear hw hb
  go_wp2_with fail
  go_ret2
  exact ⟨b, rfl, HP.out, S1.out.below⟩
set_option maxRecDepth 100000 in
set_option maxHeartbeats 2000000 in
theorem impl_isPeeledFor_no (hn : n ≤ 1048576) (hm : m ≤ 1048576) (hs : ∀ i, i < m → (S i).size ≤ maxLen) (hk : GRow w KA m (strV S)) (hr : IRow w A n X) (h : ¬ (PeV z0 z1 n X ∧ keysB S m = true)) :
    Calls Try.prog 13 #[.agg #[.int .i64 z0, .int .i64 z1, .slice A n n], .slice KA m kc] w fun e w' => e = .returned (.tuple #[.bool false, .bool false]) ∧ Below w.heap.size w w' := by
  have S0 := Lib.hid (BX1.start (cs := #[.int .i64 z0, .int .i64 z1, .slice A n n]) (t := 30) hr)
  have HK := Lib.hid (hk.b S0.out.below)
  have HS := Lib.hid hs
  have HN := Lib.hid h
  have x0 := S0.out.box.cell 0 _ rfl
  have x1 := S0.out.box.cell 1 _ rfl
  have x2 := S0.out.box.cell 2 _ rfl
  clear hr hk hs h
  go_enter Try.func13, Try.ntmps13
  go_wp2_with fail
  refine (impl_isDesignFor_Peeled_no z0 z1 A n X KA m kc S _ hn hm HS.out HK.out S0.out.row HN.out).mono ?_; rintro e w1 ⟨rfl, hw⟩
  have S1 := Lib.hid (S0.out.step hw)
  clear hw
  go_wp2_with fail
  go_ret2
  exact ⟨rfl, S1.out.below⟩
set_option maxRecDepth 100000 in
set_option maxHeartbeats 2000000 in
theorem spec_isPeeledFor_no (hn : n ≤ 1048576) (hm : m ≤ 1048576) (hs : ∀ i, i < m → (S i).size ≤ maxLen) (hk : GRow w KA m (strV S)) (hr : IRow w A n X) (h : ¬ (PeV z0 z1 n X ∧ keysB S m = true)) :
    Calls Try.prog 10 #[.agg #[.int .i64 z0, .int .i64 z1, .slice A n n], .slice KA m kc] w fun e w' => e = .returned (.tuple #[.bool false, .bool false]) ∧ Below w.heap.size w w' := by
  have S0 := Lib.hid (BX1.start (cs := #[.int .i64 z0, .int .i64 z1, .slice A n n]) (t := 30) hr)
  have HK := Lib.hid (hk.b S0.out.below)
  have HS := Lib.hid hs
  have x0 := S0.out.box.cell 0 _ rfl
  have x1 := S0.out.box.cell 1 _ rfl
  have x2 := S0.out.box.cell 2 _ rfl
  clear hr hk hs
  by_cases hv : PeV z0 z1 n X
  · have hkb : keysB S m = false := by
      cases e : keysB S m
      · rfl
      · exact absurd ⟨hv, e⟩ h
    go_enter Try.func10, Try.ntmps10
    go_wp2_with fail
    refine (spec_pfPeeled z0 z1 A n n X _ hn S0.out.row).mono ?_; rintro e w1 ⟨b, rfl, hb, hw⟩
    obtain rfl : b = true := hb.2 hv
    have S1 := Lib.hid (S0.out.step hw)
    have HK1 := Lib.hid (HK.out.b hw)
    clear hb hw x0 x1 x2 S0
    go_wp2_with fail
    refine (spec_biKeys KA m kc S _ hm HS.out HK1.out).mono ?_; rintro e w2 ⟨rfl, rfl⟩
    rw [hkb]
    go_wp2_with fail
    go_ret2
    exact ⟨rfl, S1.out.below⟩
  · go_enter Try.func10, Try.ntmps10
    go_wp2_with fail
    refine (spec_pfPeeled z0 z1 A n n X _ hn S0.out.row).mono ?_; rintro e w1 ⟨b, rfl, hb, hw⟩
    obtain rfl : b = false := by
      cases b
      · rfl
      · exact absurd (hb.1 rfl) hv
    have S1 := Lib.hid (S0.out.step hw)
    clear hb hw x0 x1 x2 S0
    go_wp2_with fail
    go_ret2
    exact ⟨rfl, S1.out.below⟩
end

theorem BX1.low2 {w wi wj : World} {n : Nat} {cs : Array Value} {t : TypeId} {A : Option Addr} {X : Nat → Int} (h : BX1 w w.heap.size cs t A n X wi) (h0 : IRow w A n X) (hb : Below (w.heap.size + 1) wi wj) : BX1 w w.heap.size cs t A n X wj := by
  have hbl := h.below.trans (hb.mono (by omega))
  exact ⟨hbl, ⟨(hb.block _ (by omega)).trans h.box.blk, h.box.ge⟩, h0.b hbl⟩
section
variable (z0 : Int) (g : Nat) (A : Option Addr) (n : Nat) (X : Nat → Int) (KA : Option Addr) (m kc : Nat) (S : Nat → ByteArray) (w : World)
set_option maxRecDepth 100000 in
set_option maxHeartbeats 4000000 in
theorem spec_pfFits (hm : m ≤ 40) (hs : ∀ i, i < m → (S i).size ≤ maxLen) (hk : GRow w KA m (strV S)) (hr : IRow w A n X) (hv : PeV z0 g n X) :
    Calls Try.prog 42 #[.agg #[.int .i64 z0, .int .i64 g, .slice A n n], .slice KA m kc] w (BoolIs (FitP (plN z0 g S X) X n m) w) := by
  have S0 := Lib.hid (BX1.start (cs := #[.int .i64 z0, .int .i64 g, .slice A n n]) (t := 30) hr)
  have HK0 := Lib.hid hk
  have HS := Lib.hid hs
  have HV := Lib.hid hv
  have hr0 := Lib.hid hr
  have hn : n ≤ 72 := by have := hv.2.2.1; have := hv.2.1; omega
  have hn0 : 0 < n := by have := hv.2.2.1; have := hv.2.1; omega
  have HP := Lib.hid (fun i => plN_is (S := S) hv i)
  have HF := Lib.hid (show FitP (plN z0 g S X) X n m ↔ ((∀ i, i < m → X (plN z0 g S X i) ≠ 3) ∧ DifP (fun i => ((plN z0 g S X i : Nat) : Int)) m ∧ usedN X n = m) from Iff.rfl)
  obtain ⟨ab, ao, rfl, _, _⟩ := hr hn0
  obtain ⟨P, hP⟩ : ∃ P, P = plN z0 g S X := ⟨_, rfl⟩
  rw [← hP] at HF HP ⊢
  have HFP := Lib.hid (show FitP P X n m = FitP P X n m from rfl)
  generalize FitP P X n m = fit at HF HFP ⊢
  clear hr hk hs hv hP HFP
  go_enter Try.func42, Try.ntmps42
  go_wp2_with fail
  go_loopw [5, 11] (fun v i wr => ∃ (k : Nat) (A1 : Option Addr) (c1 : Nat), k ≤ m ∧ i = .int .i64 k ∧ v = .slice A1 k c1 ∧ Hid (wr.ownsRow (w.heap.size + 1) 3 1 (.slice A1 k c1) k (vals (intV (fun i => ((P i : Nat) : Int))) k)) ∧ Hid (∀ i, i < k → X (P i) ≠ 3) ∧ Hid (DifP (fun i => ((P i : Nat) : Int)) k) ∧ Hid (BX1 w w.heap.size #[.int .i64 z0, .int .i64 g, .slice (some ⟨ab, ao, none⟩) n n] 30 (some ⟨ab, ao, none⟩) n X wr)) (fun _ i _ => m - (intOf i).toNat)
  case atStart => exact ⟨0, none, 0, Nat.zero_le _, rfl, rfl, Lib.hid (World.ownsRow_nil _ _ _ _), Lib.hid (fun i h => absurd h (by omega)), Lib.hid (fun a b h1 h2 => by omega), S0⟩
  case round =>
    obtain ⟨k, A1, c1, hk', rfl, rfl, HO, HN, HD, SK⟩ := hrel
    by_cases hlt : k < m
    · obtain ⟨b, off, hKA, _, hc⟩ := HK0.out.b SK.out.below (by omega)
      subst hKA
      have hck := hc k hlt
      unfold strV at hck
      have x0 := SK.out.box.cell 0 _ rfl
      have x1 := SK.out.box.cell 1 _ rfl
      have x2 := SK.out.box.cell 2 _ rfl
      obtain ⟨hp1, hp2⟩ := HP.out k
      have HC := Lib.hid (show Calls Try.prog 65 #[.agg #[.int .i64 z0, .int .i64 g, .slice (some ⟨ab, ao, none⟩) n n], .string (S k)] wr (fun e w' => e = .returned (.int .i64 ((P k : Nat) : Int)) ∧ Below wr.heap.size wr w') from hp1 ▸ spec_pfPlace z0 g _ n n X (S k) wr (HS.out k hlt) SK.out.row HV.out)
      clear hc hp1
      by_cases h3 : X (P k) = 3
      · have HX := Lib.hid (show ¬ fit from fun h => (HF.out.1 h).1 k hlt h3)
        have H3 := Lib.hid h3
        clear h3
        go_wp2_with fail
        refine HC.out.mono ?_; rintro e w3 ⟨rfl, hb⟩
        have S3 := Lib.hid (SK.out.step hb)
        clear hb x0 x1 x2
        have x2 := S3.out.box.cell 2 _ rfl
        have hx := irow_cell S3.out.row hp2
        rw [H3.out] at hx
        generalize P k = pk at *
        go_wp2_with fail
        go_ret
        exact ⟨false, rfl, by simp only [Bool.false_eq_true, false_iff]; exact HX.out, S3.out.below⟩
      · have HN2 := Lib.hid (show ∀ i, i < k + 1 → X (P i) ≠ 3 from fun i hi => by
          by_cases e : i = k
          · subst e; exact h3
          · exact HN.out i (by omega))
        have d1 : (X (P k) == 3) = false := by simpa using h3
        clear h3
        go_wp2_with fail
        refine HC.out.mono ?_; rintro e w3 ⟨rfl, hb⟩
        have S3 := Lib.hid (SK.out.step hb)
        have HO3 := Lib.hid (owned_b HO.out hb)
        have HR3 := Lib.hid (show IRow w3 A1 k (fun i => ((P i : Nat) : Int)) from (owned_vec HO3.out).row)
        clear hb x0 x1 x2
        have x2 := S3.out.box.cell 2 _ rfl
        have hx := irow_cell S3.out.row hp2
        have HH := Lib.hid (spec_l1Has A1 k c1 _ ((P k : Nat) : Int) w3 (by omega) HR3.out)
        have HPK := Lib.hid (rfl : intV (fun i => ((P i : Nat) : Int)) k = .int .i64 ((P k : Nat) : Int))
        go_wp2_with fail
        refine HH.out.mono ?_; rintro e w4 ⟨r, rfl, hrr, rfl⟩
        cases r with
        | true =>
          obtain ⟨i, hi1, hi2⟩ := hrr.1 rfl
          have HX := Lib.hid (show ¬ fit from fun h => (HF.out.1 h).2.1 i k hi1 hlt hi2.symm)
          clear hrr hi2
          go_wp2_with fail
          go_ret
          exact ⟨false, rfl, by simp only [Bool.false_eq_true, false_iff]; exact HX.out, S3.out.below⟩
        | false =>
          have HD2 := Lib.hid (show DifP (fun i => ((P i : Nat) : Int)) (k + 1) from fun a b h1 h2 => by
            by_cases e : b = k
            · subst e; exact fun he => absurd (hrr.2 ⟨a, h1, he.symm⟩) (by simp)
            · exact HD.out a b h1 (by omega))
          have hsz : w.heap.size + 1 ≤ w3.heap.size := by have := S3.out.box.lt; omega
          clear hrr
          go_wp2_with (at_builtin; refine wpList_push rfl _ _ 22 rfl (w.heap.size + 1) 3 (.int .i64 0) 8 Try.underlying22 infoI rfl A1 k c1 (intV (fun i => ((P i : Nat) : Int))) (.int .i64 ((P k : Nat) : Int)) w3 rfl HO3.out rfl rfl rfl (by omega) (by omega) hsz ?_)
          intro A' c' w5 hown' hb3
          have HO5 := Lib.hid hown'
          have S5 := Lib.hid (S3.out.low2 hr0.out hb3)
          clear hown' hb3
          go_wp2_with fail
          go_roundw
          case rel => exact ⟨k + 1, A', c', by omega, by go_num, rfl, HO5, HN2, HD2, S5⟩
          case measure => simp [intOf]; omega
    · obtain rfl : k = m := by omega
      have x0 := SK.out.box.cell 0 _ rfl
      have x1 := SK.out.box.cell 1 _ rfl
      have x2 := SK.out.box.cell 2 _ rfl
      have HRK := Lib.hid (fun W (hW : IRow W (some ⟨ab, ao, none⟩) n X) => spec_pfRank z0 g (some ⟨ab, ao, none⟩) n X n W (by omega) (Nat.le_refl _) hW)
      by_cases hu : usedN X n = k
      · rw [hu] at HRK
        have HU := Lib.hid hu
        clear hu
        go_wp2_with fail
        refine (HRK.out _ SK.out.row).mono ?_; rintro e w3 ⟨rfl, hb⟩
        have S3 := Lib.hid (SK.out.step hb)
        clear hb
        go_wp2_with fail
        go_ret
        exact ⟨true, rfl, by simp only [true_iff]; exact HF.out.2 ⟨HN.out, HD.out, HU.out⟩, S3.out.below⟩
      · have d1 : (((usedN X n : Nat) : Int) == (k : Int)) = false := by simp; omega
        have d2 : (usedN X n == k) = false := by simpa using hu
        have HX := Lib.hid (show ¬ fit from fun h => hu (HF.out.1 h).2.2)
        clear hu
        generalize usedN X n = u at *
        go_wp2_with fail
        refine (HRK.out _ SK.out.row).mono ?_; rintro e w3 ⟨rfl, hb⟩
        have S3 := Lib.hid (SK.out.step hb)
        clear hb
        go_wp2_with fail
        go_ret
        exact ⟨false, rfl, by simp only [Bool.false_eq_true, false_iff]; exact HX.out, S3.out.below⟩
end
section
variable (z0 z1 : Int) (A : Option Addr) (n : Nat) (X : Nat → Int) (KA : Option Addr) (m kc : Nat) (S : Nat → ByteArray) (w : World)
set_option maxRecDepth 100000 in
set_option maxHeartbeats 2000000 in
theorem spec_isPeeledFor (hn : n ≤ 1048576) (hs : ∀ i, i < m → (S i).size ≤ maxLen) (hk : GRow w KA m (strV S)) (hr : IRow w A n X) (hv : PeV z0 z1 n X) (hkb : keysB S m = true) :
    Calls Try.prog 10 #[.agg #[.int .i64 z0, .int .i64 z1, .slice A n n], .slice KA m kc] w (TwoIs (FitP (plN z0 z1.toNat S X) X n m) w) := by
  obtain ⟨g, rfl⟩ : ∃ g : Nat, z1 = g := ⟨z1.toNat, by have := hv.2.1; omega⟩
  rw [Int.toNat_natCast]
  have S0 := Lib.hid (BX1.start (cs := #[.int .i64 z0, .int .i64 g, .slice A n n]) (t := 30) hr)
  have HK0 := Lib.hid hk
  have HS := Lib.hid hs
  have HV := Lib.hid hv
  have hm := keysB_size hkb
  have x0 := S0.out.box.cell 0 _ rfl
  have x1 := S0.out.box.cell 1 _ rfl
  have x2 := S0.out.box.cell 2 _ rfl
  clear hr hk hs hv
  go_enter Try.func10, Try.ntmps10
  go_wp2_with fail
  refine (spec_pfPeeled z0 g A n n X _ hn S0.out.row).mono ?_; rintro e w1 ⟨b, rfl, hb, hw⟩
  obtain rfl : b = true := hb.2 HV.out
  have S1 := Lib.hid (S0.out.step hw)
  clear hb hw x0 x1 x2 S0
  have x0 := S1.out.box.cell 0 _ rfl
  have x1 := S1.out.box.cell 1 _ rfl
  have x2 := S1.out.box.cell 2 _ rfl
  go_wp2_with fail
  refine (spec_biKeys KA m kc S _ (by omega) HS.out (HK0.out.b S1.out.below)).mono ?_; rintro e w2 ⟨rfl, rfl⟩
  rw [hkb]
  go_wp2_with fail
  refine (spec_pfFits z0 g A n X KA m kc S _ hm HS.out (HK0.out.b S1.out.below) S1.out.row HV.out).mono ?_
  rintro e w3 ⟨r, rfl, hrr, hb⟩
  have S3 := Lib.hid (S1.out.step hb)
  have HP := Lib.hid hrr
  clear hb hrr
  go_wp2_with fail
  go_ret2
  exact ⟨r, rfl, HP.out, S3.out.below⟩
end
end Go.Proofs.Ytockhjdhihehlaa
