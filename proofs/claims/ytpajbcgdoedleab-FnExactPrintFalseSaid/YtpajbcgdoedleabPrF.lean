/- PrintFalse: both sides. -/
import Derived.Test.YtpajbcgdoedleabPrT
import Derived.Test.YtpajbcgdoedleabBlF
namespace Go.Proofs.Ytpajbcgdoedleab
open Go.RowKit

/-- A list of ints among the answers, one's own. -/
def LtAns (n : Nat) (X : Nat → Int) (b : Bool) (w : World) (e : Ending) (w' : World) : Prop :=
  ∃ A c, e = .returned (.tuple #[.slice A n c, .bool b]) ∧ Ow w.heap.size w'.heap.size 3 A n (intV X) w' ∧ Below w.heap.size w w'
theorem LtAns.row {n : Nat} {X : Nat → Int} {b : Bool} {w w' : World} {e : Ending} (h : LtAns n X b w e w') : ∃ A c, e = .returned (.tuple #[.slice A n c, .bool b]) ∧ GRow w' A n (intV X) ∧ Below w.heap.size w w' := by
  obtain ⟨A, c, h1, h2, h3⟩ := h
  exact ⟨A, c, h1, (Ow.rd h2).row (Nat.le_refl _), h3⟩
theorem ltAns_none {w w' : World} {e : Ending} (h : e = .returned (.tuple #[.slice none 0 0, .bool false])) (hb : Below w.heap.size w w') : LtAns 0 (fun _ => 0) false w e w' := ⟨none, 0, h, ow_zero _ _ _ _ _ _, hb⟩
theorem ow_valsT {w : World} {B n c : Nat} {A : Option Addr} {X : Nat → Int} (h : w.ownsRow B 3 1 (.slice A n c) n (vals (intV X) n)) : Ow B w.heap.size 3 A n (intV X) w := by
  rcases owned_vec h with rfl | ⟨g, rfl, hg, ho⟩
  · exact ow_zero _ _ _ _ _ _
  · exact ow_of_own ho hg (Nat.le_refl n)
section
variable {z0 z1 z2 : Int} {g v : Nat} {A : Option Addr} {n c : Nat} {X : Nat → Int} {w : World} {KA : Option Addr} {k kc : Nat} {S : Nat → ByteArray} {TA : Option Addr} {t tc : Nat} {T : Nat → ByteArray}
set_option maxRecDepth 100000 in
set_option maxHeartbeats 4000000 in
theorem spec_printFalse_no (h : ¬ (TaV z0 z1 z2 n X ∧ keysB S k = true ∧ textsB T t = true)) (hn : n ≤ 1048576) (hr : IRow w A n X) (hk : k ≤ 1048576) (ht : t ≤ 1048576) (hs : ∀ i, i < k → (S i).size ≤ maxLen) (hts : ∀ i, i < t → (T i).size ≤ maxLen) (hK : GRow w KA k (strV S)) (hT : GRow w TA t (strV T)) :
    Calls Try.prog 41 #[.agg #[.int .i64 z0, .int .i64 z1, .int .i64 z2, .slice A n c], .slice KA k kc, .slice TA t tc] w (LtAns 0 (fun _ => 0) false w) := by
  have S0 := Lib.hid (BX1.start (cs := #[.int .i64 z0, .int .i64 z1, .int .i64 z2, .slice A n c]) (t := 57) hr)
  have HK := Lib.hid hK
  have HT := Lib.hid hT
  clear hr hK hT
  have x0 := S0.out.box.cell 0 _ rfl
  have x1 := S0.out.box.cell 1 _ rfl
  have x2 := S0.out.box.cell 2 _ rfl
  have x3 := S0.out.box.cell 3 _ rfl
  by_cases hv : TaV z0 z1 z2 n X
  rotate_left
  · go_enter Try.func41, Try.ntmps41
    go_wp2_with fail
    refine (spec_reTable (b := false) (by simp [hv]) hn S0.out.row).mono ?_; rintro e w1 ⟨rfl, hw⟩
    have S1 := Lib.hid (S0.out.step hw)
    clear hw x0 x1 x2 x3 S0
    go_wp2_with fail
    go_ret2
    exact ltAns_none rfl S1.out.below

  cases hkb : keysB S k with
  | false =>
    clear h
    go_enter Try.func41, Try.ntmps41
    go_wp2_with fail
    refine (spec_reTable (b := true) (by simp [hv]) hn S0.out.row).mono ?_; rintro e w1 ⟨rfl, hw⟩
    have S1 := Lib.hid (S0.out.step hw)
    clear hw x0 x1 x2 x3 S0
    have HK1 := Lib.hid (HK.out.b S1.out.below)
    have HT1 := Lib.hid (HT.out.b S1.out.below)
    go_wp2_with fail
    refine (spec_biKeys KA k kc S _ hk hs HK1.out).mono ?_; rintro e w2 ⟨rfl, rfl⟩
    rw [hkb]
    go_wp2_with fail
    go_ret2
    exact ltAns_none rfl S1.out.below
  | true =>
    have htb : textsB T t = false := by
      cases e : textsB T t
      · rfl
      · exact absurd ⟨hv, hkb, e⟩ h
    clear h
    go_enter Try.func41, Try.ntmps41
    go_wp2_with fail
    refine (spec_reTable (b := true) (by simp [hv]) hn S0.out.row).mono ?_; rintro e w1 ⟨rfl, hw⟩
    have S1 := Lib.hid (S0.out.step hw)
    clear hw x0 x1 x2 x3 S0
    have HK1 := Lib.hid (HK.out.b S1.out.below)
    have HT1 := Lib.hid (HT.out.b S1.out.below)
    go_wp2_with fail
    refine (spec_biKeys KA k kc S _ hk hs HK1.out).mono ?_; rintro e w2 ⟨rfl, rfl⟩
    rw [hkb]
    go_wp2_with fail
    refine (spec_fiKeys ht hts HT1.out).mono ?_; rintro e w2 ⟨rfl, rfl⟩
    rw [htb]
    go_wp2_with fail
    go_ret2
    exact ltAns_none rfl S1.out.below
set_option maxRecDepth 100000 in
set_option maxHeartbeats 4000000 in
theorem impl_printFalse_no (h : ¬ (TaV z0 z1 z2 n X ∧ keysB S k = true ∧ textsB T t = true)) (hn : n ≤ 1048576) (hr : IRow w A n X) (hk : k ≤ 1048576) (ht : t ≤ 1048576) (hs : ∀ i, i < k → (S i).size ≤ maxLen) (hts : ∀ i, i < t → (T i).size ≤ maxLen) (hK : GRow w KA k (strV S)) (hT : GRow w TA t (strV T)) :
    Calls Try.prog 42 #[.agg #[.int .i64 z0, .int .i64 z1, .int .i64 z2, .slice A n c], .slice KA k kc, .slice TA t tc] w (LtAns 0 (fun _ => 0) false w) := by
  have S0 := Lib.hid (BX1.start (cs := #[.int .i64 z0, .int .i64 z1, .int .i64 z2, .slice A n c]) (t := 57) hr)
  have HK := Lib.hid hK
  have HT := Lib.hid hT
  clear hr hK hT
  have x0 := S0.out.box.cell 0 _ rfl
  have x1 := S0.out.box.cell 1 _ rfl
  have x2 := S0.out.box.cell 2 _ rfl
  have x3 := S0.out.box.cell 3 _ rfl
  by_cases hv : TaV z0 z1 z2 n X
  rotate_left
  · go_enter Try.func42, Try.ntmps42
    go_wp2_with fail
    refine (impl_isTable (b := false) (by simp [hv]) hn S0.out.row).mono ?_; rintro e w1 ⟨rfl, hw⟩
    have S1 := Lib.hid (S0.out.step hw)
    clear hw x0 x1 x2 x3 S0
    go_wp2_with fail
    go_ret2
    exact ltAns_none rfl S1.out.below

  cases hkb : keysB S k with
  | false =>
    clear h
    go_enter Try.func42, Try.ntmps42
    go_wp2_with fail
    refine (impl_isTable (b := true) (by simp [hv]) hn S0.out.row).mono ?_; rintro e w1 ⟨rfl, hw⟩
    have S1 := Lib.hid (S0.out.step hw)
    clear hw x0 x1 x2 x3 S0
    have HK1 := Lib.hid (HK.out.b S1.out.below)
    have HT1 := Lib.hid (HT.out.b S1.out.below)
    go_wp2_with fail
    refine (impl_areKeys KA k kc S _ hk hs HK1.out).mono ?_; rintro e w2 ⟨rfl, rfl⟩
    rw [hkb]
    go_wp2_with fail
    go_ret2
    exact ltAns_none rfl S1.out.below
  | true =>
    have htb : textsB T t = false := by
      cases e : textsB T t
      · rfl
      · exact absurd ⟨hv, hkb, e⟩ h
    clear h
    go_enter Try.func42, Try.ntmps42
    go_wp2_with fail
    refine (impl_isTable (b := true) (by simp [hv]) hn S0.out.row).mono ?_; rintro e w1 ⟨rfl, hw⟩
    have S1 := Lib.hid (S0.out.step hw)
    clear hw x0 x1 x2 x3 S0
    have HK1 := Lib.hid (HK.out.b S1.out.below)
    have HT1 := Lib.hid (HT.out.b S1.out.below)
    go_wp2_with fail
    refine (impl_areKeys KA k kc S _ hk hs HK1.out).mono ?_; rintro e w2 ⟨rfl, rfl⟩
    rw [hkb]
    go_wp2_with fail
    refine (impl_areTexts ht hts HT1.out).mono ?_; rintro e w2 ⟨rfl, rfl⟩
    rw [htb]
    go_wp2_with fail
    go_ret2
    exact ltAns_none rfl S1.out.below
set_option maxRecDepth 100000 in
set_option maxHeartbeats 4000000 in
theorem impl_printFalse (hv : TaV z0 g v n X) (hkb : keysB S k = true) (htb : textsB T t = true) (hn : n ≤ 1048576) (hr : IRow w A n X) (hk : k ≤ 1048576) (ht : t ≤ 1048576) (hs : ∀ i, i < k → (S i).size ≤ maxLen) (hts : ∀ i, i < t → (T i).size ≤ maxLen) (hK : GRow w KA k (strV S)) (hT : GRow w TA t (strV T)) :
    Calls Try.prog 42 #[.agg #[.int .i64 z0, .int .i64 g, .int .i64 v, .slice A n c], .slice KA k kc, .slice TA t tc] w (LtAns (flL (fun i => psB z0 g v X (T i) && !hasZ S k (T i)) t).length (lstW (flL (fun i => psB z0 g v X (T i) && !hasZ S k (T i)) t)) true w) := by
  have S0 := Lib.hid (BX1.start (cs := #[.int .i64 z0, .int .i64 g, .int .i64 v, .slice A n c]) (t := 57) hr)
  have HK := Lib.hid hK
  have HT := Lib.hid hT
  have HV := Lib.hid hv
  have HTS := Lib.hid hts
  have ht3 := textsB_size htb
  obtain ⟨D, hD⟩ : ∃ D : Nat → Bool, D = (fun i => psB z0 g v X (T i) && !hasZ S k (T i)) := ⟨_, rfl⟩
  rw [← hD]
  have HD := Lib.hid hD
  clear hr hK hT hv hD
  have x0 := S0.out.box.cell 0 _ rfl
  have x1 := S0.out.box.cell 1 _ rfl
  have x2 := S0.out.box.cell 2 _ rfl
  have x3 := S0.out.box.cell 3 _ rfl
  go_enter Try.func42, Try.ntmps42
  go_wp2_with fail
  refine (impl_isTable (b := true) (by simp [HV.out]) hn S0.out.row).mono ?_; rintro e w1 ⟨rfl, hw⟩
  have S1 := Lib.hid (S0.out.step hw)
  clear hw x0 x1 x2 x3 S0
  have x0 := S1.out.box.cell 0 _ rfl
  have x1 := S1.out.box.cell 1 _ rfl
  have x2 := S1.out.box.cell 2 _ rfl
  have x3 := S1.out.box.cell 3 _ rfl
  have HK1 := Lib.hid (HK.out.b S1.out.below)
  have HT1 := Lib.hid (HT.out.b S1.out.below)
  go_wp2_with fail
  refine (impl_areKeys KA k kc S _ hk hs HK1.out).mono ?_; rintro e w2 ⟨rfl, rfl⟩
  rw [hkb]
  go_wp2_with fail
  refine (impl_areTexts ht hts HT1.out).mono ?_; rintro e w2 ⟨rfl, rfl⟩
  rw [htb]
  go_wp2_with fail
  refine (impl_falseAnswers 80 (enters_of Try.func80 (by kernel_rfl) rfl) (an := fun i => psB z0 g v X (T i)) hk ht3 HK1.out HT1.out (fun i hi W hW => impl_answersT (HTS.out i hi) (S1.out.row.b hW) HV.out)).mono ?_; rintro e w3 ⟨LA, lc, he, ho, hb⟩
  rw [← HD.out] at he ho
  subst he
  have HO := Lib.hid ho
  have HB := Lib.hid (S1.out.below.trans (hb.mono S1.out.below.size))
  have hs1 := S1.out.below.size
  clear ho hb
  go_wp2_with fail
  go_ret2
  exact ⟨_, _, rfl, ow_valsT (owned_low HO.out hs1), HB.out⟩
set_option maxRecDepth 100000 in
set_option maxHeartbeats 4000000 in
theorem spec_printFalse (hv : TaV z0 g v n X) (hkb : keysB S k = true) (htb : textsB T t = true) (hn : n ≤ 1048576) (hr : IRow w A n X) (hk : k ≤ 1048576) (ht : t ≤ 1048576) (hs : ∀ i, i < k → (S i).size ≤ maxLen) (hts : ∀ i, i < t → (T i).size ≤ maxLen) (hK : GRow w KA k (strV S)) (hT : GRow w TA t (strV T)) :
    Calls Try.prog 41 #[.agg #[.int .i64 z0, .int .i64 g, .int .i64 v, .slice A n c], .slice KA k kc, .slice TA t tc] w (LtAns (flL (fun i => psB z0 g v X (T i) && !hasZ S k (T i)) t).length (lstW (flL (fun i => psB z0 g v X (T i) && !hasZ S k (T i)) t)) true w) := by
  have S0 := Lib.hid (BX1.start (cs := #[.int .i64 z0, .int .i64 g, .int .i64 v, .slice A n c]) (t := 57) hr)
  have HK := Lib.hid hK
  have HT := Lib.hid hT
  have HV := Lib.hid hv
  have HTS := Lib.hid hts
  have ht3 := textsB_size htb
  obtain ⟨D, hD⟩ : ∃ D : Nat → Bool, D = (fun i => psB z0 g v X (T i) && !hasZ S k (T i)) := ⟨_, rfl⟩
  rw [← hD]
  have HD := Lib.hid hD
  clear hr hK hT hv hD
  have x0 := S0.out.box.cell 0 _ rfl
  have x1 := S0.out.box.cell 1 _ rfl
  have x2 := S0.out.box.cell 2 _ rfl
  have x3 := S0.out.box.cell 3 _ rfl
  go_enter Try.func41, Try.ntmps41
  go_wp2_with fail
  refine (spec_reTable (b := true) (by simp [HV.out]) hn S0.out.row).mono ?_; rintro e w1 ⟨rfl, hw⟩
  have S1 := Lib.hid (S0.out.step hw)
  clear hw x0 x1 x2 x3 S0
  have x0 := S1.out.box.cell 0 _ rfl
  have x1 := S1.out.box.cell 1 _ rfl
  have x2 := S1.out.box.cell 2 _ rfl
  have x3 := S1.out.box.cell 3 _ rfl
  have HK1 := Lib.hid (HK.out.b S1.out.below)
  have HT1 := Lib.hid (HT.out.b S1.out.below)
  go_wp2_with fail
  refine (spec_biKeys KA k kc S _ hk hs HK1.out).mono ?_; rintro e w2 ⟨rfl, rfl⟩
  rw [hkb]
  go_wp2_with fail
  refine (spec_fiKeys ht hts HT1.out).mono ?_; rintro e w2 ⟨rfl, rfl⟩
  rw [htb]
  go_wp2_with fail
  clear x0 x1 x2 x3
  go_loopw [8, 26] (fun l i wr => ∃ (q : Nat) (A1 : Option Addr) (c1 : Nat), q ≤ t ∧ i = .int .i64 q ∧ l = .slice A1 (flL D q).length c1 ∧ Hid (wr.ownsRow w1.heap.size 3 1 (.slice A1 (flL D q).length c1) (flL D q).length (vals (intV (lstW (flL D q))) (flL D q).length)) ∧ Hid (Below w1.heap.size w1 wr)) (fun _ i _ => t - (intOf i).toNat)
  case atStart => exact ⟨0, none, 0, Nat.zero_le _, rfl, rfl, Lib.hid (World.ownsRow_nil _ _ _ _), Lib.hid (Below.refl _ _)⟩
  case round =>
    obtain ⟨q, A1, c1, hq, rfl, rfl, HO4, HL4⟩ := hrel
    have hal := flL_len D q
    have hLs := HL4.out.size
    have S2 := Lib.hid (S1.out.step HL4.out)
    by_cases hlt : q < t
    · obtain ⟨b, off, hTA, _, hcc⟩ := HT.out.b S2.out.below (by omega)
      have hx := hcc q hlt
      unfold strV at hx
      have HKr := Lib.hid (HK.out.b S2.out.below)
      have x0 := S2.out.box.cell 0 _ rfl
      have x1 := S2.out.box.cell 1 _ rfl
      have x2 := S2.out.box.cell 2 _ rfl
      have x3 := S2.out.box.cell 3 _ rfl
      clear hcc
      subst hTA
      go_wp2_with fail
      refine (spec_l1HasS hasZ_iff hk HKr.out).mono ?_; rintro e w5 ⟨rfl, rfl⟩
      cases hh : hasZ S k (T q) with
      | true =>
        have HA := Lib.hid (flL_no (T := D) (k := q) (by rw [HD.out]; simp [hh]))
        clear hh
        go_wp2_with fail
        go_roundw
        case rel => exact ⟨q + 1, A1, c1, by omega, by go_num, by rw [HA.out], by rw [HA.out]; exact HO4, HL4⟩
        case measure => simp [intOf]; omega
      | false =>
        go_wp2_with fail
        refine (spec_fiPrints (HTS.out q hlt) S2.out.row HV.out).mono ?_; rintro e w5 ⟨rfl, hb5⟩
        replace HO4 := Lib.hid (owned_b HO4.out hb5)
        replace HL4 := Lib.hid (HL4.out.trans (hb5.mono HL4.out.size))
        clear hb5 x0 x1 x2 x3
        cases han : psB z0 g v X (T q) with
        | false =>
          have HA := Lib.hid (flL_no (T := D) (k := q) (by rw [HD.out]; simp [han]))
          clear han hh
          go_wp2_with fail
          go_roundw
          case rel => exact ⟨q + 1, A1, c1, by omega, by go_num, by rw [HA.out], by rw [HA.out]; exact HO4, HL4⟩
          case measure => simp [intOf]; omega
        | true =>
          have HA := Lib.hid (flL_yes (T := D) (k := q) (by rw [HD.out]; simp [han, hh]))
          clear han hh
          have HP := Lib.hid (push_lsw (x := q) HO4.out)
          have HW := Lib.hid (show intV (lstW (flL D q ++ [q])) (flL D q).length = .int .i64 (q : Int) by unfold intV; rw [lstW_new])
          have hLs4 := HL4.out.size
          go_wp2_with (at_builtin; refine wpList_push rfl _ _ 22 rfl w1.heap.size 3 (.int .i64 0) 8 Try.underlying22 infoI rfl A1 (flL D q).length c1 (intV (lstW (flL D q ++ [q]))) (.int .i64 (q : Int)) w5 rfl HP.out rfl HW.out rfl (by omega) (by omega) hLs4 ?_)
          intro A' c' w6 hown' hb6
          have hlen1 : (flL D q).length + 1 = (flL D (q + 1)).length := by rw [HA.out]; simp
          rw [← HA.out] at hown'
          have HO6 := Lib.hid hown'
          have HL6 := Lib.hid (HL4.out.trans (hb6.mono (Nat.le_refl _)))
          clear hown' hb6 HP HW HO4 HL4
          go_wp2_with fail
          go_roundw
          case rel => exact ⟨q + 1, A', c', by omega, by go_num, by rw [← hlen1], by rw [← hlen1]; exact HO6, HL6⟩
          case measure => simp [intOf]; omega
    · obtain rfl : t = q := by omega
      go_wp2_with fail
      go_ret2
      exact ⟨_, _, rfl, ow_valsT (owned_low HO4.out S1.out.below.size), S2.out.below⟩
end
end Go.Proofs.Ytpajbcgdoedleab
