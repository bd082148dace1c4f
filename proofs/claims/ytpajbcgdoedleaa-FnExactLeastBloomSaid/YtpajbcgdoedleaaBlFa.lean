/- FalseAnswers: both sides. -/
import Derived.Test.YtpajbcgdoedleaaBlF
import Derived.Test.YtpajbcgdoedleaaBlB
namespace Go.Proofs.Ytpajbcgdoedleaa
open Go.RowKit

section
variable {z0 z1 z2 : Int} {p z : Nat} {A : Option Addr} {n c : Nat} {X : Nat → Int} {w : World} {KA : Option Addr} {k kc : Nat} {S : Nat → ByteArray} {TA : Option Addr} {t tc : Nat} {T : Nat → ByteArray}
set_option maxRecDepth 100000 in
set_option maxHeartbeats 2000000 in
theorem spec_false_no (h : ¬ (BlV z0 z1 z2 n X ∧ keysB S k = true ∧ textsB T t = true)) (hn : n ≤ 1048576) (hr : IRow w A n X) (hk : k ≤ 1048576) (ht : t ≤ 1048576) (hs : ∀ i, i < k → (S i).size ≤ maxLen) (hts : ∀ i, i < t → (T i).size ≤ maxLen) (hK : GRow w KA k (strV S)) (hT : GRow w TA t (strV T)) :
    Calls Try.prog 44 #[.agg #[.int .i64 z0, .int .i64 z1, .int .i64 z2, .slice A n c], .slice KA k kc, .slice TA t tc] w (LsAns 0 (fun _ => 0) false w) := by
  have S0 := Lib.hid (BlC.start (z0 := z0) (z1 := z1) (z2 := z2) (c := c) hr)
  have HK := Lib.hid hK
  have HT := Lib.hid hT
  clear hr hK hT
  have x0 := S0.out.box.cell 0 _ rfl
  have x1 := S0.out.box.cell 1 _ rfl
  have x2 := S0.out.box.cell 2 _ rfl
  have x3 := S0.out.box.cell 3 _ rfl
  by_cases hv : BlV z0 z1 z2 n X
  rotate_left
  · go_enter Try.func44, Try.ntmps44
    go_wp2_with fail
    refine (spec_fiGood (b := false) (by simp [hv]) hn S0.out.row).mono ?_; rintro e w1 ⟨rfl, hw⟩
    have S1 := Lib.hid (S0.out.step hw)
    clear hw x0 x1 x2 x3 S0
    go_wp2_with fail
    go_ret2
    exact lsAns_none rfl S1.out.below

  cases hkb : keysB S k with
  | false =>
    clear h
    go_enter Try.func44, Try.ntmps44
    go_wp2_with fail
    refine (spec_fiGood (b := true) (by simp [hv]) hn S0.out.row).mono ?_; rintro e w1 ⟨rfl, hw⟩
    have S1 := Lib.hid (S0.out.step hw)
    clear hw x0 x1 x2 x3 S0
    have HK1 := Lib.hid (HK.out.b S1.out.below)
    have HT1 := Lib.hid (HT.out.b S1.out.below)
    go_wp2_with fail
    refine (spec_biKeys KA k kc S _ hk hs HK1.out).mono ?_; rintro e w2 ⟨rfl, rfl⟩
    rw [hkb]
    go_wp2_with fail
    go_ret2
    exact lsAns_none rfl S1.out.below
  | true =>
    have htb : textsB T t = false := by
      cases e : textsB T t
      · rfl
      · exact absurd ⟨hv, hkb, e⟩ h
    clear h
    go_enter Try.func44, Try.ntmps44
    go_wp2_with fail
    refine (spec_fiGood (b := true) (by simp [hv]) hn S0.out.row).mono ?_; rintro e w1 ⟨rfl, hw⟩
    have S1 := Lib.hid (S0.out.step hw)
    clear hw x0 x1 x2 x3 S0
    have HK1 := Lib.hid (HK.out.b S1.out.below)
    have HT1 := Lib.hid (HT.out.b S1.out.below)
    go_wp2_with fail
    refine (spec_biKeys KA k kc S _ hk hs HK1.out).mono ?_; rintro e w2 ⟨rfl, rfl⟩
    rw [hkb]
    go_wp2_with fail
    refine (spec_fiKeys ht hts HT1.out).mono ?_; rintro e w2 ⟨rfl, rfl⟩
    rw [htb]
    go_wp2_with fail
    go_ret2
    exact lsAns_none rfl S1.out.below
set_option maxRecDepth 100000 in
set_option maxHeartbeats 2000000 in
theorem impl_false_no (h : ¬ (BlV z0 z1 z2 n X ∧ keysB S k = true ∧ textsB T t = true)) (hn : n ≤ 1048576) (hr : IRow w A n X) (hk : k ≤ 1048576) (ht : t ≤ 1048576) (hs : ∀ i, i < k → (S i).size ≤ maxLen) (hts : ∀ i, i < t → (T i).size ≤ maxLen) (hK : GRow w KA k (strV S)) (hT : GRow w TA t (strV T)) :
    Calls Try.prog 45 #[.agg #[.int .i64 z0, .int .i64 z1, .int .i64 z2, .slice A n c], .slice KA k kc, .slice TA t tc] w (LsAns 0 (fun _ => 0) false w) := by
  have S0 := Lib.hid (BlC.start (z0 := z0) (z1 := z1) (z2 := z2) (c := c) hr)
  have HK := Lib.hid hK
  have HT := Lib.hid hT
  clear hr hK hT
  have x0 := S0.out.box.cell 0 _ rfl
  have x1 := S0.out.box.cell 1 _ rfl
  have x2 := S0.out.box.cell 2 _ rfl
  have x3 := S0.out.box.cell 3 _ rfl
  by_cases hv : BlV z0 z1 z2 n X
  rotate_left
  · go_enter Try.func45, Try.ntmps45
    go_wp2_with fail
    refine (impl_isBloom (b := false) (by simp [hv]) hn S0.out.row).mono ?_; rintro e w1 ⟨rfl, hw⟩
    have S1 := Lib.hid (S0.out.step hw)
    clear hw x0 x1 x2 x3 S0
    go_wp2_with fail
    go_ret2
    exact lsAns_none rfl S1.out.below

  cases hkb : keysB S k with
  | false =>
    clear h
    go_enter Try.func45, Try.ntmps45
    go_wp2_with fail
    refine (impl_isBloom (b := true) (by simp [hv]) hn S0.out.row).mono ?_; rintro e w1 ⟨rfl, hw⟩
    have S1 := Lib.hid (S0.out.step hw)
    clear hw x0 x1 x2 x3 S0
    have HK1 := Lib.hid (HK.out.b S1.out.below)
    have HT1 := Lib.hid (HT.out.b S1.out.below)
    go_wp2_with fail
    refine (impl_areKeys KA k kc S _ hk hs HK1.out).mono ?_; rintro e w2 ⟨rfl, rfl⟩
    rw [hkb]
    go_wp2_with fail
    go_ret2
    exact lsAns_none rfl S1.out.below
  | true =>
    have htb : textsB T t = false := by
      cases e : textsB T t
      · rfl
      · exact absurd ⟨hv, hkb, e⟩ h
    clear h
    go_enter Try.func45, Try.ntmps45
    go_wp2_with fail
    refine (impl_isBloom (b := true) (by simp [hv]) hn S0.out.row).mono ?_; rintro e w1 ⟨rfl, hw⟩
    have S1 := Lib.hid (S0.out.step hw)
    clear hw x0 x1 x2 x3 S0
    have HK1 := Lib.hid (HK.out.b S1.out.below)
    have HT1 := Lib.hid (HT.out.b S1.out.below)
    go_wp2_with fail
    refine (impl_areKeys KA k kc S _ hk hs HK1.out).mono ?_; rintro e w2 ⟨rfl, rfl⟩
    rw [hkb]
    go_wp2_with fail
    refine (impl_areTexts ht hts HT1.out).mono ?_; rintro e w2 ⟨rfl, rfl⟩
    rw [htb]
    go_wp2_with fail
    go_ret2
    exact lsAns_none rfl S1.out.below
set_option maxRecDepth 100000 in
set_option maxHeartbeats 2000000 in
theorem spec_false (h : fiB z0 p z = true) (hg : Good z n X) (hkb : keysB S k = true) (htb : textsB T t = true) (hn : n ≤ 1048576) (hr : IRow w A n X) (hk : k ≤ 1048576) (ht : t ≤ 1048576) (hs : ∀ i, i < k → (S i).size ≤ maxLen) (hts : ∀ i, i < t → (T i).size ≤ maxLen) (hK : GRow w KA k (strV S)) (hT : GRow w TA t (strV T)) :
    Calls Try.prog 44 #[.agg #[.int .i64 z0, .int .i64 p, .int .i64 z, .slice A n c], .slice KA k kc, .slice TA t tc] w (LsAns (flL (fun i => anB z0 p z X T i && !hasZ S k (T i)) t).length (lstW (flL (fun i => anB z0 p z X T i && !hasZ S k (T i)) t)) true w) := by
  have S0 := Lib.hid (BlC.start (z0 := z0) (z1 := p) (z2 := z) (c := c) hr)
  have HK := Lib.hid hK
  have HT := Lib.hid hT
  have HG := Lib.hid hg
  have HV := Lib.hid (show BlV z0 p z n X from ⟨h, hg⟩)
  clear hr hK hT hg
  have x0 := S0.out.box.cell 0 _ rfl
  have x1 := S0.out.box.cell 1 _ rfl
  have x2 := S0.out.box.cell 2 _ rfl
  have x3 := S0.out.box.cell 3 _ rfl
  go_enter Try.func44, Try.ntmps44
  go_wp2_with fail
  refine (spec_fiGood (b := true) (by simp [HV.out]) hn S0.out.row).mono ?_; rintro e w1 ⟨rfl, hw⟩
  have S1 := Lib.hid (S0.out.step hw)
  clear hw x0 x1 x2 x3 S0
  have x0 := S1.out.box.cell 0 _ rfl
  have x1 := S1.out.box.cell 1 _ rfl
  have x2 := S1.out.box.cell 2 _ rfl
  have x3 := S1.out.box.cell 3 _ rfl
  have HK1 := Lib.hid (HK.out.b S1.out.below)
  have HT1 := Lib.hid (HT.out.b S1.out.below)
  go_wp2_with fail
  refine (spec_biKeys KA k kc S _ hk hs HK1.out).mono ?_; rintro e w2 ⟨rfl, rfl⟩
  rw [hkb]
  go_wp2_with fail
  refine (spec_fiKeys ht hts HT1.out).mono ?_; rintro e w2 ⟨rfl, rfl⟩
  rw [htb]
  go_wp2_with fail
  refine (spec_fiFalse h hn HG.out S1.out.row hk (textsB_size htb) hts HK1.out HT1.out).mono ?_; rintro e w3 ⟨LA, lc, rfl, ho, hb⟩
  have HO := Lib.hid ho
  have HB := Lib.hid (S1.out.below.trans (hb.mono S1.out.below.size))
  have hs1 := S1.out.below.size
  clear ho hb
  go_wp2_with fail
  go_ret2
  exact ⟨_, _, rfl, ow_vals (owned_low HO.out hs1), HB.out⟩
set_option maxRecDepth 100000 in
set_option maxHeartbeats 2000000 in
theorem impl_false (h : fiB z0 p z = true) (hg : Good z n X) (hkb : keysB S k = true) (htb : textsB T t = true) (hn : n ≤ 1048576) (hr : IRow w A n X) (hk : k ≤ 1048576) (ht : t ≤ 1048576) (hs : ∀ i, i < k → (S i).size ≤ maxLen) (hts : ∀ i, i < t → (T i).size ≤ maxLen) (hK : GRow w KA k (strV S)) (hT : GRow w TA t (strV T)) :
    Calls Try.prog 45 #[.agg #[.int .i64 z0, .int .i64 p, .int .i64 z, .slice A n c], .slice KA k kc, .slice TA t tc] w (LsAns (flL (fun i => anB z0 p z X T i && !hasZ S k (T i)) t).length (lstW (flL (fun i => anB z0 p z X T i && !hasZ S k (T i)) t)) true w) := by
  have S0 := Lib.hid (BlC.start (z0 := z0) (z1 := p) (z2 := z) (c := c) hr)
  have HK := Lib.hid hK
  have HT := Lib.hid hT
  have HG := Lib.hid hg
  have HV := Lib.hid (show BlV z0 p z n X from ⟨h, hg⟩)
  clear hr hK hT hg
  have x0 := S0.out.box.cell 0 _ rfl
  have x1 := S0.out.box.cell 1 _ rfl
  have x2 := S0.out.box.cell 2 _ rfl
  have x3 := S0.out.box.cell 3 _ rfl
  go_enter Try.func45, Try.ntmps45
  go_wp2_with fail
  refine (impl_isBloom (b := true) (by simp [HV.out]) hn S0.out.row).mono ?_; rintro e w1 ⟨rfl, hw⟩
  have S1 := Lib.hid (S0.out.step hw)
  clear hw x0 x1 x2 x3 S0
  have x0 := S1.out.box.cell 0 _ rfl
  have x1 := S1.out.box.cell 1 _ rfl
  have x2 := S1.out.box.cell 2 _ rfl
  have x3 := S1.out.box.cell 3 _ rfl
  have HK1 := Lib.hid (HK.out.b S1.out.below)
  have HT1 := Lib.hid (HT.out.b S1.out.below)
  go_wp2_with fail
  refine (impl_areKeys KA k kc S _ hk hs HK1.out).mono ?_; rintro e w2 ⟨rfl, rfl⟩
  rw [hkb]
  go_wp2_with fail
  refine (impl_areTexts ht hts HT1.out).mono ?_; rintro e w2 ⟨rfl, rfl⟩
  rw [htb]
  go_wp2_with fail
  refine (impl_falseAnswers 67 (enters_of Try.func67 (by kernel_rfl) rfl) (an := anB z0 p z X T) hk (textsB_size htb) HK1.out HT1.out (fun i hi W hW => impl_answersYes h hn HG.out (hts i hi) (S1.out.row.b hW))).mono ?_; rintro e w3 ⟨LA, lc, rfl, ho, hb⟩
  have HO := Lib.hid ho
  have HB := Lib.hid (S1.out.below.trans (hb.mono S1.out.below.size))
  have hs1 := S1.out.below.size
  clear ho hb
  go_wp2_with fail
  go_ret2
  exact ⟨_, _, rfl, ow_vals (owned_low HO.out hs1), HB.out⟩
end
end Go.Proofs.Ytpajbcgdoedleaa
