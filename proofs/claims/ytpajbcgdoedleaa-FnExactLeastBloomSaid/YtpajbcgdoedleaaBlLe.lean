/- LeastBloom: both sides. -/
import Derived.Test.YtpajbcgdoedleaaBlFa
import Derived.Test.YtpajbcgdoedleaaBlO
import Derived.Test.YtpajbcgdoedleaaFstI
namespace Go.Proofs.Ytpajbcgdoedleaa
open Go.RowKit

/-- The words of a filter that is built of keys. -/
def xuF (z0 : Int) (p z : Nat) (S : Nat → ByteArray) (k : Nat) (i : Nat) : Int := (wordsOf (onK (fun _ => false) z0 p z S k) i : Int)
theorem onP_high {F : Nat → Bool} {P : Nat → Nat} {q : Nat} : ∀ m, (∀ j, j < m → P j < q) → F q = false → onP F P m q = false
  | 0, _, h => h
  | m + 1, hP, h => by
    show (onP F P m q || decide (q = P m)) = false
    rw [onP_high m (fun j hj => hP j (by omega)) h]
    have := hP m (by omega)
    simp; omega
theorem onK_high {z0 : Int} {p z : Nat} {S : Nat → ByteArray} {q : Nat} (hz : 1 ≤ z) (hq : z ≤ q) : ∀ k, onK (fun _ => false) z0 p z S k q = false
  | 0 => rfl
  | k + 1 => by
    rw [onK]
    exact onP_high p (fun j _ => by have := (prI_nat z0 (S k) (z := z) hz j).2; omega) (onK_high hz hq k)
theorem bl_of_words {z n : Nat} {f : Nat → Bool} (hz : z ≤ 4096) (hn : n = (z + 15) / 16) (hf : ∀ i, z ≤ i → f i = false) : Good z n (fun k => (wordsOf f k : Int)) := by
  refine ⟨by omega, by omega, by omega, fun i hi => ⟨Int.natCast_nonneg _, ?_⟩⟩
  have h : wordsOf f i < 2 ^ (min 16 (z - 16 * i)) := by
    apply Nat.lt_pow_two_of_testBit
    intro j hj
    rw [wordsOf, ofB_bit]
    by_cases c : j < 16
    · rw [hf (16 * i + j) (by omega)]; simp
    · simp [c]
  unfold cap
  rw [show (z : Int).toNat = z from rfl]
  have e : ((2 ^ (min 16 (z - 16 * i)) : Nat) : Int) = (2 : Int) ^ (min 16 (z - 16 * i)) := by push_cast; rfl
  rw [← e]
  show ((wordsOf f i : Nat) : Int) < _
  omega
theorem xu_good {z0 : Int} {p z : Nat} {S : Nat → ByteArray} {k : Nat} (hz : 1 ≤ z) (h : z ≤ 512) : Good z ((z + 15) / 16) (xuF z0 p z S k) := bl_of_words (by omega) rfl (fun i hi => onK_high hz hi k)
/-- No text is answered falsely by the filter of a size. -/
def LbP (z0 : Int) (p : Nat) (S : Nat → ByteArray) (k : Nat) (T : Nat → ByteArray) (t : Nat) (u : Int) : Prop := (flL (fun i => anB z0 p u.toNat (xuF z0 p u.toNat S k) T i && !hasZ S k (T i)) t).length = 0
/-- The boxes of the four variables that LeastBloom's closure has. -/
structure Cap4 (w : World) (v0 v1 : Value) (KA : Option Addr) (k kc : Nat) (S : Nat → ByteArray) (TA : Option Addr) (t tc : Nat) (T : Nat → ByteArray) (W : World) : Prop where
  below : Below w.heap.size w W
  c0 : W.cell? ⟨w.heap.size, 0, none⟩ = some v0
  c1 : W.cell? ⟨w.heap.size + 1, 0, none⟩ = some v1
  c2 : W.cell? ⟨w.heap.size + 2, 0, none⟩ = some (.slice KA k kc)
  c3 : W.cell? ⟨w.heap.size + 3, 0, none⟩ = some (.slice TA t tc)
  big : w.heap.size + 4 ≤ W.heap.size
  k : GRow W KA k (strV S)
  t : GRow W TA t (strV T)
theorem Cap4.b {w W W2 : World} {v0 v1 : Value} {KA : Option Addr} {k kc : Nat} {S : Nat → ByteArray} {TA : Option Addr} {t tc : Nat} {T : Nat → ByteArray} (h : Cap4 w v0 v1 KA k kc S TA t tc T W) (hb : Below W.heap.size W W2) : Cap4 w v0 v1 KA k kc S TA t tc T W2 := by
  have hs := h.big
  exact ⟨h.below.trans (hb.mono (by omega)), (hb.cell (p := ⟨w.heap.size, 0, none⟩) (show w.heap.size < _ by omega)).trans h.c0, (hb.cell (p := ⟨w.heap.size + 1, 0, none⟩) (show w.heap.size + 1 < _ by omega)).trans h.c1, (hb.cell (p := ⟨w.heap.size + 2, 0, none⟩) (show w.heap.size + 2 < _ by omega)).trans h.c2, (hb.cell (p := ⟨w.heap.size + 3, 0, none⟩) (show w.heap.size + 3 < _ by omega)).trans h.c3, Nat.le_trans hs hb.size, h.k.b hb, h.t.b hb⟩
theorem Cap4.start {w : World} {KA : Option Addr} {k kc : Nat} {S : Nat → ByteArray} {TA : Option Addr} {t tc : Nat} {T : Nat → ByteArray} (hK : GRow w KA k (strV S)) (hT : GRow w TA t (strV T)) (v0 v1 : Value) :
    Cap4 w v0 v1 KA k kc S TA t tc T ((((w.alloc (.cells #[v0] 3)).alloc (.cells #[v1] 3)).alloc (.cells #[.slice KA k kc] 48)).alloc (.cells #[.slice TA t tc] 48)) := by
  have b1 := (Below.refl (w.alloc (.cells #[v0] 3)).heap.size _).alloc (Nat.le_refl _) (.cells #[v1] 3)
  have b2 := (Below.refl ((w.alloc (.cells #[v0] 3)).alloc (.cells #[v1] 3)).heap.size _).alloc (Nat.le_refl _) (.cells #[.slice KA k kc] 48)
  have b3 := (Below.refl (((w.alloc (.cells #[v0] 3)).alloc (.cells #[v1] 3)).alloc (.cells #[.slice KA k kc] 48)).heap.size _).alloc (Nat.le_refl _) (.cells #[.slice TA t tc] 48)
  have b0 := (Below.refl w.heap.size w).alloc (Nat.le_refl _) (.cells #[v0] 3)
  have n0 := (((nbx0 w #[v0] 3).b b1).b b2).b b3
  have n1 := ((nbx0 (w.alloc (.cells #[v0] 3)) #[v1] 3).b b2).b b3
  have n2 := (nbx0 ((w.alloc (.cells #[v0] 3)).alloc (.cells #[v1] 3)) #[.slice KA k kc] 48).b b3
  have n3 := nbx0 (((w.alloc (.cells #[v0] 3)).alloc (.cells #[v1] 3)).alloc (.cells #[.slice KA k kc] 48)) #[.slice TA t tc] 48
  simp only [World.size_alloc] at n1 n2 n3
  exact ⟨((b0.trans (b1.mono (by simp))).trans (b2.mono (by simp; omega))).trans (b3.mono (by simp; omega)), n0.cell 0 _ rfl, n1.cell 0 _ rfl, n2.cell 0 _ rfl, n3.cell 0 _ rfl, by simp, (((hK.al _).al _).al _).al _, (((hT.al _).al _).al _).al _⟩
section
variable {z0 z1 z2 : Int} {p z : Nat} {w : World} {KA : Option Addr} {k kc : Nat} {S : Nat → ByteArray} {TA : Option Addr} {t tc : Nat} {T : Nat → ByteArray}
theorem fiB_size {u : Nat} (h : fiB z0 p z = true) (h1 : 1 ≤ u) (h2 : u ≤ z) : fiB z0 p u = true := by
  have h := fiB_out h
  unfold fiB
  rw [decide_eq_true h.1, decide_eq_true h.2.1, decide_eq_true (show 1 ≤ (u : Int) ∧ (u : Int) ≤ 512 by omega)]; rfl
set_option maxRecDepth 100000 in
set_option maxHeartbeats 4000000 in
theorem spec_least_no (h : ¬ (fiB z0 z1 z2 = true ∧ keysB S k = true ∧ textsB T t = true)) (hk : k ≤ 1048576) (ht : t ≤ 1048576) (hs : ∀ i, i < k → (S i).size ≤ maxLen) (hts : ∀ i, i < t → (T i).size ≤ maxLen) (hK : GRow w KA k (strV S)) (hT : GRow w TA t (strV T)) :
    Calls Try.prog 46 #[.int .i64 z0, .int .i64 z1, .slice KA k kc, .slice TA t tc, .int .i64 z2] w fun e w' => e = .returned (.tuple #[.int .i64 0, .bool false]) ∧ Below w.heap.size w w' := by
  have HK := Lib.hid hK
  have HT := Lib.hid hT
  have HB := Lib.hid (Below.refl w.heap.size w)
  clear hK hT
  cases hf : fiB z0 z1 z2 with
  | false =>
    clear h
    go_enter Try.func46, Try.ntmps46
    go_wp2_with fail
    refine (spec_fiSize z0 z1 z2 _).mono ?_; rintro e w1 ⟨rfl, rfl⟩
    rw [hf]
    go_wp2_with fail
    go_ret2
    exact ⟨rfl, HB.out⟩
  | true =>
    cases hkb : keysB S k with
    | false =>
      clear h
      go_enter Try.func46, Try.ntmps46
      go_wp2_with fail
      refine (spec_fiSize z0 z1 z2 _).mono ?_; rintro e w1 ⟨rfl, rfl⟩
      rw [hf]
      go_wp2_with fail
      refine (spec_biKeys KA k kc S _ hk hs HK.out).mono ?_; rintro e w2 ⟨rfl, rfl⟩
      rw [hkb]
      go_wp2_with fail
      go_ret2
      exact ⟨rfl, HB.out⟩
    | true =>
      have htb : textsB T t = false := by
        cases e : textsB T t
        · rfl
        · exact absurd ⟨hf, hkb, e⟩ h
      clear h
      go_enter Try.func46, Try.ntmps46
      go_wp2_with fail
      refine (spec_fiSize z0 z1 z2 _).mono ?_; rintro e w1 ⟨rfl, rfl⟩
      rw [hf]
      go_wp2_with fail
      refine (spec_biKeys KA k kc S _ hk hs HK.out).mono ?_; rintro e w2 ⟨rfl, rfl⟩
      rw [hkb]
      go_wp2_with fail
      refine (spec_fiKeys ht hts HT.out).mono ?_; rintro e w2 ⟨rfl, rfl⟩
      rw [htb]
      go_wp2_with fail
      go_ret2
      exact ⟨rfl, HB.out⟩
set_option maxRecDepth 100000 in
set_option maxHeartbeats 4000000 in
theorem impl_least_no (h : ¬ (fiB z0 z1 z2 = true ∧ keysB S k = true ∧ textsB T t = true)) (hk : k ≤ 1048576) (ht : t ≤ 1048576) (hs : ∀ i, i < k → (S i).size ≤ maxLen) (hts : ∀ i, i < t → (T i).size ≤ maxLen) (hK : GRow w KA k (strV S)) (hT : GRow w TA t (strV T)) :
    Calls Try.prog 47 #[.int .i64 z0, .int .i64 z1, .slice KA k kc, .slice TA t tc, .int .i64 z2] w fun e w' => e = .returned (.tuple #[.int .i64 0, .bool false]) ∧ Below w.heap.size w w' := by
  have C0 := Lib.hid (Cap4.start (kc := kc) (tc := tc) hK hT (.int .i64 z0) (.int .i64 z1))
  have HK := Lib.hid C0.out.k
  have HT := Lib.hid C0.out.t
  have HB := Lib.hid C0.out.below
  have c0 := C0.out.c0
  have c1 := C0.out.c1
  have c2 := C0.out.c2
  have c3 := C0.out.c3
  clear hK hT
  cases hf : fiB z0 z1 z2 with
  | false =>
    clear h
    go_enter Try.func47, Try.ntmps47
    go_wp2_with fail
    refine (impl_hasProbes z0 z1 z2 _).mono ?_; rintro e w1 ⟨rfl, rfl⟩
    rw [hf]
    go_wp2_with fail
    go_ret2
    exact ⟨rfl, HB.out⟩
  | true =>
    cases hkb : keysB S k with
    | false =>
      clear h
      go_enter Try.func47, Try.ntmps47
      go_wp2_with fail
      refine (impl_hasProbes z0 z1 z2 _).mono ?_; rintro e w1 ⟨rfl, rfl⟩
      rw [hf]
      go_wp2_with fail
      refine (impl_areKeys KA k kc S _ hk hs HK.out).mono ?_; rintro e w2 ⟨rfl, rfl⟩
      rw [hkb]
      go_wp2_with fail
      go_ret2
      exact ⟨rfl, HB.out⟩
    | true =>
      have htb : textsB T t = false := by
        cases e : textsB T t
        · rfl
        · exact absurd ⟨hf, hkb, e⟩ h
      clear h
      go_enter Try.func47, Try.ntmps47
      go_wp2_with fail
      refine (impl_hasProbes z0 z1 z2 _).mono ?_; rintro e w1 ⟨rfl, rfl⟩
      rw [hf]
      go_wp2_with fail
      refine (impl_areKeys KA k kc S _ hk hs HK.out).mono ?_; rintro e w2 ⟨rfl, rfl⟩
      rw [hkb]
      go_wp2_with fail
      refine (impl_areTexts ht hts HT.out).mono ?_; rintro e w2 ⟨rfl, rfl⟩
      rw [htb]
      go_wp2_with fail
      go_ret2
      exact ⟨rfl, HB.out⟩
set_option maxRecDepth 100000 in
set_option maxHeartbeats 4000000 in
theorem spec_least (h : fiB z0 p z = true) (hkb : keysB S k = true) (htb : textsB T t = true) (hk : k ≤ 1048576) (ht : t ≤ 1048576) (hs : ∀ i, i < k → (S i).size ≤ maxLen) (hts : ∀ i, i < t → (T i).size ≤ maxLen) (hK : GRow w KA k (strV S)) (hT : GRow w TA t (strV T)) :
    Calls Try.prog 46 #[.int .i64 z0, .int .i64 p, .slice KA k kc, .slice TA t tc, .int .i64 z] w (FindI (LbP z0 p S k T t) 1 (z + 1) w) := by
  obtain ⟨h0, h1, h2⟩ := fiB_out h
  have HK := Lib.hid hK
  have HT := Lib.hid hT
  clear hK hT
  go_enter Try.func46, Try.ntmps46
  go_wp2_with fail
  refine (spec_fiSize z0 p z _).mono ?_; rintro e w1 ⟨rfl, rfl⟩
  rw [h]
  go_wp2_with fail
  refine (spec_biKeys KA k kc S _ hk hs HK.out).mono ?_; rintro e w2 ⟨rfl, rfl⟩
  rw [hkb]
  go_wp2_with fail
  refine (spec_fiKeys ht hts HT.out).mono ?_; rintro e w2 ⟨rfl, rfl⟩
  rw [htb]
  go_wp2_with fail
  go_loopw [12] (fun i wr => ∃ u : Nat, 1 ≤ u ∧ u ≤ z + 1 ∧ i = .int .i64 u ∧ Hid (NoneP (LbP z0 p S k T t) 1 u) ∧ Hid (Below w.heap.size w wr)) (fun i _ => z + 1 - (intOf i).toNat)
  case atStart => exact ⟨1, by omega, by omega, rfl, Lib.hid (fun u g1 g2 => by omega), Lib.hid (Below.refl _ _)⟩
  case round =>
    obtain ⟨u, hu1, hu2, rfl, HN, HL⟩ := hrel
    by_cases hlt : u ≤ z
    · have hfu := fiB_size h hu1 hlt
      have hLs := HL.out.size
      go_wp2_with fail
      refine (spec_fiNew (z0 := z0) (p := p) (z := u) (by omega)).mono ?_; rintro e w3 ⟨g, he, hgg, ho, hb⟩
      have R3 := Lib.hid ho.row
      have HL3 := Lib.hid (HL.out.trans (hb.mono hLs))
      have HG := Lib.hid (good_zero (z := u) (by omega))
      obtain ⟨m, hm⟩ : ∃ m, m = (u + 15) / 16 := ⟨_, rfl⟩
      rw [← hm] at he HG R3
      have HM := Lib.hid hm
      clear hm hb ho hgg
      subst he
      go_wp2_with fail
      refine (spec_fiAdd hfu HG.out R3.out hk hs (HK.out.b HL3.out)).mono ?_; rintro e w4 ⟨g4, cc, rfl, hgg, ho, hb⟩
      have HL4 := Lib.hid (HL3.out.trans (hb.mono HL3.out.size))
      have R4 := Lib.hid (show IRow w4 (some ⟨g4, 0, none⟩) m (xuF z0 p u S k) by have h := ho.own.row; rw [bitX_zero] at h; exact h)
      have HX := Lib.hid (show Good u m (xuF z0 p u S k) by rw [HM.out]; exact xu_good hu1 (by omega))
      have hm1 : m ≤ 1048576 := by have := HM.out; omega
      clear hb ho hgg R3 HG
      go_wp2_with fail
      refine (spec_fiFalse hfu hm1 HX.out R4.out hk (textsB_size htb) hts (HK.out.b HL4.out) (HT.out.b HL4.out)).mono ?_; rintro e w5 ⟨LA, lc, rfl, ho, hb⟩
      have HL5 := Lib.hid (HL4.out.trans (hb.mono HL4.out.size))
      clear hb ho
      obtain ⟨N, hN⟩ : ∃ N, N = (flL (fun i => anB z0 p u (xuF z0 p u S k) T i && !hasZ S k (T i)) t).length := ⟨_, rfl⟩
      rw [← hN]
      have HP := Lib.hid (show LbP z0 p S k T t u ↔ N = 0 by unfold LbP; rw [Int.toNat_natCast, ← hN])
      clear hN
      by_cases hz : N = 0
      · have d : ((N : Int) == 0) = true := by simp [hz]
        have HQ := Lib.hid (HP.out.2 hz)
        clear hz
        go_wp2_with fail
        go_ret2
        exact ⟨HL5.out, .inl ⟨u, rfl, by omega, by omega, HQ.out, HN.out⟩⟩
      · have d : ((N : Int) == 0) = false := by simpa using hz
        have HN2 := Lib.hid (show NoneP (LbP z0 p S k T t) 1 ((u + 1 : Nat) : Int) from fun v g1 g2 => by
          by_cases e : v = u
          · subst e; exact fun hh => hz (HP.out.1 hh)
          · exact HN.out v g1 (by omega))
        clear hz
        go_wp2_with fail
        go_roundw
        case rel => exact ⟨u + 1, by omega, by omega, by go_num, HN2, HL5⟩
        case measure => simp [intOf]; omega
    · have HN3 := Lib.hid (show NoneP (LbP z0 p S k T t) 1 (z + 1) from fun v g1 g2 => HN.out v g1 (by omega))
      go_wp2_with fail
      go_ret2
      exact ⟨HL.out, .inr ⟨rfl, HN3.out⟩⟩
set_option maxRecDepth 100000 in
set_option maxHeartbeats 4000000 in
theorem impl_leastFn (h : fiB z0 p z = true) (hkb : keysB S k = true) (htb : textsB T t = true) (hk : k ≤ 1048576) (hs : ∀ i, i < k → (S i).size ≤ maxLen) (hts : ∀ i, i < t → (T i).size ≤ maxLen) (u : Nat) (hu1 : 1 ≤ u) (hlt : u ≤ z) (W : World) (hC : Cap4 w (.int .i64 z0) (.int .i64 p) KA k kc S TA t tc T W) :
    Calls Try.prog 82 #[.int .i64 u, .pointer (some ⟨w.heap.size, 0, none⟩), .pointer (some ⟨w.heap.size + 1, 0, none⟩), .pointer (some ⟨w.heap.size + 2, 0, none⟩), .pointer (some ⟨w.heap.size + 3, 0, none⟩)] W
      fun e W' => ∃ r : Bool, e = .returned (.bool r) ∧ (r = true ↔ LbP z0 p S k T t u) ∧ Cap4 w (.int .i64 z0) (.int .i64 p) KA k kc S TA t tc T W' := by
  obtain ⟨h0, h1, h2⟩ := fiB_out h
  have hfu := fiB_size h hu1 hlt
  have C0 := Lib.hid hC
  have c0 := hC.c0
  have c1 := hC.c1
  have c2 := hC.c2
  have c3 := hC.c3
  clear hC
  go_enter Try.func82, Try.ntmps82
  go_wp2_with fail
  refine (impl_bloomOf hfu hkb hk hs C0.out.k).mono ?_; rintro e w4 ⟨g4, cc, he, hgg, ho, hb⟩
  have R4 := Lib.hid (show IRow w4 (some ⟨g4, 0, none⟩) ((u + 15) / 16) (xuF z0 p u S k) from ho.own.row)
  have HX := Lib.hid (xu_good (z0 := z0) (p := p) (S := S) (k := k) hu1 (show u ≤ 512 by omega))
  obtain ⟨m, hm⟩ : ∃ m, m = (u + 15) / 16 := ⟨_, rfl⟩
  rw [← hm] at he R4 HX
  have hm1 : m ≤ 1048576 := by omega
  clear hm
  subst he
  have hal := (Below.refl w4.heap.size w4).alloc (Nat.le_refl _) (.cells #[.int .i64 z0, .int .i64 p, .int .i64 u, .slice (some ⟨g4, 0, none⟩) m cc] 31)
  have C5 := Lib.hid ((C0.out.b hb).b hal)
  have R5 := Lib.hid (R4.out.b hal)
  have B5 := Lib.hid (boxed w4 #[.int .i64 z0, .int .i64 p, .int .i64 u, .slice (some ⟨g4, 0, none⟩) m cc] 31)
  clear hb ho hgg hal c0 c1 c2 c3 R4
  have b0 := B5.out.now 0 _ rfl
  have b1 := B5.out.now 1 _ rfl
  have b2 := B5.out.now 2 _ rfl
  have b3 := B5.out.now 3 _ rfl
  have c2 := C5.out.c2
  have c3 := C5.out.c3
  go_wp2_with fail
  refine (impl_falseAnswers 67 (enters_of Try.func67 (by kernel_rfl) rfl) (an := anB z0 p u (xuF z0 p u S k) T) hk (textsB_size htb) C5.out.k C5.out.t (fun i hi W hW => impl_answersYes hfu hm1 HX.out (hts i hi) (R5.out.b hW))).mono ?_; rintro e w6 ⟨LA, lc, rfl, ho, hb⟩
  have C6 := Lib.hid (C5.out.b hb)
  clear hb ho
  obtain ⟨N, hN⟩ : ∃ N, N = (flL (fun i => anB z0 p u (xuF z0 p u S k) T i && !hasZ S k (T i)) t).length := ⟨_, rfl⟩
  rw [← hN]
  have HP := Lib.hid (show LbP z0 p S k T t u ↔ N = 0 by unfold LbP; rw [Int.toNat_natCast, ← hN])
  clear hN
  obtain ⟨r, hr⟩ : ∃ r, ((N : Int) == 0) = r := ⟨_, rfl⟩
  have HR := Lib.hid (show r = true ↔ LbP z0 p S k T t u by rw [HP.out, ← hr]; simp)
  go_wp2_with fail
  go_ret
  exact ⟨r, by first | rfl | rw [hr] | (rw [← hr]; rfl), HR.out, C6.out⟩
set_option maxRecDepth 100000 in
set_option maxHeartbeats 4000000 in
theorem impl_least (h : fiB z0 p z = true) (hkb : keysB S k = true) (htb : textsB T t = true) (hk : k ≤ 1048576) (ht : t ≤ 1048576) (hs : ∀ i, i < k → (S i).size ≤ maxLen) (hts : ∀ i, i < t → (T i).size ≤ maxLen) (hK : GRow w KA k (strV S)) (hT : GRow w TA t (strV T)) :
    Calls Try.prog 47 #[.int .i64 z0, .int .i64 p, .slice KA k kc, .slice TA t tc, .int .i64 z] w (FindI (LbP z0 p S k T t) 1 (z + 1) w) := by
  obtain ⟨h0, h1, h2⟩ := fiB_out h
  have C0 := Lib.hid (Cap4.start (kc := kc) (tc := tc) hK hT (.int .i64 z0) (.int .i64 p))
  have c0 := C0.out.c0
  have c1 := C0.out.c1
  have c2 := C0.out.c2
  have c3 := C0.out.c3
  clear hK hT
  go_enter Try.func47, Try.ntmps47
  go_wp2_with fail
  refine (impl_hasProbes z0 p z _).mono ?_; rintro e w1 ⟨rfl, rfl⟩
  rw [h]
  go_wp2_with fail
  refine (impl_areKeys KA k kc S _ hk hs C0.out.k).mono ?_; rintro e w2 ⟨rfl, rfl⟩
  rw [hkb]
  go_wp2_with fail
  refine (impl_areTexts ht hts C0.out.t).mono ?_; rintro e w2 ⟨rfl, rfl⟩
  rw [htb]
  go_wp2_with fail
  refine (first_any 82 (enters_of Try.func82 (by kernel_rfl) rfl) #[.pointer (some ⟨w.heap.size, 0, none⟩), .pointer (some ⟨w.heap.size + 1, 0, none⟩), .pointer (some ⟨w.heap.size + 2, 0, none⟩), .pointer (some ⟨w.heap.size + 3, 0, none⟩)] (LbP z0 p S k T t) 1 (z + 1) (fun W => Cap4 w (.int .i64 z0) (.int .i64 p) KA k kc S TA t tc T W) _ (by omega) (by omega) (by omega) C0.out (fun u W g1 g2 hW => by
    obtain ⟨v, rfl⟩ : ∃ v : Nat, u = v := ⟨u.toNat, by omega⟩
    exact impl_leastFn h hkb htb hk hs hts v (by omega) (by omega) W hW)).mono ?_
  rintro e w3 ⟨hor, hC⟩
  have C3 := Lib.hid hC
  clear hC c0 c1 c2 c3
  rcases hor with ⟨v, rfl, v1, v2, v3, v4⟩ | ⟨rfl, hn⟩
  · have V3 := Lib.hid v3
    have V4 := Lib.hid v4
    clear v3 v4
    go_wp2_with fail
    go_ret2
    exact ⟨C3.out.below, .inl ⟨v, rfl, v1, v2, V3.out, V4.out⟩⟩
  · have HN := Lib.hid hn
    clear hn
    go_wp2_with fail
    go_ret2
    exact ⟨C3.out.below, .inr ⟨rfl, HN.out⟩⟩
end
end Go.Proofs.Ytpajbcgdoedleaa
