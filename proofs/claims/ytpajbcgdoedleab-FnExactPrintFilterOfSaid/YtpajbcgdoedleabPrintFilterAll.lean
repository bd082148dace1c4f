/- Several texts in one: PrV, PfO. -/
import Derived.Test.YtpajbcgdoedleabTaV
import Derived.Test.YtpajbcgdoedleabHash
import Derived.Test.YtpajbcgdoedleabKeyRow
import Derived.Test.YtpajbcgdoedleabTableByPeelingAll

/- Prints of keys; PrintOf: both sides. -/
namespace Go.Proofs.Ytpajbcgdoedleab
open Go.RowKit

/-- The print of a key. -/
def prV (z0 : Int) (v : Nat) (s : ByteArray) : Int := placeI z0 9 s.data.toList (2 ^ v)
/-- Whether keys have prints. -/
def prB (z0 z1 : Int) : Bool := decide (0 ≤ z0 ∧ z0 ≤ 9999) && decide (1 ≤ z1 ∧ z1 ≤ 8)
theorem prB_out {z0 z1 : Int} (h : prB z0 z1 = true) : (0 ≤ z0 ∧ z0 ≤ 9999) ∧ (1 ≤ z1 ∧ z1 ≤ 8) := by
  unfold prB at h; simp only [Bool.and_eq_true, decide_eq_true_eq] at h; exact h
theorem seed9_dec {s : Int} {b : Bool} (h : decide (0 ≤ s ∧ s ≤ 9999) = b) : seedB s 9 = b := by
  rw [← h]; unfold seedB; simp
section
variable {z0 z1 z2 : Int} {g v : Nat} {A : Option Addr} {n c : Nat} {X : Nat → Int} {s : ByteArray} {w : World}
theorem spec_fiPrint (h : prB z0 v = true) (hs : s.size ≤ maxLen) : Calls Try.prog 74 #[.int .i64 z0, .int .i64 v, .string s] w fun e w' => e = .returned (.int .i64 (prV z0 v s)) ∧ w = w' := by
  obtain ⟨h0, h1⟩ := prB_out h
  obtain ⟨p0, p1⟩ := two_bd (m := v) (k := 8) (by omega)
  have p2 : (2 : Int) ^ v ≤ 256 := by simpa using p1
  have HC := Lib.hid (fun W : World => spec_biPlace z0 9 (2 ^ v) s W hs (seed9_dec (decide_eq_true h0)) (by omega) (by omega))
  clear p0 p1 p2
  go_enter Try.func74, Try.ntmps74
  go_wp2_with fail
  refine (spec_reTop v (by omega) _).mono ?_; rintro e w1 ⟨rfl, rfl⟩
  go_wp2_with fail
  refine (HC.out _).mono ?_; rintro e w1 ⟨rfl, rfl⟩
  go_wp2_with fail
  go_ret
  exact ⟨rfl, rfl⟩
theorem impl_printOfF (h : prB z0 v = true) (hs : s.size ≤ maxLen) : Calls Try.prog 76 #[.int .i64 z0, .int .i64 v, .string s] w fun e w' => e = .returned (.int .i64 (prV z0 v s)) ∧ w = w' := by
  obtain ⟨h0, h1⟩ := prB_out h
  obtain ⟨p0, p1⟩ := two_bd (m := v) (k := 8) (by omega)
  have p2 : (2 : Int) ^ v ≤ 256 := by simpa using p1
  have HC := Lib.hid (fun W : World => impl_placeKey z0 9 (2 ^ v) s W hs (seed9_dec (decide_eq_true h0)) (by omega) (by omega))
  have hv8 : v ≤ 8 := by omega
  clear p1
  go_enter Try.func76, Try.ntmps76
  go_wp2_with fail
  refine (HC.out _).mono ?_; rintro e w1 ⟨rfl, rfl⟩
  go_wp2_with fail
  go_ret
  exact ⟨rfl, rfl⟩
theorem impl_hasPrints : Calls Try.prog 75 #[.int .i64 z0, .int .i64 z1] w fun e w' => e = .returned (.bool (prB z0 z1)) ∧ w = w' := by
  by_cases h0 : 0 ≤ z0 ∧ z0 ≤ 9999
  rotate_left
  · have E := Lib.hid (show prB z0 z1 = false by unfold prB; rw [decide_eq_false h0]; rfl)
    have D0 := Lib.hid (seed9_dec (decide_eq_false h0))
    clear h0
    go_enter Try.func75, Try.ntmps75
    go_wp2_with fail
    refine (impl_isHashNumber _ _ _).mono ?_; rintro e w1 ⟨rfl, rfl⟩
    rw [D0.out]
    go_wp2_with fail
    go_ret
    exact ⟨by rw [E.out]; rfl, rfl⟩
  have D0 := Lib.hid (seed9_dec (decide_eq_true h0))
  obtain ⟨b, hb⟩ : ∃ b, decide (1 ≤ z1 ∧ z1 ≤ 8) = b := ⟨_, rfl⟩
  have D1 := Lib.hid hb
  have E := Lib.hid (show prB z0 z1 = b by unfold prB; rw [decide_eq_true h0, hb]; rfl)
  clear h0 hb
  go_enter Try.func75, Try.ntmps75
  go_wp2_with fail
  refine (impl_isHashNumber _ _ _).mono ?_; rintro e w1 ⟨rfl, rfl⟩
  rw [D0.out]
  go_wp2_with fail
  refine (impl_isValueWidth D1.out _).mono ?_; rintro e w1 ⟨rfl, rfl⟩
  go_wp2_with fail
  go_ret
  exact ⟨by rw [E.out]; rfl, rfl⟩
theorem spec_printOfT (h : prB z0 v = true) (hk : isKeyB s.data.toList = true) (hs : s.size ≤ maxLen) : Calls Try.prog 34 #[.int .i64 z0, .int .i64 v, .string s] w fun e w' => e = .returned (.tuple #[.int .i64 (prV z0 v s), .bool true]) ∧ Below w.heap.size w w' := by
  obtain ⟨h0, h1⟩ := prB_out h
  go_enter Try.func34, Try.ntmps34
  go_wp2_with fail
  refine (l1In_of (decide_eq_true h0) _).mono ?_; rintro e w1 ⟨rfl, rfl⟩
  go_wp2_with fail
  refine (spec_reWidth (decide_eq_true h1) _).mono ?_; rintro e w1 ⟨rfl, rfl⟩
  go_wp2_with fail
  refine (spec_isKey _ _ hs).mono ?_; rintro e w1 ⟨rfl, rfl⟩
  rw [hk]
  go_wp2_with fail
  refine (spec_fiPrint h hs).mono ?_; rintro e w1 ⟨rfl, rfl⟩
  go_wp2_with fail
  go_ret2
  exact ⟨rfl, Below.refl _ _⟩
theorem impl_printOfT (h : prB z0 v = true) (hk : isKeyB s.data.toList = true) (hs : s.size ≤ maxLen) : Calls Try.prog 35 #[.int .i64 z0, .int .i64 v, .string s] w fun e w' => e = .returned (.tuple #[.int .i64 (prV z0 v s), .bool true]) ∧ Below w.heap.size w w' := by
  go_enter Try.func35, Try.ntmps35
  go_wp2_with fail
  refine impl_hasPrints.mono ?_; rintro e w1 ⟨rfl, rfl⟩
  rw [h]
  go_wp2_with fail
  refine (impl_isKey _ _ hs).mono ?_; rintro e w1 ⟨rfl, rfl⟩
  rw [hk]
  go_wp2_with fail
  refine (impl_printOfF h hs).mono ?_; rintro e w1 ⟨rfl, rfl⟩
  go_wp2_with fail
  go_ret2
  exact ⟨rfl, Below.refl _ _⟩
theorem spec_printOf_no (h : (prB z0 z1 && isKeyB s.data.toList) = false) (hs : s.size ≤ maxLen) : Calls Try.prog 34 #[.int .i64 z0, .int .i64 z1, .string s] w fun e w' => e = .returned (.tuple #[.int .i64 0, .bool false]) ∧ Below w.heap.size w w' := by
  by_cases h0 : 0 ≤ z0 ∧ z0 ≤ 9999
  rotate_left
  · have D0 := Lib.hid (decide_eq_false h0)
    clear h0 h
    go_enter Try.func34, Try.ntmps34
    go_wp2_with fail
    refine (l1In_of D0.out _).mono ?_; rintro e w1 ⟨rfl, rfl⟩
    go_wp2_with fail
    go_ret2
    exact ⟨rfl, Below.refl _ _⟩
  have D0 := Lib.hid (decide_eq_true h0)
  by_cases h1 : 1 ≤ z1 ∧ z1 ≤ 8
  rotate_left
  · have D1 := Lib.hid (decide_eq_false h1)
    clear h0 h h1
    go_enter Try.func34, Try.ntmps34
    go_wp2_with fail
    refine (l1In_of D0.out _).mono ?_; rintro e w1 ⟨rfl, rfl⟩
    go_wp2_with fail
    refine (spec_reWidth D1.out _).mono ?_; rintro e w1 ⟨rfl, rfl⟩
    go_wp2_with fail
    go_ret2
    exact ⟨rfl, Below.refl _ _⟩
  have D1 := Lib.hid (decide_eq_true h1)
  have hk : isKeyB s.data.toList = false := by
    unfold prB at h; rw [decide_eq_true h0, decide_eq_true h1] at h; simpa using h
  clear h0 h1 h
  go_enter Try.func34, Try.ntmps34
  go_wp2_with fail
  refine (l1In_of D0.out _).mono ?_; rintro e w1 ⟨rfl, rfl⟩
  go_wp2_with fail
  refine (spec_reWidth D1.out _).mono ?_; rintro e w1 ⟨rfl, rfl⟩
  go_wp2_with fail
  refine (spec_isKey _ _ hs).mono ?_; rintro e w1 ⟨rfl, rfl⟩
  rw [hk]
  go_wp2_with fail
  go_ret2
  exact ⟨rfl, Below.refl _ _⟩
theorem impl_printOf_no (h : (prB z0 z1 && isKeyB s.data.toList) = false) (hs : s.size ≤ maxLen) : Calls Try.prog 35 #[.int .i64 z0, .int .i64 z1, .string s] w fun e w' => e = .returned (.tuple #[.int .i64 0, .bool false]) ∧ Below w.heap.size w w' := by
  cases hf : prB z0 z1 with
  | false =>
    clear h
    go_enter Try.func35, Try.ntmps35
    go_wp2_with fail
    refine impl_hasPrints.mono ?_; rintro e w1 ⟨rfl, rfl⟩
    rw [hf]
    go_wp2_with fail
    go_ret2
    exact ⟨rfl, Below.refl _ _⟩
  | true =>
    have hk : isKeyB s.data.toList = false := by rw [hf, Bool.true_and] at h; exact h
    clear h
    go_enter Try.func35, Try.ntmps35
    go_wp2_with fail
    refine impl_hasPrints.mono ?_; rintro e w1 ⟨rfl, rfl⟩
    rw [hf]
    go_wp2_with fail
    refine (impl_isKey _ _ hs).mono ?_; rintro e w1 ⟨rfl, rfl⟩
    rw [hk]
    go_wp2_with fail
    go_ret2
    exact ⟨rfl, Below.refl _ _⟩
end
end Go.Proofs.Ytpajbcgdoedleab

/- PrintFilterOf: both sides. -/
namespace Go.Proofs.Ytpajbcgdoedleab
open Go.RowKit

theorem tpPost_twoP {seed : Int} {q v n : Nat} {S : Nat → ByteArray} {Y : Nat → Int} : ∃ (z0 z1 z2 : Int) (m : Nat) (X : Nat → Int) (b : Bool), m ≤ 3 * q ∧ ∀ (w : World) (e : Ending) (w' : World), TpPost seed q v (3 * q) n S Y w e w' → TaOwn z0 z1 z2 m X b w e w' := by
  obtain ⟨k, hk, hf⟩ := goes_ex (3 * q) (fun _ => 3) (eH seed q S) n zeroC
  rcases Nat.eq_zero_or_pos (leftL (goneS (3 * q) (fun _ => 3) (eH seed q S) n zeroC k) n).length with hL | hL
  · refine ⟨seed, q, v, 3 * q, tpF (stE (3 * q) (fun _ => 3) (eH seed q S) n zeroC) (stP (3 * q) (fun _ => 3) (eH seed q S) n zeroC) (eH seed q S) Y (backL k k), true, Nat.le_refl _, fun w e w' h => ?_⟩
    obtain ⟨j, hj, hg, h1, h2⟩ := h
    obtain rfl := goes_same hk hf hj hg
    exact h1 hL
  · refine ⟨0, 0, 0, 0, fun _ => 0, false, Nat.zero_le _, fun w e w' h => ?_⟩
    obtain ⟨j, hj, hg, h1, h2⟩ := h
    obtain rfl := goes_same hk hf hj hg
    exact h2 hL
/-- The prints of keys. -/
def prF (seed : Int) (v : Nat) (S : Nat → ByteArray) (i : Nat) : Int := prV seed v (S i)
theorem prF_ok {seed : Int} {v n : Nat} {S : Nat → ByteArray} (h : 1 ≤ v ∧ v ≤ 8) : TpV v n (prF seed v S) n := by
  refine ⟨by omega, rfl, fun i _ => ?_⟩
  obtain ⟨p0, p1⟩ := two_bd (m := v) (k := 8) h.2
  obtain ⟨h0, h1⟩ := placeI_bd seed 9 (S i).data.toList (2 ^ v) (by omega)
  rw [Int.toNat_natCast]
  unfold prF prV
  omega
theorem TaOwn.rowP {z0 z1 z2 : Int} {n : Nat} {X : Nat → Int} {b : Bool} {w w' : World} {e : Ending} (h : TaOwn z0 z1 z2 n X b w e w') : ∃ A c, e = .returned (.tuple #[.agg #[.int .i64 z0, .int .i64 z1, .int .i64 z2, .slice A n c], .bool b]) ∧ GRow w' A n (intV X) ∧ Below w.heap.size w w' := by
  obtain ⟨A, c, h1, h2, h3⟩ := h
  exact ⟨A, c, h1, (Ow.rd h2).row (Nat.le_refl _), h3⟩
theorem ow_set4 {w : World} {lo n b : Nat} {t : TypeId} {A : Option Addr} {F : Nat → Value} (h : Ow lo w.heap.size t A n F w) {lo2 : Nat} (h2 : lo2 ≤ lo) (hb : b < lo) (v0 v1 v2 v3 : Value) :
    Ow lo2 ((((w.setCell ⟨b, 0, none⟩ v0).setCell ⟨b, 1, none⟩ v1).setCell ⟨b, 2, none⟩ v2).setCell ⟨b, 3, none⟩ v3).heap.size t A n F ((((w.setCell ⟨b, 0, none⟩ v0).setCell ⟨b, 1, none⟩ v1).setCell ⟨b, 2, none⟩ v2).setCell ⟨b, 3, none⟩ v3) :=
  (ow_setA (ow_setA (ow_setA (ow_setA h hb v0) hb v1) hb v2) hb v3).mono h2 (by simp [World.setCell])
section
variable {seed z0 z1 z2 g v1 : Int} {q v m : Nat} {X : Nat → Int} {b : Bool} {KA : Option Addr} {n kc : Nat} {S : Nat → ByteArray} {w : World}
set_option maxRecDepth 100000 in
set_option maxHeartbeats 4000000 in
theorem spec_printFilter_no (h : ¬ (keyedB seed S n g = true ∧ 1 ≤ v1 ∧ v1 ≤ 8)) (hn : n ≤ 1048576) (hs : ∀ i, i < n → (S i).size ≤ maxLen) (hK : GRow w KA n (strV S)) :
    Calls Try.prog 47 #[.int .i64 seed, .slice KA n kc, .int .i64 g, .int .i64 v1] w (TaOwn 0 0 0 0 (fun _ => 0) false w) := by
  have L := Lib.hid ((Below.refl w.heap.size w).alloc (Nat.le_refl _) (.cells #[.int .i64 0, .int .i64 0, .int .i64 0, .slice none 0 0] 57))
  have N1 := Lib.hid (nbx0 w #[.int .i64 0, .int .i64 0, .int .i64 0, .slice none 0 0] 57)
  have HK := Lib.hid (hK.b L.out)
  have HS := Lib.hid hs
  clear hK hs
  have y0 := N1.out.cell 0 _ rfl
  have f0 := N1.out.free 0
  have y1 := N1.out.cell 1 _ rfl
  have f1 := N1.out.free 1
  have y2 := N1.out.cell 2 _ rfl
  have f2 := N1.out.free 2
  have y3 := N1.out.cell 3 _ rfl
  have f3 := N1.out.free 3
  cases hky : keyedB seed S n g with
  | false =>
    clear h
    go_enter Try.func47, Try.ntmps47
    go_wp2_with fail
    refine (spec_peKeyed seed KA n kc S g _ hn HS.out HK.out).mono ?_; rintro e w1 ⟨rfl, rfl⟩
    rw [hky]
    go_wp2_with fail
    refine bodyPost_ret (v := .tuple #[.agg #[.int .i64 0, .int .i64 0, .int .i64 0, .slice none 0 0], .bool false]) (by simp [results, Try.results47, go_sem, y0, y1, y2, y3]) rfl ?_
    exact ⟨none, 0, rfl, ow_zero _ _ _ _ _ _, by first | exact L.out | exact below_setAt (below_setAt (below_setAt (below_setAt (L.out) (by omega) _) (by omega) _) (by omega) _) (by omega) _⟩
  | true =>
    have D := Lib.hid (decide_eq_false (show ¬ (1 ≤ v1 ∧ v1 ≤ 8) from fun hh => h ⟨hky, hh⟩))
    clear h
    go_enter Try.func47, Try.ntmps47
    go_wp2_with fail
    refine (spec_peKeyed seed KA n kc S g _ hn HS.out HK.out).mono ?_; rintro e w1 ⟨rfl, rfl⟩
    rw [hky]
    go_wp2_with fail
    refine (spec_reWidth D.out _).mono ?_; rintro e w1 ⟨rfl, rfl⟩
    go_wp2_with fail
    refine bodyPost_ret (v := .tuple #[.agg #[.int .i64 0, .int .i64 0, .int .i64 0, .slice none 0 0], .bool false]) (by simp [results, Try.results47, go_sem, y0, y1, y2, y3]) rfl ?_
    exact ⟨none, 0, rfl, ow_zero _ _ _ _ _ _, by first | exact L.out | exact below_setAt (below_setAt (below_setAt (below_setAt (L.out) (by omega) _) (by omega) _) (by omega) _) (by omega) _⟩
set_option maxRecDepth 100000 in
set_option maxHeartbeats 4000000 in
theorem spec_printFilter (hky : keyedB seed S n q = true) (hv : 1 ≤ v ∧ v ≤ 8) (hp : ∀ W e W', TpPost seed q v (3 * q) n S (prF seed v S) W e W' → TaOwn z0 z1 z2 m X b W e W') (hs : ∀ i, i < n → (S i).size ≤ maxLen) (hK : GRow w KA n (strV S)) :
    Calls Try.prog 47 #[.int .i64 seed, .slice KA n kc, .int .i64 q, .int .i64 v] w (TaOwn z0 z1 z2 m X b w) := by
  have hky2 := hky
  unfold keyedB at hky2
  simp only [Bool.and_eq_true, decide_eq_true_eq] at hky2
  have n40 := keysB_size hky2.1.2
  have hsd := hky2.1.1
  have hpr : prB seed v = true := by
    unfold seedB at hsd; simp at hsd
    unfold prB; rw [decide_eq_true (show 0 ≤ seed ∧ seed ≤ 9999 by omega), decide_eq_true (show 1 ≤ (v : Int) ∧ (v : Int) ≤ 8 by omega)]; rfl
  have D := Lib.hid (decide_eq_true (show 1 ≤ (v : Int) ∧ (v : Int) ≤ 8 by omega))
  have HPP := Lib.hid hp
  clear hky2 hsd hp
  have L := Lib.hid ((Below.refl w.heap.size w).alloc (Nat.le_refl _) (.cells #[.int .i64 0, .int .i64 0, .int .i64 0, .slice none 0 0] 57))
  have N1 := Lib.hid (nbx0 w #[.int .i64 0, .int .i64 0, .int .i64 0, .slice none 0 0] 57)
  have HK := Lib.hid (hK.b L.out)
  have HS := Lib.hid hs
  clear hK hs
  go_enter Try.func47, Try.ntmps47
  go_wp2_with fail
  refine (spec_peKeyed seed KA n kc S q _ (by omega) HS.out HK.out).mono ?_; rintro e w1 ⟨rfl, rfl⟩
  rw [hky]
  go_wp2_with fail
  refine (spec_reWidth D.out _).mono ?_; rintro e w1 ⟨rfl, rfl⟩
  go_wp2_with fail
  generalize hw1 : w.alloc (.cells #[.int .i64 0, .int .i64 0, .int .i64 0, .slice none 0 0] 57) = w1 at *
  have hs1 : w.heap.size + 1 ≤ w1.heap.size := by rw [← hw1]; simp
  clear hw1
  go_loopw [10, 26] (fun l i wr => ∃ (t : Nat) (A1 : Option Addr) (c1 : Nat), t ≤ n ∧ i = .int .i64 t ∧ l = .slice A1 t c1 ∧ Hid (wr.ownsRow w1.heap.size 3 1 (.slice A1 t c1) t (vals (intV (prF seed v S)) t)) ∧ Hid (Below w1.heap.size w1 wr)) (fun _ i _ => n - (intOf i).toNat)
  case atStart => exact ⟨0, none, 0, Nat.zero_le _, rfl, rfl, Lib.hid (World.ownsRow_nil _ _ _ _), Lib.hid (Below.refl _ _)⟩
  case round =>
    obtain ⟨t, A1, c1, ht, rfl, rfl, HO, HL⟩ := hrel
    have hLs := HL.out.size
    by_cases hlt : t < n
    · obtain ⟨bk, ok, hKA, _, hc⟩ := HK.out.b HL.out (by omega)
      have hck := hc t hlt
      unfold strV at hck
      clear hc
      subst hKA
      go_wp2_with fail
      refine (spec_fiPrint hpr (HS.out t hlt)).mono ?_; rintro e w3 ⟨rfl, rfl⟩
      go_wp2_with (at_builtin; refine wpList_push rfl _ _ 22 rfl w1.heap.size 3 (.int .i64 0) 8 Try.underlying22 infoI rfl A1 t c1 (intV (prF seed v S)) (.int .i64 (prV seed v (S t))) wr rfl HO.out rfl rfl rfl (by omega) (by omega) hLs ?_)
      intro A' c' w6 hown' hb6
      have HO6 := Lib.hid hown'
      have HL6 := Lib.hid (HL.out.trans hb6)
      clear hown' hb6 HO HL
      go_wp2_with fail
      go_roundw
      case rel => exact ⟨t + 1, A', c', by omega, by go_num, rfl, HO6, HL6⟩
      case measure => simp [intOf]; omega
    · obtain rfl : n = t := by omega
      have RY := Lib.hid (show IRow wr A1 n (prF seed v S) from (owned_vec HO.out).row)
      have L2 := Lib.hid (L.out.trans (HL.out.mono (by omega)))
      have N2 := Lib.hid (N1.out.b HL.out)
      go_wp2_with fail
      refine (spec_rePeeled HS.out (HK.out.b HL.out) RY.out hky (prF_ok hv)).mono ?_; rintro e w3 hpost
      obtain ⟨A2, c2, rfl, ho, hb⟩ := HPP.out _ _ _ hpost
      clear hpost
      have N3 := N2.out.b hb
      have hlt2 := N2.out.lt
      have HOW := Lib.hid ho
      have LB := Lib.hid (L2.out.trans (hb.mono L2.out.size))
      have y0 := N3.cell 0 _ rfl
      have f0 := N3.free 0
      have y1 := N3.cell 1 _ rfl
      have f1 := N3.free 1
      have y2 := N3.cell 2 _ rfl
      have f2 := N3.free 2
      have y3 := N3.cell 3 _ rfl
      have f3 := N3.free 3
      clear hb ho N3
      go_wp2_with fail
      refine bodyPost_ret (v := .tuple #[.agg #[.int .i64 z0, .int .i64 z1, .int .i64 z2, .slice A2 m c2], .bool b]) (by simp [results, Try.results47, go_sem, y0, y1, y2, y3]) rfl ?_
      exact ⟨A2, c2, rfl, ow_set4 HOW.out (by omega) (by omega) _ _ _ _, below_setAt (below_setAt (below_setAt (below_setAt (LB.out) (by omega) _) (by omega) _) (by omega) _) (by omega) _⟩
set_option maxRecDepth 100000 in
set_option maxHeartbeats 4000000 in
theorem impl_printFilter (hky : keyedB seed S n q = true) (hv : 1 ≤ v ∧ v ≤ 8) (hp : ∀ W e W', TpPost seed q v (3 * q) n S (prF seed v S) W e W' → TaOwn z0 z1 z2 m X b W e W') (hs : ∀ i, i < n → (S i).size ≤ maxLen) (hK : GRow w KA n (strV S)) :
    Calls Try.prog 48 #[.int .i64 seed, .slice KA n kc, .int .i64 q, .int .i64 v] w (TaOwn z0 z1 z2 m X b w) := by
  have hky2 := hky
  unfold keyedB at hky2
  simp only [Bool.and_eq_true, decide_eq_true_eq] at hky2
  have n40 := keysB_size hky2.1.2
  have hkb := hky2.1.2
  have hsd := hky2.1.1
  have hpr : prB seed v = true := by
    unfold seedB at hsd; simp at hsd
    unfold prB; rw [decide_eq_true (show 0 ≤ seed ∧ seed ≤ 9999 by omega), decide_eq_true (show 1 ≤ (v : Int) ∧ (v : Int) ≤ 8 by omega)]; rfl
  have HPP := Lib.hid hp
  clear hky2 hsd hp
  have HK0 := Lib.hid hK
  have hmk := fun W => run_make_row' (P := Try.prog) 22 3 (.int .i64 0) 8 Try.underlying22 infoI rfl .i64 .i64 n (by omega) (by omega) W
  have hal := (Below.refl w.heap.size w).alloc (Nat.le_refl _) (.cells #[.int .i64 0, .int .i64 0, .int .i64 0, .slice none 0 0] 57)
  have HKa := Lib.hid (hK.b hal)
  have hal2 := (Below.refl (w.alloc (.cells #[.int .i64 0, .int .i64 0, .int .i64 0, .slice none 0 0] 57)).heap.size _).alloc (Nat.le_refl _) (.cells (madeCells #[.int .i64 0] n) 3)
  have O1 := Lib.hid (ORow.made (w.alloc (.cells #[.int .i64 0, .int .i64 0, .int .i64 0, .slice none 0 0] 57)) n)
  have N1 := Lib.hid ((nbx0 w #[.int .i64 0, .int .i64 0, .int .i64 0, .slice none 0 0] 57).b hal2)
  have L1 := Lib.hid (hal.trans (hal2.mono (by simp)))
  have HS := Lib.hid hs
  simp only [World.size_alloc] at O1
  clear hK hs hal hal2
  go_enter Try.func48, Try.ntmps48
  go_wp2_with fail
  refine impl_hasPrints.mono ?_; rintro e w1 ⟨rfl, rfl⟩
  rw [hpr]
  go_wp2_with fail
  refine (impl_areKeys KA n kc S _ (by omega) HS.out HKa.out).mono ?_; rintro e w2 ⟨rfl, rfl⟩
  rw [hkb]
  go_wp2_with fail
  generalize hw1 : (w.alloc (.cells #[.int .i64 0, .int .i64 0, .int .i64 0, .slice none 0 0] 57)).alloc (.cells (madeCells #[.int .i64 0] n) 3) = w1 at *
  have hs1 : w.heap.size + 2 ≤ w1.heap.size := by rw [← hw1]; simp
  clear hw1 hmk HKa
  go_loopw [28] (fun i wr => ∃ t : Nat, t ≤ n ∧ i = .int .i64 t ∧ Hid (ORow wr (w.heap.size + 1) n (fun j => if j < t then prF seed v S j else 0)) ∧ Hid (Below (w.heap.size + 1) w1 wr)) (fun i _ => n - (intOf i).toNat)
  case atStart => exact ⟨0, Nat.zero_le _, rfl, Lib.hid (O1.out.congr (fun j _ => by simp)), Lib.hid (Below.refl _ _)⟩
  case round =>
    obtain ⟨t, ht, rfl, HO, HL⟩ := hrel
    have LW := Lib.hid (L1.out.trans (HL.out.mono (by omega)))
    by_cases hlt : t < n
    · obtain ⟨bk, ok, hKA, _, hc⟩ := HK0.out.b LW.out (by omega)
      have hck := hc t hlt
      unfold strV at hck
      have hx := HO.out.cell hlt
      have hf := HO.out.frozen t
      rw [if_neg (Nat.lt_irrefl t)] at hx
      clear hc
      subst hKA
      go_wp2_with fail
      refine (impl_printOfF hpr (HS.out t hlt)).mono ?_; rintro e w3 ⟨rfl, rfl⟩
      have HO6 := Lib.hid ((HO.out.set t (prV seed v (S t))).congr (Y := fun j => if j < t + 1 then prF seed v S j else 0) (fun j hj => by
        by_cases e : j = t
        · subst e; rw [if_pos rfl, if_pos (by omega)]; rfl
        · rw [if_neg e]
          by_cases e2 : j < t
          · rw [if_pos e2, if_pos (by omega)]
          · rw [if_neg e2, if_neg (by omega)]))
      have HL6 := Lib.hid (below_setAt (o := t) HL.out (Nat.le_refl _) (.int .i64 (prV seed v (S t))))
      go_wp2_with fail
      go_roundw
      case rel => exact ⟨t + 1, by omega, by go_num, HO6, HL6⟩
      case measure => simp [intOf]; omega
    · obtain rfl : n = t := by omega
      have RY := Lib.hid ((HO.out.congr (Y := prF seed v S) (fun j hj => by rw [if_pos hj])).row)
      have N2 := Lib.hid (show NBX w.heap.size w.heap.size #[.int .i64 0, .int .i64 0, .int .i64 0, .slice none 0 0] 57 wr from ⟨(HL.out.block _ (by omega)).trans N1.out.blk, N1.out.ge⟩)
      have L2 := LW
      go_wp2_with fail
      refine (impl_tableByPeeling HS.out (HK0.out.b LW.out) RY.out hky (prF_ok hv)).mono ?_; rintro e w3 hpost
      obtain ⟨A2, c2, rfl, ho, hb⟩ := HPP.out _ _ _ hpost
      clear hpost
      have N3 := N2.out.b hb
      have hlt2 := N2.out.lt
      have HOW := Lib.hid ho
      have LB := Lib.hid (L2.out.trans (hb.mono L2.out.size))
      have y0 := N3.cell 0 _ rfl
      have f0 := N3.free 0
      have y1 := N3.cell 1 _ rfl
      have f1 := N3.free 1
      have y2 := N3.cell 2 _ rfl
      have f2 := N3.free 2
      have y3 := N3.cell 3 _ rfl
      have f3 := N3.free 3
      clear hb ho N3
      go_wp2_with fail
      refine bodyPost_ret (v := .tuple #[.agg #[.int .i64 z0, .int .i64 z1, .int .i64 z2, .slice A2 m c2], .bool b]) (by simp [results, Try.results48, go_sem, y0, y1, y2, y3]) rfl ?_
      exact ⟨A2, c2, rfl, ow_set4 HOW.out (by omega) (by omega) _ _ _ _, below_setAt (below_setAt (below_setAt (below_setAt (LB.out) (by omega) _) (by omega) _) (by omega) _) (by omega) _⟩
set_option maxRecDepth 100000 in
set_option maxHeartbeats 4000000 in
theorem impl_printFilter_seg (hpr : prB seed v = true) (hkb : keysB S n = true) (hky : keyedB seed S n g = false) (hs : ∀ i, i < n → (S i).size ≤ maxLen) (hK : GRow w KA n (strV S)) :
    Calls Try.prog 48 #[.int .i64 seed, .slice KA n kc, .int .i64 g, .int .i64 v] w (TaOwn 0 0 0 0 (fun _ => 0) false w) := by
  have n40 := keysB_size hkb
  have HNO := Lib.hid (show ¬ (keyedB seed S n g = true ∧ TpV v n (prF seed v S) n) from fun h => by rw [hky] at h; exact absurd h.1 (by simp))
  clear hky
  have HK0 := Lib.hid hK
  have hmk := fun W => run_make_row' (P := Try.prog) 22 3 (.int .i64 0) 8 Try.underlying22 infoI rfl .i64 .i64 n (by omega) (by omega) W
  have hal := (Below.refl w.heap.size w).alloc (Nat.le_refl _) (.cells #[.int .i64 0, .int .i64 0, .int .i64 0, .slice none 0 0] 57)
  have HKa := Lib.hid (hK.b hal)
  have hal2 := (Below.refl (w.alloc (.cells #[.int .i64 0, .int .i64 0, .int .i64 0, .slice none 0 0] 57)).heap.size _).alloc (Nat.le_refl _) (.cells (madeCells #[.int .i64 0] n) 3)
  have O1 := Lib.hid (ORow.made (w.alloc (.cells #[.int .i64 0, .int .i64 0, .int .i64 0, .slice none 0 0] 57)) n)
  have N1 := Lib.hid ((nbx0 w #[.int .i64 0, .int .i64 0, .int .i64 0, .slice none 0 0] 57).b hal2)
  have L1 := Lib.hid (hal.trans (hal2.mono (by simp)))
  have HS := Lib.hid hs
  simp only [World.size_alloc] at O1
  clear hK hs hal hal2
  go_enter Try.func48, Try.ntmps48
  go_wp2_with fail
  refine impl_hasPrints.mono ?_; rintro e w1 ⟨rfl, rfl⟩
  rw [hpr]
  go_wp2_with fail
  refine (impl_areKeys KA n kc S _ (by omega) HS.out HKa.out).mono ?_; rintro e w2 ⟨rfl, rfl⟩
  rw [hkb]
  go_wp2_with fail
  generalize hw1 : (w.alloc (.cells #[.int .i64 0, .int .i64 0, .int .i64 0, .slice none 0 0] 57)).alloc (.cells (madeCells #[.int .i64 0] n) 3) = w1 at *
  have hs1 : w.heap.size + 2 ≤ w1.heap.size := by rw [← hw1]; simp
  clear hw1 hmk HKa
  go_loopw [28] (fun i wr => ∃ t : Nat, t ≤ n ∧ i = .int .i64 t ∧ Hid (ORow wr (w.heap.size + 1) n (fun j => if j < t then prF seed v S j else 0)) ∧ Hid (Below (w.heap.size + 1) w1 wr)) (fun i _ => n - (intOf i).toNat)
  case atStart => exact ⟨0, Nat.zero_le _, rfl, Lib.hid (O1.out.congr (fun j _ => by simp)), Lib.hid (Below.refl _ _)⟩
  case round =>
    obtain ⟨t, ht, rfl, HO, HL⟩ := hrel
    have LW := Lib.hid (L1.out.trans (HL.out.mono (by omega)))
    by_cases hlt : t < n
    · obtain ⟨bk, ok, hKA, _, hc⟩ := HK0.out.b LW.out (by omega)
      have hck := hc t hlt
      unfold strV at hck
      have hx := HO.out.cell hlt
      have hf := HO.out.frozen t
      rw [if_neg (Nat.lt_irrefl t)] at hx
      clear hc
      subst hKA
      go_wp2_with fail
      refine (impl_printOfF hpr (HS.out t hlt)).mono ?_; rintro e w3 ⟨rfl, rfl⟩
      have HO6 := Lib.hid ((HO.out.set t (prV seed v (S t))).congr (Y := fun j => if j < t + 1 then prF seed v S j else 0) (fun j hj => by
        by_cases e : j = t
        · subst e; rw [if_pos rfl, if_pos (by omega)]; rfl
        · rw [if_neg e]
          by_cases e2 : j < t
          · rw [if_pos e2, if_pos (by omega)]
          · rw [if_neg e2, if_neg (by omega)]))
      have HL6 := Lib.hid (below_setAt (o := t) HL.out (Nat.le_refl _) (.int .i64 (prV seed v (S t))))
      go_wp2_with fail
      go_roundw
      case rel => exact ⟨t + 1, by omega, by go_num, HO6, HL6⟩
      case measure => simp [intOf]; omega
    · obtain rfl : n = t := by omega
      have RY := Lib.hid ((HO.out.congr (Y := prF seed v S) (fun j hj => by rw [if_pos hj])).row)
      have N2 := Lib.hid (show NBX w.heap.size w.heap.size #[.int .i64 0, .int .i64 0, .int .i64 0, .slice none 0 0] 57 wr from ⟨(HL.out.block _ (by omega)).trans N1.out.blk, N1.out.ge⟩)
      have L2 := LW
      go_wp2_with fail
      refine (impl_tableByPeeling_no (by omega) (by omega) HS.out (HK0.out.b LW.out) RY.out HNO.out).mono ?_; rintro e w3 ⟨A2, c2, rfl, ho, hb⟩
      have N3 := N2.out.b hb
      have hlt2 := N2.out.lt
      have HOW := Lib.hid ho
      have LB := Lib.hid (L2.out.trans (hb.mono L2.out.size))
      have y0 := N3.cell 0 _ rfl
      have f0 := N3.free 0
      have y1 := N3.cell 1 _ rfl
      have f1 := N3.free 1
      have y2 := N3.cell 2 _ rfl
      have f2 := N3.free 2
      have y3 := N3.cell 3 _ rfl
      have f3 := N3.free 3
      clear hb ho N3
      go_wp2_with fail
      refine bodyPost_ret (v := .tuple #[.agg #[.int .i64 0, .int .i64 0, .int .i64 0, .slice A2 0 c2], .bool false]) (by simp [results, Try.results48, go_sem, y0, y1, y2, y3]) rfl ?_
      exact ⟨A2, c2, rfl, ow_set4 HOW.out (by omega) (by omega) _ _ _ _, below_setAt (below_setAt (below_setAt (below_setAt (LB.out) (by omega) _) (by omega) _) (by omega) _) (by omega) _⟩
set_option maxRecDepth 100000 in
set_option maxHeartbeats 4000000 in
theorem impl_printFilter_no (h : (prB seed v1 && keysB S n) = false) (hn : n ≤ 1048576) (hs : ∀ i, i < n → (S i).size ≤ maxLen) (hK : GRow w KA n (strV S)) :
    Calls Try.prog 48 #[.int .i64 seed, .slice KA n kc, .int .i64 g, .int .i64 v1] w (TaOwn 0 0 0 0 (fun _ => 0) false w) := by
  have L := Lib.hid ((Below.refl w.heap.size w).alloc (Nat.le_refl _) (.cells #[.int .i64 0, .int .i64 0, .int .i64 0, .slice none 0 0] 57))
  have N1 := Lib.hid (nbx0 w #[.int .i64 0, .int .i64 0, .int .i64 0, .slice none 0 0] 57)
  have HK := Lib.hid (hK.b L.out)
  have HS := Lib.hid hs
  clear hK hs
  have y0 := N1.out.cell 0 _ rfl
  have f0 := N1.out.free 0
  have y1 := N1.out.cell 1 _ rfl
  have f1 := N1.out.free 1
  have y2 := N1.out.cell 2 _ rfl
  have f2 := N1.out.free 2
  have y3 := N1.out.cell 3 _ rfl
  have f3 := N1.out.free 3
  cases hf : prB seed v1 with
  | false =>
    clear h
    go_enter Try.func48, Try.ntmps48
    go_wp2_with fail
    refine impl_hasPrints.mono ?_; rintro e w1 ⟨rfl, rfl⟩
    rw [hf]
    go_wp2_with fail
    refine bodyPost_ret (v := .tuple #[.agg #[.int .i64 0, .int .i64 0, .int .i64 0, .slice none 0 0], .bool false]) (by simp [results, Try.results48, go_sem, y0, y1, y2, y3]) rfl ?_
    exact ⟨none, 0, rfl, ow_zero _ _ _ _ _ _, by first | exact L.out | exact below_setAt (below_setAt (below_setAt (below_setAt (L.out) (by omega) _) (by omega) _) (by omega) _) (by omega) _⟩
  | true =>
    have hkb : keysB S n = false := by rw [hf, Bool.true_and] at h; exact h
    clear h
    go_enter Try.func48, Try.ntmps48
    go_wp2_with fail
    refine impl_hasPrints.mono ?_; rintro e w1 ⟨rfl, rfl⟩
    rw [hf]
    go_wp2_with fail
    refine (impl_areKeys KA n kc S _ hn HS.out HK.out).mono ?_; rintro e w1 ⟨rfl, rfl⟩
    rw [hkb]
    go_wp2_with fail
    refine bodyPost_ret (v := .tuple #[.agg #[.int .i64 0, .int .i64 0, .int .i64 0, .slice none 0 0], .bool false]) (by simp [results, Try.results48, go_sem, y0, y1, y2, y3]) rfl ?_
    exact ⟨none, 0, rfl, ow_zero _ _ _ _ _ _, by first | exact L.out | exact below_setAt (below_setAt (below_setAt (below_setAt (L.out) (by omega) _) (by omega) _) (by omega) _) (by omega) _⟩
end
end Go.Proofs.Ytpajbcgdoedleab
