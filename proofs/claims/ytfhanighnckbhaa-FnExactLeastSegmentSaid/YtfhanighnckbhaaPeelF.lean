/- FirstSeed and LeastSegment: both sides. -/
import Derived.Test.YtfhanighnckbhaaPeelK
namespace Go.Proofs.Ytfhanighnckbhaa
open Go.RowKit

def NoneP (P : Int → Prop) (lo hi : Int) : Prop := ∀ u, lo ≤ u → u < hi → ¬ P u
def FindI (P : Int → Prop) (lo hi : Int) (w : World) (e : Ending) (w' : World) : Prop := Below w.heap.size w w' ∧ ((∃ v, e = .returned (.tuple #[.int .i64 v, .bool true]) ∧ lo ≤ v ∧ v < hi ∧ P v ∧ NoneP P lo v) ∨ (e = .returned (.tuple #[.int .i64 0, .bool false]) ∧ NoneP P lo hi))
theorem find_ex (P : Int → Prop) (lo : Int) : ∀ m : Nat, (∃ v, lo ≤ v ∧ v < lo + m ∧ P v ∧ NoneP P lo v) ∨ NoneP P lo (lo + m)
  | 0 => .inr (fun u h1 h2 => by omega)
  | m + 1 => by
    rcases find_ex P lo m with ⟨v, h1, h2, h3⟩ | h
    · exact .inl ⟨v, h1, by push_cast; omega, h3⟩
    · by_cases e : P (lo + m)
      · exact .inl ⟨lo + m, by omega, by push_cast; omega, e, h⟩
      · exact .inr (fun u h1 h2 => by
          by_cases e2 : u = lo + m
          · subst e2; exact e
          · exact h u h1 (by push_cast at h2; omega))
theorem find_det {P : Int → Prop} {lo hi : Int} {w : World} {e : Ending} {w' : World} (h : FindI P lo hi w e w') :
    (∀ v, lo ≤ v → v < hi → P v → NoneP P lo v → e = .returned (.tuple #[.int .i64 v, .bool true]) ∧ Below w.heap.size w w') ∧ (NoneP P lo hi → e = .returned (.tuple #[.int .i64 0, .bool false]) ∧ Below w.heap.size w w') := by
  obtain ⟨hb, ⟨u, he, h1, h2, h3, h4⟩ | ⟨he, hn⟩⟩ := h
  · refine ⟨fun v g1 g2 g3 g4 => ⟨?_, hb⟩, fun g => absurd h3 (g u h1 h2)⟩
    have : u = v := by
      rcases Int.lt_trichotomy u v with e1 | e1 | e1
      · exact absurd h3 (g4 u h1 e1)
      · exact e1
      · exact absurd g3 (h4 v g1 e1)
    rw [he, this]
  · exact ⟨fun v g1 g2 g3 _ => absurd g3 (hn v g1 g2), fun _ => ⟨he, hb⟩⟩
def DecIs (p : Prop) (w : World) (e : Ending) (w' : World) : Prop := ∃ b : Bool, e = .returned (.bool b) ∧ (b = true ↔ p) ∧ w = w'
def RangeOk (a b : Int) : Prop := 0 ≤ a ∧ a ≤ b ∧ b ≤ 10000 ∧ b ≤ a + 100
set_option maxRecDepth 100000 in
set_option maxHeartbeats 1000000 in
theorem impl_isSeedRange (a b : Int) (w : World) : Calls Try.prog 84 #[.int .i64 a, .int .i64 b] w (DecIs (RangeOk a b) w) := by
  have HE := Lib.hid (show RangeOk a b ↔ (0 ≤ a ∧ a ≤ b ∧ b ≤ 10000 ∧ b ≤ a + 100) from Iff.rfl)
  by_cases h0 : 0 ≤ a
  rotate_left
  · have d0 : decide ((0 : Int) ≤ a) = false := by simpa using h0
    go_enter Try.func84, Try.ntmps84
    go_wp2_with fail
    go_ret
    exact ⟨false, rfl, by simp only [Bool.false_eq_true, false_iff]; rw [HE.out]; omega, rfl⟩
  have d0 : decide ((0 : Int) ≤ a) = true := by simpa using h0
  by_cases h1 : a ≤ b
  rotate_left
  · have d1 : decide (a ≤ b) = false := by simpa using h1
    go_enter Try.func84, Try.ntmps84
    go_wp2_with fail
    go_ret
    exact ⟨false, rfl, by simp only [Bool.false_eq_true, false_iff]; rw [HE.out]; omega, rfl⟩
  have d1 : decide (a ≤ b) = true := by simpa using h1
  by_cases h2 : b ≤ 10000
  rotate_left
  · have d2 : decide (b ≤ (10000 : Int)) = false := by simpa using h2
    go_enter Try.func84, Try.ntmps84
    go_wp2_with fail
    go_ret
    exact ⟨false, rfl, by simp only [Bool.false_eq_true, false_iff]; rw [HE.out]; omega, rfl⟩
  have d2 : decide (b ≤ (10000 : Int)) = true := by simpa using h2
  have e1 : IntKind.i64.wrap (a + (100 : Int)) = a + 100 := IntWalk.i64_in _ (by omega)
  go_enter Try.func84, Try.ntmps84
  go_wp2_with fail
  go_ret
  exact ⟨_, rfl, by simp only [decide_eq_true_eq]; rw [HE.out]; omega, rfl⟩
set_option maxRecDepth 100000 in
set_option maxHeartbeats 1000000 in
theorem spec_l1Most (a b M : Int) (hM : M = max a b) (w : World) : Calls Try.prog 82 #[.int .i64 a, .int .i64 b] w fun e w' => e = .returned (.int .i64 M) ∧ w = w' := by
  by_cases h2 : b < a
  · obtain rfl : M = a := by omega
    clear hM
    have d0 : decide (b < M) = true := by simpa using h2
    go_enter Try.func82, Try.ntmps82
    go_wp2_with fail
    go_ret
    exact ⟨rfl, rfl⟩
  · obtain rfl : M = b := by omega
    clear hM
    have d0 : decide (M < a) = false := by simpa using h2
    go_enter Try.func82, Try.ntmps82
    go_wp2_with fail
    go_ret
    exact ⟨rfl, rfl⟩
section
variable (KA : Option Addr) (n kc : Nat) (S : Nat → ByteArray) (g a b : Int) (w : World)
set_option maxRecDepth 100000 in
set_option maxHeartbeats 2000000 in
theorem impl_firstSeed (hn : n ≤ 1048576) (hs : ∀ i, i < n → (S i).size ≤ maxLen) (hr : GRow w KA n (strV S)) (h : RangeOk a b) :
    Calls Try.prog 49 #[.slice KA n kc, .int .i64 g, .int .i64 a, .int .i64 b] w (FindI (PkP S n g) a b w) := by
  have HR := Lib.hid hr
  have HS := Lib.hid hs
  have H := Lib.hid h
  obtain ⟨h1, h2, h3, h4⟩ := h
  clear hr hs
  go_enter Try.func49, Try.ntmps49
  go_wp2_with fail
  refine (impl_isSeedRange a b _).mono ?_; rintro e w1 ⟨r, rfl, hr, rfl⟩
  obtain rfl : r = true := hr.2 H.out
  clear hr
  go_wp2_with fail
  go_loopw [10] (fun i wr => ∃ u : Int, a ≤ u ∧ u ≤ b ∧ i = .int .i64 u ∧ Hid (NoneP (PkP S n g) a u) ∧ Hid (Below w.heap.size w wr)) (fun i _ => (b - intOf i).toNat)
  case atStart => exact ⟨a, by omega, h2, rfl, Lib.hid (fun u g1 g2 => by omega), Lib.hid (Below.refl _ _)⟩
  case round =>
    obtain ⟨u, hu1, hu2, rfl, HN, HB⟩ := hrel
    by_cases hlt : u < b
    · have d0 : decide (u < b) = true := by simpa using hlt
      go_wp2_with fail
      refine (impl_arePeeled u g KA n kc S _ hn HS.out (HR.out.below HB.out (Nat.le_refl _))).mono ?_; rintro e w2 ⟨r, rfl, hr, hb⟩
      have HB2 := Lib.hid (HB.out.trans (hb.mono HB.out.size))
      have HQ := Lib.hid hr
      clear hb hr
      cases r with
      | true =>
        go_wp2_with fail
        go_ret2
        exact ⟨HB2.out, .inl ⟨u, rfl, hu1, hlt, (by first | exact HQ.out.1 rfl | exact HQ.out.1 trivial), HN.out⟩⟩
      | false =>
        go_wp2_with fail
        go_roundw
        case rel => exact ⟨u + 1, by omega, by omega, by go_num, Lib.hid (fun v g1 g2 => by
          by_cases e : v = u
          · subst e; exact fun hp => by have := HQ.out.2 hp; cases this
          · exact HN.out v g1 (by omega)), HB2⟩
        case measure => simp [intOf]; omega
    · obtain rfl : u = b := by omega
      have d0 : decide (u < u) = false := by simp
      go_wp2_with fail
      go_ret2
      exact ⟨HB.out, .inr ⟨rfl, HN.out⟩⟩
set_option maxRecDepth 100000 in
set_option maxHeartbeats 1000000 in
theorem impl_firstSeed_no (h : ¬ RangeOk a b) :
    Calls Try.prog 49 #[.slice KA n kc, .int .i64 g, .int .i64 a, .int .i64 b] w fun e w' => e = .returned (.tuple #[.int .i64 0, .bool false]) ∧ Below w.heap.size w w' := by
  have H := Lib.hid h
  clear h
  go_enter Try.func49, Try.ntmps49
  go_wp2_with fail
  refine (impl_isSeedRange a b _).mono ?_; rintro e w1 ⟨r, rfl, hr, rfl⟩
  obtain rfl : r = false := by
    cases r
    · rfl
    · exact absurd (hr.1 rfl) H.out
  clear hr
  go_wp2_with fail
  go_ret2
  exact ⟨rfl, Below.refl _ _⟩
theorem keyed_seed {S : Nat → ByteArray} {n : Nat} {g u : Int} (h : keyedB 0 S n g = true) (h0 : 0 ≤ u) (h1 : u ≤ 9999) : keyedB u S n g = true := by
  unfold keyedB seedB at *
  simp only [Bool.and_eq_true, decide_eq_true_eq] at *
  exact ⟨⟨by omega, h.1.2⟩, h.2⟩
theorem keyed_not {S : Nat → ByteArray} {n : Nat} {g u : Int} (h : keyedB 0 S n g = false) : ¬ PkP S n g u := fun hp => by
  have h2 := hp.1
  unfold keyedB seedB at *
  simp only [Bool.and_eq_true, decide_eq_true_eq] at h2
  obtain ⟨⟨h3, h4⟩, h5⟩ := h2
  rw [h4] at h
  simp at h
  omega
set_option maxRecDepth 100000 in
set_option maxHeartbeats 2000000 in
theorem spec_firstSeed (hn : n ≤ 1048576) (hs : ∀ i, i < n → (S i).size ≤ maxLen) (hr : GRow w KA n (strV S)) (h : RangeOk a b) (hk : keyedB 0 S n g = true) :
    Calls Try.prog 48 #[.slice KA n kc, .int .i64 g, .int .i64 a, .int .i64 b] w (FindI (PkP S n g) a b w) := by
  have HR := Lib.hid hr
  have HS := Lib.hid hs
  have HK := Lib.hid hk
  obtain ⟨h1, h2, h3, h4⟩ := h
  have e1 : IntKind.i64.wrap (b - (100 : Int)) = b - 100 := IntWalk.i64_in _ (by omega)
  obtain ⟨M, hM⟩ : ∃ M : Int, M = max 0 (b - 100) := ⟨_, rfl⟩
  have HM := Lib.hid (fun W => spec_l1Most 0 (b - 100) M hM W)
  have hMa : M ≤ a := by omega
  clear hr hs hk hM
  go_enter Try.func48, Try.ntmps48
  go_wp2_with fail
  refine (spec_peKeyed 0 KA n kc S g _ hn HS.out HR.out).mono ?_; rintro e w1 ⟨rfl, rfl⟩
  rw [HK.out]
  go_wp2_with fail
  refine (l1In_yes _ _ _ _ (by omega) (by omega)).mono ?_; rintro e w1 ⟨rfl, rfl⟩
  go_wp2_with fail
  refine (HM.out _).mono ?_; rintro e w1 ⟨rfl, rfl⟩
  go_wp2_with fail
  refine (l1In_yes _ _ _ _ hMa h2).mono ?_; rintro e w1 ⟨rfl, rfl⟩
  go_wp2_with fail
  go_loopw [10] (fun i wr => ∃ u : Int, a ≤ u ∧ u ≤ b ∧ i = .int .i64 u ∧ Hid (NoneP (PkP S n g) a u) ∧ Hid (Below w.heap.size w wr)) (fun i _ => (b - intOf i).toNat)
  case atStart => exact ⟨a, by omega, h2, rfl, Lib.hid (fun u g1 g2 => by omega), Lib.hid (Below.refl _ _)⟩
  case round =>
    obtain ⟨u, hu1, hu2, rfl, HN, HB⟩ := hrel
    by_cases hlt : u < b
    · have d0 : decide (u < b) = true := by simpa using hlt
      go_wp2_with fail
      refine (spec_pePeels u g KA n kc S _ HS.out (HR.out.below HB.out (Nat.le_refl _)) (keyed_seed HK.out (by omega) (by omega))).mono ?_; rintro e w2 ⟨r, rfl, hr, hb⟩
      have HB2 := Lib.hid (HB.out.trans (hb.mono HB.out.size))
      have HQ := Lib.hid hr
      clear hb hr
      cases r with
      | true =>
        go_wp2_with fail
        go_ret2
        exact ⟨HB2.out, .inl ⟨u, rfl, hu1, hlt, (by first | exact HQ.out.1 rfl | exact HQ.out.1 trivial), HN.out⟩⟩
      | false =>
        go_wp2_with fail
        go_roundw
        case rel => exact ⟨u + 1, by omega, by omega, by go_num, Lib.hid (fun v g1 g2 => by
          by_cases e : v = u
          · subst e; exact fun hp => by have := HQ.out.2 hp; cases this
          · exact HN.out v g1 (by omega)), HB2⟩
        case measure => simp [intOf]; omega
    · obtain rfl : u = b := by omega
      have d0 : decide (u < u) = false := by simp
      go_wp2_with fail
      go_ret2
      exact ⟨HB.out, .inr ⟨rfl, HN.out⟩⟩
set_option maxRecDepth 100000 in
set_option maxHeartbeats 2000000 in
theorem spec_firstSeed_no (hn : n ≤ 1048576) (hs : ∀ i, i < n → (S i).size ≤ maxLen) (hr : GRow w KA n (strV S)) (h : ¬ (RangeOk a b ∧ keyedB 0 S n g = true)) :
    Calls Try.prog 48 #[.slice KA n kc, .int .i64 g, .int .i64 a, .int .i64 b] w fun e w' => e = .returned (.tuple #[.int .i64 0, .bool false]) ∧ Below w.heap.size w w' := by
  have HR := Lib.hid hr
  have HS := Lib.hid hs
  clear hr hs
  cases hk : keyedB 0 S n g with
  | false =>
    go_enter Try.func48, Try.ntmps48
    go_wp2_with fail
    refine (spec_peKeyed 0 KA n kc S g _ hn HS.out HR.out).mono ?_; rintro e w1 ⟨rfl, rfl⟩
    rw [hk]
    go_wp2_with fail
    go_ret2
    exact ⟨rfl, Below.refl _ _⟩
  | true =>
    have hx : ¬ RangeOk a b := fun hh => h ⟨hh, hk⟩
    unfold RangeOk at hx
    clear h
    by_cases g1 : 0 ≤ b ∧ b ≤ 10000
    · have e1 : IntKind.i64.wrap (b - (100 : Int)) = b - 100 := IntWalk.i64_in _ (by omega)
      obtain ⟨M, hM⟩ : ∃ M : Int, M = max 0 (b - 100) := ⟨_, rfl⟩
      have HM := Lib.hid (fun W => spec_l1Most 0 (b - 100) M hM W)
      have hN := Lib.hid (show ¬ (M ≤ a ∧ a ≤ b) by omega)
      clear hM
      have G1 := Lib.hid g1
      clear hx g1
      go_enter Try.func48, Try.ntmps48
      go_wp2_with fail
      refine (spec_peKeyed 0 KA n kc S g _ hn HS.out HR.out).mono ?_; rintro e w1 ⟨rfl, rfl⟩
      rw [hk]
      go_wp2_with fail
      refine (l1In_yes _ _ _ _ G1.out.1 G1.out.2).mono ?_; rintro e w1 ⟨rfl, rfl⟩
      go_wp2_with fail
      refine (HM.out _).mono ?_; rintro e w1 ⟨rfl, rfl⟩
      go_wp2_with fail
      refine (l1In_no _ _ _ _ hN.out).mono ?_; rintro e w1 ⟨rfl, rfl⟩
      go_wp2_with fail
      go_ret2
      exact ⟨rfl, Below.refl _ _⟩
    · have G1 := Lib.hid g1
      clear hx g1
      go_enter Try.func48, Try.ntmps48
      go_wp2_with fail
      refine (spec_peKeyed 0 KA n kc S g _ hn HS.out HR.out).mono ?_; rintro e w1 ⟨rfl, rfl⟩
      rw [hk]
      go_wp2_with fail
      refine (l1In_no _ _ _ _ G1.out).mono ?_; rintro e w1 ⟨rfl, rfl⟩
      go_wp2_with fail
      go_ret2
      exact ⟨rfl, Below.refl _ _⟩
end
/-! LeastSegment -/
section
variable (seed : Int) (KA : Option Addr) (n kc : Nat) (S : Nat → ByteArray) (m : Int) (w : World)
def PsP (S : Nat → ByteArray) (n : Nat) (seed g : Int) : Prop := PkP S n g seed
set_option maxRecDepth 100000 in
set_option maxHeartbeats 2000000 in
theorem impl_leastSegment (hn : n ≤ 1048576) (hs : ∀ i, i < n → (S i).size ≤ maxLen) (hr : GRow w KA n (strV S)) (h : 1 ≤ m ∧ m ≤ 24) :
    Calls Try.prog 51 #[.int .i64 seed, .slice KA n kc, .int .i64 m] w (FindI (PsP S n seed) 1 (m + 1) w) := by
  have HR := Lib.hid hr
  have HS := Lib.hid hs
  obtain ⟨h1, h2⟩ := h
  have d1 : decide (m < 1) = false := by simp; omega
  have d2 : decide ((24 : Int) < m) = false := by simp; omega
  clear hr hs
  go_enter Try.func51, Try.ntmps51
  go_wp2_with fail
  go_loopw [8] (fun i wr => ∃ u : Int, 1 ≤ u ∧ u ≤ m + 1 ∧ i = .int .i64 u ∧ Hid (NoneP (PsP S n seed) 1 u) ∧ Hid (Below w.heap.size w wr)) (fun i _ => (m + 1 - intOf i).toNat)
  case atStart => exact ⟨1, by omega, by omega, rfl, Lib.hid (fun u g1 g2 => by omega), Lib.hid (Below.refl _ _)⟩
  case round =>
    obtain ⟨u, hu1, hu2, rfl, HN, HB⟩ := hrel
    by_cases hlt : u ≤ m
    · have d0 : decide (u ≤ m) = true := by simpa using hlt
      go_wp2_with fail
      refine (impl_arePeeled seed u KA n kc S _ hn HS.out (HR.out.below HB.out (Nat.le_refl _))).mono ?_; rintro e w2 ⟨r, rfl, hr, hb⟩
      have HB2 := Lib.hid (HB.out.trans (hb.mono HB.out.size))
      have HQ := Lib.hid hr
      clear hb hr
      cases r with
      | true =>
        go_wp2_with fail
        go_ret2
        exact ⟨HB2.out, .inl ⟨u, rfl, hu1, by omega, (by first | exact HQ.out.1 rfl | exact HQ.out.1 trivial), HN.out⟩⟩
      | false =>
        go_wp2_with fail
        go_roundw
        case rel => exact ⟨u + 1, by omega, by omega, by go_num, Lib.hid (fun v g1 g2 => by
          by_cases e : v = u
          · subst e; exact fun hp => by have := HQ.out.2 hp; cases this
          · exact HN.out v g1 (by omega)), HB2⟩
        case measure => simp [intOf]; omega
    · obtain rfl : u = m + 1 := by omega
      have d0 : decide (m + 1 ≤ m) = false := by simp; omega
      go_wp2_with fail
      go_ret2
      exact ⟨HB.out, .inr ⟨rfl, HN.out⟩⟩
set_option maxRecDepth 100000 in
set_option maxHeartbeats 1000000 in
theorem impl_leastSegment_no (h : ¬ (1 ≤ m ∧ m ≤ 24)) :
    Calls Try.prog 51 #[.int .i64 seed, .slice KA n kc, .int .i64 m] w fun e w' => e = .returned (.tuple #[.int .i64 0, .bool false]) ∧ Below w.heap.size w w' := by
  by_cases h1 : m < 1
  · have d1 : decide (m < 1) = true := by simpa using h1
    go_enter Try.func51, Try.ntmps51
    go_wp2_with fail
    go_ret2
    exact ⟨rfl, Below.refl _ _⟩
  · have d1 : decide (m < 1) = false := by simpa using h1
    have d2 : decide ((24 : Int) < m) = true := by simp; omega
    go_enter Try.func51, Try.ntmps51
    go_wp2_with fail
    go_ret2
    exact ⟨rfl, Below.refl _ _⟩
theorem keyed_seg {S : Nat → ByteArray} {n : Nat} {s g u : Int} (h : keyedB s S n g = true) (h0 : 1 ≤ u) (h1 : u ≤ g) : keyedB s S n u = true := by
  unfold keyedB at *
  simp only [Bool.and_eq_true, decide_eq_true_eq] at *
  exact ⟨h.1, by omega⟩
theorem keyed_segNot {S : Nat → ByteArray} {n : Nat} {s g u : Int} (h : keyedB s S n g = false) (h0 : 1 ≤ g) (h1 : g ≤ 24) : ¬ PsP S n s u := fun hp => by
  have h2 := hp.1
  unfold keyedB at *
  simp only [Bool.and_eq_true, decide_eq_true_eq] at h2
  obtain ⟨⟨h3, h4⟩, h5⟩ := h2
  rw [h3, h4] at h
  simp at h
  omega
set_option maxRecDepth 100000 in
set_option maxHeartbeats 2000000 in
theorem spec_leastSegment (hn : n ≤ 1048576) (hs : ∀ i, i < n → (S i).size ≤ maxLen) (hr : GRow w KA n (strV S)) (hk : keyedB seed S n m = true) :
    Calls Try.prog 50 #[.int .i64 seed, .slice KA n kc, .int .i64 m] w (FindI (PsP S n seed) 1 (m + 1) w) := by
  have HR := Lib.hid hr
  have HS := Lib.hid hs
  have HK := Lib.hid hk
  obtain ⟨h1, h2⟩ : 1 ≤ m ∧ m ≤ 24 := by unfold keyedB at hk; simp only [Bool.and_eq_true, decide_eq_true_eq] at hk; exact hk.2
  clear hr hs hk
  go_enter Try.func50, Try.ntmps50
  go_wp2_with fail
  refine (spec_peKeyed seed KA n kc S m _ hn HS.out HR.out).mono ?_; rintro e w1 ⟨rfl, rfl⟩
  rw [HK.out]
  go_wp2_with fail
  go_loopw [8] (fun i wr => ∃ u : Int, 1 ≤ u ∧ u ≤ m + 1 ∧ i = .int .i64 u ∧ Hid (NoneP (PsP S n seed) 1 u) ∧ Hid (Below w.heap.size w wr)) (fun i _ => (m + 1 - intOf i).toNat)
  case atStart => exact ⟨1, by omega, by omega, rfl, Lib.hid (fun u g1 g2 => by omega), Lib.hid (Below.refl _ _)⟩
  case round =>
    obtain ⟨u, hu1, hu2, rfl, HN, HB⟩ := hrel
    by_cases hlt : u ≤ m
    · have d0 : decide (u ≤ m) = true := by simpa using hlt
      go_wp2_with fail
      refine (spec_pePeels seed u KA n kc S _ HS.out (HR.out.below HB.out (Nat.le_refl _)) (keyed_seg HK.out hu1 hlt)).mono ?_; rintro e w2 ⟨r, rfl, hr, hb⟩
      have HB2 := Lib.hid (HB.out.trans (hb.mono HB.out.size))
      have HQ := Lib.hid hr
      clear hb hr
      cases r with
      | true =>
        go_wp2_with fail
        go_ret2
        exact ⟨HB2.out, .inl ⟨u, rfl, hu1, by omega, (by first | exact HQ.out.1 rfl | exact HQ.out.1 trivial), HN.out⟩⟩
      | false =>
        go_wp2_with fail
        go_roundw
        case rel => exact ⟨u + 1, by omega, by omega, by go_num, Lib.hid (fun v g1 g2 => by
          by_cases e : v = u
          · subst e; exact fun hp => by have := HQ.out.2 hp; cases this
          · exact HN.out v g1 (by omega)), HB2⟩
        case measure => simp [intOf]; omega
    · obtain rfl : u = m + 1 := by omega
      have d0 : decide (m + 1 ≤ m) = false := by simp; omega
      go_wp2_with fail
      go_ret2
      exact ⟨HB.out, .inr ⟨rfl, HN.out⟩⟩
set_option maxRecDepth 100000 in
set_option maxHeartbeats 1000000 in
theorem spec_leastSegment_no (hn : n ≤ 1048576) (hs : ∀ i, i < n → (S i).size ≤ maxLen) (hr : GRow w KA n (strV S)) (hk : keyedB seed S n m = false) :
    Calls Try.prog 50 #[.int .i64 seed, .slice KA n kc, .int .i64 m] w fun e w' => e = .returned (.tuple #[.int .i64 0, .bool false]) ∧ Below w.heap.size w w' := by
  have HR := Lib.hid hr
  have HS := Lib.hid hs
  clear hr hs
  go_enter Try.func50, Try.ntmps50
  go_wp2_with fail
  refine (spec_peKeyed seed KA n kc S m _ hn HS.out HR.out).mono ?_; rintro e w1 ⟨rfl, rfl⟩
  rw [hk]
  go_wp2_with fail
  go_ret2
  exact ⟨rfl, Below.refl _ _⟩
end
end Go.Proofs.Ytfhanighnckbhaa
