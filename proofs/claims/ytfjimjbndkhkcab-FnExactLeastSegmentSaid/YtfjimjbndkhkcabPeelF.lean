/- FirstSeed and LeastSegment: both sides. -/
import Derived.Test.YtfjimjbndkhkcabPeelK
import Derived.Test.YtfjimjbndkhkcabFindS
import Derived.Test.YtfjimjbndkhkcabFstI
namespace Go.Proofs.Ytfjimjbndkhkcab
open Go.RowKit

section
variable (KA : Option Addr) (n kc : Nat) (S : Nat → ByteArray) (g a b : Int) (w : World)
set_option maxRecDepth 100000 in
set_option maxHeartbeats 1000000 in
theorem firstSeed_fn (hn : n ≤ 1048576) (hs : ∀ i, i < n → (S i).size ≤ maxLen) (u : Int) (W : World) (h : Cap2 w (.slice KA n kc) (.int .i64 g) KA n S W) :
    Calls Try.prog 31 #[.int .i64 u, .pointer (some ⟨w.heap.size, 0, none⟩), .pointer (some ⟨w.heap.size + 1, 0, none⟩)] W fun e W' => ∃ r : Bool, e = .returned (.bool r) ∧ (r = true ↔ PkP S n g u) ∧ Cap2 w (.slice KA n kc) (.int .i64 g) KA n S W' := by
  have H := Lib.hid h
  have HS := Lib.hid hs
  have c0 := h.c0
  have c1 := h.c1
  clear h hs
  go_enter Try.func31, Try.ntmps31
  go_wp2_with fail
  refine (impl_arePeeled u g KA n kc S _ hn HS.out H.out.row).mono ?_; rintro e w2 ⟨r, rfl, hr, hb⟩
  have H2 := Lib.hid (H.out.b hb)
  have HQ := Lib.hid hr
  clear hb hr
  go_wp2_with fail
  go_ret
  exact ⟨r, rfl, HQ.out, H2.out⟩
set_option maxRecDepth 100000 in
set_option maxHeartbeats 2000000 in
theorem impl_firstSeed (hn : n ≤ 1048576) (hs : ∀ i, i < n → (S i).size ≤ maxLen) (hr : GRow w KA n (strV S)) (h : RangeOk a b) :
    Calls Try.prog 10 #[.slice KA n kc, .int .i64 g, .int .i64 a, .int .i64 b] w (FindI (PkP S n g) a b w) := by
  have L0 := Lib.hid (Cap2.start hr (.slice KA n kc) (.int .i64 g) 22 3)
  have HS := Lib.hid hs
  have H := Lib.hid h
  obtain ⟨h1, h2, h3, h4⟩ := h
  clear hr hs
  go_enter Try.func10, Try.ntmps10
  go_wp2_with fail
  refine (impl_isSeedRange a b _).mono ?_; rintro e w1 ⟨r, rfl, hr, rfl⟩
  obtain rfl : r = true := hr.2 H.out
  clear hr
  go_wp2_with fail
  refine (first_any 31 (enters_of Try.func31 (by kernel_rfl) rfl) #[.pointer (some ⟨w.heap.size, 0, none⟩), .pointer (some ⟨w.heap.size + 1, 0, none⟩)] (PkP S n g) a b (fun W => Cap2 w (.slice KA n kc) (.int .i64 g) KA n S W) _ (by omega) h2 (by omega) L0.out (fun u W _ _ hW => firstSeed_fn KA n kc S g w hn HS.out u W hW)).mono ?_
  rintro e w2 ⟨⟨v, rfl, hv1, hv2, hv3, hv4⟩ | ⟨rfl, hN⟩, hW⟩
  · have HV := Lib.hid (And.intro hv3 hv4)
    have HW := Lib.hid hW.below
    clear hv3 hv4 hW
    go_wp2_with fail
    go_ret2
    exact ⟨HW.out, .inl ⟨v, rfl, hv1, hv2, HV.out.1, HV.out.2⟩⟩
  · have HV := Lib.hid hN
    have HW := Lib.hid hW.below
    clear hN hW
    go_wp2_with fail
    go_ret2
    exact ⟨HW.out, .inr ⟨rfl, HV.out⟩⟩
set_option maxRecDepth 100000 in
set_option maxHeartbeats 1000000 in
theorem impl_firstSeed_no (h : ¬ RangeOk a b) :
    Calls Try.prog 10 #[.slice KA n kc, .int .i64 g, .int .i64 a, .int .i64 b] w fun e w' => e = .returned (.tuple #[.int .i64 0, .bool false]) ∧ Below w.heap.size w w' := by
  have H := Lib.hid h
  have HB := Lib.hid (Cap2.start (w := w) (KA := none) (n := 0) (S := fun _ => ⟨#[]⟩) GRow.zero (.slice KA n kc) (.int .i64 g) 22 3).below
  clear h
  go_enter Try.func10, Try.ntmps10
  go_wp2_with fail
  refine (impl_isSeedRange a b _).mono ?_; rintro e w1 ⟨r, rfl, hr, rfl⟩
  obtain rfl : r = false := by
    cases r
    · rfl
    · exact absurd (hr.1 rfl) H.out
  clear hr
  go_wp2_with fail
  go_ret2
  exact ⟨rfl, HB.out⟩
theorem keyed_seed {S : Nat → ByteArray} {n : Nat} {g u : Int} (h : keyedB 0 S n g = true) (h0 : 0 ≤ u) (h1 : u ≤ 9999) : keyedB u S n g = true := by
  unfold keyedB seedB at *
  simp only [Bool.and_eq_true, decide_eq_true_eq] at *
  exact ⟨⟨by omega, h.1.2⟩, h.2⟩
theorem keyed_not {S : Nat → ByteArray} {n : Nat} {g u : Int} (h : keyedB 0 S n g = false) : ¬ PkP S n g u := fun hp => by
  have h2 := hp.1
  unfold keyedB seedB at *
  simp only [Bool.and_eq_true, decide_eq_true_eq] at h2
  obtain ⟨⟨h3, h4⟩, h5⟩ := h2
  rw [h4] at h
  simp at h
  omega
set_option maxRecDepth 100000 in
set_option maxHeartbeats 2000000 in
theorem spec_firstSeed (hn : n ≤ 1048576) (hs : ∀ i, i < n → (S i).size ≤ maxLen) (hr : GRow w KA n (strV S)) (h : RangeOk a b) (hk : keyedB 0 S n g = true) :
    Calls Try.prog 8 #[.slice KA n kc, .int .i64 g, .int .i64 a, .int .i64 b] w (FindI (PkP S n g) a b w) := by
  have HR := Lib.hid hr
  have HS := Lib.hid hs
  have HK := Lib.hid hk
  obtain ⟨h1, h2, h3, h4⟩ := h
  have e1 : IntKind.i64.wrap (b - (100 : Int)) = b - 100 := IntWalk.i64_in _ (by omega)
  obtain ⟨M, hM⟩ : ∃ M : Int, M = max 0 (b - 100) := ⟨_, rfl⟩
  have HM := Lib.hid (fun W => spec_l1Most 0 (b - 100) M hM W)
  have hMa : M ≤ a := by omega
  clear hr hs hk hM
  go_enter Try.func8, Try.ntmps8
  go_wp2_with fail
  refine (spec_peKeyed 0 KA n kc S g _ hn HS.out HR.out).mono ?_; rintro e w1 ⟨rfl, rfl⟩
  rw [HK.out]
  go_wp2_with fail
  refine (l1In_yes _ _ _ _ (by omega) (by omega)).mono ?_; rintro e w1 ⟨rfl, rfl⟩
  go_wp2_with fail
  refine (HM.out _).mono ?_; rintro e w1 ⟨rfl, rfl⟩
  go_wp2_with fail
  refine (l1In_yes _ _ _ _ hMa h2).mono ?_; rintro e w1 ⟨rfl, rfl⟩
  go_wp2_with fail
  go_loopw [10] (fun i wr => ∃ u : Int, a ≤ u ∧ u ≤ b ∧ i = .int .i64 u ∧ Hid (NoneP (PkP S n g) a u) ∧ Hid (Below w.heap.size w wr)) (fun i _ => (b - intOf i).toNat)
  case atStart => exact ⟨a, by omega, h2, rfl, Lib.hid (fun u g1 g2 => by omega), Lib.hid (Below.refl _ _)⟩
  case round =>
    obtain ⟨u, hu1, hu2, rfl, HN, HB⟩ := hrel
    by_cases hlt : u < b
    · have d0 : decide (u < b) = true := by simpa using hlt
      go_wp2_with fail
      refine (spec_pePeels u g KA n kc S _ HS.out (HR.out.below HB.out (Nat.le_refl _)) (keyed_seed HK.out (by omega) (by omega))).mono ?_; rintro e w2 ⟨r, rfl, hr, hb⟩
      have HB2 := Lib.hid (HB.out.trans (hb.mono HB.out.size))
      have HQ := Lib.hid hr
      clear hb hr
      cases r with
      | true =>
        go_wp2_with fail
        go_ret2
        exact ⟨HB2.out, .inl ⟨u, rfl, hu1, hlt, (by first | exact HQ.out.1 rfl | exact HQ.out.1 trivial), HN.out⟩⟩
      | false =>
        go_wp2_with fail
        go_roundw
        case rel => exact ⟨u + 1, by omega, by omega, by go_num, Lib.hid (fun v g1 g2 => by
          by_cases e : v = u
          · subst e; exact fun hp => by have := HQ.out.2 hp; cases this
          · exact HN.out v g1 (by omega)), HB2⟩
        case measure => simp [intOf]; omega
    · obtain rfl : u = b := by omega
      have d0 : decide (u < u) = false := by simp
      go_wp2_with fail
      go_ret2
      exact ⟨HB.out, .inr ⟨rfl, HN.out⟩⟩
set_option maxRecDepth 100000 in
set_option maxHeartbeats 2000000 in
theorem spec_firstSeed_no (hn : n ≤ 1048576) (hs : ∀ i, i < n → (S i).size ≤ maxLen) (hr : GRow w KA n (strV S)) (h : ¬ (RangeOk a b ∧ keyedB 0 S n g = true)) :
    Calls Try.prog 8 #[.slice KA n kc, .int .i64 g, .int .i64 a, .int .i64 b] w fun e w' => e = .returned (.tuple #[.int .i64 0, .bool false]) ∧ Below w.heap.size w w' := by
  have HR := Lib.hid hr
  have HS := Lib.hid hs
  clear hr hs
  cases hk : keyedB 0 S n g with
  | false =>
    go_enter Try.func8, Try.ntmps8
    go_wp2_with fail
    refine (spec_peKeyed 0 KA n kc S g _ hn HS.out HR.out).mono ?_; rintro e w1 ⟨rfl, rfl⟩
    rw [hk]
    go_wp2_with fail
    go_ret2
    exact ⟨rfl, Below.refl _ _⟩
  | true =>
    have hx : ¬ RangeOk a b := fun hh => h ⟨hh, hk⟩
    unfold RangeOk at hx
    clear h
    by_cases g1 : 0 ≤ b ∧ b ≤ 10000
    · have e1 : IntKind.i64.wrap (b - (100 : Int)) = b - 100 := IntWalk.i64_in _ (by omega)
      obtain ⟨M, hM⟩ : ∃ M : Int, M = max 0 (b - 100) := ⟨_, rfl⟩
      have HM := Lib.hid (fun W => spec_l1Most 0 (b - 100) M hM W)
      have hN := Lib.hid (show ¬ (M ≤ a ∧ a ≤ b) by omega)
      clear hM
      have G1 := Lib.hid g1
      clear hx g1
      go_enter Try.func8, Try.ntmps8
      go_wp2_with fail
      refine (spec_peKeyed 0 KA n kc S g _ hn HS.out HR.out).mono ?_; rintro e w1 ⟨rfl, rfl⟩
      rw [hk]
      go_wp2_with fail
      refine (l1In_yes _ _ _ _ G1.out.1 G1.out.2).mono ?_; rintro e w1 ⟨rfl, rfl⟩
      go_wp2_with fail
      refine (HM.out _).mono ?_; rintro e w1 ⟨rfl, rfl⟩
      go_wp2_with fail
      refine (l1In_no _ _ _ _ hN.out).mono ?_; rintro e w1 ⟨rfl, rfl⟩
      go_wp2_with fail
      go_ret2
      exact ⟨rfl, Below.refl _ _⟩
    · have G1 := Lib.hid g1
      clear hx g1
      go_enter Try.func8, Try.ntmps8
      go_wp2_with fail
      refine (spec_peKeyed 0 KA n kc S g _ hn HS.out HR.out).mono ?_; rintro e w1 ⟨rfl, rfl⟩
      rw [hk]
      go_wp2_with fail
      refine (l1In_no _ _ _ _ G1.out).mono ?_; rintro e w1 ⟨rfl, rfl⟩
      go_wp2_with fail
      go_ret2
      exact ⟨rfl, Below.refl _ _⟩
end
/-! LeastSegment -/
section
variable (seed : Int) (KA : Option Addr) (n kc : Nat) (S : Nat → ByteArray) (m : Int) (w : World)
def PsP (S : Nat → ByteArray) (n : Nat) (seed g : Int) : Prop := PkP S n g seed
set_option maxRecDepth 100000 in
set_option maxHeartbeats 1000000 in
theorem leastSegment_fn (hn : n ≤ 1048576) (hs : ∀ i, i < n → (S i).size ≤ maxLen) (u : Int) (W : World) (h : Cap2 w (.int .i64 seed) (.slice KA n kc) KA n S W) :
    Calls Try.prog 33 #[.int .i64 u, .pointer (some ⟨w.heap.size, 0, none⟩), .pointer (some ⟨w.heap.size + 1, 0, none⟩)] W fun e W' => ∃ r : Bool, e = .returned (.bool r) ∧ (r = true ↔ PsP S n seed u) ∧ Cap2 w (.int .i64 seed) (.slice KA n kc) KA n S W' := by
  have H := Lib.hid h
  have HS := Lib.hid hs
  have c0 := h.c0
  have c1 := h.c1
  clear h hs
  go_enter Try.func33, Try.ntmps33
  go_wp2_with fail
  refine (impl_arePeeled seed u KA n kc S _ hn HS.out H.out.row).mono ?_; rintro e w2 ⟨r, rfl, hr, hb⟩
  have H2 := Lib.hid (H.out.b hb)
  have HQ := Lib.hid hr
  clear hb hr
  go_wp2_with fail
  go_ret
  exact ⟨r, rfl, HQ.out, H2.out⟩
set_option maxRecDepth 100000 in
set_option maxHeartbeats 2000000 in
theorem impl_leastSegment (hn : n ≤ 1048576) (hs : ∀ i, i < n → (S i).size ≤ maxLen) (hr : GRow w KA n (strV S)) (h : 1 ≤ m ∧ m ≤ 24) :
    Calls Try.prog 13 #[.int .i64 seed, .slice KA n kc, .int .i64 m] w (FindI (PsP S n seed) 1 (m + 1) w) := by
  have L0 := Lib.hid (Cap2.start hr (.int .i64 seed) (.slice KA n kc) 3 22)
  have HS := Lib.hid hs
  obtain ⟨h1, h2⟩ := h
  have d1 : decide (m < 1) = false := by simp; omega
  have d2 : decide ((24 : Int) < m) = false := by simp; omega
  clear hr hs
  go_enter Try.func13, Try.ntmps13
  go_wp2_with fail
  refine (first_any 33 (enters_of Try.func33 (by kernel_rfl) rfl) #[.pointer (some ⟨w.heap.size, 0, none⟩), .pointer (some ⟨w.heap.size + 1, 0, none⟩)] (PsP S n seed) 1 (m + 1) (fun W => Cap2 w (.int .i64 seed) (.slice KA n kc) KA n S W) _ (by omega) (by omega) (by omega) L0.out (fun u W _ _ hW => leastSegment_fn seed KA n kc S w hn HS.out u W hW)).mono ?_
  rintro e w2 ⟨⟨v, rfl, hv1, hv2, hv3, hv4⟩ | ⟨rfl, hN⟩, hW⟩
  · have HV := Lib.hid (And.intro hv3 hv4)
    have HW := Lib.hid hW.below
    clear hv3 hv4 hW
    go_wp2_with fail
    go_ret2
    exact ⟨HW.out, .inl ⟨v, rfl, hv1, hv2, HV.out.1, HV.out.2⟩⟩
  · have HV := Lib.hid hN
    have HW := Lib.hid hW.below
    clear hN hW
    go_wp2_with fail
    go_ret2
    exact ⟨HW.out, .inr ⟨rfl, HV.out⟩⟩
set_option maxRecDepth 100000 in
set_option maxHeartbeats 1000000 in
theorem impl_leastSegment_no (h : ¬ (1 ≤ m ∧ m ≤ 24)) :
    Calls Try.prog 13 #[.int .i64 seed, .slice KA n kc, .int .i64 m] w fun e w' => e = .returned (.tuple #[.int .i64 0, .bool false]) ∧ Below w.heap.size w w' := by
  have HB := Lib.hid (Cap2.start (w := w) (KA := none) (n := 0) (S := fun _ => ⟨#[]⟩) GRow.zero (.int .i64 seed) (.slice KA n kc) 3 22).below
  by_cases h1 : m < 1
  · have d1 : decide (m < 1) = true := by simpa using h1
    go_enter Try.func13, Try.ntmps13
    go_wp2_with fail
    go_ret2
    exact ⟨rfl, HB.out⟩
  · have d1 : decide (m < 1) = false := by simpa using h1
    have d2 : decide ((24 : Int) < m) = true := by simp; omega
    go_enter Try.func13, Try.ntmps13
    go_wp2_with fail
    go_ret2
    exact ⟨rfl, HB.out⟩
theorem keyed_seg {S : Nat → ByteArray} {n : Nat} {s g u : Int} (h : keyedB s S n g = true) (h0 : 1 ≤ u) (h1 : u ≤ g) : keyedB s S n u = true := by
  unfold keyedB at *
  simp only [Bool.and_eq_true, decide_eq_true_eq] at *
  exact ⟨h.1, by omega⟩
theorem keyed_segNot {S : Nat → ByteArray} {n : Nat} {s g u : Int} (h : keyedB s S n g = false) (h0 : 1 ≤ g) (h1 : g ≤ 24) : ¬ PsP S n s u := fun hp => by
  have h2 := hp.1
  unfold keyedB at *
  simp only [Bool.and_eq_true, decide_eq_true_eq] at h2
  obtain ⟨⟨h3, h4⟩, h5⟩ := h2
  rw [h3, h4] at h
  simp at h
  omega
set_option maxRecDepth 100000 in
set_option maxHeartbeats 2000000 in
theorem spec_leastSegment (hn : n ≤ 1048576) (hs : ∀ i, i < n → (S i).size ≤ maxLen) (hr : GRow w KA n (strV S)) (hk : keyedB seed S n m = true) :
    Calls Try.prog 12 #[.int .i64 seed, .slice KA n kc, .int .i64 m] w (FindI (PsP S n seed) 1 (m + 1) w) := by
  have HR := Lib.hid hr
  have HS := Lib.hid hs
  have HK := Lib.hid hk
  obtain ⟨h1, h2⟩ : 1 ≤ m ∧ m ≤ 24 := by unfold keyedB at hk; simp only [Bool.and_eq_true, decide_eq_true_eq] at hk; exact hk.2
  clear hr hs hk
  go_enter Try.func12, Try.ntmps12
  go_wp2_with fail
  refine (spec_peKeyed seed KA n kc S m _ hn HS.out HR.out).mono ?_; rintro e w1 ⟨rfl, rfl⟩
  rw [HK.out]
  go_wp2_with fail
  go_loopw [8] (fun i wr => ∃ u : Int, 1 ≤ u ∧ u ≤ m + 1 ∧ i = .int .i64 u ∧ Hid (NoneP (PsP S n seed) 1 u) ∧ Hid (Below w.heap.size w wr)) (fun i _ => (m + 1 - intOf i).toNat)
  case atStart => exact ⟨1, by omega, by omega, rfl, Lib.hid (fun u g1 g2 => by omega), Lib.hid (Below.refl _ _)⟩
  case round =>
    obtain ⟨u, hu1, hu2, rfl, HN, HB⟩ := hrel
    by_cases hlt : u ≤ m
    · have d0 : decide (u ≤ m) = true := by simpa using hlt
      go_wp2_with fail
      refine (spec_pePeels seed u KA n kc S _ HS.out (HR.out.below HB.out (Nat.le_refl _)) (keyed_seg HK.out hu1 hlt)).mono ?_; rintro e w2 ⟨r, rfl, hr, hb⟩
      have HB2 := Lib.hid (HB.out.trans (hb.mono HB.out.size))
      have HQ := Lib.hid hr
      clear hb hr
      cases r with
      | true =>
        go_wp2_with fail
        go_ret2
        exact ⟨HB2.out, .inl ⟨u, rfl, hu1, by omega, (by first | exact HQ.out.1 rfl | exact HQ.out.1 trivial), HN.out⟩⟩
      | false =>
        go_wp2_with fail
        go_roundw
        case rel => exact ⟨u + 1, by omega, by omega, by go_num, Lib.hid (fun v g1 g2 => by
          by_cases e : v = u
          · subst e; exact fun hp => by have := HQ.out.2 hp; cases this
          · exact HN.out v g1 (by omega)), HB2⟩
        case measure => simp [intOf]; omega
    · obtain rfl : u = m + 1 := by omega
      have d0 : decide (m + 1 ≤ m) = false := by simp; omega
      go_wp2_with fail
      go_ret2
      exact ⟨HB.out, .inr ⟨rfl, HN.out⟩⟩
set_option maxRecDepth 100000 in
set_option maxHeartbeats 1000000 in
theorem spec_leastSegment_no (hn : n ≤ 1048576) (hs : ∀ i, i < n → (S i).size ≤ maxLen) (hr : GRow w KA n (strV S)) (hk : keyedB seed S n m = false) :
    Calls Try.prog 12 #[.int .i64 seed, .slice KA n kc, .int .i64 m] w fun e w' => e = .returned (.tuple #[.int .i64 0, .bool false]) ∧ Below w.heap.size w w' := by
  have HR := Lib.hid hr
  have HS := Lib.hid hs
  clear hr hs
  go_enter Try.func12, Try.ntmps12
  go_wp2_with fail
  refine (spec_peKeyed seed KA n kc S m _ hn HS.out HR.out).mono ?_; rintro e w1 ⟨rfl, rfl⟩
  rw [hk]
  go_wp2_with fail
  go_ret2
  exact ⟨rfl, Below.refl _ _⟩
end
end Go.Proofs.Ytfjimjbndkhkcab
