/- PlainSeed: both sides. -/
import Derived.Test.YtfjimjbndkhkcabColl
import Derived.Test.YtfjimjbndkhkcabFindS
import Derived.Test.YtfjimjbndkhkcabFstI
import Derived.Test.YtfjimjbndkhkcabHas
namespace Go.Proofs.Ytfjimjbndkhkcab
open Go.RowKit

theorem seek_none {F : Nat → Int} {x : Int} : ∀ {m a}, seek F x a m = none ↔ ∀ k, a ≤ k → k < a + m → F k ≠ x
  | 0, a => by simp [seek]; intros; omega
  | m + 1, a => by
    rw [seek]
    by_cases h : F a = x
    · rw [if_pos h]; simp; exact ⟨a, Nat.le_refl _, by omega, h⟩
    · rw [if_neg h, seek_none]
      constructor
      · intro g k h1 h2
        by_cases e : k = a
        · subst e; exact h
        · exact g k (by omega) (by omega)
      · intro g k h1 h2; exact g k (by omega) (by omega)
theorem coll_none {F : Nat → Int} : ∀ {m i}, coll F i m = none ↔ ∀ a b, i ≤ a → a < b → b < i + m → F b ≠ F a
  | 0, i => by simp [coll]; intros; omega
  | m + 1, i => by
    rw [coll]
    cases h : seek F (F i) (i + 1) m with
    | some k =>
      have hh : ¬ ∀ a b, i ≤ a → a < b → b < i + (m + 1) → F b ≠ F a := fun g => by
        have hn : seek F (F i) (i + 1) m = none := seek_none.2 (fun k h1 h2 => g i k (Nat.le_refl _) (by omega) (by omega))
        rw [hn] at h; cases h
      exact ⟨fun g => (by cases g), fun g => absurd g hh⟩
    | none =>
      have hs := seek_none.1 h
      rw [coll_none]
      constructor
      · intro g a b h1 h2 h3
        by_cases e : a = i
        · subst e; exact hs b (by omega) (by omega)
        · exact g a b (by omega) h2 (by omega)
      · intro g a b h1 h2 h3; exact g a b (by omega) h2 (by omega)
theorem run_head (A : Option Addr) (n k u : Nat) (hu : u ≤ k) (W : World) :
    (Instr.slice 31 (.slice A n k) none (some (.int .i64 u)) none).run Try.prog W = .ok (.slice A u k) W := by
  unfold Instr.slice
  simp [go_sem, Instr.sliceBounds, Instr.sliceBound, run_underlying Try.underlying31, hu]
/-- All keys have different places. -/
def PlainP (S : Nat → ByteArray) (n : Nat) (P seed : Int) : Prop := coll (plF seed 0 S P) 0 n = none
section
variable (KA : Option Addr) (n kc : Nat) (S : Nat → ByteArray) (P : Nat) (w : World)
set_option maxRecDepth 100000 in
set_option maxHeartbeats 2000000 in
theorem spec_pfPlain (seed : Int) (hn : n ≤ 40) (hs : ∀ i, i < n → (S i).size ≤ maxLen) (hr : GRow w KA n (strV S)) (h0 : 0 ≤ seed ∧ seed ≤ 9999) (hP : P ≤ 4096) :
    Calls Try.prog 35 #[.int .i64 seed, .slice KA n kc, .int .i64 P] w (BoolIs (PlainP S n P seed) w) := by
  have HS := Lib.hid hs
  have HR := Lib.hid hr
  have hsd : seedB seed 0 = true := by unfold seedB; simp only [decide_eq_true_eq]; omega
  have HI := Lib.hid (coll_none (F := plF seed 0 S P) (i := 0) (m := n))
  clear hs hr h0
  unfold PlainP
  go_enter Try.func35, Try.ntmps35
  go_wp2_with fail
  refine (spec_biPlaces seed 0 P KA n kc S _ hn HS.out HR.out hsd hP).mono ?_; rintro e w1 ⟨A, c, rfl, ho, hb⟩
  have HB := Lib.hid hb
  have HL := Lib.hid (show IRow w1 A n (plF seed 0 S P) from (owned_vec ho).row)
  obtain ⟨_, _, he, hnc, _⟩ := owned_slice ho
  injection he with he1 he2 he3
  subst he1 he3
  clear ho hb
  generalize plF seed 0 S P = F at *
  go_wp2_with fail
  go_loop [16] (fun i => ∃ k : Nat, k ≤ n ∧ i = .int .i64 k ∧ Hid (∀ a b, a < b → b < k → F b ≠ F a)) (fun i => n - (intOf i).toNat)
  case atStart => exact ⟨0, Nat.zero_le _, rfl, Lib.hid (fun a b h1 h2 => by omega)⟩
  case round =>
    obtain ⟨k, hk, rfl, HN⟩ := hrel
    by_cases hlt : k < n
    · obtain ⟨b, off, rfl, _, hcc⟩ := HL.out (by omega)
      have hx := hcc k hlt
      have HSL := Lib.hid (fun W => run_head (some ⟨b, off, none⟩) n c k (by omega) W)
      have HRW := Lib.hid (show IRow w1 (some ⟨b, off, none⟩) k F from fun _ => ⟨b, off, rfl, by assumption, fun j hj => hcc j (by omega)⟩)
      have hsl := HSL.out
      clear hcc
      go_wp2_with fail
      refine (spec_l1Has _ k c F (F k) _ (by omega) HRW.out).mono ?_; rintro e w2 ⟨r, rfl, hrr, rfl⟩
      cases r with
      | true =>
        obtain ⟨i, hi1, hi2⟩ := hrr.1 rfl
        have HX := Lib.hid (show ¬ coll F 0 n = none from fun h => (HI.out.1 h i k (by omega) hi1 (by omega)) hi2.symm)
        clear hrr hi2
        go_wp2_with fail
        go_ret
        exact ⟨false, rfl, by simp only [Bool.false_eq_true, false_iff]; exact HX.out, HB.out⟩
      | false =>
        have HX := Lib.hid (show ∀ a b, a < b → b < k + 1 → F b ≠ F a from fun a b h1 h2 => by
          by_cases e : b = k
          · subst e; exact fun he => absurd (hrr.2 ⟨a, h1, he.symm⟩) (by simp)
          · exact HN.out a b h1 (by omega))
        clear hrr
        go_wp2_with fail
        go_round
        case rel => exact ⟨k + 1, by omega, by go_num, HX⟩
        case measure => simp [intOf]; omega
    · obtain rfl : k = n := by omega
      go_wp2_with fail
      go_ret
      exact ⟨true, rfl, by simp only [true_iff]; exact HI.out.2 (fun a b _ h2 h3 => HN.out a b h2 (by omega)), HB.out⟩
end
/-- Which keys, slots and seeds are valid. -/
def PlOk (S : Nat → ByteArray) (n : Nat) (P a b : Int) : Prop := keysB S n = true ∧ (1 ≤ P ∧ P ≤ 4096) ∧ RangeOk a b
section
variable (KA : Option Addr) (n kc : Nat) (S : Nat → ByteArray) (a b : Int) (w : World)
set_option maxRecDepth 100000 in
set_option maxHeartbeats 1000000 in
theorem plainSeed_fn (P : Nat) (hs : ∀ i, i < n → (S i).size ≤ maxLen) (hk : keysB S n = true) (p1 : 1 ≤ P) (p2 : P ≤ 4096) (u : Int) (hu0 : 0 ≤ u) (hu1 : u ≤ 9999) (W : World) (h : Cap2 w (.slice KA n kc) (.int .i64 P) KA n S W) :
    Calls Try.prog 37 #[.int .i64 u, .pointer (some ⟨w.heap.size, 0, none⟩), .pointer (some ⟨w.heap.size + 1, 0, none⟩)] W fun e W' => ∃ r : Bool, e = .returned (.bool r) ∧ (r = true ↔ PlainP S n P u) ∧ Cap2 w (.slice KA n kc) (.int .i64 P) KA n S W' := by
  have H := Lib.hid h
  have HS := Lib.hid hs
  have c0 := h.c0
  have c1 := h.c1
  have hn40 := keysB_size hk
  have HC := Lib.hid (show CollOk u 0 S n P from ⟨by unfold seedB; simp only [decide_eq_true_eq]; omega, hk, by omega, by omega⟩)
  clear h hs
  go_enter Try.func37, Try.ntmps37
  go_wp2_with fail
  refine (impl_coll_yes u 0 P KA n kc S _ (by omega) HS.out H.out.row HC.out).mono ?_; rintro e w2 ⟨he, hb⟩
  have H2 := Lib.hid (H.out.b hb)
  clear hb
  cases hc : coll (plF u 0 S P) 0 n with
  | none =>
    rw [hc] at he
    have he2 : e = .returned (.tuple #[.int .i64 0, .int .i64 0, .bool false]) := he
    subst he2
    have HQ := Lib.hid (show PlainP S n P u from hc)
    clear hc he
    go_wp2_with fail
    go_ret
    exact ⟨true, rfl, by simp only [true_iff]; exact HQ.out, H2.out⟩
  | some q =>
    rw [hc] at he
    have he2 : e = .returned (.tuple #[.int .i64 q.1, .int .i64 q.2, .bool true]) := he
    subst he2
    have HQ := Lib.hid (show ¬ PlainP S n P u from fun h => by unfold PlainP at h; rw [hc] at h; cases h)
    clear hc he
    go_wp2_with fail
    go_ret
    exact ⟨false, rfl, by simp only [Bool.false_eq_true, false_iff]; exact HQ.out, H2.out⟩
set_option maxRecDepth 100000 in
set_option maxHeartbeats 2000000 in
theorem impl_plainSeed (P : Nat) (hs : ∀ i, i < n → (S i).size ≤ maxLen) (hr : GRow w KA n (strV S)) (h : PlOk S n P a b) :
    Calls Try.prog 15 #[.slice KA n kc, .int .i64 P, .int .i64 a, .int .i64 b] w (FindI (PlainP S n P) a b w) := by
  have L0 := Lib.hid (Cap2.start hr (.slice KA n kc) (.int .i64 P) 22 3)
  have HS := Lib.hid hs
  have H := Lib.hid h
  obtain ⟨hk, ⟨p1, p2⟩, r1, r2, r3, r4⟩ := h
  have hn40 := keysB_size hk
  have d1 : decide ((P : Int) < 1) = false := by simp; omega
  have d2 : decide ((4096 : Int) < (P : Int)) = false := by simp; omega
  have d3 : decide (4096 < P) = false := by simp; omega
  have d4 : decide (P < 1) = false := by simp; omega
  have c0 := L0.out.c0
  have c1 := L0.out.c1
  clear hr hs
  go_enter Try.func15, Try.ntmps15
  go_wp2_with fail
  refine (impl_areKeys KA n kc S _ (by omega) HS.out L0.out.row).mono ?_; rintro e w1 ⟨rfl, rfl⟩
  rw [hk]
  go_wp2_with fail
  refine (impl_isSeedRange a b _).mono ?_; rintro e w1 ⟨r, rfl, hrr, rfl⟩
  obtain rfl : r = true := hrr.2 H.out.2.2
  clear hrr
  go_wp2_with fail
  refine (first_any 37 (enters_of Try.func37 (by kernel_rfl) rfl) #[.pointer (some ⟨w.heap.size, 0, none⟩), .pointer (some ⟨w.heap.size + 1, 0, none⟩)] (PlainP S n P) a b (fun W => Cap2 w (.slice KA n kc) (.int .i64 P) KA n S W) _ (by omega) r2 (by omega) L0.out (fun u W q1 q2 hW => plainSeed_fn KA n kc S w P HS.out hk (by omega) (by omega) u (by omega) (by omega) W hW)).mono ?_
  rintro e w2 ⟨⟨v, rfl, hv1, hv2, hv3, hv4⟩ | ⟨rfl, hN⟩, hW⟩
  · have HV := Lib.hid (And.intro hv3 hv4)
    have HW := Lib.hid hW.below
    clear hv3 hv4 hW c0 c1
    go_wp2_with fail
    go_ret2
    exact ⟨HW.out, .inl ⟨v, rfl, hv1, hv2, HV.out.1, HV.out.2⟩⟩
  · have HV := Lib.hid hN
    have HW := Lib.hid hW.below
    clear hN hW c0 c1
    go_wp2_with fail
    go_ret2
    exact ⟨HW.out, .inr ⟨rfl, HV.out⟩⟩
set_option maxRecDepth 100000 in
set_option maxHeartbeats 2000000 in
theorem impl_plainSeed_no (P : Int) (hn : n ≤ 1048576) (hs : ∀ i, i < n → (S i).size ≤ maxLen) (hr : GRow w KA n (strV S)) (h : ¬ PlOk S n P a b) :
    Calls Try.prog 15 #[.slice KA n kc, .int .i64 P, .int .i64 a, .int .i64 b] w fun e w' => e = .returned (.tuple #[.int .i64 0, .bool false]) ∧ Below w.heap.size w w' := by
  have L0 := Lib.hid (Cap2.start hr (.slice KA n kc) (.int .i64 P) 22 3)
  have c0 := L0.out.c0
  have c1 := L0.out.c1
  have HS := Lib.hid hs
  have H := Lib.hid h
  clear hr hs h
  cases hk : keysB S n with
  | false =>
    go_enter Try.func15, Try.ntmps15
    go_wp2_with fail
    refine (impl_areKeys KA n kc S _ hn HS.out L0.out.row).mono ?_; rintro e w1 ⟨rfl, rfl⟩
    rw [hk]
    go_wp2_with fail
    go_ret2
    exact ⟨rfl, L0.out.below⟩
  | true =>
    by_cases p1 : P < 1
    · have d1 : decide (P < 1) = true := by simpa using p1
      go_enter Try.func15, Try.ntmps15
      go_wp2_with fail
      refine (impl_areKeys KA n kc S _ hn HS.out L0.out.row).mono ?_; rintro e w1 ⟨rfl, rfl⟩
      rw [hk]
      go_wp2_with fail
      go_ret2
      exact ⟨rfl, L0.out.below⟩
    have d1 : decide (P < 1) = false := by simpa using p1
    by_cases p2 : 4096 < P
    · have d2 : decide ((4096 : Int) < P) = true := by simpa using p2
      go_enter Try.func15, Try.ntmps15
      go_wp2_with fail
      refine (impl_areKeys KA n kc S _ hn HS.out L0.out.row).mono ?_; rintro e w1 ⟨rfl, rfl⟩
      rw [hk]
      go_wp2_with fail
      go_ret2
      exact ⟨rfl, L0.out.below⟩
    have d2 : decide ((4096 : Int) < P) = false := by simpa using p2
    have HRN := Lib.hid (show ¬ RangeOk a b from fun hh => H.out ⟨hk, ⟨by omega, by omega⟩, hh⟩)
    go_enter Try.func15, Try.ntmps15
    go_wp2_with fail
    refine (impl_areKeys KA n kc S _ hn HS.out L0.out.row).mono ?_; rintro e w1 ⟨rfl, rfl⟩
    rw [hk]
    go_wp2_with fail
    refine (impl_isSeedRange a b _).mono ?_; rintro e w1 ⟨r, rfl, hrr, rfl⟩
    obtain rfl : r = false := by
      cases r
      · rfl
      · exact absurd (hrr.1 rfl) HRN.out
    clear hrr
    go_wp2_with fail
    go_ret2
    exact ⟨rfl, L0.out.below⟩
set_option maxRecDepth 100000 in
set_option maxHeartbeats 2000000 in
theorem spec_plainSeed (P : Nat) (hs : ∀ i, i < n → (S i).size ≤ maxLen) (hr : GRow w KA n (strV S)) (h : PlOk S n P a b) :
    Calls Try.prog 14 #[.slice KA n kc, .int .i64 P, .int .i64 a, .int .i64 b] w (FindI (PlainP S n P) a b w) := by
  have HR := Lib.hid hr
  have HS := Lib.hid hs
  obtain ⟨hk, ⟨p1, p2⟩, r1, r2, r3, r4⟩ := h
  have hn40 := keysB_size hk
  have e1 : IntKind.i64.wrap (b - (100 : Int)) = b - 100 := IntWalk.i64_in _ (by omega)
  obtain ⟨M, hM⟩ : ∃ M : Int, M = max 0 (b - 100) := ⟨_, rfl⟩
  have HM := Lib.hid (fun W => spec_l1Most 0 (b - 100) M hM W)
  have hMa : M ≤ a := by omega
  clear hr hs hM
  go_enter Try.func14, Try.ntmps14
  go_wp2_with fail
  refine (spec_biKeys KA n kc S _ (by omega) HS.out HR.out).mono ?_; rintro e w1 ⟨rfl, rfl⟩
  rw [hk]
  go_wp2_with fail
  refine (l1In_yes _ _ _ _ p1 p2).mono ?_; rintro e w1 ⟨rfl, rfl⟩
  go_wp2_with fail
  refine (l1In_yes _ _ _ _ (by omega) r3).mono ?_; rintro e w1 ⟨rfl, rfl⟩
  go_wp2_with fail
  refine (HM.out _).mono ?_; rintro e w1 ⟨rfl, rfl⟩
  go_wp2_with fail
  refine (l1In_yes _ _ _ _ hMa r2).mono ?_; rintro e w1 ⟨rfl, rfl⟩
  go_wp2_with fail
  go_loopw [10] (fun i wr => ∃ u : Int, a ≤ u ∧ u ≤ b ∧ i = .int .i64 u ∧ Hid (NoneP (PlainP S n P) a u) ∧ Hid (Below w.heap.size w wr)) (fun i _ => (b - intOf i).toNat)
  case atStart => exact ⟨a, by omega, r2, rfl, Lib.hid (fun u g1 g2 => by omega), Lib.hid (Below.refl _ _)⟩
  case round =>
    obtain ⟨u, hu1, hu2, rfl, HN, HB⟩ := hrel
    by_cases hlt : u < b
    · have d0 : decide (u < b) = true := by simpa using hlt
      go_wp2_with fail
      refine (spec_pfPlain KA n kc S P _ u hn40 HS.out (HR.out.below HB.out (Nat.le_refl _)) ⟨by omega, by omega⟩ (by omega)).mono ?_; rintro e w2 ⟨r, rfl, hr, hb⟩
      have HB2 := Lib.hid (HB.out.trans (hb.mono HB.out.size))
      have HQ := Lib.hid hr
      clear hb hr
      cases r with
      | true =>
        go_wp2_with fail
        go_ret2
        exact ⟨HB2.out, .inl ⟨u, rfl, hu1, hlt, (by first | exact HQ.out.1 rfl | exact HQ.out.1 trivial), HN.out⟩⟩
      | false =>
        go_wp2_with fail
        go_roundw
        case rel => exact ⟨u + 1, by omega, by omega, by go_num, Lib.hid (fun v g1 g2 => by
          by_cases e : v = u
          · subst e; exact fun hp => by have := HQ.out.2 hp; cases this
          · exact HN.out v g1 (by omega)), HB2⟩
        case measure => simp [intOf]; omega
    · obtain rfl : u = b := by omega
      have d0 : decide (u < u) = false := by simp
      go_wp2_with fail
      go_ret2
      exact ⟨HB.out, .inr ⟨rfl, HN.out⟩⟩
set_option maxRecDepth 100000 in
set_option maxHeartbeats 2000000 in
theorem spec_plainSeed_no (P : Int) (hn : n ≤ 1048576) (hs : ∀ i, i < n → (S i).size ≤ maxLen) (hr : GRow w KA n (strV S)) (h : ¬ PlOk S n P a b) :
    Calls Try.prog 14 #[.slice KA n kc, .int .i64 P, .int .i64 a, .int .i64 b] w fun e w' => e = .returned (.tuple #[.int .i64 0, .bool false]) ∧ Below w.heap.size w w' := by
  have HR := Lib.hid hr
  have HS := Lib.hid hs
  have H := Lib.hid h
  clear hr hs h
  cases hk : keysB S n with
  | false =>
    go_enter Try.func14, Try.ntmps14
    go_wp2_with fail
    refine (spec_biKeys KA n kc S _ hn HS.out HR.out).mono ?_; rintro e w1 ⟨rfl, rfl⟩
    rw [hk]
    go_wp2_with fail
    go_ret2
    exact ⟨rfl, Below.refl _ _⟩
  | true =>
    by_cases p1 : 1 ≤ P ∧ P ≤ 4096
    rotate_left
    · go_enter Try.func14, Try.ntmps14
      go_wp2_with fail
      refine (spec_biKeys KA n kc S _ hn HS.out HR.out).mono ?_; rintro e w1 ⟨rfl, rfl⟩
      rw [hk]
      go_wp2_with fail
      refine (l1In_no _ _ _ _ p1).mono ?_; rintro e w1 ⟨rfl, rfl⟩
      go_wp2_with fail
      go_ret2
      exact ⟨rfl, Below.refl _ _⟩
    have P1 := Lib.hid p1
    clear p1
    by_cases g1 : 0 ≤ b ∧ b ≤ 10000
    rotate_left
    · have G1 := Lib.hid g1
      clear g1
      go_enter Try.func14, Try.ntmps14
      go_wp2_with fail
      refine (spec_biKeys KA n kc S _ hn HS.out HR.out).mono ?_; rintro e w1 ⟨rfl, rfl⟩
      rw [hk]
      go_wp2_with fail
      refine (l1In_yes _ _ _ _ P1.out.1 P1.out.2).mono ?_; rintro e w1 ⟨rfl, rfl⟩
      go_wp2_with fail
      refine (l1In_no _ _ _ _ G1.out).mono ?_; rintro e w1 ⟨rfl, rfl⟩
      go_wp2_with fail
      go_ret2
      exact ⟨rfl, Below.refl _ _⟩
    have hx : ¬ RangeOk a b := fun hh => H.out ⟨hk, P1.out, hh⟩
    unfold RangeOk at hx
    have e1 : IntKind.i64.wrap (b - (100 : Int)) = b - 100 := IntWalk.i64_in _ (by omega)
    obtain ⟨M, hM⟩ : ∃ M : Int, M = max 0 (b - 100) := ⟨_, rfl⟩
    have HM := Lib.hid (fun W => spec_l1Most 0 (b - 100) M hM W)
    have hN := Lib.hid (show ¬ (M ≤ a ∧ a ≤ b) by omega)
    have G1 := Lib.hid g1
    clear hM hx g1
    go_enter Try.func14, Try.ntmps14
    go_wp2_with fail
    refine (spec_biKeys KA n kc S _ hn HS.out HR.out).mono ?_; rintro e w1 ⟨rfl, rfl⟩
    rw [hk]
    go_wp2_with fail
    refine (l1In_yes _ _ _ _ P1.out.1 P1.out.2).mono ?_; rintro e w1 ⟨rfl, rfl⟩
    go_wp2_with fail
    refine (l1In_yes _ _ _ _ G1.out.1 G1.out.2).mono ?_; rintro e w1 ⟨rfl, rfl⟩
    go_wp2_with fail
    refine (HM.out _).mono ?_; rintro e w1 ⟨rfl, rfl⟩
    go_wp2_with fail
    refine (l1In_no _ _ _ _ hN.out).mono ?_; rintro e w1 ⟨rfl, rfl⟩
    go_wp2_with fail
    go_ret2
    exact ⟨rfl, Below.refl _ _⟩
end
end Go.Proofs.Ytfjimjbndkhkcab
