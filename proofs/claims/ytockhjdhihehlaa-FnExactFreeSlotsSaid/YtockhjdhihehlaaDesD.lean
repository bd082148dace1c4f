/- FreeSlots: both sides. -/
import Derived.Test.YtockhjdhihehlaaDesC
namespace Go.Proofs.Ytockhjdhihehlaa
open Go.RowKit

open Classical in
/-- The numbers below p that are not taken, increasing. -/
noncomputable def frL (T : Nat → Prop) : Nat → List Nat
  | 0 => []
  | p + 1 => if T p then frL T p else frL T p ++ [p]
theorem frL_yes {T : Nat → Prop} {p : Nat} (h : T p) : frL T (p + 1) = frL T p := by rw [frL, if_pos h]
theorem frL_no {T : Nat → Prop} {p : Nat} (h : ¬ T p) : frL T (p + 1) = frL T p ++ [p] := by rw [frL, if_neg h]
theorem frL_len (T : Nat → Prop) : ∀ k, (frL T k).length ≤ k
  | 0 => Nat.le_refl _
  | k + 1 => by
    have := frL_len T k
    rw [frL]; split
    · omega
    · simp; omega
theorem ow_ofD {w : World} {B n c : Nat} {A : Option Addr} {X : Nat → Int} (h : w.ownsRow B 3 1 (.slice A n c) n (vals (intV X) n)) : Ow B w.heap.size 3 A n (intV X) w := by
  rcases owned_vec h with rfl | ⟨g, rfl, hg, ho⟩
  · exact ow_zero _ _ _ _ _ _
  · exact ow_of_own ho hg (Nat.le_refl n)
/-- A list of one's own beside a word. -/
def FreeIs (n : Nat) (X : Nat → Int) (b : Bool) (w : World) (e : Ending) (w' : World) : Prop :=
  ∃ A c, e = .returned (.tuple #[.slice A n c, .bool b]) ∧ Ow w.heap.size w'.heap.size 3 A n (intV X) w' ∧ Below w.heap.size w w'
theorem FreeIs.row {n : Nat} {X : Nat → Int} {b : Bool} {w : World} (e : Ending) (w' : World) (h : FreeIs n X b w e w') : ∃ A c, e = .returned (.tuple #[.slice A n c, .bool b]) ∧ GRow w' A n (intV X) ∧ Below w.heap.size w w' := by
  obtain ⟨A, c, h1, h2, h3⟩ := h
  exact ⟨A, c, h1, h2.rd.row (Nat.le_refl _), h3⟩
theorem freeIs_none {w w' : World} {e : Ending} {X : Nat → Int} (h : e = .returned (.tuple #[.slice none 0 0, .bool false])) (hb : Below w.heap.size w w') : FreeIs 0 X false w e w' := ⟨none, 0, h, ow_zero _ _ _ _ _ _, hb⟩
/-- The slots that are taken. -/
def TakP (F : Nat → Int) (m : Nat) (p : Nat) : Prop := ∃ i, i < m ∧ F i = (p : Int)
section
variable (z0 z1 z2 : Int) (A : Option Addr) (n c : Nat) (X : Nat → Int) (KA : Option Addr) (m kc : Nat) (S : Nat → ByteArray) (w : World)
set_option maxRecDepth 100000 in
set_option maxHeartbeats 4000000 in
theorem impl_freeSlots (g q : Nat) (hn : n ≤ 1048576) (hs : ∀ i, i < m → (S i).size ≤ maxLen) (hk : GRow w KA m (strV S)) (hr : IRow w A n X) (hv : DiV z0 g q n X) (hkb : keysB S m = true) (hd : DifP (fun i => ((slI z0 g q (S i) X : Nat) : Int)) m) :
    Calls Try.prog 27 #[.agg #[.int .i64 z0, .int .i64 g, .int .i64 q, .slice A n c], .slice KA m kc] w (FreeIs (frL (TakP (fun i => ((slI z0 g q (S i) X : Nat) : Int)) m) q).length (lstV (frL (TakP (fun i => ((slI z0 g q (S i) X : Nat) : Int)) m) q)) true w) := by
  have S0 := Lib.hid (BX1.start (cs := #[.int .i64 z0, .int .i64 g, .int .i64 q, .slice A n c]) (t := 40) hr)
  have HK0 := Lib.hid hk
  have HS := Lib.hid hs
  have HV := Lib.hid hv
  have HD := Lib.hid hd
  obtain ⟨F, hF⟩ : ∃ F : Nat → Int, F = (fun i => ((slI z0 g q (S i) X : Nat) : Int)) := ⟨_, rfl⟩
  rw [← hF]
  have HF := Lib.hid hF
  clear hF
  have hm := keysB_size hkb
  have hq : q ≤ 64 := by have := hv.2.2.1; omega
  have x0 := S0.out.box.cell 0 _ rfl
  have x1 := S0.out.box.cell 1 _ rfl
  have x2 := S0.out.box.cell 2 _ rfl
  have x3 := S0.out.box.cell 3 _ rfl
  clear hr hk hs hv hd
  go_enter Try.func27, Try.ntmps27
  go_wp2_with fail
  refine (impl_isDesignFor_Displaced z0 g q A n c X KA m kc S _ hn HS.out (HK0.out.b S0.out.below) S0.out.row HV.out hkb).mono ?_; rintro e w1 ⟨b, rfl, hb, hw⟩
  obtain rfl : b = true := hb.2 HD.out
  have S1 := Lib.hid (S0.out.step hw)
  clear hw hb x0 x1 x2 x3 S0
  have x0 := S1.out.box.cell 0 _ rfl
  have x1 := S1.out.box.cell 1 _ rfl
  have x2 := S1.out.box.cell 2 _ rfl
  have x3 := S1.out.box.cell 3 _ rfl
  go_wp2_with fail
  refine (impl_numbersIn_Displaced z0 g q A n c X KA m kc S _ (by omega) HS.out (HK0.out.b S1.out.below) S1.out.row HV.out).mono ?_; rintro e w3 ⟨rfl, ho, hw⟩
  have S3 := Lib.hid (S1.out.step hw)
  have HT := Lib.hid (show IRow w3 (some ⟨w1.heap.size, 0, none⟩) m F from by rw [HF.out]; exact ho.row)
  clear hw ho x0 x1 x2 x3 S1 HD
  generalize hTA : (some (⟨w1.heap.size, 0, none⟩ : Addr)) = TA at *
  have x2 := S3.out.box.cell 2 _ rfl
  clear hTA
  go_wp2_with fail
  go_loopw [10, 30] (fun v i wr => ∃ (k : Nat) (A1 : Option Addr) (c1 : Nat), k ≤ q ∧ i = .int .i64 k ∧ v = .slice A1 (frL (TakP F m) k).length c1 ∧ Hid (wr.ownsRow w3.heap.size 3 1 (.slice A1 (frL (TakP F m) k).length c1) (frL (TakP F m) k).length (vals (intV (lstV (frL (TakP F m) k))) (frL (TakP F m) k).length)) ∧ Hid (Below w3.heap.size w3 wr)) (fun _ i _ => q - (intOf i).toNat)
  case atStart => exact ⟨0, none, 0, Nat.zero_le _, rfl, rfl, Lib.hid (World.ownsRow_nil _ _ _ _), by first | exact Lib.hid (Below.refl _ _) | exact Lib.hid (below_drewN (Below.refl _ _) _)⟩
  case round =>
    obtain ⟨k, A1, c1, hkq, rfl, rfl, HO, HL⟩ := hrel
    have hlen := HL.out.size
    have hal := frL_len (TakP F m) k
    by_cases hlt : k < q
    · have HTR := Lib.hid (HT.out.b HL.out)
      go_wp2_with fail
      refine (contains_is TA m m F (k : Int) wr (by omega) HTR.out).mono ?_; rintro e w4 ⟨r, rfl, hrr, rfl⟩
      cases r with
      | true =>
        have HA := Lib.hid (frL_yes (T := TakP F m) (p := k) (hrr.1 rfl))
        clear hrr
        go_wp2_with fail
        go_roundw
        case rel => exact ⟨k + 1, A1, c1, by omega, by go_num, by rw [HA.out], by rw [HA.out]; exact HO, HL⟩
        case measure => simp [intOf]; omega
      | false =>
        have HA := Lib.hid (frL_no (T := TakP F m) (p := k) (fun h => by have := hrr.2 h; cases this))
        have HP := Lib.hid (push_lst (x := k) HO.out)
        have HW := Lib.hid (show intV (lstV (frL (TakP F m) k ++ [k])) (frL (TakP F m) k).length = .int .i64 (k : Int) by unfold intV; rw [lstV_new])
        clear hrr
        go_wp2_with (at_builtin; refine wpList_push rfl _ _ 22 rfl w3.heap.size 3 (.int .i64 0) 8 Try.underlying22 infoI rfl A1 (frL (TakP F m) k).length c1 (intV (lstV (frL (TakP F m) k ++ [k]))) (.int .i64 (k : Int)) _ rfl HP.out rfl HW.out rfl (by omega) (by omega) (by omega) ?_)
        intro A' c' w5 hown' hb5
        have L5 := Lib.hid (HL.out.trans hb5)
        have hlen1 : (frL (TakP F m) k).length + 1 = (frL (TakP F m) (k + 1)).length := by rw [HA.out]; simp
        rw [← HA.out] at hown'
        have HO5 := Lib.hid hown'
        clear hown' hb5 HO HL HP
        go_wp2_with fail
        go_roundw
        case rel => exact ⟨k + 1, A', c', by omega, by go_num, by rw [← hlen1], by rw [← hlen1]; exact HO5, L5⟩
        case measure => simp [intOf]; omega
    · obtain rfl : k = q := by omega
      go_wp2_with fail
      go_ret2
      exact ⟨A1, c1, rfl, ow_ofD (owned_low HO.out S3.out.below.size), S3.out.below.trans (HL.out.mono S3.out.below.size)⟩
set_option maxRecDepth 100000 in
set_option maxHeartbeats 2000000 in
theorem impl_freeSlots_dup (g q : Nat) (hn : n ≤ 1048576) (hs : ∀ i, i < m → (S i).size ≤ maxLen) (hk : GRow w KA m (strV S)) (hr : IRow w A n X) (hv : DiV z0 g q n X) (hkb : keysB S m = true) (hd : ¬ DifP (fun i => ((slI z0 g q (S i) X : Nat) : Int)) m) :
    Calls Try.prog 27 #[.agg #[.int .i64 z0, .int .i64 g, .int .i64 q, .slice A n c], .slice KA m kc] w (FreeIs 0 (fun _ => 0) false w) := by
  have S0 := Lib.hid (BX1.start (cs := #[.int .i64 z0, .int .i64 g, .int .i64 q, .slice A n c]) (t := 40) hr)
  have HK0 := Lib.hid hk
  have HS := Lib.hid hs
  have HV := Lib.hid hv
  have HD := Lib.hid hd
  have x0 := S0.out.box.cell 0 _ rfl
  have x1 := S0.out.box.cell 1 _ rfl
  have x2 := S0.out.box.cell 2 _ rfl
  have x3 := S0.out.box.cell 3 _ rfl
  clear hr hk hs hv hd
  go_enter Try.func27, Try.ntmps27
  go_wp2_with fail
  refine (impl_isDesignFor_Displaced z0 g q A n c X KA m kc S _ hn HS.out (HK0.out.b S0.out.below) S0.out.row HV.out hkb).mono ?_; rintro e w1 ⟨b, rfl, hb, hw⟩
  obtain rfl : b = false := by
    cases b
    · rfl
    · exact absurd (hb.1 rfl) HD.out
  have S1 := Lib.hid (S0.out.step hw)
  clear hw hb x0 x1 x2 x3 S0
  go_wp2_with fail
  go_ret2
  exact freeIs_none rfl S1.out.below
set_option maxRecDepth 100000 in
set_option maxHeartbeats 2000000 in
theorem impl_freeSlots_no (hn : n ≤ 1048576) (hm : m ≤ 1048576) (hs : ∀ i, i < m → (S i).size ≤ maxLen) (hk : GRow w KA m (strV S)) (hr : IRow w A n X) (h : ¬ (DiV z0 z1 z2 n X ∧ keysB S m = true)) :
    Calls Try.prog 27 #[.agg #[.int .i64 z0, .int .i64 z1, .int .i64 z2, .slice A n c], .slice KA m kc] w (FreeIs 0 (fun _ => 0) false w) := by
  have S0 := Lib.hid (BX1.start (cs := #[.int .i64 z0, .int .i64 z1, .int .i64 z2, .slice A n c]) (t := 40) hr)
  have HK0 := Lib.hid hk
  have HS := Lib.hid hs
  have HN := Lib.hid h
  have x0 := S0.out.box.cell 0 _ rfl
  have x1 := S0.out.box.cell 1 _ rfl
  have x2 := S0.out.box.cell 2 _ rfl
  have x3 := S0.out.box.cell 3 _ rfl
  clear hr hk hs h
  go_enter Try.func27, Try.ntmps27
  go_wp2_with fail
  refine (impl_isDesignFor_Displaced_no z0 z1 z2 A n c X KA m kc S _ hn hm HS.out (HK0.out.b S0.out.below) S0.out.row HN.out).mono ?_; rintro e w1 ⟨rfl, hw⟩
  have S1 := Lib.hid (S0.out.step hw)
  clear hw x0 x1 x2 x3 S0
  go_wp2_with fail
  go_ret2
  exact freeIs_none rfl S1.out.below
set_option maxRecDepth 100000 in
set_option maxHeartbeats 4000000 in
theorem spec_freeSlots (g q : Nat) (hn : n ≤ 1048576) (hs : ∀ i, i < m → (S i).size ≤ maxLen) (hk : GRow w KA m (strV S)) (hr : IRow w A n X) (hv : DiV z0 g q n X) (hkb : keysB S m = true) (hd : DifP (fun i => ((slI z0 g q (S i) X : Nat) : Int)) m) :
    Calls Try.prog 26 #[.agg #[.int .i64 z0, .int .i64 g, .int .i64 q, .slice A n c], .slice KA m kc] w (FreeIs (frL (TakP (fun i => ((slI z0 g q (S i) X : Nat) : Int)) m) q).length (lstV (frL (TakP (fun i => ((slI z0 g q (S i) X : Nat) : Int)) m) q)) true w) := by
  have S0 := Lib.hid (BX1.start (cs := #[.int .i64 z0, .int .i64 g, .int .i64 q, .slice A n c]) (t := 40) hr)
  have HK0 := Lib.hid hk
  have HS := Lib.hid hs
  have HV := Lib.hid hv
  have HD := Lib.hid hd
  obtain ⟨F, hF⟩ : ∃ F : Nat → Int, F = (fun i => ((slI z0 g q (S i) X : Nat) : Int)) := ⟨_, rfl⟩
  rw [← hF]
  have HF := Lib.hid hF
  clear hF
  have hm := keysB_size hkb
  have hq : q ≤ 64 := by have := hv.2.2.1; omega
  have x0 := S0.out.box.cell 0 _ rfl
  have x1 := S0.out.box.cell 1 _ rfl
  have x2 := S0.out.box.cell 2 _ rfl
  have x3 := S0.out.box.cell 3 _ rfl
  clear hr hk hs hv hd
  go_enter Try.func26, Try.ntmps26
  go_wp2_with fail
  refine (spec_pfDisplaced z0 g q A n c X _ hn S0.out.row).mono ?_; rintro e w1 ⟨b, rfl, hb, hw⟩
  obtain rfl : b = true := hb.2 HV.out
  have S1 := Lib.hid (S0.out.step hw)
  clear hb hw x0 x1 x2 x3 S0
  have x0 := S1.out.box.cell 0 _ rfl
  have x1 := S1.out.box.cell 1 _ rfl
  have x2 := S1.out.box.cell 2 _ rfl
  have x3 := S1.out.box.cell 3 _ rfl
  go_wp2_with fail
  refine (spec_biKeys KA m kc S _ (by omega) HS.out (HK0.out.b S1.out.below)).mono ?_; rintro e w2 ⟨rfl, rfl⟩
  rw [hkb]
  go_wp2_with fail
  refine (spec_pfSlots z0 A n c X KA m kc S _ g q hm HS.out (HK0.out.b S1.out.below) S1.out.row HV.out).mono ?_
  rintro e w3 ⟨hw, ⟨_, TA, tc, rfl, ht⟩ | ⟨hx, rfl⟩⟩
  rotate_left
  · exact absurd HD.out hx
  have S3 := Lib.hid (S1.out.step hw)
  have HT := Lib.hid (show IRow w3 TA m F from by rw [HF.out]; exact ht)
  clear hw ht x0 x1 x2 x3 S1 HD
  have x2 := S3.out.box.cell 2 _ rfl
  go_wp2_with fail
  go_loopw [8, 9] (fun v i wr => ∃ (k : Nat) (A1 : Option Addr) (c1 : Nat), k ≤ q ∧ i = .int .i64 k ∧ v = .slice A1 (frL (TakP F m) k).length c1 ∧ Hid (wr.ownsRow w3.heap.size 3 1 (.slice A1 (frL (TakP F m) k).length c1) (frL (TakP F m) k).length (vals (intV (lstV (frL (TakP F m) k))) (frL (TakP F m) k).length)) ∧ Hid (Below w3.heap.size w3 wr)) (fun _ i _ => q - (intOf i).toNat)
  case atStart => exact ⟨0, none, 0, Nat.zero_le _, rfl, rfl, Lib.hid (World.ownsRow_nil _ _ _ _), by first | exact Lib.hid (Below.refl _ _) | exact Lib.hid (below_drewN (Below.refl _ _) _)⟩
  case round =>
    obtain ⟨k, A1, c1, hkq, rfl, rfl, HO, HL⟩ := hrel
    have hlen := HL.out.size
    have hal := frL_len (TakP F m) k
    have x2 := (S3.out.step HL.out).box.cell 2 _ rfl
    by_cases hlt : k < q
    · have HTR := Lib.hid (HT.out.b HL.out)
      go_wp2_with fail
      refine (spec_l1Has TA m tc F (k : Int) wr (by omega) HTR.out).mono ?_; rintro e w4 ⟨r, rfl, hrr, rfl⟩
      cases r with
      | true =>
        have HA := Lib.hid (frL_yes (T := TakP F m) (p := k) (hrr.1 rfl))
        clear hrr
        go_wp2_with fail
        go_roundw
        case rel => exact ⟨k + 1, A1, c1, by omega, by go_num, by rw [HA.out], by rw [HA.out]; exact HO, HL⟩
        case measure => simp [intOf]; omega
      | false =>
        have HA := Lib.hid (frL_no (T := TakP F m) (p := k) (fun h => by have := hrr.2 h; cases this))
        have HP := Lib.hid (push_lst (x := k) HO.out)
        have HW := Lib.hid (show intV (lstV (frL (TakP F m) k ++ [k])) (frL (TakP F m) k).length = .int .i64 (k : Int) by unfold intV; rw [lstV_new])
        clear hrr
        go_wp2_with (at_builtin; refine wpList_push rfl _ _ 22 rfl w3.heap.size 3 (.int .i64 0) 8 Try.underlying22 infoI rfl A1 (frL (TakP F m) k).length c1 (intV (lstV (frL (TakP F m) k ++ [k]))) (.int .i64 (k : Int)) _ rfl HP.out rfl HW.out rfl (by omega) (by omega) (by omega) ?_)
        intro A' c' w5 hown' hb5
        have L5 := Lib.hid (HL.out.trans hb5)
        have hlen1 : (frL (TakP F m) k).length + 1 = (frL (TakP F m) (k + 1)).length := by rw [HA.out]; simp
        rw [← HA.out] at hown'
        have HO5 := Lib.hid hown'
        clear hown' hb5 HO HL HP
        go_wp2_with fail
        go_roundw
        case rel => exact ⟨k + 1, A', c', by omega, by go_num, by rw [← hlen1], by rw [← hlen1]; exact HO5, L5⟩
        case measure => simp [intOf]; omega
    · obtain rfl : k = q := by omega
      go_wp2_with fail
      go_ret2
      exact ⟨A1, c1, rfl, ow_ofD (owned_low HO.out S3.out.below.size), S3.out.below.trans (HL.out.mono S3.out.below.size)⟩
set_option maxRecDepth 100000 in
set_option maxHeartbeats 2000000 in
theorem spec_freeSlots_dup (g q : Nat) (hn : n ≤ 1048576) (hs : ∀ i, i < m → (S i).size ≤ maxLen) (hk : GRow w KA m (strV S)) (hr : IRow w A n X) (hv : DiV z0 g q n X) (hkb : keysB S m = true) (hd : ¬ DifP (fun i => ((slI z0 g q (S i) X : Nat) : Int)) m) :
    Calls Try.prog 26 #[.agg #[.int .i64 z0, .int .i64 g, .int .i64 q, .slice A n c], .slice KA m kc] w (FreeIs 0 (fun _ => 0) false w) := by
  have S0 := Lib.hid (BX1.start (cs := #[.int .i64 z0, .int .i64 g, .int .i64 q, .slice A n c]) (t := 40) hr)
  have HK0 := Lib.hid hk
  have HS := Lib.hid hs
  have HV := Lib.hid hv
  have HD := Lib.hid hd
  have hm := keysB_size hkb
  have x0 := S0.out.box.cell 0 _ rfl
  have x1 := S0.out.box.cell 1 _ rfl
  have x2 := S0.out.box.cell 2 _ rfl
  have x3 := S0.out.box.cell 3 _ rfl
  clear hr hk hs hv hd
  go_enter Try.func26, Try.ntmps26
  go_wp2_with fail
  refine (spec_pfDisplaced z0 g q A n c X _ hn S0.out.row).mono ?_; rintro e w1 ⟨b, rfl, hb, hw⟩
  obtain rfl : b = true := hb.2 HV.out
  have S1 := Lib.hid (S0.out.step hw)
  clear hb hw x0 x1 x2 x3 S0
  have x0 := S1.out.box.cell 0 _ rfl
  have x1 := S1.out.box.cell 1 _ rfl
  have x2 := S1.out.box.cell 2 _ rfl
  have x3 := S1.out.box.cell 3 _ rfl
  go_wp2_with fail
  refine (spec_biKeys KA m kc S _ (by omega) HS.out (HK0.out.b S1.out.below)).mono ?_; rintro e w2 ⟨rfl, rfl⟩
  rw [hkb]
  go_wp2_with fail
  refine (spec_pfSlots z0 A n c X KA m kc S _ g q hm HS.out (HK0.out.b S1.out.below) S1.out.row HV.out).mono ?_
  rintro e w3 ⟨hw, ⟨hx, TA, tc, rfl, ht⟩ | ⟨hx, rfl⟩⟩
  · exact absurd hx HD.out
  have S3 := Lib.hid (S1.out.step hw)
  clear hw hx x0 x1 x2 x3 S1
  go_wp2_with fail
  go_ret2
  exact freeIs_none rfl S3.out.below
set_option maxRecDepth 100000 in
set_option maxHeartbeats 2000000 in
theorem spec_freeSlots_no (hn : n ≤ 1048576) (hm : m ≤ 1048576) (hs : ∀ i, i < m → (S i).size ≤ maxLen) (hk : GRow w KA m (strV S)) (hr : IRow w A n X) (h : ¬ (DiV z0 z1 z2 n X ∧ keysB S m = true)) :
    Calls Try.prog 26 #[.agg #[.int .i64 z0, .int .i64 z1, .int .i64 z2, .slice A n c], .slice KA m kc] w (FreeIs 0 (fun _ => 0) false w) := by
  have S0 := Lib.hid (BX1.start (cs := #[.int .i64 z0, .int .i64 z1, .int .i64 z2, .slice A n c]) (t := 40) hr)
  have HK := Lib.hid (hk.b S0.out.below)
  have HS := Lib.hid hs
  have x0 := S0.out.box.cell 0 _ rfl
  have x1 := S0.out.box.cell 1 _ rfl
  have x2 := S0.out.box.cell 2 _ rfl
  have x3 := S0.out.box.cell 3 _ rfl
  clear hr hk hs
  by_cases hv : DiV z0 z1 z2 n X
  · have hkb : keysB S m = false := by
      cases e : keysB S m
      · rfl
      · exact absurd ⟨hv, e⟩ h
    go_enter Try.func26, Try.ntmps26
    go_wp2_with fail
    refine (spec_pfDisplaced z0 z1 z2 A n c X _ hn S0.out.row).mono ?_; rintro e w1 ⟨b, rfl, hb, hw⟩
    obtain rfl : b = true := hb.2 hv
    have S1 := Lib.hid (S0.out.step hw)
    have HK1 := Lib.hid (HK.out.b hw)
    clear hb hw x0 x1 x2 x3 S0
    go_wp2_with fail
    refine (spec_biKeys KA m kc S _ hm HS.out HK1.out).mono ?_; rintro e w2 ⟨rfl, rfl⟩
    rw [hkb]
    go_wp2_with fail
    go_ret2
    exact freeIs_none rfl S1.out.below
  · go_enter Try.func26, Try.ntmps26
    go_wp2_with fail
    refine (spec_pfDisplaced z0 z1 z2 A n c X _ hn S0.out.row).mono ?_; rintro e w1 ⟨b, rfl, hb, hw⟩
    obtain rfl : b = false := by
      cases b
      · rfl
      · exact absurd (hb.1 rfl) hv
    have S1 := Lib.hid (S0.out.step hw)
    clear hb hw x0 x1 x2 x3 S0
    go_wp2_with fail
    go_ret2
    exact freeIs_none rfl S1.out.below
end
end Go.Proofs.Ytockhjdhihehlaa
