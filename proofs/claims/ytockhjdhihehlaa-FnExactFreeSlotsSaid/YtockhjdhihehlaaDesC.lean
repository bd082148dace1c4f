/- IsDisplacedFor: both sides. Made by tools/gendes2.py. -/
import Derived.Test.YtockhjdhihehlaaDesA
import Derived.Test.YtockhjdhihehlaaHas
namespace Go.Proofs.Ytockhjdhihehlaa
open Go.RowKit

section
variable (z0 z1 z2 : Int) (A : Option Addr) (n c : Nat) (X : Nat → Int) (KA : Option Addr) (m kc : Nat) (S : Nat → ByteArray) (w : World)
set_option maxRecDepth 100000 in
set_option maxHeartbeats 2000000 in
theorem impl_isDisplacedFor (hn : n ≤ 1048576) (hs : ∀ i, i < m → (S i).size ≤ maxLen) (hk : GRow w KA m (strV S)) (hr : IRow w A n X) (hv : DiV z0 z1 z2 n X) (hkb : keysB S m = true) :
    Calls Try.prog 19 #[.agg #[.int .i64 z0, .int .i64 z1, .int .i64 z2, .slice A n c], .slice KA m kc] w (TwoIs (DifP (fun i => ((slI z0 z1.toNat z2.toNat (S i) X : Nat) : Int)) m) w) := by
  obtain ⟨g, rfl⟩ : ∃ g : Nat, z1 = g := ⟨z1.toNat, by have := hv.2.1; omega⟩
  obtain ⟨q, rfl⟩ : ∃ q : Nat, z2 = q := ⟨z2.toNat, by have := hv.2.2.1; omega⟩
  rw [Int.toNat_natCast, Int.toNat_natCast]
  have S0 := Lib.hid (BX1.start (cs := #[.int .i64 z0, .int .i64 g, .int .i64 q, .slice A n c]) (t := 40) hr)
  have HK := Lib.hid (hk.b S0.out.below)
  have HS := Lib.hid hs
  have HV := Lib.hid hv
  have x0 := S0.out.box.cell 0 _ rfl
  have x1 := S0.out.box.cell 1 _ rfl
  have x2 := S0.out.box.cell 2 _ rfl
  have x3 := S0.out.box.cell 3 _ rfl
  clear hr hk hs hv
  go_enter Try.func19, Try.ntmps19
  go_wp2_with fail
  refine (impl_isDesignFor_Displaced z0 g q A n c X KA m kc S _ hn HS.out HK.out S0.out.row HV.out hkb).mono ?_; rintro e w1 ⟨b, rfl, hb, hw⟩
  have S1 := Lib.hid (S0.out.step hw)
  have HP := Lib.hid hb
  clear hw hb
  go_wp2_with fail
  go_ret2
  exact ⟨b, rfl, HP.out, S1.out.below⟩
set_option maxRecDepth 100000 in
set_option maxHeartbeats 2000000 in
theorem impl_isDisplacedFor_no (hn : n ≤ 1048576) (hm : m ≤ 1048576) (hs : ∀ i, i < m → (S i).size ≤ maxLen) (hk : GRow w KA m (strV S)) (hr : IRow w A n X) (h : ¬ (DiV z0 z1 z2 n X ∧ keysB S m = true)) :
    Calls Try.prog 19 #[.agg #[.int .i64 z0, .int .i64 z1, .int .i64 z2, .slice A n c], .slice KA m kc] w fun e w' => e = .returned (.tuple #[.bool false, .bool false]) ∧ Below w.heap.size w w' := by
  have S0 := Lib.hid (BX1.start (cs := #[.int .i64 z0, .int .i64 z1, .int .i64 z2, .slice A n c]) (t := 40) hr)
  have HK := Lib.hid (hk.b S0.out.below)
  have HS := Lib.hid hs
  have HN := Lib.hid h
  have x0 := S0.out.box.cell 0 _ rfl
  have x1 := S0.out.box.cell 1 _ rfl
  have x2 := S0.out.box.cell 2 _ rfl
  have x3 := S0.out.box.cell 3 _ rfl
  clear hr hk hs h
  go_enter Try.func19, Try.ntmps19
  go_wp2_with fail
  refine (impl_isDesignFor_Displaced_no z0 z1 z2 A n c X KA m kc S _ hn hm HS.out HK.out S0.out.row HN.out).mono ?_; rintro e w1 ⟨rfl, hw⟩
  have S1 := Lib.hid (S0.out.step hw)
  clear hw
  go_wp2_with fail
  go_ret2
  exact ⟨rfl, S1.out.below⟩
set_option maxRecDepth 100000 in
set_option maxHeartbeats 2000000 in
theorem spec_isDisplacedFor_no (hn : n ≤ 1048576) (hm : m ≤ 1048576) (hs : ∀ i, i < m → (S i).size ≤ maxLen) (hk : GRow w KA m (strV S)) (hr : IRow w A n X) (h : ¬ (DiV z0 z1 z2 n X ∧ keysB S m = true)) :
    Calls Try.prog 17 #[.agg #[.int .i64 z0, .int .i64 z1, .int .i64 z2, .slice A n c], .slice KA m kc] w fun e w' => e = .returned (.tuple #[.bool false, .bool false]) ∧ Below w.heap.size w w' := by
  have S0 := Lib.hid (BX1.start (cs := #[.int .i64 z0, .int .i64 z1, .int .i64 z2, .slice A n c]) (t := 40) hr)
  have HK := Lib.hid (hk.b S0.out.below)
  have HS := Lib.hid hs
  have x0 := S0.out.box.cell 0 _ rfl
  have x1 := S0.out.box.cell 1 _ rfl
  have x2 := S0.out.box.cell 2 _ rfl
  have x3 := S0.out.box.cell 3 _ rfl
  clear hr hk hs
  by_cases hv : DiV z0 z1 z2 n X
  · have hkb : keysB S m = false := by
      cases e : keysB S m
      · rfl
      · exact absurd ⟨hv, e⟩ h
    go_enter Try.func17, Try.ntmps17
    go_wp2_with fail
    refine (spec_pfDisplaced z0 z1 z2 A n c X _ hn S0.out.row).mono ?_; rintro e w1 ⟨b, rfl, hb, hw⟩
    obtain rfl : b = true := hb.2 hv
    have S1 := Lib.hid (S0.out.step hw)
    have HK1 := Lib.hid (HK.out.b hw)
    clear hb hw x0 x1 x2 x3 S0
    go_wp2_with fail
    refine (spec_biKeys KA m kc S _ hm HS.out HK1.out).mono ?_; rintro e w2 ⟨rfl, rfl⟩
    rw [hkb]
    go_wp2_with fail
    go_ret2
    exact ⟨rfl, S1.out.below⟩
  · go_enter Try.func17, Try.ntmps17
    go_wp2_with fail
    refine (spec_pfDisplaced z0 z1 z2 A n c X _ hn S0.out.row).mono ?_; rintro e w1 ⟨b, rfl, hb, hw⟩
    obtain rfl : b = false := by
      cases b
      · rfl
      · exact absurd (hb.1 rfl) hv
    have S1 := Lib.hid (S0.out.step hw)
    clear hb hw x0 x1 x2 x3 S0
    go_wp2_with fail
    go_ret2
    exact ⟨rfl, S1.out.below⟩
theorem BX1.low' {w wi wj : World} {n : Nat} {cs : Array Value} {t : TypeId} {A : Option Addr} {X : Nat → Int} (h : BX1 w w.heap.size cs t A n X wi) (h0 : IRow w A n X) (hb : Below (w.heap.size + 1) wi wj) : BX1 w w.heap.size cs t A n X wj := by
  have hbl := h.below.trans (hb.mono (by omega))
  exact ⟨hbl, ⟨(hb.block _ (by omega)).trans h.box.blk, h.box.ge⟩, h0.b hbl⟩
/-- What pfSlots answers: a list of its own if all slots differ. -/
def SlotsIs (F : Nat → Int) (m : Nat) (w : World) (e : Ending) (w' : World) : Prop :=
  Below w.heap.size w w' ∧ ((DifP F m ∧ ∃ A c, e = .returned (.tuple #[.slice A m c, .bool true]) ∧ IRow w' A m F) ∨ (¬ DifP F m ∧ e = .returned (.tuple #[.slice none 0 0, .bool false])))
set_option maxRecDepth 100000 in
set_option maxHeartbeats 2000000 in
theorem spec_pfSlots (g q : Nat) (hm : m ≤ 40) (hs : ∀ i, i < m → (S i).size ≤ maxLen) (hk : GRow w KA m (strV S)) (hr : IRow w A n X) (hv : DiV z0 g q n X) :
    Calls Try.prog 46 #[.agg #[.int .i64 z0, .int .i64 g, .int .i64 q, .slice A n c], .slice KA m kc] w (SlotsIs (fun i => ((slI z0 g q (S i) X : Nat) : Int)) m w) := by
  have S0 := Lib.hid (BX1.start (cs := #[.int .i64 z0, .int .i64 g, .int .i64 q, .slice A n c]) (t := 40) hr)
  have hr0 := Lib.hid hr
  have HK0 := Lib.hid hk
  have HS := Lib.hid hs
  have HV := Lib.hid hv
  clear hr hk hs hv
  go_enter Try.func46, Try.ntmps46
  go_wp2_with fail
  go_loopw [6, 12] (fun v i wr => ∃ k : Nat, k ≤ m ∧ i = .int .i64 k ∧ (∃ A1 c1, v = .slice A1 k c1 ∧ Hid (wr.ownsRow (w.heap.size + 1) 3 1 (.slice A1 k c1) k (vals (intV (fun i => ((slI z0 g q (S i) X : Nat) : Int))) k))) ∧ Hid (DifP (fun i => ((slI z0 g q (S i) X : Nat) : Int)) k) ∧ Hid (BX1 w w.heap.size #[.int .i64 z0, .int .i64 g, .int .i64 q, .slice A n c] 40 A n X wr)) (fun _ i _ => m - (intOf i).toNat)
  case atStart => exact ⟨0, Nat.zero_le _, rfl, ⟨none, 0, rfl, Lib.hid (World.ownsRow_nil _ _ _ _)⟩, Lib.hid (fun a b h1 h2 => by omega), S0⟩
  case round =>
    obtain ⟨k, hk', rfl, ⟨A1, c1, rfl, HO⟩, HN, SK⟩ := hrel
    by_cases hlt : k < m
    · obtain ⟨b, off, hKA, _, hc⟩ := HK0.out.b SK.out.below (by omega)
      subst hKA
      have hck := hc k hlt
      unfold strV at hck
      have x0 := SK.out.box.cell 0 _ rfl
      have x1 := SK.out.box.cell 1 _ rfl
      have x2 := SK.out.box.cell 2 _ rfl
      have x3 := SK.out.box.cell 3 _ rfl
      have HC := Lib.hid (spec_pfSlotOf z0 g q A n c X (S k) wr (HS.out k hlt) SK.out.row HV.out)
      clear hc
      go_wp2_with fail
      refine HC.out.mono ?_; rintro e w3 ⟨rfl, hb⟩
      have S3 := Lib.hid (SK.out.step hb)
      have HO3 := Lib.hid (owned_b HO.out hb)
      have HR3 := Lib.hid (show IRow w3 A1 k (fun i => ((slI z0 g q (S i) X : Nat) : Int)) from (owned_vec HO3.out).row)
      clear hb
      go_wp2_with fail
      refine (spec_l1Has A1 k c1 _ ((slI z0 g q (S k) X : Nat) : Int) _ (by omega) HR3.out).mono ?_; rintro e w4 ⟨r, rfl, hrr, rfl⟩
      cases r with
      | true =>
        obtain ⟨i, hi1, hi2⟩ := hrr.1 rfl
        have HX := Lib.hid (show ¬ DifP (fun i => ((slI z0 g q (S i) X : Nat) : Int)) m from fun h => h i k hi1 hlt hi2.symm)
        clear hrr hi2
        go_wp2_with fail
        go_ret2
        exact ⟨S3.out.below, .inr ⟨HX.out, rfl⟩⟩
      | false =>
        have HX := Lib.hid (show DifP (fun i => ((slI z0 g q (S i) X : Nat) : Int)) (k + 1) from fun a b h1 h2 => by
          by_cases e : b = k
          · subst e; exact fun he => absurd (hrr.2 ⟨a, h1, he.symm⟩) (by simp)
          · exact HN.out a b h1 (by omega))
        have hsz : w.heap.size + 1 ≤ w3.heap.size := by have := S3.out.box.lt; omega
        clear hrr
        go_wp2_with (at_builtin; refine wpList_push rfl _ _ 22 rfl (w.heap.size + 1) 3 (.int .i64 0) 8 Try.underlying22 infoI rfl A1 k c1 (intV (fun i => ((slI z0 g q (S i) X : Nat) : Int))) (.int .i64 ((slI z0 g q (S k) X : Nat) : Int)) w3 rfl HO3.out rfl rfl rfl (by omega) (by omega) hsz ?_)
        intro A' c' w5 hown' hb3
        have HO5 := Lib.hid hown'
        have S5 := Lib.hid (S3.out.low' hr0.out hb3)
        clear hown' hb3
        go_wp2_with fail
        go_roundw
        case rel => exact ⟨k + 1, by omega, by go_num, ⟨_, _, rfl, HO5⟩, HX, S5⟩
        case measure => simp [intOf]; omega
    · obtain rfl : k = m := by omega
      go_wp2_with fail
      go_ret2
      exact ⟨SK.out.below, .inl ⟨HN.out, _, _, rfl, (owned_vec HO.out).row⟩⟩
set_option maxRecDepth 100000 in
set_option maxHeartbeats 2000000 in
theorem spec_isDisplacedFor (hn : n ≤ 1048576) (hs : ∀ i, i < m → (S i).size ≤ maxLen) (hk : GRow w KA m (strV S)) (hr : IRow w A n X) (hv : DiV z0 z1 z2 n X) (hkb : keysB S m = true) :
    Calls Try.prog 17 #[.agg #[.int .i64 z0, .int .i64 z1, .int .i64 z2, .slice A n c], .slice KA m kc] w (TwoIs (DifP (fun i => ((slI z0 z1.toNat z2.toNat (S i) X : Nat) : Int)) m) w) := by
  obtain ⟨g, rfl⟩ : ∃ g : Nat, z1 = g := ⟨z1.toNat, by have := hv.2.1; omega⟩
  obtain ⟨q, rfl⟩ : ∃ q : Nat, z2 = q := ⟨z2.toNat, by have := hv.2.2.1; omega⟩
  rw [Int.toNat_natCast, Int.toNat_natCast]
  have S0 := Lib.hid (BX1.start (cs := #[.int .i64 z0, .int .i64 g, .int .i64 q, .slice A n c]) (t := 40) hr)
  have HK0 := Lib.hid hk
  have HS := Lib.hid hs
  have HV := Lib.hid hv
  have hm := keysB_size hkb
  have x0 := S0.out.box.cell 0 _ rfl
  have x1 := S0.out.box.cell 1 _ rfl
  have x2 := S0.out.box.cell 2 _ rfl
  have x3 := S0.out.box.cell 3 _ rfl
  clear hr hk hs hv
  go_enter Try.func17, Try.ntmps17
  go_wp2_with fail
  refine (spec_pfDisplaced z0 g q A n c X _ hn S0.out.row).mono ?_; rintro e w1 ⟨b, rfl, hb, hw⟩
  obtain rfl : b = true := hb.2 HV.out
  have S1 := Lib.hid (S0.out.step hw)
  clear hb hw x0 x1 x2 x3 S0
  have x0 := S1.out.box.cell 0 _ rfl
  have x1 := S1.out.box.cell 1 _ rfl
  have x2 := S1.out.box.cell 2 _ rfl
  have x3 := S1.out.box.cell 3 _ rfl
  go_wp2_with fail
  refine (spec_biKeys KA m kc S _ (by omega) HS.out (HK0.out.b S1.out.below)).mono ?_; rintro e w2 ⟨rfl, rfl⟩
  rw [hkb]
  go_wp2_with fail
  refine (spec_pfSlots z0 A n c X KA m kc S _ g q hm HS.out (HK0.out.b S1.out.below) S1.out.row HV.out).mono ?_
  rintro e w3 ⟨hb, ⟨hd, A1, c1, rfl, _⟩ | ⟨hd, rfl⟩⟩
  all_goals
    have S3 := Lib.hid (S1.out.step hb)
    have HD := Lib.hid hd
    clear hb hd
    go_wp2_with fail
    go_ret2
    first
      | exact ⟨true, rfl, ⟨fun _ => HD.out, fun _ => rfl⟩, S3.out.below⟩
      | exact ⟨false, rfl, by simp only [Bool.false_eq_true, false_iff]; exact HD.out, S3.out.below⟩
end
end Go.Proofs.Ytockhjdhihehlaa
