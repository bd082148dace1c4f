/- IsOrderedFor and IsDisplacedFor: both sides. Made by tools/gendes2.py. -/
import Derived.Test.YtockhjdhihehlaaDesA
namespace Go.Proofs.Ytockhjdhihehlaa
open Go.RowKit

section
variable (z0 z1 z2 : Int) (A : Option Addr) (n c : Nat) (X : Nat → Int) (KA : Option Addr) (m kc : Nat) (S : Nat → ByteArray) (w : World)
set_option maxRecDepth 100000 in
set_option maxHeartbeats 2000000 in
theorem impl_isOrderedFor (hn : n ≤ 1048576) (hs : ∀ i, i < m → (S i).size ≤ maxLen) (hk : GRow w KA m (strV S)) (hr : IRow w A n X) (hv : OrV z0 z1 z2 n X) (hkb : keysB S m = true) :
    Calls Try.prog 24 #[.agg #[.int .i64 z0, .int .i64 z1, .int .i64 z2, .slice A n c], .slice KA m kc] w (TwoIs ((m : Int) = (z2.toNat : Int) ∧ ∀ i, i < m → ((orI z0 z1.toNat z2.toNat (S i) X : Nat) : Int) = i) w) := by
  obtain ⟨g, rfl⟩ : ∃ g : Nat, z1 = g := ⟨z1.toNat, by have := hv.2.1; omega⟩
  obtain ⟨q, rfl⟩ : ∃ q : Nat, z2 = q := ⟨z2.toNat, by have := hv.2.2.1; omega⟩
  rw [Int.toNat_natCast, Int.toNat_natCast]
  have S0 := Lib.hid (BX1.start (cs := #[.int .i64 z0, .int .i64 g, .int .i64 q, .slice A n c]) (t := 48) hr)
  have HK := Lib.hid (hk.b S0.out.below)
  have HS := Lib.hid hs
  have HV := Lib.hid hv
  have x0 := S0.out.box.cell 0 _ rfl
  have x1 := S0.out.box.cell 1 _ rfl
  have x2 := S0.out.box.cell 2 _ rfl
  have x3 := S0.out.box.cell 3 _ rfl
  clear hr hk hs hv
  go_enter Try.func24, Try.ntmps24
  go_wp2_with fail
  refine (impl_isDesignFor_Ordered z0 g q A n c X KA m kc S _ hn HS.out HK.out S0.out.row HV.out hkb).mono ?_; rintro e w1 ⟨b, rfl, hb, hw⟩
  have S1 := Lib.hid (S0.out.step hw)
  have HP := Lib.hid hb
  clear hw hb
  go_wp2_with fail
  go_ret2
  exact ⟨b, rfl, HP.out, S1.out.below⟩
set_option maxRecDepth 100000 in
set_option maxHeartbeats 2000000 in
theorem impl_isOrderedFor_no (hn : n ≤ 1048576) (hm : m ≤ 1048576) (hs : ∀ i, i < m → (S i).size ≤ maxLen) (hk : GRow w KA m (strV S)) (hr : IRow w A n X) (h : ¬ (OrV z0 z1 z2 n X ∧ keysB S m = true)) :
    Calls Try.prog 24 #[.agg #[.int .i64 z0, .int .i64 z1, .int .i64 z2, .slice A n c], .slice KA m kc] w fun e w' => e = .returned (.tuple #[.bool false, .bool false]) ∧ Below w.heap.size w w' := by
  have S0 := Lib.hid (BX1.start (cs := #[.int .i64 z0, .int .i64 z1, .int .i64 z2, .slice A n c]) (t := 48) hr)
  have HK := Lib.hid (hk.b S0.out.below)
  have HS := Lib.hid hs
  have HN := Lib.hid h
  have x0 := S0.out.box.cell 0 _ rfl
  have x1 := S0.out.box.cell 1 _ rfl
  have x2 := S0.out.box.cell 2 _ rfl
  have x3 := S0.out.box.cell 3 _ rfl
  clear hr hk hs h
  go_enter Try.func24, Try.ntmps24
  go_wp2_with fail
  refine (impl_isDesignFor_Ordered_no z0 z1 z2 A n c X KA m kc S _ hn hm HS.out HK.out S0.out.row HN.out).mono ?_; rintro e w1 ⟨rfl, hw⟩
  have S1 := Lib.hid (S0.out.step hw)
  clear hw
  go_wp2_with fail
  go_ret2
  exact ⟨rfl, S1.out.below⟩
set_option maxRecDepth 100000 in
set_option maxHeartbeats 2000000 in
theorem spec_isOrderedFor_no (hn : n ≤ 1048576) (hm : m ≤ 1048576) (hs : ∀ i, i < m → (S i).size ≤ maxLen) (hk : GRow w KA m (strV S)) (hr : IRow w A n X) (h : ¬ (OrV z0 z1 z2 n X ∧ keysB S m = true)) :
    Calls Try.prog 22 #[.agg #[.int .i64 z0, .int .i64 z1, .int .i64 z2, .slice A n c], .slice KA m kc] w fun e w' => e = .returned (.tuple #[.bool false, .bool false]) ∧ Below w.heap.size w w' := by
  have S0 := Lib.hid (BX1.start (cs := #[.int .i64 z0, .int .i64 z1, .int .i64 z2, .slice A n c]) (t := 48) hr)
  have HK := Lib.hid (hk.b S0.out.below)
  have HS := Lib.hid hs
  have x0 := S0.out.box.cell 0 _ rfl
  have x1 := S0.out.box.cell 1 _ rfl
  have x2 := S0.out.box.cell 2 _ rfl
  have x3 := S0.out.box.cell 3 _ rfl
  clear hr hk hs
  by_cases hv : OrV z0 z1 z2 n X
  · have hkb : keysB S m = false := by
      cases e : keysB S m
      · rfl
      · exact absurd ⟨hv, e⟩ h
    go_enter Try.func22, Try.ntmps22
    go_wp2_with fail
    refine (spec_pfOrdered z0 z1 z2 A n c X _ hn S0.out.row).mono ?_; rintro e w1 ⟨b, rfl, hb, hw⟩
    obtain rfl : b = true := hb.2 hv
    have S1 := Lib.hid (S0.out.step hw)
    have HK1 := Lib.hid (HK.out.b hw)
    clear hb hw x0 x1 x2 x3 S0
    go_wp2_with fail
    refine (spec_biKeys KA m kc S _ hm HS.out HK1.out).mono ?_; rintro e w2 ⟨rfl, rfl⟩
    rw [hkb]
    go_wp2_with fail
    go_ret2
    exact ⟨rfl, S1.out.below⟩
  · go_enter Try.func22, Try.ntmps22
    go_wp2_with fail
    refine (spec_pfOrdered z0 z1 z2 A n c X _ hn S0.out.row).mono ?_; rintro e w1 ⟨b, rfl, hb, hw⟩
    obtain rfl : b = false := by
      cases b
      · rfl
      · exact absurd (hb.1 rfl) hv
    have S1 := Lib.hid (S0.out.step hw)
    clear hb hw x0 x1 x2 x3 S0
    go_wp2_with fail
    go_ret2
    exact ⟨rfl, S1.out.below⟩
set_option maxRecDepth 100000 in
set_option maxHeartbeats 2000000 in
theorem spec_isOrderedFor (hn : n ≤ 1048576) (hs : ∀ i, i < m → (S i).size ≤ maxLen) (hk : GRow w KA m (strV S)) (hr : IRow w A n X) (hv : OrV z0 z1 z2 n X) (hkb : keysB S m = true) :
    Calls Try.prog 22 #[.agg #[.int .i64 z0, .int .i64 z1, .int .i64 z2, .slice A n c], .slice KA m kc] w (TwoIs ((m : Int) = (z2.toNat : Int) ∧ ∀ i, i < m → ((orI z0 z1.toNat z2.toNat (S i) X : Nat) : Int) = i) w) := by
  obtain ⟨g, rfl⟩ : ∃ g : Nat, z1 = g := ⟨z1.toNat, by have := hv.2.1; omega⟩
  obtain ⟨q, rfl⟩ : ∃ q : Nat, z2 = q := ⟨z2.toNat, by have := hv.2.2.1; omega⟩
  rw [Int.toNat_natCast, Int.toNat_natCast]
  have S0 := Lib.hid (BX1.start (cs := #[.int .i64 z0, .int .i64 g, .int .i64 q, .slice A n c]) (t := 48) hr)
  have HK0 := Lib.hid hk
  have HS := Lib.hid hs
  have HV := Lib.hid hv
  have hm := keysB_size hkb
  have x0 := S0.out.box.cell 0 _ rfl
  have x1 := S0.out.box.cell 1 _ rfl
  have x2 := S0.out.box.cell 2 _ rfl
  have x3 := S0.out.box.cell 3 _ rfl
  clear hr hk hs hv
  go_enter Try.func22, Try.ntmps22
  go_wp2_with fail
  refine (spec_pfOrdered z0 g q A n c X _ hn S0.out.row).mono ?_; rintro e w1 ⟨b, rfl, hb, hw⟩
  obtain rfl : b = true := hb.2 HV.out
  have S1 := Lib.hid (S0.out.step hw)
  clear hb hw x0 x1 x2 x3 S0
  go_wp2_with fail
  refine (spec_biKeys KA m kc S _ (by omega) HS.out (HK0.out.b S1.out.below)).mono ?_; rintro e w2 ⟨rfl, rfl⟩
  rw [hkb]
  go_wp2_with fail
  go_loopw [18] (fun i wr => ∃ k : Nat, k ≤ m ∧ i = .int .i64 k ∧ Hid (∀ i, i < k → ((orI z0 g q (S i) X : Nat) : Int) = i) ∧ Hid (BX1 w w.heap.size #[.int .i64 z0, .int .i64 g, .int .i64 q, .slice A n c] 48 A n X wr)) (fun i _ => m - (intOf i).toNat)
  case atStart => exact ⟨0, Nat.zero_le _, rfl, Lib.hid (fun i h => absurd h (by omega)), S1⟩
  case round =>
    obtain ⟨k, hk', rfl, HN, SK⟩ := hrel
    by_cases hlt : k < m
    · obtain ⟨b, off, hKA, _, hc⟩ := HK0.out.b SK.out.below (by omega)
      subst hKA
      have hck := hc k hlt
      unfold strV at hck
      have x0 := SK.out.box.cell 0 _ rfl
      have x1 := SK.out.box.cell 1 _ rfl
      have x2 := SK.out.box.cell 2 _ rfl
      have x3 := SK.out.box.cell 3 _ rfl
      have HC := Lib.hid (spec_pfOrdinal z0 g q A n c X (S k) wr (HS.out k hlt) SK.out.row HV.out)
      clear hc
      by_cases he : ((orI z0 g q (S k) X : Nat) : Int) = k
      · have HX := Lib.hid (show ∀ i, i < k + 1 → ((orI z0 g q (S i) X : Nat) : Int) = i from fun i hi => by
          by_cases e : i = k
          · subst e; exact he
          · exact HN.out i (by omega))
        rw [he] at HC
        clear he
        go_wp2_with fail
        refine HC.out.mono ?_; rintro e w3 ⟨rfl, hb⟩
        have S3 := Lib.hid (SK.out.step hb)
        clear hb
        go_wp2_with fail
        go_roundw
        case rel => exact ⟨k + 1, by omega, by go_num, HX, S3⟩
        case measure => simp [intOf]; omega
      · have HX := Lib.hid (show ¬ ∀ i, i < m → ((orI z0 g q (S i) X : Nat) : Int) = i from fun h => he (h k hlt))
        have d1 : (((orI z0 g q (S k) X : Nat) : Int) != (k : Int)) = true := by simpa using he
        have d2 : (((orI z0 g q (S k) X : Nat) : Int) == (k : Int)) = false := by simpa using he
        have d3 : ((orI z0 g q (S k) X) == k) = false := by simp; omega
        have d4 : (orI z0 g q (S k) X) ≠ k := by omega
        clear he
        go_wp2_with fail
        refine HC.out.mono ?_; rintro e w3 ⟨rfl, hb⟩
        have S3 := Lib.hid (SK.out.step hb)
        clear hb
        generalize orI z0 g q (S k) X = fk at *
        go_wp2_with fail
        go_ret2
        exact ⟨false, rfl, by simp only [Bool.false_eq_true, false_iff]; exact fun h => HX.out h.2, S3.out.below⟩
    · obtain rfl : k = m := by omega
      have x2 := SK.out.box.cell 2 _ rfl
      by_cases h2 : (k : Int) = (q : Int)
      · obtain rfl : k = q := by omega
        go_wp2_with fail
        go_ret2
        exact ⟨true, rfl, by first | exact ⟨fun _ => HN.out, fun _ => rfl⟩ | exact ⟨fun _ => ⟨rfl, HN.out⟩, fun _ => rfl⟩, SK.out.below⟩
      · have d2 : ((k : Int) == (q : Int)) = false := by simpa using h2
        have d3 : (k == q) = false := by simp; omega
        have d4 : k ≠ q := by omega
        go_wp2_with fail
        go_ret2
        exact ⟨false, rfl, by simp only [Bool.false_eq_true, false_iff]; exact fun h => h2 h.1, SK.out.below⟩
end
end Go.Proofs.Ytockhjdhihehlaa
