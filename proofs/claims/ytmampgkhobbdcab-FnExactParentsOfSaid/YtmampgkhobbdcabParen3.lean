/- What closes, what opens, what encloses, how deep: what both sides answer. -/
import Derived.Test.YtmampgkhobbdcabParen2
namespace Go.Proofs.Ytmampgkhobbdcab
open Go.RowKit

set_option maxHeartbeats 400000 in
theorem impl_close_yes (z i q : Nat) (A : Option Addr) (n c : Nat) (X : Nat → Int) (w : World) (hn : n ≤ 1048576) (hr : IRow w A n X) (h : Opens z n X i true) (hm : Mate (wd X) i q) :
    Calls Try.prog 19 #[.agg #[.int .i64 z, .slice A n c], .int .i64 i] w fun e w' => e = .returned (.tuple #[.int .i64 q, .bool true]) ∧ Below w.heap.size w w' := by
  have L0 := Lib.hid (LS.start (z := (z : Int)) (c := c) hr 28)
  have H := Lib.hid h
  have hi : i < z := by have := h.2.2.2.1; omega
  clear hr h
  go_enter Try.func19, Try.ntmps19
  go_wp2_with fail
  refine (impl_partnersFor_yes z i A n c X true _ hn L0.out.row H.out).mono ?_; rintro e w1 ⟨A', c', P, rfl, hP, hM, hb⟩
  have L1 := Lib.hid (L0.out.step hb)
  obtain ⟨q', hq, _, hm'⟩ := hM.on i hi (by simpa using H.out.2.2.2.2)
  obtain rfl := hm'.uniq_r hm
  obtain ⟨b, off, rfl, _, hc⟩ := hP (by omega)
  have hci := hc i hi
  rw [hq] at hci
  clear hb L0 hc
  go_wp2_with fail
  go_ret2
  exact ⟨rfl, L1.out.below⟩
set_option maxHeartbeats 400000 in
theorem impl_open_yes (z i q : Nat) (A : Option Addr) (n c : Nat) (X : Nat → Int) (w : World) (hn : n ≤ 1048576) (hr : IRow w A n X) (h : Opens z n X i false) (hm : Mate (wd X) q i) :
    Calls Try.prog 21 #[.agg #[.int .i64 z, .slice A n c], .int .i64 i] w fun e w' => e = .returned (.tuple #[.int .i64 q, .bool true]) ∧ Below w.heap.size w w' := by
  have L0 := Lib.hid (LS.start (z := (z : Int)) (c := c) hr 28)
  have H := Lib.hid h
  have hi : i < z := by have := h.2.2.2.1; omega
  clear hr h
  go_enter Try.func21, Try.ntmps21
  go_wp2_with fail
  refine (impl_partnersFor_yes z i A n c X false _ hn L0.out.row H.out).mono ?_; rintro e w1 ⟨A', c', P, rfl, hP, hM, hb⟩
  have L1 := Lib.hid (L0.out.step hb)
  obtain ⟨q', hq, hm'⟩ := hM.off i hi (by simpa using H.out.2.2.2.2)
  obtain rfl := hm'.uniq_l hm
  obtain ⟨b, off, rfl, _, hc⟩ := hP (by omega)
  have hci := hc i hi
  rw [hq] at hci
  clear hb L0 hc
  go_wp2_with fail
  go_ret2
  exact ⟨rfl, L1.out.below⟩
set_option maxHeartbeats 400000 in
theorem impl_close_no (z i : Int) (A : Option Addr) (n c : Nat) (X : Nat → Int) (w : World) (hn : n ≤ 1048576) (hr : IRow w A n X) (h : ¬ Opens z n X i true) :
    Calls Try.prog 19 #[.agg #[.int .i64 z, .slice A n c], .int .i64 i] w fun e w' => e = .returned (.tuple #[.int .i64 0, .bool false]) ∧ Below w.heap.size w w' := by
  have L0 := Lib.hid (LS.start (z := z) (c := c) hr 28)
  have H := Lib.hid h
  clear hr h
  go_enter Try.func19, Try.ntmps19
  go_wp2_with fail
  refine (impl_partnersFor_no z i A n c X true _ hn L0.out.row H.out).mono ?_; rintro e w1 ⟨rfl, hb⟩
  have L1 := Lib.hid (L0.out.step hb)
  clear hb L0
  go_wp2_with fail
  go_ret2
  exact ⟨rfl, L1.out.below⟩
set_option maxHeartbeats 400000 in
theorem impl_open_no (z i : Int) (A : Option Addr) (n c : Nat) (X : Nat → Int) (w : World) (hn : n ≤ 1048576) (hr : IRow w A n X) (h : ¬ Opens z n X i false) :
    Calls Try.prog 21 #[.agg #[.int .i64 z, .slice A n c], .int .i64 i] w fun e w' => e = .returned (.tuple #[.int .i64 0, .bool false]) ∧ Below w.heap.size w w' := by
  have L0 := Lib.hid (LS.start (z := z) (c := c) hr 28)
  have H := Lib.hid h
  clear hr h
  go_enter Try.func21, Try.ntmps21
  go_wp2_with fail
  refine (impl_partnersFor_no z i A n c X false _ hn L0.out.row H.out).mono ?_; rintro e w1 ⟨rfl, hb⟩
  have L1 := Lib.hid (L0.out.step hb)
  clear hb L0
  go_wp2_with fail
  go_ret2
  exact ⟨rfl, L1.out.below⟩
set_option maxHeartbeats 400000 in
theorem spec_close_yes (z i q : Nat) (A : Option Addr) (n c : Nat) (X : Nat → Int) (w : World) (hn : n ≤ 1048576) (hr : IRow w A n X) (h : Opens z n X i true) (hq : q < z) (hm : Mate (wd X) i q) :
    Calls Try.prog 18 #[.agg #[.int .i64 z, .slice A n c], .int .i64 i] w fun e w' => e = .returned (.tuple #[.int .i64 q, .bool true]) ∧ Below w.heap.size w w' := by
  have L0 := Lib.hid (LS.start (z := (z : Int)) (c := c) hr 28)
  have H := Lib.hid h
  have hz : z ≤ 16 * n := by have := h.1.2.2.1; omega
  have hz1 : z ≤ 4096 := by have := h.1.2.1; omega
  clear hr h
  go_enter Try.func18, Try.ntmps18
  go_wp2_with fail
  refine ((BoolIs.two (spec_raOpens z A n c X i _ hn L0.out.row)).1 H.out).mono ?_; rintro e w1 ⟨rfl, hb⟩
  have L1 := Lib.hid (L0.out.step hb)
  clear hb L0
  obtain ⟨hs1, c0, c1⟩ := L1.out.box
  go_wp2_with fail
  refine (spec_raClose z A n c (wd X) i q _ hn (good_row H.out.1 L1.out.row) (by omega) (by omega) hm).mono ?_; rintro e w2 ⟨rfl, hb⟩
  have L2 := Lib.hid (L1.out.step hb)
  clear hb
  go_wp2_with fail
  go_ret2
  exact ⟨rfl, L2.out.below⟩
set_option maxHeartbeats 400000 in
theorem spec_close_no (z i : Int) (A : Option Addr) (n c : Nat) (X : Nat → Int) (w : World) (hn : n ≤ 1048576) (hr : IRow w A n X) (h : ¬ Opens z n X i true) :
    Calls Try.prog 18 #[.agg #[.int .i64 z, .slice A n c], .int .i64 i] w fun e w' => e = .returned (.tuple #[.int .i64 0, .bool false]) ∧ Below w.heap.size w w' := by
  have L0 := Lib.hid (LS.start (z := z) (c := c) hr 28)
  have H := Lib.hid h
  clear hr h
  go_enter Try.func18, Try.ntmps18
  go_wp2_with fail
  refine ((BoolIs.two (spec_raOpens z A n c X i _ hn L0.out.row)).2 H.out).mono ?_; rintro e w1 ⟨rfl, hb⟩
  have L1 := Lib.hid (L0.out.step hb)
  clear hb L0
  go_wp2_with fail
  go_ret2
  exact ⟨rfl, L1.out.below⟩
set_option maxHeartbeats 1000000 in
theorem spec_open_yes (z i q : Nat) (A : Option Addr) (n c : Nat) (X : Nat → Int) (w : World) (hn : n ≤ 1048576) (hr : IRow w A n X) (h : Opens z n X i false) (hm : Mate (wd X) q i) :
    Calls Try.prog 20 #[.agg #[.int .i64 z, .slice A n c], .int .i64 i] w fun e w' => e = .returned (.tuple #[.int .i64 q, .bool true]) ∧ Below w.heap.size w w' := by
  have L0 := Lib.hid (LS.start (z := (z : Int)) (c := c) hr 28)
  have H := Lib.hid h
  have HM := Lib.hid hm
  have hqi := hm.1
  have hz : z ≤ 16 * n := by have := h.1.2.2.1; omega
  have hz1 : z ≤ 4096 := by have := h.1.2.1; omega
  have hi : i < z := by have := h.2.2.2.1; omega
  have hbit : bitN (wd X) i = false := by simpa using h.2.2.2.2
  have hRoom : Room z n X i 1 := room_one.2 ⟨h.1, by omega, by omega⟩
  have HR := Lib.hid hRoom
  clear hr h hm hRoom
  go_enter Try.func20, Try.ntmps20
  go_wp2_with fail
  refine ((BoolIs.two (spec_biHas z A n c X i _ hn L0.out.row)).1 HR.out).mono ?_; rintro e w1 ⟨rfl, hb⟩
  have L1 := Lib.hid (L0.out.step hb)
  clear hb L0
  obtain ⟨hs1, c0, c1⟩ := L1.out.box
  go_wp2_with fail
  refine ((BoolIs.two (spec_raBalanced z A n c (wd X) _ hn (good_row H.out.1 L1.out.row) hz hz1)).1 (by simpa using H.out.2.1)).mono ?_; rintro e w2 ⟨rfl, hb⟩
  have L2 := Lib.hid (L1.out.step hb)
  clear hb L1 c0 c1 hs1
  obtain ⟨hs1, c0, c1⟩ := L2.out.box
  go_wp2_with fail
  refine (spec_biAt z A n c (wd X) i _ hn (good_row H.out.1 L2.out.row) (by omega)).mono ?_; rintro e w3 ⟨rfl, hb⟩
  rw [hbit]
  have L3 := Lib.hid (L2.out.step hb)
  clear hb L2 c0 c1 hs1
  go_wp2_with fail
  have hx0 := Lib.hid (exc_off hbit)
  have hM1 := Lib.hid HM.out.2.1
  go_loopw [6, 7] (fun x k wr => ∃ (j : Nat) (E : Int), q ≤ j ∧ j ≤ i ∧ k = .int .i64 j ∧ x = .int .i64 E ∧ 0 ≤ E ∧ E ≤ i - j + 1 ∧ (q < j → 0 < E) ∧ Hid (E = exc (wd X) j - exc (wd X) q) ∧ LS w w.heap.size z A n c X wr) (fun _ k _ => (intOf k).toNat)
  case atStart => exact ⟨i, 1, by omega, by omega, rfl, rfl, by omega, by omega, fun _ => by omega, (by show _ = _; have := hx0.out; have := hM1.out; omega), L3.out⟩
  case round =>
    obtain ⟨j, E, hj0, hj, rfl, rfl, hE0, hE1, hE2, hE, hl⟩ := hrel
    have L1 := Lib.hid hl
    obtain ⟨hs1, c0, c1⟩ := hl.box
    clear hl L3
    by_cases hlt : q < j
    · have hpos := hE2 hlt
      clear hE2
      obtain ⟨j, rfl⟩ : ∃ m, j = m + 1 := ⟨j - 1, by omega⟩
      have ek : ((j + 1 : Nat) : Int) - 1 = (j : Int) := by omega
      have HP := Lib.hid (fun (h : q < j) => HM.out.2.2 j (by omega) (by omega))
      have HE := Lib.hid (show 0 ≤ exc (wd X) j - exc (wd X) q by
        by_cases e : j = q
        · rw [e]; omega
        · have := HP.out (by omega); omega)
      by_cases hbit2 : bitN (wd X) j = true
      · have hx := Lib.hid (exc_on hbit2)
        go_wp2_with fail
        refine (spec_biAt z A n c (wd X) j _ hn (good_row H.out.1 L1.out.row) (by omega)).mono ?_; rintro e w2 ⟨rfl, hb⟩
        have L2 := Lib.hid (L1.out.step hb)
        clear hb L1
        go_wp2_with fail
        go_roundw
        case rel => exact ⟨j, E - 1, by omega, by omega, by go_num, by go_num, by omega, by omega, fun h => (by have := HP.out h; have := hE.out; have := hx.out; omega), (by show _ = _; have := hE.out; have := hx.out; omega), L2.out⟩
        case measure => simp [intOf]
      · have hbit2 : bitN (wd X) j = false := by simpa using hbit2
        have hx := Lib.hid (exc_off hbit2)
        go_wp2_with fail
        refine (spec_biAt z A n c (wd X) j _ hn (good_row H.out.1 L1.out.row) (by omega)).mono ?_; rintro e w2 ⟨rfl, hb⟩
        have L2 := Lib.hid (L1.out.step hb)
        clear hb L1
        go_wp2_with fail
        go_roundw
        case rel => exact ⟨j, E + 1, by omega, by omega, by go_num, by go_num, by omega, by omega, fun h => (by omega), (by show _ = _; have := hE.out; have := hx.out; omega), L2.out⟩
        case measure => simp [intOf]
    · obtain rfl : j = q := by omega
      have h0 : E = 0 := by rw [hE.out]; omega
      subst h0
      go_wp2_with fail
      go_ret2
      exact ⟨rfl, L1.out.below⟩
set_option maxHeartbeats 1000000 in
theorem spec_open_no (z i : Int) (A : Option Addr) (n c : Nat) (X : Nat → Int) (w : World) (hn : n ≤ 1048576) (hr : IRow w A n X) (h : ¬ Opens z n X i false) :
    Calls Try.prog 20 #[.agg #[.int .i64 z, .slice A n c], .int .i64 i] w fun e w' => e = .returned (.tuple #[.int .i64 0, .bool false]) ∧ Below w.heap.size w w' := by
  have L0 := Lib.hid (LS.start (z := z) (c := c) hr 28)
  have H := Lib.hid h
  clear hr h
  by_cases hR : Room z n X i 1
  · have hg := hR.1
    have h0 := (room_one.1 hR).2.1
    have h1 := (room_one.1 hR).2.2
    obtain ⟨z, rfl⟩ := Int.eq_ofNat_of_zero_le hg.1
    obtain ⟨i, rfl⟩ := Int.eq_ofNat_of_zero_le h0
    have hz : z ≤ 16 * n := by have := hg.2.2.1; omega
    have hz1 : z ≤ 4096 := by have := hg.2.1; omega
    have HG := Lib.hid hg
    have HR := Lib.hid hR
    clear hg hR
    go_enter Try.func20, Try.ntmps20
    go_wp2_with fail
    refine ((BoolIs.two (spec_biHas z A n c X i _ hn L0.out.row)).1 HR.out).mono ?_; rintro e w1 ⟨rfl, hb⟩
    have L1 := Lib.hid (L0.out.step hb)
    clear hb L0
    obtain ⟨hs1, c0, c1⟩ := L1.out.box
    go_wp2_with fail
    refine (spec_raBalanced z A n c (wd X) _ hn (good_row HG.out L1.out.row) hz hz1).mono ?_; rintro e w2 ⟨b, rfl, hb', hb⟩
    have HB := Lib.hid hb'
    have L2 := Lib.hid (L1.out.step hb)
    clear hb hb' c0 c1 hs1 L1
    obtain ⟨hs1, c0, c1⟩ := L2.out.box
    cases b with
    | true =>
      have hbit : bitN (wd X) i = true := by
        by_cases e : bitN (wd X) i = true
        · exact e
        · have hb := HB.out
          simp at hb
          exact absurd ⟨HG.out, by simpa using hb, h0, by omega, by simpa using e⟩ H.out
      go_wp2_with fail
      refine (spec_biAt z A n c (wd X) i _ hn (good_row HG.out L2.out.row) (by omega)).mono ?_; rintro e w3 ⟨rfl, hb⟩
      rw [hbit]
      have L3 := Lib.hid (L2.out.step hb)
      clear hb
      go_wp2_with fail
      go_ret2
      exact ⟨rfl, L3.out.below⟩
    | false =>
      go_wp2_with fail
      go_ret2
      exact ⟨rfl, L2.out.below⟩
  · have HR := Lib.hid hR
    clear hR
    go_enter Try.func20, Try.ntmps20
    go_wp2_with fail
    refine ((BoolIs.two (spec_biHas z A n c X i _ hn L0.out.row)).2 HR.out).mono ?_; rintro e w1 ⟨rfl, hb⟩
    have L1 := Lib.hid (L0.out.step hb)
    clear hb L0
    go_wp2_with fail
    go_ret2
    exact ⟨rfl, L1.out.below⟩
end Go.Proofs.Ytmampgkhobbdcab
