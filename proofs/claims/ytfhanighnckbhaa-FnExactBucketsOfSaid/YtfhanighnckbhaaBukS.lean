/- BucketsOf: the model's. -/
import Derived.Test.YtfhanighnckbhaaBuk
namespace Go.Proofs.Ytfhanighnckbhaa
open Go.RowKit

set_option maxRecDepth 100000 in
set_option maxHeartbeats 1000000 in
theorem spec_l1OwnB (A : Option Addr) (n c : Nat) (X : Nat → Int) (w : World) (hn : n ≤ 4096) (hr : IRow w A n X) :
    Calls Try.prog 111 #[.slice A n c] w fun e w' => ∃ A' c', e = .returned (.slice A' n c') ∧ w'.ownsRow w.heap.size 3 1 (.slice A' n c') n (vals (intV X) n) ∧ Below w.heap.size w w' := by
  have HR := Lib.hid (hr.b ((Below.refl _ _).alloc (Nat.le_refl _) (.cells #[] 3)))
  have HO := Lib.hid (World.ownsRow_made (e := 3) (size := 1) w #[] 0 (Nat.le_refl _) (by simp [maxLen]) (by simp))
  clear hr
  go_enter Try.func111, Try.ntmps111
  go_wp2_with (at_builtin; refine wpList_append_vals rfl _ _ 47 rfl w.heap.size 3 (.int .i64 0) 8 Try.underlying47 infoI rfl (F := intV X) (G := intV X) rfl rfl HO.out HR.out (fun _ _ => rfl) (by omega) (by omega) (by simp) ?_)
  intro A' c' w' hown hb
  have HO2 := Lib.hid hown
  have HB := Lib.hid (((Below.refl w.heap.size w).alloc (Nat.le_refl _) (.cells #[] 3)).trans hb)
  clear hown hb
  go_wp2_with fail
  go_ret
  refine ⟨A', c', by first | rfl | (rw [Nat.zero_add]), ?_, HB.out⟩
  have h := HO2.out
  rw [vals_congr (F := catV (intV X) (intV X) 0) (G := intV X) (fun i _ => by unfold catV; simp)] at h
  exact h
theorem BI.fresh {w wr w5 : World} {R P q c' m : Nat} {L L' : Nat → Nat} {V V' : Nat → Nat → Int} {D : Nat → Option Addr} {dd : Nat → Nat} {A' : Option Addr} (h : BI w R P L V D dd wr) (hq : q < P)
    (ho : w5.ownsRow wr.heap.size 3 1 (.slice A' m c') m (vals (intV (V' q)) m)) (hb : Below wr.heap.size wr w5)
    (hL : ∀ b, b ≠ q → L' b = L b) (hLq : L' q = m) (hV : ∀ b, b ≠ q → V' b = V b) :
    BI w R P L' V' (updB D q A') (updB dd q c') (w5.setCell ⟨R, q, none⟩ (.slice A' m c')) := by
  have hge := h.ge
  have hlt := h.out.lt
  have hsl : ∀ b, b ≠ q → (Value.slice (updB D q A' b) (L' b) (updB dd q c' b)) = .slice (D b) (L b) (dd b) := fun b hb => by unfold updB; rw [if_neg hb, if_neg hb, hL b hb]
  have hsq : (Value.slice (updB D q A' q) (L' q) (updB dd q c' q)) = .slice A' m c' := by unfold updB; rw [if_pos rfl, if_pos rfl, hLq]
  refine ⟨below_setAt (h.below.trans (hb.mono (by omega))) h.ge _, ?_, h.ge, ?_, ?_⟩
  · exact ((h.out.b hb).set q (.slice A' m c')).congr (fun j hj => by
      by_cases e : j = q
      · subst e; rw [if_pos rfl]; exact hsq.symm
      · rw [if_neg e]; exact (hsl j e).symm)
  · intro b hbP
    by_cases e : b = q
    · subst e
      rw [hsq, hLq]
      exact own_setB (owned_low ho (by omega)) (by omega) _
    · rw [hsl b e, hL b e, hV b e]
      exact own_setB (owned_b (h.inn b hbP) hb) (by omega) _
  · intro a b ha hbP hne g h1 h2
    by_cases ea : a = q
    · subst ea
      rw [hsq] at h1
      rw [hsl b (fun e => hne e.symm)] at h2
      have k1 := (ho.lt g h1).1
      have k2 := ((h.inn b hbP).lt g h2).2
      omega
    · by_cases eb : b = q
      · subst eb
        rw [hsq] at h2
        rw [hsl a ea] at h1
        have k1 := (ho.lt g h2).1
        have k2 := ((h.inn a ha).lt g h1).2
        omega
      · rw [hsl a ea] at h1
        rw [hsl b eb] at h2
        exact h.apart a b ha hbP hne g h1 h2
section
variable (sd : Int) (KA : Option Addr) (n kc : Nat) (S : Nat → ByteArray) (w : World)
set_option maxRecDepth 100000 in
set_option maxHeartbeats 4000000 in
theorem spec_pfBuckets (P : Nat) (hn : n ≤ 40) (hs : ∀ i, i < n → (S i).size ≤ maxLen) (hr : GRow w KA n (strV S)) (hsd : seedB sd 0 = true) (p1 : 1 ≤ P) (p2 : P ≤ 24) :
    Calls Try.prog 87 #[.int .i64 sd, .slice KA n kc, .int .i64 P] w fun e w' => e = .returned (.slice (some ⟨w.heap.size, 0, none⟩) P P) ∧ HRow w' (some ⟨w.heap.size, 0, none⟩) P (fun b => (bkL (plF sd 0 S P) n b).length) (fun b => lstV (bkL (plF sd 0 S P) n b)) ∧ Below w.heap.size w w' := by
  have HR := Lib.hid hr
  have HS := Lib.hid hs
  have hmk := fun W => run_make_row' (P := Try.prog) 24 47 (.slice none 0 0) 24 Try.underlying24 infoSl rfl .i64 .i64 P (by omega) (by omega) W
  have B0 := Lib.hid (BI.start w P (fun b => lstV (bkL (plF sd 0 S P) 0 b)))
  have HBD := Lib.hid (fun i => plF_bd sd 0 S P i (by omega))
  have HC := Lib.hid (fun i (hi : i < n) W => spec_biPlace sd 0 P (S i) W (hs i hi) hsd (by omega) (by omega))
  have HFD := Lib.hid (show ∀ i, placeI sd 0 (S i).data.toList P = plF sd 0 S P i from fun _ => rfl)
  clear hr hs
  obtain ⟨F, hF⟩ : ∃ F, F = plF sd 0 S P := ⟨_, rfl⟩
  rw [← hF] at B0 HBD HFD ⊢
  clear hF
  go_enter Try.func87, Try.ntmps87
  go_wp2_with fail
  go_loopw [16] (fun i wr => ∃ (k : Nat) (D : Nat → Option Addr) (dd : Nat → Nat), k ≤ n ∧ i = .int .i64 k ∧ Hid (BI w w.heap.size P (fun b => (bkL F k b).length) (fun b => lstV (bkL F k b)) D dd wr)) (fun i _ => n - (intOf i).toNat)
  case atStart => exact ⟨0, _, _, Nat.zero_le _, rfl, B0⟩
  case round =>
    obtain ⟨k, D, dd, hkn, rfl, HB⟩ := hrel
    by_cases hlt : k < n
    · obtain ⟨b, off, hKA, _, hc⟩ := HR.out.below HB.out.below (Nat.le_refl _) (by omega)
      subst hKA
      have hck := hc k hlt
      unfold strV at hck
      obtain ⟨q, hq, hqP⟩ := HBD.out k
      have HC1 := Lib.hid (HC.out k hlt wr)
      rw [HFD.out k, hq] at HC1
      have HLQ := Lib.hid (show bkL F (k + 1) q = bkL F k q ++ [k] by rw [bkL, if_pos hq])
      have HLO := Lib.hid (show ∀ b, b ≠ q → bkL F (k + 1) b = bkL F k b from fun b hb => by rw [bkL, if_neg (by rw [hq]; omega)])
      have hlen := bkL_len F q k
      have hx : wr.cell? ⟨w.heap.size, q, none⟩ = some (.slice (D q) (bkL F k q).length (dd q)) := HB.out.out.cell hqP
      have hxl := HB.out.out.lt
      have HIN := Lib.hid (show IRow wr (D q) (bkL F k q).length (lstV (bkL F k q)) from (owned_vec (HB.out.inn q hqP)).row)
      have HW := Lib.hid (show intV (lstV (bkL F k q ++ [k])) (bkL F k q).length = .int .i64 (k : Int) by unfold intV; rw [lstV_new])
      clear hc hq
      go_wp2_with fail
      refine HC1.out.mono ?_; rintro e w2 ⟨rfl, rfl⟩
      go_wp2_with fail
      refine (spec_l1OwnB (D q) (bkL F k q).length (dd q) (lstV (bkL F k q)) _ (by omega) HIN.out).mono ?_; rintro e w4 ⟨A2, c2, rfl, ho2, hb2⟩
      have HP := Lib.hid (push_lst (x := k) ho2)
      have HB2 := Lib.hid hb2
      have hs2 := hb2.size
      clear ho2 hb2
      go_wp2_with (at_builtin; refine wpList_push3 rfl _ _ 47 rfl wr.heap.size 3 (.int .i64 0) 8 Try.underlying47 infoI rfl A2 (bkL F k q).length c2 (intV (lstV (bkL F k q ++ [k]))) (.int .i64 (k : Int)) _ rfl HP.out rfl HW.out rfl (by omega) (by omega) (by omega) ?_)
      intro A' c' w5 hown' hb5 _ _
      have O5 := HB.out.out.of_block ((hb5.block w.heap.size (by omega)).trans (HB2.out.block w.heap.size (by omega)))
      have x5 := O5.cell hqP
      have f5 := O5.frozen q
      have HB5 := Lib.hid (HB.out.fresh (L' := fun b => (bkL F (k + 1) b).length) (V' := fun b => lstV (bkL F (k + 1) b)) hqP (by show World.ownsRow _ _ _ _ _ _ (vals (intV (lstV (bkL F (k + 1) q))) _); rw [HLQ.out]; exact hown') (HB2.out.trans hb5) (fun b hb => by show (bkL F (k + 1) b).length = _; rw [HLO.out b hb]) (by show (bkL F (k + 1) q).length = _; rw [HLQ.out]; simp) (fun b hb => by show lstV (bkL F (k + 1) b) = _; rw [HLO.out b hb]))
      clear hown' hb5 O5
      go_wp2_with fail
      go_roundw
      case rel => exact ⟨k + 1, _, _, by omega, by go_num, HB5⟩
      case measure => simp [intOf]; omega
    · obtain rfl : k = n := by omega
      go_wp2_with fail
      go_ret
      exact ⟨rfl, ⟨D, dd, HB.out.out.row, fun i hi => (owned_vec (HB.out.inn i hi)).row⟩, HB.out.below⟩
set_option maxRecDepth 100000 in
set_option maxHeartbeats 2000000 in
theorem spec_bucketsOf (P : Nat) (hs : ∀ i, i < n → (S i).size ≤ maxLen) (hr : GRow w KA n (strV S)) (h : BkOk sd S n P) :
    Calls Try.prog 52 #[.int .i64 sd, .slice KA n kc, .int .i64 P] w fun e w' => ∃ A c, e = .returned (.tuple #[.slice A P c, .bool true]) ∧ HRow w' A P (fun b => (bkL (plF sd 0 S P) n b).length) (fun b => lstV (bkL (plF sd 0 S P) n b)) ∧ Below w.heap.size w w' := by
  have HR := Lib.hid hr
  have HS := Lib.hid hs
  obtain ⟨hsd, hk, p1, p2⟩ := h
  have hn := keysB_size hk
  have hs0 : 0 ≤ sd ∧ sd ≤ 9999 := by unfold seedB at hsd; simp only [decide_eq_true_eq] at hsd; omega
  have H0 := Lib.hid hs0
  clear hr hs hs0
  go_enter Try.func52, Try.ntmps52
  go_wp2_with fail
  refine (l1In_yes _ _ _ _ H0.out.1 H0.out.2).mono ?_; rintro e w1 ⟨rfl, rfl⟩
  go_wp2_with fail
  refine (spec_biKeys KA n kc S _ (by omega) HS.out HR.out).mono ?_; rintro e w1 ⟨rfl, rfl⟩
  rw [hk]
  go_wp2_with fail
  refine (l1In_yes _ _ _ _ p1 p2).mono ?_; rintro e w1 ⟨rfl, rfl⟩
  go_wp2_with fail
  refine (spec_pfBuckets sd KA n kc S _ P hn HS.out HR.out hsd (by omega) (by omega)).mono ?_; rintro e w1 ⟨rfl, hh, hb⟩
  have HH := Lib.hid hh
  have HB := Lib.hid hb
  clear hh hb
  go_wp2_with fail
  go_ret2
  exact ⟨_, _, rfl, HH.out, HB.out⟩
set_option maxRecDepth 100000 in
set_option maxHeartbeats 2000000 in
theorem spec_bucketsOf_no (P : Int) (hn : n ≤ 1048576) (hs : ∀ i, i < n → (S i).size ≤ maxLen) (hr : GRow w KA n (strV S)) (h : ¬ BkOk sd S n P) :
    Calls Try.prog 52 #[.int .i64 sd, .slice KA n kc, .int .i64 P] w fun e w' => ∃ A c, e = .returned (.tuple #[.slice A 0 c, .bool false]) ∧ HRow w' A 0 (fun _ => 0) (fun _ _ => 0) ∧ Below w.heap.size w w' := by
  have HR := Lib.hid hr
  have HS := Lib.hid hs
  have HNO := Lib.hid (fun (W : World) => (show HRow W none 0 (fun _ => 0) (fun _ _ => 0) from ⟨fun _ => none, fun _ => 0, GRow.zero, fun i hi => absurd hi (by omega)⟩))
  clear hr hs
  by_cases h0 : 0 ≤ sd ∧ sd ≤ 9999
  rotate_left
  · go_enter Try.func52, Try.ntmps52
    go_wp2_with fail
    refine (l1In_no _ _ _ _ h0).mono ?_; rintro e w1 ⟨rfl, rfl⟩
    go_wp2_with fail
    go_ret2
    exact ⟨none, 0, rfl, HNO.out _, Below.refl _ _⟩
  have hsd : seedB sd 0 = true := by unfold seedB; simp only [decide_eq_true_eq]; omega
  cases hk : keysB S n with
  | false =>
    go_enter Try.func52, Try.ntmps52
    go_wp2_with fail
    refine (l1In_yes _ _ _ _ h0.1 h0.2).mono ?_; rintro e w1 ⟨rfl, rfl⟩
    go_wp2_with fail
    refine (spec_biKeys KA n kc S _ hn HS.out HR.out).mono ?_; rintro e w1 ⟨rfl, rfl⟩
    rw [hk]
    go_wp2_with fail
    go_ret2
    exact ⟨none, 0, rfl, HNO.out _, Below.refl _ _⟩
  | true =>
    have hp : ¬ (1 ≤ P ∧ P ≤ 24) := fun hp => h ⟨hsd, hk, hp.1, hp.2⟩
    go_enter Try.func52, Try.ntmps52
    go_wp2_with fail
    refine (l1In_yes _ _ _ _ h0.1 h0.2).mono ?_; rintro e w1 ⟨rfl, rfl⟩
    go_wp2_with fail
    refine (spec_biKeys KA n kc S _ hn HS.out HR.out).mono ?_; rintro e w1 ⟨rfl, rfl⟩
    rw [hk]
    go_wp2_with fail
    refine (l1In_no _ _ _ _ hp).mono ?_; rintro e w1 ⟨rfl, rfl⟩
    go_wp2_with fail
    go_ret2
    exact ⟨none, 0, rfl, HNO.out _, Below.refl _ _⟩
end
end Go.Proofs.Ytfhanighnckbhaa
