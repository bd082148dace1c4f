/- The keys of a front: the model's. -/
import Derived.Test.YthaipemgndahfaaFrK
namespace Go.Proofs.Ythaipemgndahfaa
open Go.RowKit

theorem frS_size {K : Nat → Int} {T : Nat → ByteArray} {k : Nat} (h : 0 ≤ K k) (h2 : K k ≤ ((frS K T k).size : Int)) : ((frS K T (k + 1)).size : Int) = K k + ((T k).size : Int) := by
  show (((frS K T k).extract 0 (K k).toNat ++ T k).size : Int) = _
  simp; omega
section
variable {z : Int} {A : Option Addr} {n c : Nat} {K : Nat → Int} {B : Option Addr} {m d : Nat} {T : Nat → ByteArray} {w : World}
set_option maxRecDepth 100000 in
set_option maxHeartbeats 4000000 in
theorem spec_trFronted (hn : n ≤ 1048576) (hm : m ≤ 1048576) (h1 : IRow w A n K) (h2 : GRow w B m (strV T)) :
    Calls Try.prog 50 #[.agg #[.int .i64 z, .slice A n c, .slice B m d]] w (FkIs z n K m T w) := by
  have C0 := Lib.hid (FL.start (z := z) (c := c) (d := d) h1 h2 26)
  have R1 := Lib.hid h1
  have R2 := Lib.hid h2
  clear h1 h2
  have k0 := C0.out.c0
  have k1 := C0.out.c1
  have k2 := C0.out.c2
  by_cases hz : 1 ≤ z ∧ z ≤ 16
  rotate_left
  · have HN := Lib.hid (show ¬ FrV z n K m T from fun h => hz ⟨h.1, h.2.1⟩)
    go_enter Try.func50, Try.ntmps50
    go_wp2_with fail
    refine (l1In_no _ _ _ _ hz).mono ?_; rintro e w' ⟨rfl, rfl⟩
    go_wp2_with fail
    go_ret2
    exact .inr ⟨HN.out, ⟨_, rfl⟩, C0.out.below⟩
  obtain ⟨zz, rfl⟩ : ∃ zz : Nat, z = zz := ⟨z.toNat, by omega⟩
  by_cases hnm : n = m
  rotate_left
  · have e0 : ((n : Int) != (m : Int)) = true := by simp; omega
    have HN := Lib.hid (show ¬ FrV zz n K m T from fun h => hnm h.2.2.1)
    clear hnm
    go_enter Try.func50, Try.ntmps50
    go_wp2_with fail
    refine (l1In_yes _ _ _ _ hz.1 hz.2).mono ?_; rintro e w' ⟨rfl, rfl⟩
    go_wp2_with fail
    go_ret2
    exact .inr ⟨HN.out, ⟨_, rfl⟩, C0.out.below⟩
  subst hnm
  by_cases h40 : 40 < n
  · have e0 : decide ((40 : Int) < (n : Int)) = true := by simp; omega
    have HN := Lib.hid (show ¬ FrV zz n K n T from fun h => by have := h.n40; omega)
    go_enter Try.func50, Try.ntmps50
    go_wp2_with fail
    refine (l1In_yes _ _ _ _ hz.1 hz.2).mono ?_; rintro e w' ⟨rfl, rfl⟩
    go_wp2_with fail
    go_ret2
    exact .inr ⟨HN.out, ⟨_, rfl⟩, C0.out.below⟩
  have e40 : decide ((40 : Int) < (n : Int)) = false := by simp; omega
  have hn40 : n ≤ 40 := by omega
  go_enter Try.func50, Try.ntmps50
  go_wp2_with fail
  refine (l1In_yes _ _ _ _ hz.1 hz.2).mono ?_; rintro e w' ⟨rfl, rfl⟩
  go_wp2_with fail
  generalize w.alloc (.cells #[.int .i64 (zz : Int), .slice A n c, .slice B n d] 26) = w1 at *
  clear k0 k1 k2
  go_loopw [4, 5, 31] (fun l s i wr => ∃ (k : Nat) (A1 : Option Addr) (c1 : Nat), k ≤ n ∧ i = .int .i64 k ∧ s = .string (frS K T k) ∧ l = .slice A1 k c1 ∧ Hid (∀ j, j < k → 0 ≤ K j ∧ K j ≤ ((frS K T j).size : Int) ∧ (frS K T j).size ≤ 12 * j) ∧ (frS K T k).size ≤ 12 * k ∧ Hid (FL w zz A n c K B n d T wr) ∧ Hid (wr.ownsRow (w.heap.size + 1) 9 1 (.slice A1 k c1) k (vals (strV (frK K T)) k))) (fun _ _ i _ => n - (intOf i).toNat)
  case atStart => exact ⟨0, none, 0, Nat.zero_le _, rfl, rfl, rfl, Lib.hid (fun i hi => absurd hi (Nat.not_lt_zero _)), by simp [frS], C0, Lib.hid (World.ownsRow_nil _ _ _ _)⟩
  case round =>
    obtain ⟨k, A1, c1, hk, rfl, rfl, rfl, HU, hsz, HC, HO⟩ := hrel
    have k0 := HC.out.c0
    have k1 := HC.out.c1
    have k2 := HC.out.c2
    have hsw := HC.out.size
    by_cases hlt : k < n
    · obtain ⟨b1, o1, rfl, _, hc1⟩ := HC.out.r1 (by omega)
      obtain ⟨b2, o2, rfl, _, hc2⟩ := HC.out.r2 (by omega)
      have hx1 := hc1 k hlt
      have hx2 : wr.cell? ⟨b2, o2 + k, none⟩ = some (.string (T k)) := hc2 k hlt
      clear hc1 hc2
      by_cases hK : 0 ≤ K k ∧ K k ≤ ((frS K T k).size : Int)
      rotate_left
      · have HN := Lib.hid (show ¬ FrV zz n K n T from fun h => hK ⟨(frV_up h hlt).1, (frV_up h hlt).2.1⟩)
        go_wp2_with fail
        refine (l1In_no _ _ _ _ hK).mono ?_; rintro e w' ⟨rfl, rfl⟩
        go_wp2_with fail
        go_ret2
        exact .inr ⟨HN.out, ⟨_, rfl⟩, HC.out.below⟩
      have hss := frS_size (T := T) hK.1 hK.2
      by_cases hT : 12 < (T k).size
      · have e1 : decide ((12 : Int) < ((T k).size : Int)) = true := by simp; omega
        have HN := Lib.hid (show ¬ FrV zz n K n T from fun h => by have := isKeyB_size (frV_up h hlt).2.2; omega)
        clear hss
        go_wp2_with fail
        refine (l1In_yes _ _ _ _ hK.1 hK.2).mono ?_; rintro e w' ⟨rfl, rfl⟩
        go_wp2_with fail
        go_ret2
        exact .inr ⟨HN.out, ⟨_, rfl⟩, HC.out.below⟩
      have e1 : decide ((12 : Int) < ((T k).size : Int)) = false := by simp; omega
      obtain ⟨kk, hkk⟩ : ∃ kk : Nat, K k = kk := ⟨(K k).toNat, by omega⟩
      have HE := Lib.hid (frS_succ (T := T) hkk)
      have HKK := Lib.hid hkk
      have HK := Lib.hid hK
      rw [hkk] at hx1
      have q3 : kk ≤ (frS K T k).size := by omega
      have q4 : ((frS K T k).extract 0 kk).size + (T k).size ≤ 9223372036854775807 := by simp; omega
      have q5 : (frS K T (k + 1)).size ≤ 12 * (k + 1) := by omega
      have HSB := Lib.hid (show Below wr.heap.size wr wr from Below.refl _ _)
      have hbd : ∀ nq, Below wr.heap.size wr (wr.drewN nq) := fun nq => below_drewN (Below.refl _ _) nq
      have HBD := Lib.hid hbd
      clear hK hkk hss hbd hT
      go_wp2_with fail
      refine (l1In_yes _ _ _ _ (by rw [← HKK.out]; exact HK.out.1) (by rw [← HKK.out]; exact HK.out.2)).mono ?_; rintro e w' ⟨rfl, rfl⟩
      go_wp2_with fail
      go_quiet (fail)
      rw [← HE.out]
      go_wp2_with (at_builtin; refine wpList_push rfl _ _ 22 rfl (w.heap.size + 1) 9 (.string ByteArray.empty) 16 Try.underlying22 infoS rfl A1 _ c1 (strV (frK K T)) _ (wr.drewN _) rfl (owned_b HO.out (HBD.out _)) rfl (show strV (frK K T) k = .string (frS K T (k + 1)) from rfl) rfl (by omega) (by omega) (by show w.heap.size + 1 ≤ wr.heap.size; omega) ?_)
      intro A2 c2 w2 ho2 hb2
      have C2 := Lib.hid ((HC.out.b (HBD.out _)).low hb2 R1.out R2.out)
      have O2 := Lib.hid ho2
      have HU2 := Lib.hid (show ∀ j, j < k + 1 → 0 ≤ K j ∧ K j ≤ ((frS K T j).size : Int) ∧ (frS K T j).size ≤ 12 * j from fun j hj => by
        by_cases e : j = k
        · subst e; exact ⟨HK.out.1, HK.out.2, hsz⟩
        · exact HU.out j (by omega))
      clear ho2 hb2
      go_wp2_with fail
      go_roundw
      case rel => exact ⟨k + 1, A2, c2, by omega, by go_num, rfl, rfl, HU2, q5, C2, O2⟩
      case measure => simp [intOf]; omega
    · obtain rfl : k = n := by omega
      have HRK := Lib.hid (owned_vec HO.out).row
      have HSZ := Lib.hid (show ∀ i, i < k → (frK K T i).size ≤ 1048576 from fun i hi => by
        have h1 : ∀ j, j ≤ k → (frS K T j).size ≤ 1048576 := by
          intro j hj
          by_cases e : j = k
          · subst e; omega
          · have := (HU.out j (by omega)).2.2; omega
        exact h1 (i + 1) (by omega))
      go_wp2_with fail
      refine (spec_biKeys A1 k c1 _ _ (by omega) (fun i hi => by have := HSZ.out i hi; unfold maxLen; omega) HRK.out).mono ?_; rintro e w' ⟨rfl, rfl⟩
      cases hkb : keysB (frK K T) k with
      | false =>
        have HN := Lib.hid (show ¬ FrV zz k K k T from fun h => by have := h.2.2.2.2.1; rw [hkb] at this; cases this)
        go_wp2_with fail
        go_ret2
        exact .inr ⟨HN.out, ⟨_, rfl⟩, HC.out.below⟩
      | true =>
      have HUU := Lib.hid (show FrUp K T k from fun i hi => ⟨(HU.out i hi).1, (HU.out i hi).2.1, (keysB_inc.1 hkb).2.1 _ (lsOf_mem.2 ⟨i, hi, rfl⟩)⟩)
      have HW := Lib.hid (show FrV zz k K k T ↔ SameI k K k (keepI zz (frK K T)) ∧ SameSt k T k (tailF zz (frK K T)) from
        ⟨fun h => ⟨⟨rfl, h.2.2.2.2.2.1⟩, ⟨rfl, h.2.2.2.2.2.2⟩⟩, fun h => ⟨hz.1, hz.2, rfl, HUU.out, hkb, h.1.2, h.2.2⟩⟩)
      go_wp2_with fail
      refine (spec_trFront zz (by omega) (by omega) HSZ.out HRK.out).mono ?_; rintro e w2 ⟨A2, c2, B2, d2, rfl, o1, o2, _, hb2⟩
      have C2 := Lib.hid ((HC.out.b hb2).b ((Below.refl _ _).alloc (Nat.le_refl _) (.cells #[.int .i64 zz, .slice A2 k c2, .slice B2 k d2] 26)))
      have Q1 := Lib.hid ((o1.rd.row (Nat.le_refl _)).al (.cells #[.int .i64 zz, .slice A2 k c2, .slice B2 k d2] 26))
      have Q2 := Lib.hid ((o2.rd.row (Nat.le_refl _)).al (.cells #[.int .i64 zz, .slice A2 k c2, .slice B2 k d2] 26))
      have BX := Lib.hid (boxed w2 #[.int .i64 zz, .slice A2 k c2, .slice B2 k d2] 26)
      have HO3 := Lib.hid (owned_b (owned_b HO.out hb2) ((Below.refl _ _).alloc (Nat.le_refl _) (.cells #[.int .i64 zz, .slice A2 k c2, .slice B2 k d2] 26)))
      have hs2 := hb2.size
      clear k0 k1 k2 hb2 o1 o2
      have k1 := C2.out.c1
      have k2 := C2.out.c2
      have b1 := BX.out.now 1 _ rfl
      have b2 := BX.out.now 2 _ rfl
      go_wp2_with fail
      generalize w2.alloc (.cells #[.int .i64 zz, .slice A2 k c2, .slice B2 k d2] 26) = w3 at *
      refine (spec_l1Same A A2 k c k c2 K _ w3 (by omega) (by omega) C2.out.r1 Q1.out).mono ?_; rintro e w4 ⟨r, rfl, hr, hb4⟩
      have C4 := Lib.hid (C2.out.b hb4)
      have Q4 := Lib.hid (Q2.out.b hb4)
      have BX4 := Lib.hid (BX.out.b hb4)
      have HO4 := Lib.hid (owned_b HO3.out hb4)
      clear k1 k2 b1 b2 hb4
      have k1 := C4.out.c1
      have k2 := C4.out.c2
      have b1 := BX4.out.now 1 _ rfl
      have b2 := BX4.out.now 2 _ rfl
      cases r with
      | false =>
        have HN := Lib.hid (show ¬ FrV zz k K k T from fun h => by have := hr.2 (HW.out.1 h).1; cases this)
        clear hr
        go_wp2_with fail
        go_ret2
        exact .inr ⟨HN.out, ⟨_, rfl⟩, C4.out.below⟩
      | true =>
        have HR1 := Lib.hid (hr.1 rfl)
        clear hr
        go_wp2_with fail
        refine (spec_l1SameS B B2 k d k d2 T _ w4 (by omega) (by omega) C4.out.r2 Q4.out).mono ?_; rintro e w5 ⟨r, rfl, hr, hb5⟩
        have C5 := Lib.hid (C4.out.b hb5)
        have HO5 := Lib.hid (owned_b HO4.out hb5)
        clear k1 k2 b1 b2 hb5
        cases r with
        | false =>
          have HN := Lib.hid (show ¬ FrV zz k K k T from fun h => by have := hr.2 (HW.out.1 h).2; cases this)
          clear hr
          go_wp2_with fail
          go_ret2
          exact .inr ⟨HN.out, ⟨_, rfl⟩, C5.out.below⟩
        | true =>
          have HY := Lib.hid (HW.out.2 ⟨HR1.out, hr.1 rfl⟩)
          clear hr
          obtain ⟨_, _, hv, hcap, _⟩ := owned_slice HO5.out
          injection hv with hv1 hv2 hv3
          have HCAP := Lib.hid (show k ≤ c1 by rw [hv3]; exact hcap)
          clear hv1 hv2 hv3 hcap
          go_wp2_with fail
          go_ret2
          exact .inl ⟨HY.out, _, _, rfl, (ow_own2 HO5.out).mono (by omega) (Nat.le_refl _), HCAP.out, C5.out.below⟩
end
end Go.Proofs.Ythaipemgndahfaa
