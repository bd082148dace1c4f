/- The law of CutBits, walked: what both sides answer comes in as hypotheses. -/
import Derived.Test.YtglccgpiakadbaaCut
import Derived.Test.YtglccgpiakadbaaVecLaw
namespace Go.Proofs.Ytglccgpiakadbaa
open Go.RowKit

set_option maxHeartbeats 400000 in
theorem big_FnExactCutBits (z : Int) (A : Option Addr) (n c : Nat) (e0 : Int) (e1 : Int) (w : World) (hm : n ≤ maxLen) (h : ¬ n ≤ 1048576) :
    Calls Try.prog 17 #[.agg #[.int .i64 z, .slice A n c], .int .i64 e0, .int .i64 e1] w fun e w' => e = .returned (.bool true) ∧ Below w.heap.size w w' := by
  go_enter Try.func17, Try.ntmps17
  go_wp2_with fail
  refine (szBits_big _ _ _ _ _ hm h).mono ?_; rintro e w1 ⟨rfl, hb⟩
  go_wp2_with fail
  go_ret
  exact ⟨rfl, ((Below.refl _ _).alloc (Nat.le_refl _) _).trans (hb.mono (by simp))⟩

set_option maxRecDepth 100000 in
set_option maxHeartbeats 4000000 in
theorem main_FnExactCutBits (z zr : Int) (A : Option Addr) (n c m : Nat) (X Y : Nat → Int) (b : Bool) (e0 : Int) (e1 : Int) (w : World) (hn : n ≤ 1048576) (hm : m ≤ 4096) (hr : IRow w A n X)
    (s1 : (∀ (A : Option Addr) (c : Nat) (w : World), IRow w A n X → Calls Try.prog 67 #[.agg #[.int .i64 z, .slice A n c], .int .i64 e0, .int .i64 e1] w (VecIs zr m Y b w)))
    (s2 : (∀ (A : Option Addr) (c : Nat) (w : World), IRow w A n X → Calls Try.prog 37 #[.agg #[.int .i64 z, .slice A n c], .int .i64 e0, .int .i64 e1] w (OwnIs zr m Y b w))) :
    Calls Try.prog 17 #[.agg #[.int .i64 z, .slice A n c], .int .i64 e0, .int .i64 e1] w fun e w' => e = .returned (.bool true) ∧ Below w.heap.size w w' := by
  have R := Lib.hid hr
  have L0 := Lib.hid (LS.start (z := z) (c := c) hr 52)
  clear hr
  have hlt : ¬ ((1048576 : Int) - n < 0) := by omega
  have S1 := Lib.hid s1
  have S2 := Lib.hid s2
  clear s1 s2
  go_enter Try.func17, Try.ntmps17
  go_wp2_with fail
  refine (szBits_ok _ _ _ _ _ hn).mono ?_; rintro e wa ⟨rfl, hb⟩
  have L1 := Lib.hid (L0.out.step hb)
  clear hb L0
  obtain ⟨hs1, c0, c1⟩ := L1.out.box
  go_wp2_with fail
  refine (toBits_any _ _ _ _ X _ hn L1.out.row).mono ?_; rintro e wb ⟨g2, rfl, hg2, ho2, hb⟩
  have L2 := Lib.hid (L1.out.step hb)
  have O2 := Lib.hid ho2
  clear hb L1 c0 c1 ho2 hg2 hs1
  obtain ⟨hs2, c0, c1⟩ := L2.out.box
  go_wp2_with fail
  refine (S1.out _ _ _ O2.out.row).mono ?_; rintro e w1 ⟨A1, k1, rfl, r1, hb⟩
  have L3 := Lib.hid (L2.out.step hb)
  have R1 := Lib.hid r1
  clear hb L2 c0 c1 hs2 O2 r1
  have ha : ∀ (w : World) (o : Obj), Below w.heap.size w (w.alloc o) := fun w o => (Below.refl _ _).alloc (Nat.le_refl _) _
  have HA := Lib.hid ha
  clear ha
  have X0 := Lib.hid (Box.new w1 zr A1 m k1 26)
  have L4 := Lib.hid (L3.out.step (HA.out w1 (.cells #[.int .i64 zr, .slice A1 m k1] 26)))
  have P4 := Lib.hid (HA.out w1 (.cells #[.int .i64 zr, .slice A1 m k1] 26))
  have hsw := L3.out.box.1
  obtain ⟨hs3, c0, c1⟩ := L3.out.box
  clear L3
  go_wp2_with fail
  refine (toBits_any _ _ _ _ X _ hn L4.out.row).mono ?_; rintro e w3 ⟨gx, rfl, hgx, ho3, hb⟩
  have L5 := Lib.hid (L4.out.step hb)
  have P5 := Lib.hid (P4.out.trans (hb.mono P4.out.size))
  have Y0 := Lib.hid (X0.out.b hb)
  have O3 := Lib.hid ho3
  have hgx1 : w1.heap.size < gx := by simp at hgx; omega
  have hgx2 : gx < w3.heap.size := ho3.lt
  clear hb L4 c0 c1 ho3 hgx hs3 P4 X0
  obtain ⟨hs4, c0, c1⟩ := L5.out.box
  go_wp2_with fail
  refine (S2.out _ _ _ (O3.out.alloc _).row).mono ?_; rintro e w4 ⟨A2, k2, rfl, o4, hb⟩
  have hs34 : w3.heap.size < w4.heap.size := by have := hb.size; simp at this; omega
  have hBx := (HA.out w3 (.cells #[.int .i64 z, .slice (some ⟨gx, 0, none⟩) n n] 26)).trans (hb.mono (by simp))
  have L6 := L5.out.step hBx
  have hL : VS w w1 w.heap.size w1.heap.size w3.heap.size w4.heap.size (w3.heap.size + 1) gx z zr A A1 A2 n c m k1 k2 Y (w4.alloc (.cells #[.int .i64 zr, .slice A2 m k2] 26)) := by
    have h2 := P5.out.trans (hBx.mono P5.out.size)
    exact ⟨(L6.below).trans ((HA.out _ _).mono L6.below.size), h2.trans ((HA.out _ _).mono h2.size), L6.box.b (HA.out _ _), (Y0.out.b hBx).b (HA.out _ _),
      ((Box.new w3 z (some ⟨gx, 0, none⟩) n n 26).b hb).b (HA.out _ _), Box.new w4 zr A2 m k2 26, (o4.low (by simp)).b (HA.out _ _)⟩
  have V4 := Lib.hid hL
  have O4 := Lib.hid (((O3.out.alloc (.cells #[.int .i64 z, .slice (some ⟨gx, 0, none⟩) n n] 26)).b hb).alloc (.cells #[.int .i64 zr, .slice A2 m k2] 26))
  have NA := Lib.hid (o4.ne_low (b := w.heap.size) (by have := L5.out.below.size; simp; omega))
  have N0 := Lib.hid (o4.ne_low (b := w1.heap.size) (by have := P5.out.size; simp; omega))
  have NX := Lib.hid (o4.ne_low (b := w3.heap.size) (by simp))
  have N1 := Lib.hid (o4.ne_high (b := w4.heap.size) (Nat.le_refl _))
  have hx0 := Y0.out.b hBx
  obtain ⟨ht0, d0, d1⟩ := hx0
  have hw3 := L5.out.below.size
  have hw31 := P5.out.size
  clear hL L6 hBx hb o4 L5 Y0 P5 O3 c0 c1 hs4
  go_wp2_with fail
  refine (eqBits_yes _ _ _ _ _ _ _ Y Y _ (by omega) V4.out.own.row (R1.out.below V4.out.below1 (Nat.le_refl _)) (fun _ _ => rfl) rfl).mono ?_; rintro e w5 ⟨rfl, hb⟩
  have V5 := Lib.hid (V4.out.b hb)
  have O5 := Lib.hid (O4.out.b hb)
  clear hb V4 O4 d0 d1 ht0
  have RX := Lib.hid (R.out.below V5.out.below (Nat.le_refl _))
  obtain ⟨ha5, a0, a1⟩ := V5.out.boxa
  obtain ⟨hx5, x0, x1⟩ := V5.out.boxx
  go_wp2_with fail
  go_region_held3 (fun w' => w'.cell? ⟨w.heap.size, 0, none⟩ = some (.int .i64 z) ∧ w'.cell? ⟨w.heap.size, 1, none⟩ = some (.slice A n c) ∧ w'.cell? ⟨w3.heap.size, 0, none⟩ = some (.int .i64 z) ∧ w'.cell? ⟨w3.heap.size, 1, none⟩ = some (.slice (some ⟨gx, 0, none⟩) n n))
    (first | go_keep | exact ⟨((V5.out.b hb6).b hb7).boxa.2.1, ((V5.out.b hb6).b hb7).boxa.2.2, ((V5.out.b hb6).b hb7).boxx.2.1, ((V5.out.b hb6).b hb7).boxx.2.2⟩ | exact ⟨(V5.out.b hb6).boxa.2.1, (V5.out.b hb6).boxa.2.2, (V5.out.b hb6).boxx.2.1, (V5.out.b hb6).boxx.2.2⟩)
    (first
      | (go_at_call 57; refine (toBits_any _ _ _ _ X _ hn ?_).mono ?_; exact RX.out; rintro e w6 ⟨g6, rfl, hg6, ho6, hb6'⟩; have hb6 := of_drew hb6'; clear hb6')
      | (go_at_call 58; refine (eqBits_yes _ _ _ _ _ _ _ X X _ hn ?_ ?_ (fun _ _ => rfl) rfl).mono ?_; exact (O5.out.b hb6).row; exact ho6.row; rintro e w7 ⟨rfl, hb7⟩))
  have V7 := Lib.hid ((V5.out.b hb6).b hb7)
  have O7 := Lib.hid ((O5.out.b hb6).b hb7)
  clear hb6 hb7 ho6 V5 O5 hg6 a0 a1 x0 x1 ha5 hx5
  obtain ⟨hx5, x0, x1⟩ := V7.out.boxx
  go_wp2_with fail
  refine (markBits_any _ _ _ _ _ _ _ hn O7.out (by omega) (by omega)).mono ?_; rintro e w8 ⟨rfl, ho, hg⟩
  have V8 := Lib.hid (V7.out.markx hg (by omega) (by omega) (by omega) (by omega) (by omega) (by omega) (by omega))
  clear ho hg V7 O7 x0 x1 hx5
  obtain ⟨h80, d0, d1⟩ := V8.out.box0
  obtain ⟨h81, e0', e1'⟩ := V8.out.box1
  go_wp2_with fail
  refine (eqBits_yes _ _ _ _ _ _ _ Y Y _ (by omega) V8.out.own.row (R1.out.below V8.out.below1 (Nat.le_refl _)) (fun _ _ => rfl) rfl).mono ?_; rintro e w9 ⟨rfl, hb⟩
  have V9 := Lib.hid (V8.out.b hb)
  clear hb V8 d0 d1 e0' e1' h80 h81
  obtain ⟨h91, d0, d1⟩ := V9.out.box1
  go_wp2_with fail
  refine (mark_rest _ _ _ _ _ _ _ _ (by omega) V9.out.own (by omega) (by omega) (by omega)).mono ?_; rintro e w10 ⟨rfl, ho, hb, hr⟩
  have V10 := Lib.hid (V9.out.mark (by omega) (by omega) ho hb hr NA.out N0.out NX.out N1.out)
  clear hb ho hr V9 d0 d1 h91
  obtain ⟨h101, d0, d1⟩ := V10.out.box1
  go_wp2_with fail
  refine (heldBits_yes _ _ _ _ _ _ _ (by omega) V10.out.own.row (by omega) (by omega) (fun _ _ => rfl)).mono ?_; rintro e w11 ⟨rfl, hb⟩
  have V11 := Lib.hid (V10.out.b hb)
  clear hb V10 d0 d1 h101
  obtain ⟨h11, c0, c1⟩ := V11.out.boxa
  go_wp2_with fail
  refine (toBits_any _ _ _ _ X _ hn (R.out.below V11.out.below (Nat.le_refl _))).mono ?_; rintro e w12 ⟨g12, rfl, _, ho12, hb⟩
  have V12 := Lib.hid (V11.out.b hb)
  have O12 := Lib.hid ho12
  clear hb V11 c0 c1 h11 ho12
  go_wp2_with fail
  refine (S2.out _ _ _ O12.out.row).mono ?_; rintro e w13 ⟨A3, k3, rfl, o3, hb⟩
  have V13 := Lib.hid (V12.out.b hb)
  have O13 := Lib.hid (o3.row.b (HA.out w13 (.cells #[.int .i64 zr, .slice A3 m k3] 26)))
  have V14 := Lib.hid (V13.out.b (HA.out w13 (.cells #[.int .i64 zr, .slice A3 m k3] 26)))
  obtain ⟨h13, d0, d1⟩ := V13.out.box0
  clear hb o3 V12 O12 V13
  go_wp2_with fail
  refine (eqBits_yes _ _ _ _ _ _ _ Y Y _ (by omega) O13.out (R1.out.below V14.out.below1 (Nat.le_refl _)) (fun _ _ => rfl) rfl).mono ?_; rintro e w14 ⟨rfl, hb⟩
  have V15 := Lib.hid (V14.out.b hb)
  clear hb V14 O13 d0 d1 h13
  obtain ⟨h15, d0, d1⟩ := V15.out.box1
  go_wp2_with fail
  refine (heldBits_yes _ _ _ _ _ _ _ (by omega) V15.out.own.row (by omega) (by omega) (fun _ _ => rfl)).mono ?_; rintro e w15 ⟨rfl, hb⟩
  have V16 := Lib.hid (V15.out.b hb)
  clear hb V15 d0 d1 h15
  go_wp2_with fail
  go_ret
  exact ⟨rfl, V16.out.below⟩

theorem walk_FnExactCutBits (w : World) (z : Int) (_wz : (Lit.int .i64 z).wf = true) (A : Option Addr) (n c : Nat) (X : Nat → Int) (hm : n ≤ maxLen) (hr : IRow w A n X) (a : Int) (_w1 : (Lit.int .i64 a).wf = true) (b : Int) (_w2 : (Lit.int .i64 b).wf = true) :
    Calls Try.prog 17 #[.agg #[.int .i64 z, .slice A n c], .int .i64 a, .int .i64 b] w fun e w' => e = .returned (.bool true) ∧ Below w.heap.size w w' := by
  by_cases h : n ≤ 1048576
  · by_cases hg : Span z n X a b
    · obtain ⟨z, rfl⟩ := Int.eq_ofNat_of_zero_le hg.1.1
      obtain ⟨a, rfl⟩ := Int.eq_ofNat_of_zero_le hg.2.1
      obtain ⟨b, rfl⟩ := Int.eq_ofNat_of_zero_le (show 0 ≤ b by have := hg.2.1; have := hg.2.2.1; omega)
      have hm : (b - a + 15) / 16 ≤ 4096 := by have := hg.1.2.1; have := hg.2.2.2; omega
      exact main_FnExactCutBits _ _ A n c _ X _ true _ _ w h hm hr (fun A c w hr => spec_cut_yes z A n c X a b w h hr hg) (fun A c w hr => impl_cut_yes z (b - a) _ A n c X a b w h hr hg rfl rfl)
    · exact main_FnExactCutBits z 0 A n c 0 X _ false a b w h (by omega) hr (fun A c w hr => spec_cut_no z A n c X a b w h hr hg) (fun A c w hr => impl_cut_no z A n c X a b w h hr hg)
  · exact big_FnExactCutBits z A n c a b w hm h
end Go.Proofs.Ytglccgpiakadbaa
