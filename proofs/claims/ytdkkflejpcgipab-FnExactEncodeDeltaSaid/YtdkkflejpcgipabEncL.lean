/- encodeList of the program. -/
import Derived.Test.YtdkkflejpcgipabCodeK
import Derived.Test.YtdkkflejpcgipabEncT
import Derived.Shelf.Abstract
namespace Go.Proofs.Ytdkkflejpcgipab
open Go.RowKit

theorem info_bits : (Try.prog.info? 27).map (fun i => (i.zero, i.size, i.bytes)) = some (some (.agg #[.int .i64 0, .slice none 0 0]), 2, 32) := by kernel_rfl
theorem run_make_codes (n : Nat) (hn : n ≤ 4096) (W : World) : (Instr.makeSlice 72 (.int .i64 n) (.int .i64 n)).run Try.prog W = .ok (.slice (some ⟨W.heap.size, 0, none⟩) n n) (W.alloc (.cells (madeCells #[.int .i64 0, .slice none 0 0] (n * 2)) 27)) := by
  obtain ⟨i, hi, hzz⟩ := Option.map_eq_some_iff.1 info_bits
  simp only [Prod.mk.injEq] at hzz
  obtain ⟨hz, hs, hb⟩ := hzz
  have hr := run_make (P := Try.prog) W 72 27 i _ Try.underlying72 hi hz .i64 .i64 n n (by omega) (Int.le_refl _) (by rw [hb]; omega) (by omega)
  simp only [Int.toNat_natCast, hs] at hr
  exact hr
theorem made_codes (w : World) (n : Nat) : ∃ G, GOwn (w.alloc (.cells (madeCells #[.int .i64 0, .slice none 0 0] (n * 2)) 27)) 27 w.heap.size (n * 2) G :=
  ⟨fun i => (madeCells #[.int .i64 0, .slice none 0 0] (n * 2))[i]!, _, Go.Deep.blk_alloc_new _ _, by simp [madeCells], fun i hi => by simp [madeCells, hi]⟩
/-- What encodeList holds. -/
structure EC (w : World) (n k : Nat) (sz : Nat → Nat) (F : Nat → Nat → Bool) (wr : World) : Prop where
  below : Below w.heap.size w wr
  res : NBX w.heap.size w.heap.size #[.int .i64 0, .slice none 0 0] 27 wr
  row : ∃ G, GOwn wr 27 (w.heap.size + 1) (n * 2) G ∧ ∀ j, j < k → ∃ B c, G (j * 2) = .int .i64 (sz j) ∧ G (j * 2 + 1) = .slice B ((sz j + 15) / 16) c ∧ OVec wr (w.heap.size + 2) B ((sz j + 15) / 16) (fun i => (wordsOf (F j) i : Int))
set_option maxRecDepth 100000 in
set_option maxHeartbeats 4000000 in
theorem impl_encodeList (K : Nat) (eg : ∀ args w, (callFunc K args).run Try.prog w = .ok (.enter K args) w) (A : Option Addr) (n c : Nat) (X : Nat → Int) (sz : Nat → Nat) (F : Nat → Nat → Bool) (w : World) (h60 : n ≤ 60) (hr : IRow w A n X)
    (hy : ∀ i, 1 ≤ X i ∧ X i ≤ 100000 → ∀ W, Calls Try.prog K #[.int .i64 (X i)] W (OwnIs (sz i : Nat) ((sz i + 15) / 16) (fun j => (wordsOf (F i) j : Int)) true W))
    (hno : ∀ i, ¬ (1 ≤ X i ∧ X i ≤ 100000) → ∀ W, Calls Try.prog K #[.int .i64 (X i)] W (OwnIs 0 0 (fun _ => 0) false W))
    (hz : InAll n X 1 100000 → catS sz n ≤ 4096) (hF : ∀ k i, sz k ≤ i → F k i = false) :
    Calls Try.prog 48 #[.slice A n c, .func (.func K) #[] #[]] w fun e w' => (InAll n X 1 100000 → OwnIs (catS sz n) ((catS sz n + 15) / 16) (fun i => (wordsOf (catB sz F n) i : Int)) true w e w') ∧ (¬ InAll n X 1 100000 → OwnIs 0 0 (fun _ => 0) false w e w') := by
  have HR := Lib.hid hr
  have HF := Lib.hid hF
  have HZ := Lib.hid hz
  have HY := Lib.hid hy
  have HN := Lib.hid hno
  have hmk := fun W => run_make_codes n (by omega) W
  have N0 : NBX w.heap.size w.heap.size #[.int .i64 0, .slice none 0 0] 27 (w.alloc (.cells #[.int .i64 0, .slice none 0 0] 27)) := ⟨Go.Deep.blk_alloc_new _ _, Nat.le_refl _⟩
  have FB := ((Below.refl w.heap.size w).alloc (Nat.le_refl _) (.cells #[.int .i64 0, .slice none 0 0] 27))
  have hal := (Below.refl (w.alloc (.cells #[.int .i64 0, .slice none 0 0] 27)).heap.size (w.alloc (.cells #[.int .i64 0, .slice none 0 0] 27))).alloc (Nat.le_refl _) (.cells (madeCells #[.int .i64 0, .slice none 0 0] (n * 2)) 27)
  obtain ⟨G0, hG0⟩ := made_codes (w.alloc (.cells #[.int .i64 0, .slice none 0 0] 27)) n
  have E0 := Lib.hid (show EC w n 0 sz F _ from ⟨FB.trans (hal.mono (by simp)), N0.b hal, G0, by simpa using hG0, fun j hj => absurd hj (by omega)⟩)
  have d60 : decide ((60 : Int) < n) = false := by simp; omega
  clear hr hF hz hy hno N0 FB hal hG0
  go_enter Try.func48, Try.ntmps48
  go_wp2_with fail
  go_loopw [20] (fun i wr => ∃ k : Nat, k ≤ n ∧ i = .int .i64 k ∧ Hid (InAll k X 1 100000) ∧ Hid (EC w n k sz F wr)) (fun i _ => n - (intOf i).toNat)
  case atStart => exact ⟨0, Nat.zero_le _, rfl, Lib.hid (fun i hi => absurd hi (by omega)), E0⟩
  case round =>
    obtain ⟨k, hk, rfl, HI, HE⟩ := hrel
    by_cases hlt : k < n
    · obtain ⟨b, off, rfl, _, hc⟩ := (HR.out.b HE.out.below) (by omega)
      have hck := hc k hlt
      clear hc
      by_cases hin : 1 ≤ X k ∧ X k ≤ 100000
      · have HIN := Lib.hid hin
        clear hin
        obtain ⟨G, hG, hGo⟩ := HE.out.row
        have HGO := Lib.hid hGo
        have HG := Lib.hid hG
        clear hG hGo
        go_wp2_with (go_at_fn K; refine (HY.out k HIN.out _).mono ?_; rintro e w2 ⟨A2, c2, rfl, ho, hb⟩; have G2 := Lib.hid (HG.out.b hb); have q0 := G2.out.cell (i := k * 2) (by omega); have q1 := G2.out.cell (i := k * 2 + 1) (by omega); have z0 := G2.out.frozen (k * 2); have z1 := G2.out.frozen (k * 2 + 1); have hg2 := G2.out.lt; have HO := Lib.hid ho; have HB := Lib.hid hb; clear ho hb)
        go_roundw
        case rel =>
          refine ⟨k + 1, by omega, by go_num, Lib.hid (fun i hi => ?_), Lib.hid ?_⟩
          · by_cases e : i = k
            · subst e; exact HIN.out
            · exact HI.out i (by omega)
          · have hs := HG.out.lt
            have hs0 := HE.out.below.size
            have ho3 := (only_set w2 (w.heap.size + 1) (k * 2) (.int .i64 (sz k))).trans (only_set _ (w.heap.size + 1) (k * 2 + 1) (.slice A2 ((sz k + 15) / 16) c2))
            have ha := (Below.refl ((w2.setCell ⟨w.heap.size + 1, k * 2, none⟩ (.int .i64 (sz k))).setCell ⟨w.heap.size + 1, k * 2 + 1, none⟩ (.slice A2 ((sz k + 15) / 16) c2)).heap.size _).alloc (Nat.le_refl _) (.cells #[.int .i64 (sz k), .slice A2 ((sz k + 15) / 16) c2] 27)
            have F3 := below_setAt (below_setAt (HE.out.below.trans (HB.out.mono hs0)) (show w.heap.size ≤ w.heap.size + 1 by omega) (o := k * 2) (.int .i64 (sz k))) (show w.heap.size ≤ w.heap.size + 1 by omega) (o := k * 2 + 1) (.slice A2 ((sz k + 15) / 16) c2)
            refine ⟨F3.trans (ha.mono F3.size), NBX.b (nbx_far (HE.out.res.b HB.out) ho3 (.inl (by omega))) ha, _, GOwn.b ((G2.out.set (k * 2) (.int .i64 (sz k))).set (k * 2 + 1) (.slice A2 ((sz k + 15) / 16) c2)) ha, fun j hj => ?_⟩
            by_cases e : j = k
            · subst e
              exact ⟨A2, c2, by simp, by simp, OVec.b (((HO.out.low (B' := w.heap.size + 2) (by omega)).setAt (by omega) _).setAt (by omega) _) ha⟩
            · obtain ⟨B, cB, h0, h1, h2⟩ := HGO.out j (by omega)
              exact ⟨B, cB, by simp only [show ¬ j * 2 = k * 2 + 1 by omega, show ¬ j * 2 = k * 2 by omega, if_false]; exact h0, by simp only [show ¬ j * 2 + 1 = k * 2 + 1 by omega, show ¬ j * 2 + 1 = k * 2 by omega, if_false]; exact h1, OVec.b (((h2.b HB.out).setAt (by omega) _).setAt (by omega) _) ha⟩
        case measure => simp [intOf]; omega
      · have HIN := Lib.hid hin
        clear hin
        go_wp2_with (go_at_fn K; refine (HN.out k HIN.out _).mono ?_; rintro e w2 ⟨A2, c2, rfl, ho, hb⟩; have N2 := Lib.hid (HE.out.res.b hb); have r0 := N2.out.cell 0 _ rfl; have r1 := N2.out.cell 1 _ rfl; have f0 := N2.out.free 0; have f1 := N2.out.free 1; have hlt2 := N2.out.lt; have HB := Lib.hid (HE.out.below.trans (hb.mono HE.out.below.size)); clear ho hb)
        have hw2 : w.heap.size ≠ w2.heap.size := by omega
        refine bodyPost_ret (v := .tuple #[.agg #[.int .i64 0, .slice none 0 0], .bool false]) (by simp [results, Try.results48, go_sem, r0, r1, hlt2]) rfl ?_
        refine ⟨fun h => absurd (h k hlt) HIN.out, fun _ => ⟨none, 0, rfl, .inl ⟨rfl, rfl⟩, ?_⟩⟩
        have F3 := below_setAt (below_setAt HB.out (Nat.le_refl _) (o := 0) (.int .i64 0)) (Nat.le_refl _) (o := 1) (.slice none 0 0)
        exact F3.alloc F3.size _
    · obtain rfl : k = n := by omega
      obtain ⟨G, hG, hGo⟩ := HE.out.row
      have hcr : CRow wr (some ⟨w.heap.size + 1, 0, none⟩) k sz F := fun _ => ⟨w.heap.size + 1, 0, rfl, hG.lt, fun j hj => by
        obtain ⟨B, cB, h0, h1, h2⟩ := hGo j hj
        exact ⟨B, cB, by rw [Nat.zero_add, hG.cell (by omega), h0], by rw [Nat.zero_add, hG.cell (by omega), h1], h2.row⟩⟩
      have HCR := Lib.hid hcr
      have hlt1 := hG.lt
      clear hG hGo hcr
      go_wp2_with fail
      refine (impl_joinCodes _ k k sz F _ h60 HCR.out (HZ.out HI.out) HF.out).mono ?_; rintro e w2 ⟨D, cD, rfl, ho, hb⟩
      have N2 := Lib.hid (HE.out.res.b hb)
      have HB := Lib.hid (HE.out.below.trans (hb.mono HE.out.below.size))
      have HO := Lib.hid (ho.low (B' := w.heap.size + 1) (by omega))
      have r0 := N2.out.cell 0 _ rfl
      have r1 := N2.out.cell 1 _ rfl
      have f0 := N2.out.free 0
      have f1 := N2.out.free 1
      have hlt2 := N2.out.lt
      clear ho hb
      go_wp2_with fail
      refine bodyPost_ret (v := .tuple #[.agg #[.int .i64 (catS sz k : Nat), .slice D ((catS sz k + 15) / 16) cD], .bool true]) (by simp [results, Try.results48, go_sem, r0, r1]) rfl ?_
      exact ⟨fun _ => ⟨D, cD, rfl, ((HO.out.setAt (by omega) _).setAt (by omega) _).low (by omega), below_setAt (below_setAt HB.out (by omega) _) (by omega) _⟩, fun h => absurd HI.out h⟩

set_option maxRecDepth 100000 in
set_option maxHeartbeats 1000000 in
theorem impl_encodeList_long (fv : Value) (A : Option Addr) (n c : Nat) (w : World) (h60 : 60 < n) :
    Calls Try.prog 48 #[.slice A n c, fv] w (OwnIs 0 0 (fun _ => 0) false w) := by
  have N0 : NBX w.heap.size w.heap.size #[.int .i64 0, .slice none 0 0] 27 (w.alloc (.cells #[.int .i64 0, .slice none 0 0] 27)) := ⟨Go.Deep.blk_alloc_new _ _, Nat.le_refl _⟩
  have FB := Lib.hid ((Below.refl w.heap.size w).alloc (Nat.le_refl _) (.cells #[.int .i64 0, .slice none 0 0] 27))
  have d60 : decide ((60 : Int) < n) = true := by simp; omega
  have r0 := N0.cell 0 _ rfl
  have r1 := N0.cell 1 _ rfl
  have f0 := N0.free 0
  have f1 := N0.free 1
  go_enter Try.func48, Try.ntmps48
  go_wp2_with fail
  refine bodyPost_ret (v := .tuple #[.agg #[.int .i64 0, .slice none 0 0], .bool false]) (by simp [results, Try.results48, go_sem, r0, r1]) rfl ?_
  exact ⟨none, 0, rfl, .inl ⟨rfl, rfl⟩, by first | exact FB.out | exact below_setAt (below_setAt FB.out (Nat.le_refl _) _) (Nat.le_refl _) _⟩
end Go.Proofs.Ytdkkflejpcgipab
