/- The laws' small functions on slices of peel steps: a row of n steps is a row of 2 n ints, two cells each. -/
import Derived.Test.YtfhanighnckbhaaObjSS
namespace Go.Proofs.Ytfhanighnckbhaa
open Go.RowKit

theorem infoPS : (Try.prog.info? 82).map (fun i => (i.zero, i.size, i.bytes)) = some (some (.agg #[.int .i64 0, .int .i64 0]), 2, 16) := by kernel_rfl
theorem run_make_steps (n : Nat) (hn : n ≤ 1048576) (W : World) : (Instr.makeSlice 42 (.int .i64 n) (.int .i64 n)).run Try.prog W = .ok (.slice (some ⟨W.heap.size, 0, none⟩) n n) (W.alloc (.cells (madeCells #[.int .i64 0, .int .i64 0] (n * 2)) 82)) := by
  obtain ⟨i, hi, hzz⟩ := Option.map_eq_some_iff.1 infoPS
  simp only [Prod.mk.injEq] at hzz
  obtain ⟨hz, hs, hb⟩ := hzz
  have hr := run_make (P := Try.prog) W 42 82 i _ Try.underlying42 hi hz .i64 .i64 n n (by omega) (Int.le_refl _) (by rw [hb]; omega) (by omega)
  simp only [Int.toNat_natCast, hs] at hr
  exact hr
theorem made_steps (w : World) (n : Nat) : GOwn (w.alloc (.cells (madeCells #[.int .i64 0, .int .i64 0] (n * 2)) 82)) 82 w.heap.size (n * 2) (intV fun _ => 0) :=
  ⟨_, Go.Deep.blk_alloc_new _ _, by simp [madeCells], fun i hi => by
    rcases Nat.mod_two_eq_zero_or_one i with h | h <;> simp [madeCells, hi, intV, h]⟩
section
set_option maxHeartbeats 1000000
theorem sz_PeelStepS {A : Option Addr} {n c : Nat} {left : Int} {w : World} (hn : n ≤ maxLen) (h0 : 0 ≤ left) (h1 : left ≤ 1048576) :
    Calls Try.prog 40 #[.slice A n c, .int .i64 left] w fun e w' => e = .returned (.int .i64 (szv left n)) ∧ Below w.heap.size w w' := by
  unfold maxLen at hn
  by_cases h : (n : Int) ≤ left
  · have h2 : ¬ (left - n < 0) := by omega
    rw [szv_yes h]
    go_enter Try.func40, Try.ntmps40
    go_wp2_with fail
    go_ret
    exact ⟨rfl, Below.refl _ _⟩
  · rw [szv_no h]
    go_enter Try.func40, Try.ntmps40
    go_wp2_with fail
    go_ret
    exact ⟨rfl, Below.refl _ _⟩
theorem to_PeelStep (x y : Int) (w : World) :
    Calls Try.prog 71 #[.agg #[.int .i64 x, .int .i64 y]] w fun e w' => e = .returned (.agg #[.int .i64 x, .int .i64 y]) ∧ Below w.heap.size w w' := by
  go_enter Try.func71, Try.ntmps71
  go_wp2_with fail
  refine bodyPost_ret (v := .agg #[.int .i64 x, .int .i64 y]) (by simp [results, Try.results71, go_sem]) rfl ⟨rfl, ?_⟩
  exact (((Below.refl _ _).alloc (Nat.le_refl _) _).alloc (by simp) _).alloc (by simp; omega) _
theorem eq_PeelStep (x y : Int) (w : World) :
    Calls Try.prog 68 #[.agg #[.int .i64 x, .int .i64 y], .agg #[.int .i64 x, .int .i64 y]] w (SameRow w true) := by
  go_enter Try.func68, Try.ntmps68
  go_wp2_with fail
  go_ret
  exact ⟨rfl, ((Below.refl _ _).alloc (Nat.le_refl _) _).alloc (by simp) _⟩
theorem to_PeelStepS {A : Option Addr} {n c : Nat} {X : Nat → Int} {w : World} (hn : n ≤ 1048576) (hr : GRow w A (2 * n) (intV X)) :
    Calls Try.prog 42 #[.slice A n c] w fun e w' => ∃ A' c', e = .returned (.slice A' n c') ∧ Ow w.heap.size w'.heap.size 82 A' (2 * n) (intV X) w' ∧ Below w.heap.size w w' := by
  have hmk := fun W => run_make_steps n hn W
  have HR := Lib.hid hr
  clear hr
  go_enter Try.func42, Try.ntmps42
  go_wp2_with fail
  go_loopw [4] (fun i wr => ∃ k : Nat, k ≤ n ∧ i = .int .i64 k ∧ Hid (GOwn wr 82 w.heap.size (n * 2) (intV fun j => if j < 2 * k then X j else 0)) ∧ Hid (Below w.heap.size w wr)) (fun i _ => n - (intOf i).toNat)
  case atStart => exact ⟨0, Nat.zero_le _, rfl, Lib.hid ((made_steps w n).congr (fun j _ => by simp [intV])), Lib.hid ((Below.refl _ _).alloc (Nat.le_refl _) _)⟩
  case round =>
    obtain ⟨k, hk, rfl, HO, HB⟩ := hrel
    by_cases hlt : k < n
    · obtain ⟨b, off, rfl, _, hc⟩ := (HR.out.below HB.out (Nat.le_refl _)) (by omega)
      have x0 := hc (k * 2) (by omega)
      have x1 := hc (k * 2 + 1) (by omega)
      rw [← Nat.add_assoc] at x1
      unfold intV at x0 x1
      clear hc
      go_wp2_with fail
      refine (to_PeelStep _ _ _).mono ?_; rintro e w2 ⟨rfl, hb⟩
      have HO2 := Lib.hid (HO.out.b hb)
      have HB2 := Lib.hid (HB.out.trans (hb.mono HB.out.size))
      have y0 := HO2.out.cell (i := k * 2) (by omega)
      have y1 := HO2.out.cell (i := k * 2 + 1) (by omega)
      have z0 := HO2.out.frozen (k * 2)
      have z1 := HO2.out.frozen (k * 2 + 1)
      clear hb x0 x1
      go_wp2_with fail
      go_roundw
      case rel =>
        refine ⟨k + 1, by omega, by go_num, Lib.hid (((HO2.out.set (k * 2) (.int .i64 (X (k * 2)))).set (k * 2 + 1) (.int .i64 (X (k * 2 + 1)))).congr (fun j hj => ?_)), Lib.hid (below_setAt (below_setAt HB2.out (Nat.le_refl _) _) (Nat.le_refl _) _)⟩
        dsimp only [intV]
        by_cases e1 : j = k * 2 + 1
        · subst e1; rw [if_pos rfl, if_pos (by omega)]
        · rw [if_neg e1]
          by_cases e0 : j = k * 2
          · subst e0; rw [if_pos rfl, if_pos (by omega)]
          · rw [if_neg e0]
            by_cases e2 : j < 2 * k
            · rw [if_pos e2, if_pos (by omega)]
            · rw [if_neg e2, if_neg (by omega)]
      case measure => simp [intOf]; omega
    · obtain rfl : k = n := by omega
      go_wp2_with fail
      go_ret
      exact ⟨_, _, rfl, ow_of_own (m := 2 * k) ((HO.out.mono (m := 2 * k) (by omega)).congr (fun j hj => by dsimp only [intV]; rw [if_pos hj])) (Nat.le_refl _) (Nat.le_refl _), HB.out⟩
theorem eq_PeelStepS {A A' : Option Addr} {n c c' : Nat} {X : Nat → Int} {w : World} (hn : n ≤ 1048576) (hx : GRow w A (2 * n) (intV X)) (hy : GRow w A' (2 * n) (intV X)) :
    Calls Try.prog 31 #[.slice A n c, .slice A' n c'] w (SameRow w true) := by
  have HX := Lib.hid hx
  have HY := Lib.hid hy
  clear hx hy
  go_enter Try.func31, Try.ntmps31
  go_wp2_with fail
  go_loopw [5] (fun i wr => ∃ k : Nat, k ≤ n ∧ i = .int .i64 k ∧ Below w.heap.size w wr) (fun i _ => n - (intOf i).toNat)
  case atStart => exact ⟨0, Nat.zero_le _, rfl, Below.refl _ _⟩
  case round =>
    obtain ⟨k, hk, rfl, hb⟩ := hrel
    by_cases hlt : k < n
    · obtain ⟨b1, o1, rfl, l1, hc1⟩ := HX.out.below hb (Nat.le_refl _) (by omega)
      obtain ⟨b2, o2, rfl, l2, hc2⟩ := HY.out.below hb (Nat.le_refl _) (by omega)
      have x0 := hc1 (k * 2) (by omega)
      have x1 := hc1 (k * 2 + 1) (by omega)
      have y0 := hc2 (k * 2) (by omega)
      have y1 := hc2 (k * 2 + 1) (by omega)
      rw [← Nat.add_assoc] at x1 y1
      unfold intV at x0 x1 y0 y1
      have HB := Lib.hid hb
      have HK := Lib.hid (fun (w' : World) (h : Below wr.heap.size wr w') => (show w'.cell? ⟨b1, o1 + k * 2, none⟩ = some (.int .i64 (X (k * 2))) ∧ w'.cell? ⟨b1, o1 + k * 2 + 1, none⟩ = some (.int .i64 (X (k * 2 + 1))) ∧ w'.cell? ⟨b2, o2 + k * 2, none⟩ = some (.int .i64 (X (k * 2))) ∧ w'.cell? ⟨b2, o2 + k * 2 + 1, none⟩ = some (.int .i64 (X (k * 2 + 1))) from
        ⟨(World.cell?_of_block (a := ⟨b1, o1 + k * 2, none⟩) (h.block b1 l1)).trans x0, (World.cell?_of_block (a := ⟨b1, o1 + k * 2 + 1, none⟩) (h.block b1 l1)).trans x1, (World.cell?_of_block (a := ⟨b2, o2 + k * 2, none⟩) (h.block b2 l2)).trans y0, (World.cell?_of_block (a := ⟨b2, o2 + k * 2 + 1, none⟩) (h.block b2 l2)).trans y1⟩))
      clear hb hc1 hc2
      go_wp2_with fail
      go_region_held3 (fun w' => w'.cell? ⟨b1, o1 + k * 2, none⟩ = some (.int .i64 (X (k * 2))) ∧ w'.cell? ⟨b1, o1 + k * 2 + 1, none⟩ = some (.int .i64 (X (k * 2 + 1))) ∧ w'.cell? ⟨b2, o2 + k * 2, none⟩ = some (.int .i64 (X (k * 2))) ∧ w'.cell? ⟨b2, o2 + k * 2 + 1, none⟩ = some (.int .i64 (X (k * 2 + 1))))
        (first | with_reducible exact HK.out _ hq1 | (go_keep; done))
        (first
          | (go_at_call 68; (refine (eq_PeelStep _ _ _).mono ?_); rintro e w2 ⟨rfl, hq1'⟩; have hq1 := of_drew hq1'; clear hq1'))
      all_goals
        have HB2 := Lib.hid (HB.out.trans (hq1.mono HB.out.size))
        go_wp2_with fail
        go_roundw
        case rel => exact ⟨k + 1, by omega, by go_num, by first | exact HB2.out | exact below_drewN HB2.out _⟩
        case measure => simp [intOf]; omega
    · obtain rfl : k = n := by omega
      have HB := Lib.hid hb
      clear hb
      go_wp2_with fail
      go_ret
      exact ⟨rfl, HB.out⟩
theorem markF_PeelStepS {A : Option Addr} {n c lo hi : Nat} {X : Nat → Int} {k0 : Int} {w : World} (hn : n ≤ 1048576) (hx : Ow lo hi 82 A (2 * n) (intV X) w) (_ht : hi ≤ w.heap.size) (h0 : 1 ≤ k0) (h1 : k0 ≤ 8388608) :
    Calls Try.prog 32 #[.slice A n c, .int .i64 k0] w fun e w' => e = .returned (.int .i64 (k0 + (2 * n : Nat))) ∧ Ow lo hi 82 A (2 * n) (intV fun i => k0 + i) w' ∧ Tch (Blk (2 * n) A) w w' := by
  rcases Nat.eq_zero_or_pos n with hz | hpos
  · subst hz
    go_enter Try.func32, Try.ntmps32
    go_wp2_with fail
    refine wp_loop_rounds 1 ?_
    rw [rounds_succ]
    go_wp2_with fail
    go_ret
    exact ⟨by simp, ow_zero _ _ _ _ _ _, Tch.refl _ _⟩
  obtain ⟨g, off, rfl, hlo, hhi, hs⟩ := hx.seg (by omega)
  clear hx
  have HT := Lib.hid (show ∀ wr, w.grownBy wr (some g) → Tch (Blk (2 * n) (some ⟨g, off, none⟩)) w wr from fun wr h => ⟨h.os, h.tape, h.output, h.size, fun _ hk hne => h.block _ hk (fun e => by injection e with e; subst e; exact hne ⟨by omega, off, rfl⟩)⟩)
  go_enter Try.func32, Try.ntmps32
  go_wp2_with fail
  go_loopw [1, 5] (fun q i wr => ∃ k : Nat, k ≤ n ∧ i = .int .i64 k ∧ q = .int .i64 (k0 + (2 * k : Nat)) ∧ Hid (OSeg wr 82 g off (2 * n) (intV fun j => if j < 2 * k then k0 + (j : Nat) else X j)) ∧ Hid (w.grownBy wr (some g))) (fun _ i _ => n - (intOf i).toNat)
  case atStart => exact ⟨0, Nat.zero_le _, rfl, by go_num, Lib.hid (hs.congr (fun _ _ => by simp [intV])), Lib.hid (World.grownBy.refl w _)⟩
  case round =>
    obtain ⟨k, hk, rfl, rfl, HO, HG⟩ := hrel
    by_cases hlt : k < n
    · have x0 := HO.out.cell (i := k * 2) (by omega)
      have x1 := HO.out.cell (i := k * 2 + 1) (by omega)
      have f0 := HO.out.frozen (off + k * 2)
      have f1 := HO.out.frozen (off + k * 2 + 1)
      rw [← Nat.add_assoc] at x1
      dsimp only [intV] at x0 x1
      rw [if_neg (by omega)] at x0 x1
      have e2 : ((2 * k : Nat) : Int) = 2 * (k : Int) := by push_cast; rfl
      go_wp2_with fail
      go_roundw
      case rel =>
        refine ⟨k + 1, by omega, by go_num, by congr 1; push_cast; omega, Lib.hid (((HO.out.set (k * 2) (.int .i64 (k0 + (2 * k : Nat)))).set (k * 2 + 1) (.int .i64 (k0 + (2 * k : Nat) + 1))).congr (fun j hj => ?_)), Lib.hid (grown_setCell (grown_setCell HG.out _ _) _ _)⟩
        dsimp only [intV]
        by_cases e1 : j = k * 2 + 1
        · subst e1; rw [if_pos rfl, if_pos (by omega)]; congr 1; push_cast; omega
        · rw [if_neg e1]
          by_cases e0 : j = k * 2
          · subst e0; rw [if_pos rfl, if_pos (by omega)]; congr 1; push_cast; omega
          · rw [if_neg e0]
            by_cases e3 : j < 2 * k
            · rw [if_pos e3, if_pos (by omega)]
            · rw [if_neg e3, if_neg (by omega)]
      case measure => simp [intOf]; omega
    · obtain rfl : k = n := by omega
      go_wp2_with fail
      go_ret
      exact ⟨rfl, (HO.out.congr (G := intV fun i => k0 + i) (fun j hj => by simp [hj, intV])).ow hlo hhi, HT.out _ HG.out⟩
theorem mark_PeelStepS {A : Option Addr} {n c lo hi : Nat} {X : Nat → Int} {k0 : Int} {w : World} (hn : n ≤ 1048576) (hx : Ow lo hi 82 A (2 * n) (intV X) w) (ht : hi ≤ w.heap.size) (h0 : 1 ≤ k0) (h1 : k0 ≤ 8388608) :
    Calls Try.prog 32 #[.slice A n c, .int .i64 k0] w fun e w' => e = .returned (.int .i64 (k0 + (2 * n : Nat))) ∧ Ow lo hi 82 A (2 * n) (intV fun i => k0 + i) w' ∧ Only lo hi w w' :=
  (markF_PeelStepS hn hx ht h0 h1).mono fun _ _ ⟨he, ho, hw⟩ => ⟨he, ho, hw.only (fun _ hk => hx.blk_lt hk)⟩
theorem held_PeelStepS {A : Option Addr} {n c : Nat} {k0 : Int} {w : World} (hn : n ≤ 1048576) (hx : GRow w A (2 * n) (intV fun i => k0 + i)) (h0 : 1 ≤ k0) (h1 : k0 ≤ 8388608) :
    Calls Try.prog 33 #[.slice A n c, .int .i64 k0] w fun e w' => e = .returned (.int .i64 (k0 + (2 * n : Nat))) ∧ Below w.heap.size w w' := by
  have HX := Lib.hid hx
  clear hx
  go_enter Try.func33, Try.ntmps33
  go_wp2_with fail
  go_loop [1, 5] (fun q i => ∃ k : Nat, k ≤ n ∧ i = .int .i64 k ∧ q = .int .i64 (k0 + (2 * k : Nat))) (fun _ i => n - (intOf i).toNat)
  case atStart => exact ⟨0, Nat.zero_le _, rfl, by go_num⟩
  case round =>
    obtain ⟨k, hk, rfl, rfl⟩ := hrel
    by_cases hlt : k < n
    · obtain ⟨b, off, rfl, _, hc⟩ := HX.out (by omega)
      have x0 := hc (k * 2) (by omega)
      have x1 := hc (k * 2 + 1) (by omega)
      rw [← Nat.add_assoc] at x1
      dsimp only [intV] at x0 x1
      have e0 : ((k * 2 : Nat) : Int) = ((2 * k : Nat) : Int) := by omega
      have e1 : k0 + ((k * 2 + 1 : Nat) : Int) = k0 + ((2 * k : Nat) : Int) + 1 := by omega
      rw [e0] at x0
      rw [e1] at x1
      clear hc e0 e1
      go_wp2_with fail
      go_round
      case rel => exact ⟨k + 1, by omega, by go_num, by congr 1; push_cast; omega⟩
      case measure => simp [intOf]; omega
    · obtain rfl : k = n := by omega
      go_wp2_with fail
      go_ret
      exact ⟨rfl, Below.refl _ _⟩
end
end Go.Proofs.Ytfhanighnckbhaa
