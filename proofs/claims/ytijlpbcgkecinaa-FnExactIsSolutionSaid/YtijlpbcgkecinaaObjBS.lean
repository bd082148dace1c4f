/- The laws' small functions on slices of bit vectors. -/
import Derived.Test.YtijlpbcgkecinaaRowBS
import Derived.Deep.RegionHeld3
namespace Go.Proofs.Ytijlpbcgkecinaa
open Go.RowKit

theorem infoBv : (Try.prog.info? 55).map (fun i => (i.zero, i.size, i.bytes)) = some (some (.agg #[.int .i64 0, .slice none 0 0]), 2, 32) := by kernel_rfl
theorem run_make_bits (n : Nat) (hn : n ≤ 1048576) (W : World) : (Instr.makeSlice 28 (.int .i64 n) (.int .i64 n)).run Try.prog W = .ok (.slice (some ⟨W.heap.size, 0, none⟩) n n) (W.alloc (.cells (madeCells #[.int .i64 0, .slice none 0 0] (n * 2)) 55)) := by
  obtain ⟨i, hi, hzz⟩ := Option.map_eq_some_iff.1 infoBv
  simp only [Prod.mk.injEq] at hzz
  obtain ⟨hz, hs, hb⟩ := hzz
  have hr := run_make (P := Try.prog) W 28 55 i _ Try.underlying28 hi hz .i64 .i64 n n (by omega) (Int.le_refl _) (by rw [hb]; omega) (by omega)
  simp only [Int.toNat_natCast, hs] at hr
  exact hr
def noBV : Nat → BV := fun _ => ⟨0, 0, fun _ => 0⟩
theorem made_bits (w : World) (n : Nat) : GOwn (w.alloc (.cells (madeCells #[.int .i64 0, .slice none 0 0] (n * 2)) 55)) 55 w.heap.size (n * 2) (bsV noBV (fun _ => none) (fun _ => 0)) :=
  ⟨_, Go.Deep.blk_alloc_new _ _, by simp [madeCells], fun i hi => by
    rcases Nat.mod_two_eq_zero_or_one i with h | h <;> simp [madeCells, hi, bsV, h, noBV]⟩
section
set_option maxHeartbeats 2000000
theorem sz_BitsS {A : Option Addr} {n c : Nat} {V : Nat → BV} {left : Int} {w : World} (hn : n ≤ maxLen) (hs : ∀ i, i < n → (V i).l ≤ maxLen) (hr : VRow w A n V) (h0 : 0 ≤ left) (h1 : left ≤ 1048576) :
    Calls Try.prog 54 #[.slice A n c, .int .i64 left] w fun e w' => e = .returned (.int .i64 (szv left (n + sumV V n))) ∧ Below w.heap.size w w' := by
  unfold maxLen at hn
  obtain ⟨B, d, hr, _⟩ := hr
  by_cases h : (n : Int) ≤ left
  · have HR := Lib.hid hr
    have HS := Lib.hid hs
    clear hr hs
    have h2 : ¬ (left - n < 0) := by omega
    go_enter Try.func54, Try.ntmps54
    go_wp2_with fail
    go_loopw [1, 5] (fun q i wr => ∃ k : Nat, k ≤ n ∧ i = .int .i64 k ∧ q = .int .i64 (left - n - sumV V k) ∧ ((n : Int) + sumV V k ≤ left) ∧ Below w.heap.size w wr) (fun _ i _ => n - (intOf i).toNat)
    case atStart => exact ⟨0, Nat.zero_le _, rfl, by simp [sumV, sumL], by simp [sumV, sumL]; omega, Below.refl _ _⟩
    case round =>
      obtain ⟨k, hk, rfl, rfl, hl, hb⟩ := hrel
      by_cases hlt : k < n
      · obtain ⟨b, off, rfl, hb1, hc⟩ := HR.out.below hb (Nat.le_refl _) (by omega)
        have x0 := hc (k * 2) (by omega)
        have x1 := hc (k * 2 + 1) (by omega)
        rw [← Nat.add_assoc] at x1
        rw [bsV_0] at x0
        rw [bsV_1] at x1
        have hsk := HS.out k hlt
        have HB := Lib.hid hb
        have he : sumV V (k + 1) = sumV V k + (V k).l := rfl
        have hle := sumV_at V hlt
        clear hb hc hb1
        go_wp2_with fail
        refine (sz_Bits hsk (by omega) (by omega)).mono ?_; rintro e w2 ⟨rfl, hb⟩
        have HB2 := Lib.hid (HB.out.trans (hb.mono HB.out.size))
        clear hb HB
        by_cases hq : (((V k).l : Nat) : Int) ≤ left - n - sumV V k
        · rw [szv_yes hq]
          have hq2 : ¬ (left - n - sumV V k - ((V k).l : Nat) < 0) := by omega
          go_wp2_with fail
          go_roundw
          case rel => exact ⟨k + 1, by omega, by go_num, by rw [he]; congr 1; omega, by omega, HB2.out⟩
          case measure => simp [intOf]; omega
        · rw [szv_no hq]
          have hz : szv left (n + sumV V n) = -1 := szv_no (by omega)
          go_wp2_with fail
          go_ret
          exact ⟨by first | rfl | (rw [hz]; rfl), HB2.out⟩
      · obtain rfl : k = n := by omega
        have HB := Lib.hid hb
        clear hb
        have hz : szv left (k + sumV V k) = left - k - sumV V k := by rw [szv_yes (show ((k + sumV V k : Nat) : Int) ≤ left by omega)]; omega
        go_wp2_with fail
        go_ret
        exact ⟨by first | rfl | (rw [hz]; rfl), HB.out⟩
  · have hz : szv left (n + sumV V n) = -1 := szv_no (by omega)
    rw [hz]
    clear hr hs
    go_enter Try.func54, Try.ntmps54
    go_wp2_with fail
    go_ret
    exact ⟨rfl, Below.refl _ _⟩

theorem to_BitsS {A : Option Addr} {n c : Nat} {V : Nat → BV} {w : World} (hn : n + sumV V n ≤ 1048576) (hr : VRow w A n V) :
    Calls Try.prog 57 #[.slice A n c] w fun e w' => ∃ A' c', e = .returned (.slice A' n c') ∧ OwV w.heap.size w'.heap.size A' n V w' ∧ Below w.heap.size w w' := by
  have hmk := fun W => run_make_bits n (by omega) W
  obtain ⟨B, d, hr, hx⟩ := hr
  have HR := Lib.hid hr
  have HX := Lib.hid hx
  clear hr hx
  go_enter Try.func57, Try.ntmps57
  go_wp2_with fail
  go_loopw [4] (fun i wr => ∃ (k : Nat) (D : Nat → Option Addr) (e : Nat → Nat), k ≤ n ∧ i = .int .i64 k ∧ Hid (GOwn wr 55 w.heap.size (n * 2) (bsV (fun j => if j < k then V j else noBV j) (fun j => if j < k then D j else none) (fun j => if j < k then e j else 0))) ∧ Hid (∀ j, j < k → Ow (w.heap.size + 1) wr.heap.size 3 (D j) (V j).l (intV (V j).x) wr) ∧ Hid (∀ i j, i < j → j < k → Apart (V i).l (D i) (V j).l (D j)) ∧ Hid (Below w.heap.size w wr) ∧ w.heap.size < wr.heap.size) (fun i _ => n - (intOf i).toNat)
  case atStart => exact ⟨0, fun _ => none, fun _ => 0, Nat.zero_le _, rfl, Lib.hid ((made_bits _ _).congr (fun _ _ => by simp [bsV])), Lib.hid (fun j hj => absurd hj (by omega)), Lib.hid (fun i j _ hj => absurd hj (by omega)), Lib.hid ((Below.refl _ _).alloc (Nat.le_refl _) _), by simp⟩
  case round =>
    obtain ⟨k, D, e, hk, rfl, HO, HI, HA, HB, hsz⟩ := hrel
    by_cases hlt : k < n
    · obtain ⟨b, off, rfl, hb1, hc⟩ := HR.out.below HB.out (Nat.le_refl _) (by omega)
      have x0 := hc (k * 2) (by omega)
      have x1 := hc (k * 2 + 1) (by omega)
      rw [← Nat.add_assoc] at x1
      rw [bsV_0] at x0
      rw [bsV_1] at x1
      have hlk := sumV_at V hlt
      have hxk := Lib.hid ((HX.out k hlt).b HB.out)
      clear hc hb1
      go_wp2_with fail
      refine (to_Bits (by omega) hxk.out).mono ?_; rintro e' w2 ⟨A2, c2, rfl, ho2, hb⟩
      have HO2 := Lib.hid (HO.out.b hb)
      have HB2 := Lib.hid (HB.out.trans (hb.mono HB.out.size))
      have HN := Lib.hid ho2
      have y0 := HO2.out.cell (i := k * 2) (by omega)
      have y1 := HO2.out.cell (i := k * 2 + 1) (by omega)
      rw [bsV_0, if_neg (Nat.lt_irrefl k)] at y0
      rw [bsV_1, if_neg (Nat.lt_irrefl k), if_neg (Nat.lt_irrefl k), if_neg (Nat.lt_irrefl k)] at y1
      have z0 := HO2.out.frozen (k * 2)
      have z1 := HO2.out.frozen (k * 2 + 1)
      have HP := Lib.hid (fun j (hj : j < k) => (At.b ⟨HI.out j hj, Nat.le_refl _, Ow.lives _ _ _ _ _ _⟩ hb).now)
      have hsz2 := hb.size
      clear ho2 hb HO HB x0 x1
      go_wp2_with fail
      go_roundw
      case rel =>
        have hfar : ∀ (m : Nat) (A' : Option Addr) (F : Nat → Value) (lo hi : Nat) (i1 i2 : Nat) (v1 v2 : Value), w.heap.size < lo → hi ≤ w2.heap.size → Ow lo hi 3 A' m F w2 → Ow lo hi 3 A' m F ((w2.setCell ⟨w.heap.size, i1, none⟩ v1).setCell ⟨w.heap.size, i2, none⟩ v2) := fun m A' F lo hi i1 i2 v1 v2 h1 h2 h => (h.same (only_set w2 w.heap.size i1 v1) (.inr (by omega)) h2).same (only_set _ w.heap.size i2 v2) (.inr (by omega)) (by simpa using h2)
        refine ⟨k + 1, fun j => if j = k then A2 else D j, fun j => if j = k then c2 else e j, by omega, by go_num, Lib.hid (((HO2.out.set (k * 2) (.int .i64 (V k).z)).set (k * 2 + 1) (.slice A2 (V k).l c2)).congr (fun j hj => ?_)), Lib.hid (fun j hj => ?_), Lib.hid (fun i j hij hj => ?_), Lib.hid (below_setAt (below_setAt HB2.out (Nat.le_refl _) _) (Nat.le_refl _) _), by simp; omega⟩
        · rcases Nat.mod_two_eq_zero_or_one j with h | h
          · have hj2 : j = j / 2 * 2 := by omega
            rw [hj2]
            generalize j / 2 = q at *
            rw [bsV_0, bsV_0, if_neg (by omega)]
            by_cases e1 : q = k
            · subst e1; rw [if_pos rfl, if_pos (by omega)]
            · rw [if_neg (by omega)]
              by_cases e2 : q < k
              · rw [if_pos e2, if_pos (by omega)]
              · rw [if_neg e2, if_neg (by omega)]
          · have hj2 : j = j / 2 * 2 + 1 := by omega
            rw [hj2]
            generalize j / 2 = q at *
            rw [bsV_1, bsV_1]
            by_cases e1 : q = k
            · subst e1; rw [if_pos rfl]; simp
            · rw [if_neg (by omega), if_neg (by omega)]
              by_cases e2 : q < k
              · simp [e2, e1, show q < k + 1 by omega]
              · simp [e2, show ¬ q < k + 1 by omega]
        · by_cases e1 : j = k
          · subst e1
            simp only [if_true, World.size_setCell]
            exact hfar _ _ _ _ _ _ _ _ _ (by omega) (Nat.le_refl _) (HN.out.mono (by omega) (Nat.le_refl _))
          · simp only [e1, if_false, World.size_setCell]
            exact hfar _ _ _ _ _ _ _ _ _ (by omega) (Nat.le_refl _) ((HP.out j (by omega)).mono (Nat.le_refl _) hsz2)
        · by_cases e1 : j = k
          · subst e1
            simp only [if_true, show ¬ i = j by omega, if_false]
            exact apart_of (HP.out i hij) HN.out (.inl (Nat.le_refl _))
          · simp only [e1, show ¬ i = k by omega, if_false]
            exact HA.out i j hij (by omega)
      case measure => simp [intOf]; omega
    · obtain rfl : k = n := by omega
      go_wp2_with fail
      go_ret
      exact ⟨_, _, rfl, ⟨D, e, ow_of_own (m := k * 2) (HO.out.congr (fun j hj => by have : j / 2 < k := by omega
                                                                                    simp [bsV, this])) (Nat.le_refl _) (Nat.le_refl _), fun j hj => (HI.out j hj).mono (by omega) (Nat.le_refl _), HA.out⟩, HB.out⟩

theorem eq_BitsS {A A' : Option Addr} {n c c' : Nat} {V : Nat → BV} {w : World} (hn : n + sumV V n ≤ 1048576) (hx : VRow w A n V) (hy : VRow w A' n V) :
    Calls Try.prog 51 #[.slice A n c, .slice A' n c'] w (SameRow w true) := by
  obtain ⟨B, d, hx, hx2⟩ := hx
  obtain ⟨B', d', hy, hy2⟩ := hy
  have HX := Lib.hid hx
  have HY := Lib.hid hy
  have HX2 := Lib.hid hx2
  have HY2 := Lib.hid hy2
  clear hx hy hx2 hy2
  go_enter Try.func51, Try.ntmps51
  go_wp2_with fail
  go_loopw [5] (fun i wr => ∃ k : Nat, k ≤ n ∧ i = .int .i64 k ∧ Below w.heap.size w wr) (fun i _ => n - (intOf i).toNat)
  case atStart => exact ⟨0, Nat.zero_le _, rfl, Below.refl _ _⟩
  case round =>
    obtain ⟨k, hk, rfl, hb⟩ := hrel
    by_cases hlt : k < n
    · obtain ⟨b1, o1, rfl, l1, hc1⟩ := HX.out.below hb (Nat.le_refl _) (by omega)
      obtain ⟨b2, o2, rfl, l2, hc2⟩ := HY.out.below hb (Nat.le_refl _) (by omega)
      have x0 := hc1 (k * 2) (by omega)
      have x1 := hc1 (k * 2 + 1) (by omega)
      have y0 := hc2 (k * 2) (by omega)
      have y1 := hc2 (k * 2 + 1) (by omega)
      rw [← Nat.add_assoc] at x1 y1
      rw [bsV_0] at x0 y0
      rw [bsV_1] at x1 y1
      have HB := Lib.hid hb
      have R1 := Lib.hid (grow_of ((HX2.out k hlt).b hb))
      have R2 := Lib.hid (grow_of ((HY2.out k hlt).b hb))
      have hlk := sumV_at V hlt
      have HK := Lib.hid (fun (w' : World) (h : Below wr.heap.size wr w') => (show w'.cell? ⟨b1, o1 + k * 2, none⟩ = some (.int .i64 (V k).z) ∧ w'.cell? ⟨b1, o1 + k * 2 + 1, none⟩ = some (.slice (B k) (V k).l (d k)) ∧ w'.cell? ⟨b2, o2 + k * 2, none⟩ = some (.int .i64 (V k).z) ∧ w'.cell? ⟨b2, o2 + k * 2 + 1, none⟩ = some (.slice (B' k) (V k).l (d' k)) from
        ⟨(World.cell?_of_block (a := ⟨b1, o1 + k * 2, none⟩) (h.block b1 l1)).trans x0, (World.cell?_of_block (a := ⟨b1, o1 + k * 2 + 1, none⟩) (h.block b1 l1)).trans x1, (World.cell?_of_block (a := ⟨b2, o2 + k * 2, none⟩) (h.block b2 l2)).trans y0, (World.cell?_of_block (a := ⟨b2, o2 + k * 2 + 1, none⟩) (h.block b2 l2)).trans y1⟩))
      clear hb hc1 hc2
      go_wp2_with fail
      go_region_held3 (fun w' => w'.cell? ⟨b1, o1 + k * 2, none⟩ = some (.int .i64 (V k).z) ∧ w'.cell? ⟨b1, o1 + k * 2 + 1, none⟩ = some (.slice (B k) (V k).l (d k)) ∧ w'.cell? ⟨b2, o2 + k * 2, none⟩ = some (.int .i64 (V k).z) ∧ w'.cell? ⟨b2, o2 + k * 2 + 1, none⟩ = some (.slice (B' k) (V k).l (d' k)))
        (first | with_reducible exact HK.out _ hq1 | (go_keep; done))
        (first
          | (go_at_call 32; (first | refine (eq_Bits (by omega) R1.out R2.out).mono ?_ | refine (eq_Bits (by omega) (GRow.drew R1.out) (GRow.drew R2.out)).mono ?_); rintro e w2 ⟨rfl, hq1'⟩; have hq1 := of_drew hq1'; clear hq1'))
      all_goals
        have HB2 := Lib.hid (HB.out.trans (hq1.mono HB.out.size))
        go_wp2_with fail
        go_roundw
        case rel => exact ⟨k + 1, by omega, by go_num, by first | exact HB2.out | exact below_drewN HB2.out _⟩
        case measure => simp [intOf]; omega
    · obtain rfl : k = n := by omega
      have HB := Lib.hid hb
      clear hb
      go_wp2_with fail
      go_ret
      exact ⟨rfl, HB.out⟩
end
end Go.Proofs.Ytijlpbcgkecinaa
