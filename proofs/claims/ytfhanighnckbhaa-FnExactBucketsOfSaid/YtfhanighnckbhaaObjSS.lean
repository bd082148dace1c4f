/- The laws' small functions on slices of slices of ints, and on a Hyper. -/
import Derived.Test.YtfhanighnckbhaaRowSS
import Derived.Deep.RegionHeld3
namespace Go.Proofs.Ytfhanighnckbhaa
open Go.RowKit

set_option maxHeartbeats 1000000 in
theorem sz_IntSS {A : Option Addr} {n c : Nat} {l : Nat → Nat} {X : Nat → Nat → Int} {left : Int} {w : World} (hn : n ≤ maxLen) (hs : ∀ i, i < n → l i ≤ maxLen) (hr : HRow w A n l X) (h0 : 0 ≤ left) (h1 : left ≤ 1048576) :
    Calls Try.prog 60 #[.slice A n c, .int .i64 left] w fun e w' => e = .returned (.int .i64 (szv left (n + sumL l n))) ∧ Below w.heap.size w w' := by
  unfold maxLen at hn
  obtain ⟨B, d, hr, _⟩ := hr
  by_cases h : (n : Int) ≤ left
  · have HR := Lib.hid hr
    have HS := Lib.hid hs
    clear hr hs
    have h2 : ¬ (left - n < 0) := by omega
    go_enter Try.func60, Try.ntmps60
    go_wp2_with fail
    go_loopw [1, 5] (fun q i wr => ∃ k : Nat, k ≤ n ∧ i = .int .i64 k ∧ q = .int .i64 (left - n - sumL l k) ∧ ((n : Int) + sumL l k ≤ left) ∧ Below w.heap.size w wr) (fun _ i _ => n - (intOf i).toNat)
    case atStart => exact ⟨0, Nat.zero_le _, rfl, by simp [sumL], by simp [sumL]; omega, Below.refl _ _⟩
    case round =>
      obtain ⟨k, hk, rfl, rfl, hl, hb⟩ := hrel
      by_cases hlt : k < n
      · obtain ⟨b, off, rfl, hb1, hc⟩ := HR.out.below hb (Nat.le_refl _) (by omega)
        have hck := hc k hlt
        have hsk := HS.out k hlt
        have HB := Lib.hid hb
        unfold sliceV at hck
        have he : sumL l (k + 1) = sumL l k + l k := rfl
        have hle := sumL_at l hlt
        clear hb hc hb1
        go_wp2_with fail
        refine (sz_IntS hsk (by omega) (by omega)).mono ?_; rintro e w2 ⟨rfl, hb⟩
        have HB2 := Lib.hid (HB.out.trans (hb.mono HB.out.size))
        clear hb HB
        by_cases hq : ((l k : Nat) : Int) ≤ left - n - sumL l k
        · rw [szv_yes hq]
          have hq2 : ¬ (left - n - sumL l k - (l k : Nat) < 0) := by omega
          go_wp2_with fail
          go_roundw
          case rel => exact ⟨k + 1, by omega, by go_num, by rw [he]; congr 1; omega, by omega, HB2.out⟩
          case measure => simp [intOf]; omega
        · rw [szv_no hq]
          have hz : szv left (n + sumL l n) = -1 := szv_no (by omega)
          go_wp2_with fail
          go_ret
          exact ⟨by first | rfl | (rw [hz]; rfl), HB2.out⟩
      · obtain rfl : k = n := by omega
        have HB := Lib.hid hb
        clear hb
        have hz : szv left (k + sumL l k) = left - k - sumL l k := by rw [szv_yes (show ((k + sumL l k : Nat) : Int) ≤ left by omega)]; omega
        go_wp2_with fail
        go_ret
        exact ⟨by first | rfl | (rw [hz]; rfl), HB.out⟩
  · have hz : szv left (n + sumL l n) = -1 := szv_no (by omega)
    rw [hz]
    clear hr hs
    go_enter Try.func60, Try.ntmps60
    go_wp2_with fail
    go_ret
    exact ⟨rfl, Below.refl _ _⟩

theorem infoSl : (Try.prog.info? 47).map (fun i => (i.zero, i.size, i.bytes)) = some (some (.slice none 0 0), 1, 24) := by kernel_rfl
set_option maxHeartbeats 1000000 in
theorem to_IntSS {A : Option Addr} {n c : Nat} {l : Nat → Nat} {X : Nat → Nat → Int} {w : World} (hn : n + sumL l n ≤ 1048576) (hr : HRow w A n l X) :
    Calls Try.prog 63 #[.slice A n c] w fun e w' => ∃ A' c', e = .returned (.slice A' n c') ∧ Ow2 w.heap.size w'.heap.size A' n l X w' ∧ Below w.heap.size w w' := by
  have hmk := fun W => run_make_row' (P := Try.prog) 24 47 (.slice none 0 0) 24 Try.underlying24 infoSl rfl .i64 .i64 n (by omega) (by omega) W
  obtain ⟨B, d, hr, hx⟩ := hr
  have HR := Lib.hid hr
  have HX := Lib.hid hx
  clear hr hx
  go_enter Try.func63, Try.ntmps63
  go_wp2_with fail
  go_loopw [4] (fun i wr => ∃ (k : Nat) (D : Nat → Option Addr) (e : Nat → Nat), k ≤ n ∧ i = .int .i64 k ∧ GOwn wr 47 w.heap.size n (fun j => if j < k then sliceV D l e j else .slice none 0 0) ∧ Hid (∀ j, j < k → Ow (w.heap.size + 1) wr.heap.size 3 (D j) (l j) (intV (X j)) wr) ∧ Hid (∀ i j, i < j → j < k → Apart (l i) (D i) (l j) (D j)) ∧ Below w.heap.size w wr ∧ w.heap.size < wr.heap.size) (fun i _ => n - (intOf i).toNat)
  case atStart => exact ⟨0, fun _ => none, fun _ => 0, Nat.zero_le _, rfl, (GOwn.made _ _ _ _).congr (fun _ _ => by simp), Lib.hid (fun j hj => absurd hj (by omega)), Lib.hid (fun i j _ hj => absurd hj (by omega)), (Below.refl _ _).alloc (Nat.le_refl _) _, by simp⟩
  case round =>
    obtain ⟨k, D, e, hk, rfl, ho, HI, HA, hb, hsz⟩ := hrel
    by_cases hlt : k < n
    · obtain ⟨b, off, rfl, hb1, hc⟩ := HR.out.below hb (Nat.le_refl _) (by omega)
      have hck := hc k hlt
      unfold sliceV at hck
      have hlk := sumL_at l hlt
      have HO := Lib.hid ho
      have HB := Lib.hid hb
      have hxk := Lib.hid ((HX.out k hlt).b hb)
      clear ho hb hc hb1
      go_wp2_with fail
      refine (to_IntS (by omega) hxk.out).mono ?_; rintro e' w2 ⟨A2, c2, rfl, ho2, hb⟩
      have HO2 := Lib.hid (HO.out.b hb)
      have HB2 := Lib.hid (HB.out.trans (hb.mono HB.out.size))
      have HN := Lib.hid ho2
      have hok := HO2.out.cell hlt
      have hfr := HO2.out.frozen k
      rw [if_neg (Nat.lt_irrefl k)] at hok
      have HP := Lib.hid (fun j (hj : j < k) => (At.b ⟨HI.out j hj, Nat.le_refl _, Ow.lives _ _ _ _ _ _⟩ hb).now)
      have hsz2 := hb.size
      clear ho2 hb HO HB
      go_wp2_with fail
      go_roundw
      case rel =>
        have hfar : ∀ (m : Nat) (A' : Option Addr) (F : Nat → Value) (lo hi : Nat), w.heap.size < lo → hi ≤ w2.heap.size → Ow lo hi 3 A' m F w2 → Ow lo hi 3 A' m F (w2.setCell ⟨w.heap.size, k, none⟩ (.slice A2 (l k) c2)) := fun m A' F lo hi h1 h2 h => h.same (only_set w2 w.heap.size k _) (.inr (by omega)) h2
        refine ⟨k + 1, fun j => if j = k then A2 else D j, fun j => if j = k then c2 else e j, by omega, by go_num, (HO2.out.set k (.slice A2 (l k) c2)).congr (fun j hj => ?_), Lib.hid (fun j hj => ?_), Lib.hid (fun i j hij hj => ?_), HB2.out.setCell (Nat.le_refl _) _, by simp; omega⟩
        · by_cases e1 : j = k
          · subst e1; simp [sliceV]
          · by_cases e2 : j < k <;> simp [e1, e2, sliceV] <;> omega
        · by_cases e1 : j = k
          · subst e1
            simp only [if_true, World.size_setCell]
            exact hfar _ _ _ _ _ (by omega) (Nat.le_refl _) (HN.out.mono (by omega) (Nat.le_refl _))
          · simp only [e1, if_false, World.size_setCell]
            exact hfar _ _ _ _ _ (by omega) (Nat.le_refl _) ((HP.out j (by omega)).mono (Nat.le_refl _) hsz2)
        · by_cases e1 : j = k
          · subst e1
            simp only [if_true, show ¬ i = j by omega, if_false]
            exact apart_of (HP.out i hij) HN.out (.inl (Nat.le_refl _))
          · simp only [e1, show ¬ i = k by omega, if_false]
            exact HA.out i j hij (by omega)
      case measure => simp [intOf]; omega
    · obtain rfl : k = n := by omega
      have HO := Lib.hid ho
      have HB := Lib.hid hb
      clear ho hb
      go_wp2_with fail
      go_ret
      exact ⟨_, _, rfl, ⟨D, e, ow_of_own (m := k) (HO.out.congr (fun j hj => by simp [hj])) (Nat.le_refl _) (Nat.le_refl _), fun j hj => (HI.out j hj).mono (by omega) (Nat.le_refl _), HA.out⟩, HB.out⟩

set_option maxHeartbeats 1000000 in
theorem eq_IntSS {A A' : Option Addr} {n c c' : Nat} {l : Nat → Nat} {X : Nat → Nat → Int} {w : World} (hn : n + sumL l n ≤ 1048576) (hx : HRow w A n l X) (hy : HRow w A' n l X) :
    Calls Try.prog 26 #[.slice A n c, .slice A' n c'] w (SameRow w true) := by
  obtain ⟨B, d, hx, hx2⟩ := hx
  obtain ⟨B', d', hy, hy2⟩ := hy
  have HX := Lib.hid hx
  have HY := Lib.hid hy
  have HX2 := Lib.hid hx2
  have HY2 := Lib.hid hy2
  clear hx hy hx2 hy2
  go_enter Try.func26, Try.ntmps26
  go_wp2_with fail
  go_loopw [5] (fun i wr => ∃ k : Nat, k ≤ n ∧ i = .int .i64 k ∧ Below w.heap.size w wr) (fun i _ => n - (intOf i).toNat)
  case atStart => exact ⟨0, Nat.zero_le _, rfl, Below.refl _ _⟩
  case round =>
    obtain ⟨k, hk, rfl, hb⟩ := hrel
    by_cases hlt : k < n
    · obtain ⟨b1, o1, rfl, l1, hc1⟩ := HX.out.below hb (Nat.le_refl _) (by omega)
      obtain ⟨b2, o2, rfl, l2, hc2⟩ := HY.out.below hb (Nat.le_refl _) (by omega)
      have hx := hc1 k hlt
      have hy := hc2 k hlt
      unfold sliceV at hx hy
      have HB := Lib.hid hb
      have R1 := Lib.hid (grow_of ((HX2.out k hlt).b hb))
      have R2 := Lib.hid (grow_of ((HY2.out k hlt).b hb))
      have hlk := sumL_at l hlt
      have HK := Lib.hid (fun (w' : World) (h : Below wr.heap.size wr w') => (show w'.cell? ⟨b1, o1 + k, none⟩ = some (.slice (B k) (l k) (d k)) ∧ w'.cell? ⟨b2, o2 + k, none⟩ = some (.slice (B' k) (l k) (d' k)) from
        ⟨(World.cell?_of_block (a := ⟨b1, o1 + k, none⟩) (h.block b1 l1)).trans hx, (World.cell?_of_block (a := ⟨b2, o2 + k, none⟩) (h.block b2 l2)).trans hy⟩))
      clear hb hc1 hc2
      go_wp2_with fail
      go_region_held3 (fun w' => w'.cell? ⟨b1, o1 + k, none⟩ = some (.slice (B k) (l k) (d k)) ∧ w'.cell? ⟨b2, o2 + k, none⟩ = some (.slice (B' k) (l k) (d' k)))
        (first | with_reducible exact HK.out _ hq1 | (go_keep; done))
        (first
          | (go_at_call 37; (first | refine (eq_IntS (by omega) R1.out R2.out).mono ?_ | refine (eq_IntS (by omega) (GRow.drew R1.out) (GRow.drew R2.out)).mono ?_); rintro e w2 ⟨rfl, hq1'⟩; have hq1 := of_drew hq1'; clear hq1'))
      all_goals
        have HB2 := Lib.hid (HB.out.trans (hq1.mono HB.out.size))
        go_wp2_with fail
        go_roundw
        case rel => exact ⟨k + 1, by omega, by go_num, by first | exact HB2.out | exact below_drewN HB2.out _⟩
        case measure => simp [intOf]; omega
    · obtain rfl : k = n := by omega
      have HB := Lib.hid hb
      clear hb
      go_wp2_with fail
      go_ret
      exact ⟨rfl, HB.out⟩

theorem Ow2.part {lo hi n : Nat} {A : Option Addr} {l : Nat → Nat} {X : Nat → Nat → Int} {w : World} (h : Ow2 lo hi A n l X w) : ∃ B d, Ow lo hi 47 A n (sliceV B l d) w ∧ (∀ i, i < n → Ow lo hi 3 (B i) (l i) (intV (X i)) w) ∧ ∀ i j, i < n → j < n → i ≠ j → Apart (l i) (B i) (l j) (B j) := by
  obtain ⟨B, d, h1, h2, h3⟩ := h
  exact ⟨B, d, h1, h2, fun i j hi hj hne => by
    by_cases e : i < j
    · exact h3 i j e hj
    · exact (h3 j i (by omega) hi).symm⟩
set_option maxHeartbeats 2000000 in
theorem mark_IntSS {A : Option Addr} {n c lo hi : Nat} {l : Nat → Nat} {X : Nat → Nat → Int} {k0 : Int} {w : World} (hn : n + sumL l n ≤ 1048576) (hx : Ow2 lo hi A n l X w) (ht : hi ≤ w.heap.size) (h0 : 1 ≤ k0) (h1 : k0 ≤ 8388608) :
    Calls Try.prog 27 #[.slice A n c, .int .i64 k0] w fun e w' => e = .returned (.int .i64 (k0 + (sumL l n : Nat))) ∧ Ow2 lo hi A n l (fun i j => k0 + (sumL l i : Nat) + j) w' ∧ Only lo hi w w' := by
  obtain ⟨B, d, ho, hr, ha⟩ := hx.part
  have HA := Lib.hid ha
  have HLt := Lib.hid (fun i (hi : i < n) k (h : Blk (l i) (B i) k) => (hr i hi).blk_lt h)
  have HOA := Lib.hid (fun i (hi : i < n) => apart_ty ho (hr i hi) (by decide))
  have HO := Lib.hid (At.mk ho ht (Ow.lives _ _ _ _ _ _))
  have HI := Lib.hid (fun i (hi : i < n) => (At.mk (hr i hi) ht (Ow.lives _ _ _ _ _ _)))
  clear hx ho hr ha
  go_enter Try.func27, Try.ntmps27
  go_wp2_with fail
  go_loopw [1, 5] (fun q i wr => ∃ k : Nat, k ≤ n ∧ i = .int .i64 k ∧ q = .int .i64 (k0 + (sumL l k : Nat)) ∧ Hid (At lo hi (Ow lo hi 47 A n (sliceV B l d)) wr) ∧ Hid (∀ i, i < k → At lo hi (Ow lo hi 3 (B i) (l i) (intV fun j => k0 + (sumL l i : Nat) + j)) wr) ∧ Hid (∀ i, k ≤ i → i < n → At lo hi (Ow lo hi 3 (B i) (l i) (intV (X i))) wr) ∧ Hid (Only lo hi w wr)) (fun _ i _ => n - (intOf i).toNat)
  case atStart => exact ⟨0, Nat.zero_le _, rfl, by simp [sumL], HO, Lib.hid (fun i hi => absurd hi (by omega)), Lib.hid (fun i _ hi => HI.out i hi), Lib.hid (Only.refl _ _ _)⟩
  case round =>
    obtain ⟨k, hk, rfl, rfl, HO, HM, HR, HG⟩ := hrel
    by_cases hlt : k < n
    · have hrow := HO.out.now.rd.row HO.out.top
      obtain ⟨b, off, rfl, hb1, hc⟩ := hrow (by omega)
      have hck := hc k hlt
      unfold sliceV at hck
      have hlk := sumL_at l hlt
      clear hc hrow
      go_wp2_with fail
      refine (markF_IntS (by omega) (HR.out k (Nat.le_refl _) hlt).now (HR.out k (Nat.le_refl _) hlt).top (by omega) (by omega)).mono ?_; rintro e w2 ⟨rfl, hm, htc⟩
      have HO2 := Lib.hid (HO.out.tchO htc (fun q h1 h2 => (HOA.out k hlt).no h1 h2))
      have HM2 := Lib.hid (fun i (hi : i < k) => (HM.out i hi).tchO htc (fun q h1 h2 => (HA.out i k (by omega) hlt (by omega)).no h1 h2))
      have HR2 := Lib.hid (fun i (hi : k + 1 ≤ i) (hin : i < n) => (HR.out i (by omega) hin).tchO htc (fun q h1 h2 => (HA.out i k hin hlt (by omega)).no h1 h2))
      have HK := Lib.hid (At.mk hm (Nat.le_trans (HR.out k (Nat.le_refl _) hlt).top htc.size) (Ow.lives _ _ _ _ _ _))
      have HG2 := Lib.hid (HG.out.trans (htc.only (HLt.out k hlt)))
      clear hm htc HO HM HR HG
      have he : sumL l (k + 1) = sumL l k + l k := rfl
      go_wp2_with fail
      go_roundw
      case rel =>
        refine ⟨k + 1, by omega, by go_num, by rw [he]; congr 1; omega, HO2, Lib.hid (fun i hi => ?_), HR2, HG2⟩
        by_cases e1 : i = k
        · subst e1; exact HK.out
        · exact HM2.out i (by omega)
      case measure => simp [intOf]; omega
    · obtain rfl : k = n := by omega
      go_wp2_with fail
      go_ret
      exact ⟨rfl, ⟨B, d, HO.out.now, fun i hi => (HM.out i hi).now, fun i j hij hj => HA.out i j (by omega) hj (by omega)⟩, HG.out⟩
set_option maxHeartbeats 2000000 in
theorem held_IntSS {A : Option Addr} {n c : Nat} {l : Nat → Nat} {k0 : Int} {w : World} (hn : n + sumL l n ≤ 1048576) (hx : HRow w A n l (fun i j => k0 + (sumL l i : Nat) + j)) (h0 : 1 ≤ k0) (h1 : k0 ≤ 8388608) :
    Calls Try.prog 28 #[.slice A n c, .int .i64 k0] w fun e w' => e = .returned (.int .i64 (k0 + (sumL l n : Nat))) ∧ Below w.heap.size w w' := by
  obtain ⟨B, d, hr, hx⟩ := hx
  have HR := Lib.hid hr
  have HX := Lib.hid hx
  clear hr hx
  go_enter Try.func28, Try.ntmps28
  go_wp2_with fail
  go_loopw [1, 5] (fun q i wr => ∃ k : Nat, k ≤ n ∧ i = .int .i64 k ∧ q = .int .i64 (k0 + (sumL l k : Nat)) ∧ Below w.heap.size w wr) (fun _ i _ => n - (intOf i).toNat)
  case atStart => exact ⟨0, Nat.zero_le _, rfl, by simp [sumL], Below.refl _ _⟩
  case round =>
    obtain ⟨k, hk, rfl, rfl, hb⟩ := hrel
    by_cases hlt : k < n
    · obtain ⟨b, off, rfl, hb1, hc⟩ := HR.out.below hb (Nat.le_refl _) (by omega)
      have hck := hc k hlt
      have HB := Lib.hid hb
      have R1 := Lib.hid ((HX.out k hlt).b hb)
      unfold sliceV at hck
      have he : sumL l (k + 1) = sumL l k + l k := rfl
      have hlk := sumL_at l hlt
      clear hb hc hb1
      go_wp2_with fail
      refine (held_IntS (k0 := k0 + (sumL l k : Nat)) (by omega) R1.out (by omega) (by omega)).mono ?_; rintro e w2 ⟨rfl, hb⟩
      have HB2 := Lib.hid (HB.out.trans (hb.mono HB.out.size))
      have hq : ¬ (k0 + (sumL l k : Nat) + (l k : Nat) < 0) := by omega
      clear hb HB
      go_wp2_with fail
      go_roundw
      case rel => exact ⟨k + 1, by omega, by go_num, by rw [he]; congr 1; omega, HB2.out⟩
      case measure => simp [intOf]; omega
    · obtain rfl : k = n := by omega
      have HB := Lib.hid hb
      clear hb
      go_wp2_with fail
      go_ret
      exact ⟨rfl, HB.out⟩

/-! Hyper. -/
set_option maxHeartbeats 1000000 in
theorem sz_Hyper {z : Int} {A : Option Addr} {n c : Nat} {l : Nat → Nat} {X : Nat → Nat → Int} {left : Int} {w : World} (hn : n ≤ maxLen) (hs : ∀ i, i < n → l i ≤ maxLen) (hr : HRow w A n l X) (h0 : 0 ≤ left) (h1 : left ≤ 1048576) :
    Calls Try.prog 22 #[.agg #[.int .i64 z, .slice A n c], .int .i64 left] w fun e w' => e = .returned (.int .i64 (szv left (n + sumL l n))) ∧ Below w.heap.size w w' := by
  have HR := Lib.hid (hr.al (.cells #[.int .i64 z, .slice A n c] 34))
  have FB := Lib.hid ((Below.refl w.heap.size w).alloc (Nat.le_refl _) (.cells #[.int .i64 z, .slice A n c] 34))
  clear hr
  by_cases h : ((n + sumL l n : Nat) : Int) ≤ left
  · rw [szv_yes h]
    go_enter Try.func22, Try.ntmps22
    go_wp2_with fail
    refine (sz_IntSS hn hs HR.out h0 h1).mono ?_; rintro e w1 ⟨rfl, hb⟩
    rw [szv_yes h]
    have hl : ¬ (left - ((n + sumL l n : Nat) : Int) < 0) := by omega
    have HB := Lib.hid (FB.out.trans (hb.mono FB.out.size))
    clear hb
    go_wp2_with fail
    go_ret
    exact ⟨rfl, HB.out⟩
  · have h' : ¬ ((n + sumL l n : Nat) : Int) ≤ left := h
    rw [szv_no h']
    go_enter Try.func22, Try.ntmps22
    go_wp2_with fail
    refine (sz_IntSS hn hs HR.out h0 h1).mono ?_; rintro e w1 ⟨rfl, hb⟩
    rw [szv_no (show ¬ ((n + sumL l n : Nat) : Int) ≤ left by omega)]
    have HB := Lib.hid (FB.out.trans (hb.mono FB.out.size))
    clear hb
    go_wp2_with fail
    go_ret
    exact ⟨rfl, HB.out⟩
set_option maxHeartbeats 1000000 in
theorem mark_Hyper {z : Int} {A : Option Addr} {n c lo hi : Nat} {l : Nat → Nat} {X : Nat → Nat → Int} {k0 : Int} {w : World} (hn : n + sumL l n ≤ 1048576) (hx : Ow2 lo hi A n l X w) (ht : hi ≤ w.heap.size) (h0 : 1 ≤ k0) (h1 : k0 ≤ 8388608) :
    Calls Try.prog 20 #[.agg #[.int .i64 z, .slice A n c], .int .i64 k0] w fun e w' => e = .returned (.int .i64 (k0 + (sumL l n : Nat))) ∧ Ow2 lo hi A n l (fun i j => k0 + (sumL l i : Nat) + j) w' ∧ Only lo hi w w' := by
  have HX := Lib.hid (At.alloc ⟨hx, ht, Ow2.lives _ _ _ _ _ _⟩ (.cells #[.int .i64 z, .slice A n c] 26))
  clear hx
  go_enter Try.func20, Try.ntmps20
  go_wp2_with fail
  refine (mark_IntSS hn HX.out.now HX.out.top h0 h1).mono ?_
  rintro e w1 ⟨rfl, ho, hg⟩
  have HO := Lib.hid ho
  have HG := Lib.hid (only_left hg)
  clear ho hg HX
  go_wp2_with fail
  go_ret
  exact ⟨rfl, HO.out, HG.out⟩
set_option maxHeartbeats 1000000 in
theorem held_Hyper {z : Int} {A : Option Addr} {n c : Nat} {l : Nat → Nat} {k0 : Int} {w : World} (hn : n + sumL l n ≤ 1048576) (hx : HRow w A n l (fun i j => k0 + (sumL l i : Nat) + j)) (h0 : 1 ≤ k0) (h1 : k0 ≤ 8388608) :
    Calls Try.prog 21 #[.agg #[.int .i64 z, .slice A n c], .int .i64 k0] w fun e w' => e = .returned (.int .i64 (k0 + (sumL l n : Nat))) ∧ Below w.heap.size w w' := by
  have HR := Lib.hid (hx.al (.cells #[.int .i64 z, .slice A n c] 26))
  have FB := Lib.hid ((Below.refl w.heap.size w).alloc (Nat.le_refl _) (.cells #[.int .i64 z, .slice A n c] 26))
  clear hx
  go_enter Try.func21, Try.ntmps21
  go_wp2_with fail
  refine (held_IntSS hn HR.out h0 h1).mono ?_; rintro e w1 ⟨rfl, hb⟩
  have hl : ¬ (k0 + (sumL l n : Nat) < 0) := by omega
  have HB := Lib.hid (FB.out.trans (hb.mono FB.out.size))
  clear hb
  go_wp2_with fail
  go_ret
  exact ⟨rfl, HB.out⟩

set_option maxRecDepth 100000 in
set_option maxHeartbeats 2000000 in
theorem to_Hyper {z0 : Int} {n1 : Nat} {l1 : Nat → Nat} {X1 : Nat → Nat → Int} {A1 : Option Addr} {c1 : Nat} {w : World} (hn1 : n1 + sumL l1 n1 ≤ 1048576) (hr1 : HRow w A1 n1 l1 X1) :
    Calls Try.prog 24 #[.agg #[.int .i64 z0, .slice A1 n1 c1]] w fun e w' => ∃ dA1 dc1, e = .returned (.agg #[.int .i64 z0, .slice dA1 n1 dc1]) ∧ Ow2 w.heap.size w'.heap.size dA1 n1 l1 X1 w' ∧ Below w.heap.size w w' := by
  have FB := Lib.hid ((((At.start w).alloc (.cells #[.int .i64 z0, .slice A1 n1 c1] 34)).alloc (.cells #[.int .i64 0, .slice none 0 0] 26)).alloc (.cells #[.int .i64 z0, .slice none 0 0] 26))
  have R1 := Lib.hid ((((rd2_of_row hr1).alloc (.cells #[.int .i64 z0, .slice A1 n1 c1] 34)).alloc (.cells #[.int .i64 0, .slice none 0 0] 26)).alloc (.cells #[.int .i64 z0, .slice none 0 0] 26))
  have BX := Lib.hid (((boxed w #[.int .i64 z0, .slice A1 n1 c1] 34).alloc (.cells #[.int .i64 0, .slice none 0 0] 26)).alloc (.cells #[.int .i64 z0, .slice none 0 0] 26))
  have nb := nbx0 ((w.alloc (.cells #[.int .i64 z0, .slice A1 n1 c1] 34)).alloc (.cells #[.int .i64 0, .slice none 0 0] 26)) #[.int .i64 z0, .slice none 0 0] 26
  have nr := (nbx0 (w.alloc (.cells #[.int .i64 z0, .slice A1 n1 c1] 34)) #[.int .i64 0, .slice none 0 0] 26).b ((Below.refl _ _).alloc (Nat.le_refl _) (.cells #[.int .i64 z0, .slice none 0 0] 26))
  simp only [World.size_alloc] at nb nr
  have NB := Lib.hid nb
  have NR := Lib.hid nr
  clear nb nr hr1
  go_enter Try.func24, Try.ntmps24
  go_wp2_with fail
  refine (to_IntSS hn1 R1.out.row2).mono ?_; rintro e w1 ⟨dA1, dc1, rfl, ho1, hb⟩
  replace FB := Lib.hid (FB.out.b hb)
  replace R1 := Lib.hid (R1.out.b hb)
  replace BX := Lib.hid (BX.out.b hb)
  have z_w1 : w.heap.size + 3 ≤ w1.heap.size := by have hsz := hb.size; first | omega | (simp at hsz; omega)
  replace NB := Lib.hid (NB.out.b hb)
  replace NR := Lib.hid (NR.out.b hb)
  have O1 := Lib.hid (owned2 (ho1.mono (lo' := w.heap.size + 3) (by simp) (Nat.le_refl _)))
  clear hb ho1
  have d1 := NB.out.cell 1 _ rfl
  have f1 := NB.out.free 1
  have c_BX_0 := BX.out.now 0 _ rfl
  have c_BX_1 := BX.out.now 1 _ rfl
  have g0 := NR.out.free 0
  have e0 := NR.out.cell 0 _ rfl
  have g1 := NR.out.free 1
  have e1 := NR.out.cell 1 _ rfl
  have d0 := NB.out.cell 0 _ rfl
  go_wp2_with fail
  refine bodyPost_ret (v := .agg #[.int .i64 z0, .slice dA1 n1 dc1]) (by simp [results, Try.results24, go_sem, e0, e1]) rfl ?_
  replace FB := Lib.hid (((((((FB.out).setD (q := w.heap.size + 1 + 1) (.inl (by omega)) 1 (.slice dA1 n1 dc1))).setD (q := w.heap.size + 1) (.inl (by omega)) 0 (.int .i64 z0))).setD (q := w.heap.size + 1) (.inl (by omega)) 1 (.slice dA1 n1 dc1)))
  replace R1 := Lib.hid (((((((R1.out).setD (q := w.heap.size + 1 + 1) (.inl (by omega)) 1 (.slice dA1 n1 dc1))).setD (q := w.heap.size + 1) (.inl (by omega)) 0 (.int .i64 z0))).setD (q := w.heap.size + 1) (.inl (by omega)) 1 (.slice dA1 n1 dc1)))
  replace BX := Lib.hid (((((((BX.out).setD (q := w.heap.size + 1 + 1) (.inl (by omega)) 1 (.slice dA1 n1 dc1))).setD (q := w.heap.size + 1) (.inl (by omega)) 0 (.int .i64 z0))).setD (q := w.heap.size + 1) (.inl (by omega)) 1 (.slice dA1 n1 dc1)))
  replace O1 := Lib.hid (((((((O1.out).setD (q := w.heap.size + 1 + 1) (.inr (by omega)) 1 (.slice dA1 n1 dc1))).setD (q := w.heap.size + 1) (.inr (by omega)) 0 (.int .i64 z0))).setD (q := w.heap.size + 1) (.inr (by omega)) 1 (.slice dA1 n1 dc1)))
  exact ⟨dA1, dc1, rfl, O1.out.now.mono (by omega) O1.out.top, FB.out.now⟩

set_option maxRecDepth 100000 in
set_option maxHeartbeats 2000000 in
theorem eq_Hyper {z0 : Int} {n1 : Nat} {l1 : Nat → Nat} {X1 : Nat → Nat → Int} {A1 : Option Addr} {c1 : Nat} {dA1 : Option Addr} {dc1 : Nat} {w : World} (hn1 : n1 + sumL l1 n1 ≤ 1048576) (hx1 : HRow w A1 n1 l1 X1) (hy1 : HRow w dA1 n1 l1 X1) :
    Calls Try.prog 17 #[.agg #[.int .i64 z0, .slice A1 n1 c1], .agg #[.int .i64 z0, .slice dA1 n1 dc1]] w (SameRow w true) := by
  have FB := Lib.hid (((At.start w).alloc (.cells #[.int .i64 z0, .slice A1 n1 c1] 26)).alloc (.cells #[.int .i64 z0, .slice dA1 n1 dc1] 26))
  have P1 := Lib.hid (((rd2_of_row hx1).alloc (.cells #[.int .i64 z0, .slice A1 n1 c1] 26)).alloc (.cells #[.int .i64 z0, .slice dA1 n1 dc1] 26))
  have Q1 := Lib.hid (((rd2_of_row hy1).alloc (.cells #[.int .i64 z0, .slice A1 n1 c1] 26)).alloc (.cells #[.int .i64 z0, .slice dA1 n1 dc1] 26))
  have BX := Lib.hid ((boxed w #[.int .i64 z0, .slice A1 n1 c1] 26).alloc (.cells #[.int .i64 z0, .slice dA1 n1 dc1] 26))
  have BY := Lib.hid (boxed_at (w.alloc (.cells #[.int .i64 z0, .slice A1 n1 c1] 26)) (w.heap.size + 1) (by simp) #[.int .i64 z0, .slice dA1 n1 dc1] 26)
  clear hx1 hy1
  go_enter Try.func17, Try.ntmps17
  go_wp2_with fail
  refine (eq_IntSS hn1 P1.out.row2 Q1.out.row2).mono ?_; rintro e w1 ⟨rfl, hb⟩
  replace FB := Lib.hid (FB.out.b hb)
  replace P1 := Lib.hid (P1.out.b hb)
  replace Q1 := Lib.hid (Q1.out.b hb)
  replace BX := Lib.hid (BX.out.b hb)
  replace BY := Lib.hid (BY.out.b hb)
  have z_w1 : w.heap.size + 2 ≤ w1.heap.size := by have hsz := hb.size; first | omega | (simp at hsz; omega)
  clear hb
  go_wp2_with fail
  go_ret
  exact ⟨rfl, FB.out.now⟩

end Go.Proofs.Ytfhanighnckbhaa
