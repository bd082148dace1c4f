/- The model's copy of a Hyper. -/
import Derived.Test.YtdmdafifgaenhaaClo
namespace Go.Proofs.Ytdmdafifgaenhaa
open Go.RowKit

set_option maxRecDepth 100000 in
set_option maxHeartbeats 1000000 in
theorem spec_l1OwnR (A : Option Addr) (n c : Nat) (X : Nat → Int) (w : World) (hn : n ≤ 4096) (hr : IRow w A n X) :
    Calls Try.prog 93 #[.slice A n c] w fun e w' => ∃ A' c', e = .returned (.slice A' n c') ∧ w'.ownsRow w.heap.size 3 1 (.slice A' n c') n (vals (intV X) n) ∧ Below w.heap.size w w' := by
  have HR := Lib.hid (hr.b ((Below.refl _ _).alloc (Nat.le_refl _) (.cells #[] 3)))
  have HO := Lib.hid (World.ownsRow_made (e := 3) (size := 1) w #[] 0 (Nat.le_refl _) (by simp [maxLen]) (by simp))
  clear hr
  go_enter Try.func93, Try.ntmps93
  go_wp2_with (at_builtin; refine wpList_append_vals rfl _ _ 39 rfl w.heap.size 3 (.int .i64 0) 8 Try.underlying39 infoI rfl (F := intV X) (G := intV X) rfl rfl HO.out HR.out (fun _ _ => rfl) (by omega) (by omega) (by simp) ?_)
  intro A' c' w' hown hb
  have HO2 := Lib.hid hown
  have HB := Lib.hid (((Below.refl w.heap.size w).alloc (Nat.le_refl _) (.cells #[] 3)).trans hb)
  clear hown hb
  go_wp2_with fail
  go_ret
  refine ⟨A', c', by first | rfl | (rw [Nat.zero_add]), ?_, HB.out⟩
  have h := HO2.out
  rw [vals_congr (F := catV (intV X) (intV X) 0) (G := intV X) (fun i _ => by unfold catV; simp)] at h
  exact h
set_option maxRecDepth 100000 in
set_option maxHeartbeats 4000000 in
theorem spec_peOwn (z : Int) (A : Option Addr) (n c : Nat) (B : Nat → Option Addr) (l d : Nat → Nat) (X : Nat → Nat → Int) (w : World) (hn : n ≤ 64) (hl : ∀ i, i < n → l i ≤ 4096) (hr : HR w A n B l d X) :
    Calls Try.prog 92 #[.agg #[.int .i64 z, .slice A n c]] w fun e w' => ∃ A' c' D dd, e = .returned (.agg #[.int .i64 z, .slice A' n c']) ∧ HOwn (w.heap.size + 1 + 1) A' n c' D dd l X w' ∧ w.heap.size + 1 + 1 ≤ w'.heap.size ∧ Below w.heap.size w w' := by
  have L0 := Lib.hid (LH.start (z := z) (c := c) hr 27)
  have HLn := Lib.hid hl
  clear hr hl
  obtain ⟨hsz0, b0, b1⟩ := L0.out.box
  have P0 := Lib.hid (PH.start (w.alloc (.cells #[.int .i64 z, .slice A n c] 27)) z l X (fun _ => none) (fun _ => 0))
  go_enter Try.func92, Try.ntmps92
  go_wp2_with fail
  go_loopw [12] (fun i wr => ∃ (q : Nat) (D : Nat → Option Addr) (dd : Nat → Nat) (A2 : Option Addr) (c2 : Nat), q ≤ n ∧ i = .int .i64 q ∧ Hid (PH (w.alloc (.cells #[.int .i64 z, .slice A n c] 27)) z l X q D dd A2 c2 A2 q c2 wr)) (fun i _ => n - (intOf i).toNat)
  case atStart => exact ⟨0, _, _, none, 0, Nat.zero_le _, rfl, P0⟩
  case round =>
    obtain ⟨q, D, dd, A1, c1, hq, rfl, HP⟩ := hrel
    have hszO := HP.out.size
    have hsz := HP.out.size
    have r1 := HP.out.box.cell 1 _ rfl
    have f1 := HP.out.box.free 1
    have r0 := HP.out.box.cell 0 _ rfl
    simp only [World.size_alloc] at hsz r1 f1 r0
    by_cases hlt : q < n
    · obtain ⟨bk, off, rfl, _, hc⟩ := (L0.out.row.b HP.out.below).1 (by omega)
      have hcq := hc q hlt
      unfold sliceV at hcq
      have hlq := HLn.out q hlt
      have HX := Lib.hid ((L0.out.row.b HP.out.below).2 q hlt)
      clear hc
      go_upto_region 5 with fail
      go_region_law (first
          | (have hz := R5; clear hz; refine step_pushG rfl (.tmp 17) (.tmp 20) 22 39 (.slice none 0 0) 24 Try.underlying22 infoSl rfl rfl rfl rfl (R5.out.ext A2 c2) CY.out HFV.out rfl ?_ ?_ ?_ ?_; omega; omega; exact R5.out.size; intro A' c' w5 ho5 hg5; have R6 := Lib.hid (R5.out.push ho5 hg5 HX5.out); have k6 := R6.out.box.cell 1 _ rfl; have f6 := R6.out.box.free 1; simp only [World.size_alloc] at k6 f6; clear ho5 hg5)
          | ((try go_simp); go_at_call 93; (first | refine (spec_l1OwnR (B q) (l q) (d q) (X q) _ hlq HX.out).mono ?_ | refine (spec_l1OwnR (B q) (l q) (d q) (X q) _ hlq (irow (GRow.drew (grow_of HX.out)))).mono ?_); rintro e w4 ⟨A2, c2, rfl, ho2, hb'⟩; have hb := of_drew hb'; have R4 := Lib.hid (HP.out.b hb); have k4 := R4.out.box.cell 1 _ rfl; simp only [World.size_alloc] at k4; have R5 := Lib.hid (R4.out.al (.cells #[.slice A2 (l q) c2] 39)); have k5 := R5.out.box.cell 1 _ rfl; simp only [World.size_alloc] at k5; have HX5 := Lib.hid (owned_low (owned_b ho2 ((Below.refl w4.heap.size w4).alloc (Nat.le_refl _) (.cells #[.slice A2 (l q) c2] 39))) hszO); have CY := Lib.hid ((boxed w4 #[.slice A2 (l q) c2] 39).now 0 _ rfl); have HFV := Lib.hid (show sliceV (upd D q A2) l (upd dd q c2) q = .slice A2 (l q) c2 by unfold sliceV upd; rw [if_pos rfl, if_pos rfl]); clear hb hb' ho2))
      all_goals
          have hst := R6.out.store
          simp only [World.size_alloc] at hst
          have HP2 := Lib.hid hst
          clear hst
          go_wp2_with fail
          go_roundw
          case rel => exact ⟨q + 1, _, _, A', c', by omega, by go_num, HP2⟩
          case measure => simp [intOf]; omega
    · obtain rfl : q = n := by omega
      have r2 := HP.out.res.cell 0 _ rfl
      have r3 := HP.out.res.cell 1 _ rfl
      have f2 := HP.out.res.free 0
      have f3 := HP.out.res.free 1
      simp only [World.size_alloc] at r2 r3 f2 f3
      go_wp2_with fail
      refine bodyPost_ret (v := .agg #[.int .i64 z, .slice A1 q c1]) (by simp [results, Try.results92, go_sem, r2, r3]) rfl ?_
      have hb2 := HP.out.below.size
      simp only [World.size_alloc] at hb2
      exact ⟨A1, c1, D, dd, rfl, ((HP.out.own.away (by simp only [World.size_alloc]; omega) _).away (by simp only [World.size_alloc]; omega) _).low (by simp only [World.size_alloc]; omega), by simp only [World.size_setCell]; omega, below_setAt (below_setAt (L0.out.below.trans (HP.out.below.mono L0.out.below.size)) (by omega) _) (by omega) _⟩
end Go.Proofs.Ytdmdafifgaenhaa
