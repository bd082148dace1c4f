/- The laws' small functions on slices of bools. -/
import Derived.Test.YtijlpbcgkecinaaRowSS
import Derived.Deep.RegionHeld3
namespace Go.Proofs.Ytijlpbcgkecinaa
open Go.RowKit

theorem infoBool : (Try.prog.info? 4).map (fun i => (i.zero, i.size, i.bytes)) = some (some (.bool false), 1, 1) := by kernel_rfl
section
set_option maxHeartbeats 1000000
theorem sz_BoolS {A : Option Addr} {n c : Nat} {left : Int} {w : World} (hn : n ≤ maxLen) (h0 : 0 ≤ left) (h1 : left ≤ 1048576) :
    Calls Try.prog 55 #[.slice A n c, .int .i64 left] w fun e w' => e = .returned (.int .i64 (szv left n)) ∧ Below w.heap.size w w' := by
  unfold maxLen at hn
  by_cases h : (n : Int) ≤ left
  · have h2 : ¬ (left - n < 0) := by omega
    rw [szv_yes h]
    go_enter Try.func55, Try.ntmps55
    go_wp2_with fail
    go_ret
    exact ⟨rfl, Below.refl _ _⟩
  · rw [szv_no h]
    go_enter Try.func55, Try.ntmps55
    go_wp2_with fail
    go_ret
    exact ⟨rfl, Below.refl _ _⟩
theorem to_BoolS {A : Option Addr} {n c : Nat} {X : Nat → Bool} {w : World} (hn : n ≤ 1048576) (hr : GRow w A n (boolV X)) :
    Calls Try.prog 20 #[.slice A n c] w (NewIs w 4 n (boolV X)) := by
  have hmk := fun W => run_make_row' (P := Try.prog) 23 4 (.bool false) 1 Try.underlying23 infoBool rfl .i64 .i64 n (by omega) (by omega) W
  have HR := Lib.hid hr
  clear hr
  go_enter Try.func20, Try.ntmps20
  go_wp2_with fail
  go_loopw [4] (fun i wr => ∃ k : Nat, k ≤ n ∧ i = .int .i64 k ∧ Hid (GOwn wr 4 w.heap.size n (boolV fun j => if j < k then X j else false)) ∧ Hid (Below w.heap.size w wr)) (fun i _ => n - (intOf i).toNat)
  case atStart => exact ⟨0, Nat.zero_le _, rfl, Lib.hid ((GOwn.made _ _ _ _).congr (fun j _ => by simp [boolV])), Lib.hid ((Below.refl _ _).alloc (Nat.le_refl _) _)⟩
  case round =>
    obtain ⟨k, hk, rfl, HO, HB⟩ := hrel
    by_cases hlt : k < n
    · obtain ⟨b, off, rfl, _, hc⟩ := (HR.out.below HB.out (Nat.le_refl _)) (by omega)
      have x0 := hc k hlt
      have y0 := HO.out.cell hlt
      have z0 := HO.out.frozen k
      unfold boolV at x0 y0
      simp only [Nat.lt_irrefl, if_false] at y0
      clear hc
      go_wp2_with fail
      go_roundw
      case rel =>
        refine ⟨k + 1, by omega, by go_num, Lib.hid ((HO.out.set k (.bool (X k))).congr (fun j hj => ?_)), Lib.hid (below_setAt HB.out (Nat.le_refl _) _)⟩
        dsimp only [boolV]
        by_cases e0 : j = k
        · subst e0; rw [if_pos rfl, if_pos (by omega)]
        · rw [if_neg e0]
          by_cases e2 : j < k
          · rw [if_pos e2, if_pos (by omega)]
          · rw [if_neg e2, if_neg (by omega)]
      case measure => simp [intOf]; omega
    · obtain rfl : k = n := by omega
      go_wp2_with fail
      go_ret
      exact ⟨_, _, rfl, ow_of_own (m := k) (HO.out.congr (fun j hj => by dsimp only [boolV]; rw [if_pos hj])) (Nat.le_refl _) (Nat.le_refl _), HB.out⟩
theorem eq_BoolS {A A' : Option Addr} {n c c' : Nat} {X : Nat → Bool} {w : World} (hn : n ≤ 1048576) (hx : GRow w A n (boolV X)) (hy : GRow w A' n (boolV X)) :
    Calls Try.prog 23 #[.slice A n c, .slice A' n c'] w (SameRow w true) := by
  have HX := Lib.hid hx
  have HY := Lib.hid hy
  clear hx hy
  go_enter Try.func23, Try.ntmps23
  go_wp2_with fail
  go_loopw [5] (fun i wr => ∃ k : Nat, k ≤ n ∧ i = .int .i64 k ∧ Below w.heap.size w wr) (fun i _ => n - (intOf i).toNat)
  case atStart => exact ⟨0, Nat.zero_le _, rfl, Below.refl _ _⟩
  case round =>
    obtain ⟨k, hk, rfl, hb⟩ := hrel
    by_cases hlt : k < n
    · obtain ⟨b1, o1, rfl, l1, hc1⟩ := HX.out.b hb (by omega)
      obtain ⟨b2, o2, rfl, l2, hc2⟩ := HY.out.b hb (by omega)
      have x0 := hc1 k hlt
      have y0 := hc2 k hlt
      unfold boolV at x0 y0
      have HB := Lib.hid hb
      generalize X k = xk at *
      clear hb hc1 hc2 l1 l2
      have h9 : (xk != xk) = false := by simp
      go_wp2_with fail
      go_quiet (fail)
      go_wp2_with fail
      go_roundw
      case rel => exact ⟨k + 1, by omega, by go_num, below_drewN HB.out _⟩
      case measure => simp [intOf]; omega
    · obtain rfl : k = n := by omega
      have HB := Lib.hid hb
      clear hb
      go_wp2_with fail
      go_ret
      exact ⟨rfl, HB.out⟩
/-- What the marks of bools are. -/
def markQ (k : Int) (i : Nat) : Bool := (k + i) % 3 == 0
theorem markF_BoolS {A : Option Addr} {n c lo hi : Nat} {X : Nat → Bool} {k0 : Int} {w : World} (hn : n ≤ 1048576) (hx : Ow lo hi 4 A n (boolV X) w) (_ht : hi ≤ w.heap.size) (h0 : 1 ≤ k0) (h1 : k0 ≤ 16777216) :
    Calls Try.prog 25 #[.slice A n c, .int .i64 k0] w fun e w' => e = .returned (.int .i64 (k0 + n)) ∧ Ow lo hi 4 A n (boolV (markQ k0)) w' ∧ Tch (Blk n A) w w' := by
  rcases Nat.eq_zero_or_pos n with hz | hpos
  · subst hz
    go_enter Try.func25, Try.ntmps25
    go_wp2_with fail
    refine wp_loop_rounds 1 ?_
    rw [rounds_succ]
    go_wp2_with fail
    go_ret
    exact ⟨by simp, ow_zero _ _ _ _ _ _, Tch.refl _ _⟩
  obtain ⟨g, off, rfl, hlo, hhi, hs⟩ := hx.seg hpos
  clear hx
  go_enter Try.func25, Try.ntmps25
  go_wp2_with fail
  go_loopw [1, 5] (fun q i wr => ∃ k : Nat, k ≤ n ∧ i = .int .i64 k ∧ q = .int .i64 (k0 + k) ∧ OSeg wr 4 g off n (boolV fun j => if j < k then markQ k0 j else X j) ∧ w.grownBy wr (some g)) (fun _ i _ => n - (intOf i).toNat)
  case atStart => exact ⟨0, Nat.zero_le _, rfl, by go_num, hs.congr (fun _ _ => by simp [boolV]), World.grownBy.refl w _⟩
  case round =>
    obtain ⟨k, hk, rfl, rfl, ho, hg⟩ := hrel
    by_cases hlt : k < n
    · have hok := ho.cell hlt
      unfold boolV at hok
      simp only [Nat.lt_irrefl, if_false] at hok
      have hfr := ho.frozen (off + k)
      have HO := Lib.hid ho
      have HG := Lib.hid hg
      clear ho hg hs
      have hq : ((k0 + (k : Int)) % 3 == 0) = markQ k0 k := rfl
      go_wp2_with fail
      first | rw [hq] | skip
      go_roundw
      case rel =>
        refine ⟨k + 1, by omega, by go_num, by go_num, (HO.out.set k (.bool (markQ k0 k))).congr (fun j hj => ?_), grown_setCell HG.out _ _⟩
        dsimp only [boolV]
        by_cases e0 : j = k
        · subst e0; rw [if_pos rfl, if_pos (by omega)]
        · rw [if_neg e0]
          by_cases e2 : j < k
          · rw [if_pos e2, if_pos (by omega)]
          · rw [if_neg e2, if_neg (by omega)]
      case measure => simp [intOf]; omega
    · obtain rfl : k = n := by omega
      have HO := Lib.hid ho
      have HG := Lib.hid hg
      clear ho hg hs
      go_wp2_with fail
      go_ret
      refine ⟨rfl, (HO.out.congr (G := boolV (markQ k0)) (fun j hj => by dsimp only [boolV]; rw [if_pos hj])).ow hlo hhi, ?_⟩
      have hh := only_grown HG.out
      exact ⟨hh.os, hh.tape, hh.output, hh.size, fun q hq hne => hh.block q hq (by
        by_cases e : q = g
        · subst e; exact absurd ⟨hpos, off, rfl⟩ hne
        · omega)⟩
theorem held_BoolS {A : Option Addr} {n c : Nat} {k0 : Int} {w : World} (hn : n ≤ 1048576) (hx : GRow w A n (boolV (markQ k0))) (h0 : 1 ≤ k0) (h1 : k0 ≤ 16777216) :
    Calls Try.prog 68 #[.slice A n c, .int .i64 k0] w fun e w' => e = .returned (.int .i64 (k0 + n)) ∧ Below w.heap.size w w' := by
  have HX := Lib.hid hx
  clear hx
  go_enter Try.func68, Try.ntmps68
  go_wp2_with fail
  go_loop [1, 5] (fun q i => ∃ k : Nat, k ≤ n ∧ i = .int .i64 k ∧ q = .int .i64 (k0 + k)) (fun _ i => n - (intOf i).toNat)
  case atStart => exact ⟨0, Nat.zero_le _, rfl, by go_num⟩
  case round =>
    obtain ⟨k, hk, rfl, rfl⟩ := hrel
    by_cases hlt : k < n
    · obtain ⟨b1, o1, rfl, l1, hc1⟩ := HX.out (by omega)
      have x0 := hc1 k hlt
      unfold boolV at x0
      have hq : ((k0 + (k : Int)) % 3 == 0) = markQ k0 k := rfl
      generalize markQ k0 k = xk at *
      clear hc1
      cases xk
      · go_wp2_with fail
        go_round
        case rel => exact ⟨k + 1, by omega, by go_num, by go_num⟩
        case measure => simp [intOf]; omega
      · go_wp2_with fail
        go_round
        case rel => exact ⟨k + 1, by omega, by go_num, by go_num⟩
        case measure => simp [intOf]; omega
    · obtain rfl : k = n := by omega
      go_wp2_with fail
      go_ret
      exact ⟨rfl, Below.refl _ _⟩
end
end Go.Proofs.Ytijlpbcgkecinaa
