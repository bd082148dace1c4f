/- The laws' functions that write over a slice of strings, and look what was written. -/
import Derived.Test.YthaipemgndahfaaObjTch
import Derived.Test.YthaipemgndahfaaObjStr
namespace Go.Proofs.Ythaipemgndahfaa
open Go.RowKit

set_option maxHeartbeats 400000 in
theorem markF_StringSN {A : Option Addr} {n c lo hi k0 : Nat} {S : Nat → ByteArray} {w : World} (hn : n ≤ 1048576) (hx : Ow lo hi 9 A n (strV S) w) (_ht : hi ≤ w.heap.size) (h0 : 1 ≤ k0) (h1 : k0 ≤ 16777216) :
    Calls Try.prog 17 #[.slice A n c, .int .i64 k0] w fun e w' => e = .returned (.int .i64 (k0 + n)) ∧ Ow lo hi 9 A n (strV fun i => markB (k0 + i)) w' ∧ Tch (Blk n A) w w' := by
  rcases Nat.eq_zero_or_pos n with hz | hpos
  · subst hz
    clear hx
    go_enter Try.func17, Try.ntmps17
    go_wp2_with fail
    refine wp_loop_rounds 1 ?_
    rw [rounds_succ]
    go_wp2_with fail
    go_ret
    exact ⟨by simp, ow_zero _ _ _ _ _ _, Tch.refl _ _⟩
  obtain ⟨g, off, rfl, hlo, hhi, hs⟩ := hx.seg hpos
  clear hx
  have HFIN := Lib.hid (show ∀ wr, Only g (g + 1) w wr → Tch (Blk n (some ⟨g, off, none⟩)) w wr from fun wr h => ⟨h.os, h.tape, h.output, h.size, fun k hk hne => h.block k hk (by
    by_cases e : k = g
    · subst e; exact absurd ⟨hpos, off, rfl⟩ hne
    · omega)⟩)
  go_enter Try.func17, Try.ntmps17
  go_wp2_with fail
  go_loopw [1, 5] (fun q i wr => ∃ k : Nat, k ≤ n ∧ i = .int .i64 k ∧ q = .int .i64 ((k0 : Int) + k) ∧ OSeg wr 9 g off n (fun j => if j < k then .string (markB (k0 + j)) else strV S j) ∧ Only g (g + 1) w wr) (fun _ i _ => n - (intOf i).toNat)
  case atStart => exact ⟨0, Nat.zero_le _, rfl, by go_num, hs.congr (fun _ _ => by simp), Only.refl _ _ _⟩
  case round =>
    obtain ⟨k, hk, rfl, rfl, ho, hg⟩ := hrel
    by_cases hlt : k < n
    · have HO := Lib.hid ho
      have HG := Lib.hid hg
      have hM := markText_is (k := k0 + k) (w := wr) (by omega) (by omega)
      rw [show ((k0 + k : Nat) : Int) = (k0 : Int) + (k : Int) by omega] at hM
      have HM := Lib.hid hM
      clear ho hg hs hM
      go_wp2_with fail
      refine HM.out.mono ?_; rintro e w2 ⟨rfl, hb⟩
      have HO2 := Lib.hid (HO.out.b hb)
      have HG2 := Lib.hid (HG.out.trans (only_below hb))
      have hok := HO2.out.cell hlt
      rw [if_neg (Nat.lt_irrefl k)] at hok
      have hfr := HO2.out.frozen (off + k)
      unfold strV at hok
      clear hb HO HG HM
      go_wp2_with fail
      go_roundw
      case rel =>
        refine ⟨k + 1, by omega, by go_num, by go_num, (HO2.out.set k (.string (markB (k0 + k)))).congr (fun j hj => ?_), HG2.out.trans (only_grown (grown_setCell (World.grownBy.refl _ _) _ _))⟩
        by_cases e : j = k
        · subst e; simp
        · simp only [e, if_false, show (j < k + 1) = (j < k) by simp; omega]
      case measure => simp [intOf]; omega
    · obtain rfl : k = n := by omega
      have HO := Lib.hid ho
      have HG := Lib.hid hg
      clear ho hg hs
      go_wp2_with fail
      go_ret
      exact ⟨rfl, (HO.out.congr (G := strV fun i => markB (k0 + i)) (fun j hj => by simp [hj, strV])).ow hlo hhi, HFIN.out _ HG.out⟩
theorem markF_StringS {A : Option Addr} {n c lo hi : Nat} {S : Nat → ByteArray} {k0 : Int} {w : World} (hn : n ≤ 1048576) (hx : Ow lo hi 9 A n (strV S) w) (ht : hi ≤ w.heap.size) (h0 : 1 ≤ k0) (h1 : k0 ≤ 16777216) :
    Calls Try.prog 17 #[.slice A n c, .int .i64 k0] w fun e w' => e = .returned (.int .i64 (k0 + n)) ∧ Ow lo hi 9 A n (strV fun i => markB (k0.toNat + i)) w' ∧ Tch (Blk n A) w w' := by
  obtain ⟨q, rfl⟩ : ∃ q : Nat, k0 = q := ⟨k0.toNat, by omega⟩
  exact markF_StringSN hn hx ht (by omega) (by omega)
set_option maxHeartbeats 400000 in
theorem held_StringSN {A : Option Addr} {n c k0 : Nat} {w : World} (hn : n ≤ 1048576) (hx : GRow w A n (strV fun i => markB (k0 + i))) (h0 : 1 ≤ k0) (h1 : k0 ≤ 16777216) :
    Calls Try.prog 48 #[.slice A n c, .int .i64 k0] w fun e w' => e = .returned (.int .i64 (k0 + n)) ∧ Below w.heap.size w w' := by
  have HX := Lib.hid hx
  clear hx
  go_enter Try.func48, Try.ntmps48
  go_wp2_with fail
  go_loopw [1, 5] (fun q i wr => ∃ k : Nat, k ≤ n ∧ i = .int .i64 k ∧ q = .int .i64 ((k0 : Int) + k) ∧ Below w.heap.size w wr) (fun _ i _ => n - (intOf i).toNat)
  case atStart => exact ⟨0, Nat.zero_le _, rfl, by go_num, Below.refl _ _⟩
  case round =>
    obtain ⟨k, hk, rfl, rfl, hb⟩ := hrel
    by_cases hlt : k < n
    · obtain ⟨b1, o1, rfl, l1, hc1⟩ := HX.out.below hb (Nat.le_refl _) (by omega)
      have hx : wr.cell? ⟨b1, o1 + k, none⟩ = some (.string (markB (k0 + k))) := hc1 k hlt
      have HB := Lib.hid hb
      have hM := fun W => markText_is (k := k0 + k) (w := W) (by omega) (by omega)
      rw [show ((k0 + k : Nat) : Int) = (k0 : Int) + (k : Int) by omega] at hM
      have HM := Lib.hid hM
      generalize markB (k0 + k) = m at *
      have HK := Lib.hid (show ∀ W, Below wr.heap.size wr W → W.cell? ⟨b1, o1 + k, none⟩ = some (.string m) from fun W hW => (hW.cell (p := ⟨b1, o1 + k, none⟩) l1).trans hx)
      clear hb hc1 l1 hM
      go_wp2_with fail
      go_region_held3 (fun W => W.cell? ⟨b1, o1 + k, none⟩ = some (.string m))
        (first | exact HK.out _ hb | exact HK.out _ ⟨rfl, rfl, rfl, Nat.le_refl _, fun _ _ => rfl⟩ | (go_keep; done))
        (first | (go_at_call 45; refine (HM.out _).mono ?_; rintro e w2 ⟨rfl, hb'⟩; have hb := of_drew hb'))
      have HB2 := Lib.hid (HB.out.trans (hb.mono HB.out.size))
      clear hb
      go_wp2_with fail
      go_roundw
      case rel => exact ⟨k + 1, by omega, by go_num, by go_num, HB2.out⟩
      case measure => simp [intOf]; omega
    · obtain rfl : k = n := by omega
      have HB := Lib.hid hb
      clear hb
      go_wp2_with fail
      go_ret
      exact ⟨rfl, HB.out⟩
theorem held_StringS {A : Option Addr} {n c : Nat} {k0 : Int} {w : World} (hn : n ≤ 1048576) (hx : GRow w A n (strV fun i => markB (k0.toNat + i))) (h0 : 1 ≤ k0) (h1 : k0 ≤ 16777216) :
    Calls Try.prog 48 #[.slice A n c, .int .i64 k0] w fun e w' => e = .returned (.int .i64 (k0 + n)) ∧ Below w.heap.size w w' := by
  obtain ⟨q, rfl⟩ : ∃ q : Nat, k0 = q := ⟨k0.toNat, by omega⟩
  exact held_StringSN hn hx (by omega) (by omega)
end Go.Proofs.Ythaipemgndahfaa
