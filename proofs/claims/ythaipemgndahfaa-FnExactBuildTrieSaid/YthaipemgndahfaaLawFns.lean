/- Contracts of the laws' own small functions on int slices and bit vectors: size, copy, compare, mark, look again. -/
import Derived.Test.YthaipemgndahfaaRows
import Derived.Test.YthaipemgndahfaaMem
import Derived.WalkSpells
import Derived.WalkLawsBesides
import Derived.Deep.QuietTactic
import Derived.BigQuiet
namespace Go.Proofs.Ythaipemgndahfaa
open Go.RowKit

theorem szIntS_any (A : Option Addr) (n c : Nat) (left : Int) (w : World) (hn : n ≤ maxLen) (h0 : 0 ≤ left) (h1 : left ≤ 1048576) :
    Calls Try.prog 49 #[.slice A n c, .int .i64 left] w fun e w' => e = .returned (.int .i64 (if (n : Int) ≤ left then left - n else -1)) ∧ w = w' := by
  unfold maxLen at hn
  by_cases h : (n : Int) ≤ left
  · rw [if_pos h]
    go_enter Try.func49, Try.ntmps49
    go_wp2
    go_ret
    exact ⟨rfl, rfl⟩
  · rw [if_neg h]
    go_enter Try.func49, Try.ntmps49
    go_wp2
    go_ret
    exact ⟨rfl, rfl⟩

theorem infoI : (Try.prog.info? 3).map (fun i => (i.zero, i.size, i.bytes)) = some (some (.int .i64 0), 1, 8) := by kernel_rfl

def NewRow (w : World) (n : Nat) (X : Nat → Int) (e : Ending) (w' : World) : Prop :=
  ∃ g, e = .returned (.slice (some ⟨g, 0, none⟩) n n) ∧ w.heap.size ≤ g ∧ ORow w' g n X ∧ Below w.heap.size w w'

set_option maxHeartbeats 400000 in
theorem toIntS_any (A : Option Addr) (n c : Nat) (X : Nat → Int) (w : World) (hn : n ≤ 1048576) (hr : IRow w A n X) :
    Calls Try.prog 51 #[.slice A n c] w (NewRow w n X) := by
  have hmk := fun W => run_make_row' (P := Try.prog) 24 3 (.int .i64 0) 8 Try.underlying24 infoI rfl .i64 .i64 n (by omega) (by omega) W
  have HR := Lib.hid hr
  clear hr
  go_enter Try.func51, Try.ntmps51
  go_wp2
  go_loopw [4] (fun i wr => ∃ k : Nat, k ≤ n ∧ i = .int .i64 k ∧ ORow wr w.heap.size n (fun j => if j < k then X j else 0) ∧ Below w.heap.size w wr) (fun i _ => n - (intOf i).toNat)
  case atStart => exact ⟨0, Nat.zero_le _, rfl, (ORow.made _ _).congr (fun _ _ => by simp), (Below.refl _ _).alloc (Nat.le_refl _) _⟩
  case round =>
    obtain ⟨k, hk, rfl, ho, hb⟩ := hrel
    by_cases hlt : k < n
    · obtain ⟨b, off, rfl, hb1, hc⟩ := HR.out.b hb (by omega)
      have hck := hc k hlt
      have hok := ho.cell hlt
      have hfr := ho.frozen k
      have HO := Lib.hid ho
      have HB := Lib.hid hb
      clear ho hb hc hb1
      go_wp2
      go_roundw
      case rel =>
        refine ⟨k + 1, by omega, by go_num, (HO.out.set k (X k)).congr (fun j hj => ?_), HB.out.setCell (Nat.le_refl _) _⟩
        by_cases e : j = k
        · subst e; simp
        · by_cases e2 : j < k <;> simp [e, e2] <;> omega
      case measure => simp [intOf]; omega
    · obtain rfl : k = n := by omega
      have HO := Lib.hid ho
      have HB := Lib.hid hb
      clear ho hb
      go_wp2
      go_ret
      exact ⟨_, rfl, Nat.le_refl _, HO.out.congr (fun j hj => by simp [hj]), HB.out⟩

/-- Two ints differ or not: what '!=' says. -/
def SameRow (w : World) (v : Bool) (e : Ending) (w' : World) : Prop := e = .returned (.bool v) ∧ Below w.heap.size w w'

set_option maxHeartbeats 400000 in
theorem eqIntS_yes (A B : Option Addr) (n c d : Nat) (X Y : Nat → Int) (w : World) (hn : n ≤ 1048576) (hx : IRow w A n X) (hy : IRow w B n Y) (he : ∀ i, i < n → X i = Y i) :
    Calls Try.prog 44 #[.slice A n c, .slice B n d] w (SameRow w true) := by
  have HX := Lib.hid hx
  have HY := Lib.hid hy
  have HE := Lib.hid he
  clear hx hy he
  go_enter Try.func44, Try.ntmps44
  go_wp2
  go_loopw [5] (fun i wr => ∃ k : Nat, k ≤ n ∧ i = .int .i64 k ∧ Below w.heap.size w wr) (fun i _ => n - (intOf i).toNat)
  case atStart => exact ⟨0, Nat.zero_le _, rfl, Below.refl _ _⟩
  case round =>
    obtain ⟨k, hk, rfl, hb⟩ := hrel
    by_cases hlt : k < n
    · obtain ⟨b1, o1, rfl, l1, hc1⟩ := HX.out.b hb (by omega)
      obtain ⟨b2, o2, rfl, l2, hc2⟩ := HY.out.b hb (by omega)
      have hx := hc1 k hlt
      have hy := hc2 k hlt
      have HB := Lib.hid hb
      rw [← HE.out k hlt] at hy
      clear hb hc1 hc2 l1 l2
      go_wp2
      go_quiet (fail)
      go_wp2
      go_roundw
      case rel => exact ⟨k + 1, by omega, by go_num, below_drewN HB.out _⟩
      case measure => simp [intOf]; omega
    · obtain rfl : k = n := by omega
      have HB := Lib.hid hb
      clear hb
      go_wp2
      go_ret
      exact ⟨rfl, HB.out⟩

set_option maxHeartbeats 400000 in
theorem markIntS_any (g n c : Nat) (X : Nat → Int) (k0 : Int) (w : World) (hn : n ≤ 1048576) (hx : ORow w g n X) (h0 : 0 ≤ k0) (h1 : k0 ≤ 16777216) :
    Calls Try.prog 46 #[.slice (some ⟨g, 0, none⟩) n c, .int .i64 k0] w fun e w' => e = .returned (.int .i64 (k0 + n)) ∧ ORow w' g n (fun i => k0 + i) ∧ w.grownBy w' (some g) := by
  go_enter Try.func46, Try.ntmps46
  go_wp2
  go_loopw [1, 5] (fun q i wr => ∃ k : Nat, k ≤ n ∧ i = .int .i64 k ∧ q = .int .i64 (k0 + k) ∧ ORow wr g n (fun j => if j < k then k0 + j else X j) ∧ w.grownBy wr (some g)) (fun _ i _ => n - (intOf i).toNat)
  case atStart => exact ⟨0, Nat.zero_le _, rfl, by go_num, hx.congr (fun _ _ => by simp), World.grownBy.refl w _⟩
  case round =>
    obtain ⟨k, hk, rfl, rfl, ho, hg⟩ := hrel
    by_cases hlt : k < n
    · have hok := ho.cell hlt
      have hfr := ho.frozen k
      have HO := Lib.hid ho
      have HG := Lib.hid hg
      clear ho hg hx
      go_wp2
      go_roundw
      case rel =>
        refine ⟨k + 1, by omega, by go_num, by go_num, (HO.out.set k (k0 + k)).congr (fun j hj => ?_), grown_setCell HG.out _ _⟩
        by_cases e : j = k
        · subst e; simp
        · by_cases e2 : j < k <;> simp [e, e2] <;> omega
      case measure => simp [intOf]; omega
    · obtain rfl : k = n := by omega
      have HO := Lib.hid ho
      have HG := Lib.hid hg
      clear ho hg hx
      go_wp2
      go_ret
      exact ⟨rfl, HO.out.congr (fun j hj => by simp [hj]), HG.out⟩

set_option maxHeartbeats 400000 in
theorem heldIntS_yes (A : Option Addr) (n c : Nat) (X : Nat → Int) (k0 : Int) (w : World) (hn : n ≤ 1048576) (hx : IRow w A n X) (h0 : 0 ≤ k0) (h1 : k0 ≤ 16777216) (he : ∀ i : Nat, i < n → X i = k0 + i) :
    Calls Try.prog 47 #[.slice A n c, .int .i64 k0] w fun e w' => e = .returned (.int .i64 (k0 + n)) ∧ Below w.heap.size w w' := by
  have HX := Lib.hid hx
  have HE := Lib.hid he
  clear hx he
  go_enter Try.func47, Try.ntmps47
  go_wp2
  go_loopw [1, 5] (fun q i wr => ∃ k : Nat, k ≤ n ∧ i = .int .i64 k ∧ q = .int .i64 (k0 + k) ∧ Below w.heap.size w wr) (fun _ i _ => n - (intOf i).toNat)
  case atStart => exact ⟨0, Nat.zero_le _, rfl, by go_num, Below.refl _ _⟩
  case round =>
    obtain ⟨k, hk, rfl, rfl, hb⟩ := hrel
    by_cases hlt : k < n
    · obtain ⟨b1, o1, rfl, l1, hc1⟩ := HX.out.b hb (by omega)
      have hx := hc1 k hlt
      rw [HE.out k hlt] at hx
      have HB := Lib.hid hb
      clear hb hc1 l1
      go_wp2
      go_roundw
      case rel => exact ⟨k + 1, by omega, by go_num, by go_num, HB.out⟩
      case measure => simp [intOf]; omega
    · obtain rfl : k = n := by omega
      have HB := Lib.hid hb
      clear hb
      go_wp2
      go_ret
      exact ⟨rfl, HB.out⟩
end Go.Proofs.Ythaipemgndahfaa
