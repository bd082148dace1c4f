/- The laws' copy of a row of strings: its capacity is its length. -/
import Derived.Test.YthaipemgndahfaaObjStr
namespace Go.Proofs.Ythaipemgndahfaa
open Go.RowKit

set_option maxHeartbeats 400000 in
theorem to_StringSn {A : Option Addr} {n c : Nat} {S : Nat → ByteArray} {w : World} (hn : n ≤ 1048576) (hr : GRow w A n (strV S)) :
    Calls Try.prog 13 #[.slice A n c] w fun e w' => ∃ A', e = .returned (.slice A' n n) ∧ Ow w.heap.size w'.heap.size 9 A' n (strV S) w' ∧ Below w.heap.size w w' := by
  have hmk := fun W => run_make_row' (P := Try.prog) 22 9 (.string ByteArray.empty) 16 Try.underlying22 infoS rfl .i64 .i64 n (by omega) (by omega) W
  have HR := Lib.hid hr
  clear hr
  go_enter Try.func13, Try.ntmps13
  go_wp2_with fail
  go_loopw [4] (fun i wr => ∃ k : Nat, k ≤ n ∧ i = .int .i64 k ∧ GOwn wr 9 w.heap.size n (fun j => if j < k then strV S j else .string ByteArray.empty) ∧ Below w.heap.size w wr) (fun i _ => n - (intOf i).toNat)
  case atStart => exact ⟨0, Nat.zero_le _, rfl, (GOwn.made _ _ _ _).congr (fun _ _ => by simp), (Below.refl _ _).alloc (Nat.le_refl _) _⟩
  case round =>
    obtain ⟨k, hk, rfl, ho, hb⟩ := hrel
    by_cases hlt : k < n
    · obtain ⟨b, off, rfl, hb1, hc⟩ := HR.out.below hb (Nat.le_refl _) (by omega)
      have hck := hc k hlt
      have hok := ho.cell hlt
      have hfr := ho.frozen k
      rw [if_neg (Nat.lt_irrefl k)] at hok
      unfold strV at hck
      have HO := Lib.hid ho
      have HB := Lib.hid hb
      clear ho hb hc hb1
      go_wp2_with fail
      go_roundw
      case rel =>
        refine ⟨k + 1, by omega, by go_num, (HO.out.set k (strV S k)).congr (fun j hj => ?_), HB.out.setCell (Nat.le_refl _) _⟩
        by_cases e : j = k
        · subst e; simp
        · by_cases e2 : j < k <;> simp [e, e2] <;> omega
      case measure => simp [intOf]; omega
    · obtain rfl : k = n := by omega
      have HO := Lib.hid ho
      have HB := Lib.hid hb
      clear ho hb
      go_wp2_with fail
      go_ret
      exact ⟨_, rfl, ow_of_own (m := k) (HO.out.congr (fun j hj => by simp [hj])) (Nat.le_refl _) (Nat.le_refl _), HB.out⟩
end Go.Proofs.Ythaipemgndahfaa
