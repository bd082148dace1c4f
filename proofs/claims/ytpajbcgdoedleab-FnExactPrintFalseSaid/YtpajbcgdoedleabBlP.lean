/- The probes of a key: both sides. -/
import Derived.Test.YtpajbcgdoedleabBlG
import Derived.Test.YtpajbcgdoedleabKeyRow
namespace Go.Proofs.Ytpajbcgdoedleab
open Go.RowKit

set_option maxRecDepth 100000 in
set_option maxHeartbeats 1000000 in
theorem impl_probesOf {z0 : Int} {p z : Nat} {s : ByteArray} {w : World} (h0 : 0 ≤ z0 ∧ z0 ≤ 9999) (hp : p ≤ 8) (hz : 1 ≤ z ∧ z ≤ 512) (hs : s.size ≤ maxLen) :
    Calls Try.prog 115 #[.int .i64 z0, .int .i64 p, .int .i64 z, .string s] w fun e w' => e = .returned (.slice (some ⟨w.heap.size, 0, none⟩) p p) ∧ ORow w' w.heap.size p (prI z0 s z) ∧ Below w.heap.size w w' := by
  have hmk := fun W => run_make_row' (P := Try.prog) 22 3 (.int .i64 0) 8 Try.underlying22 infoI rfl .i64 .i64 p (by omega) (by omega) W
  go_enter Try.func115, Try.ntmps115
  go_wp2_with fail
  go_loopw [15] (fun i wr => ∃ k : Nat, k ≤ p ∧ i = .int .i64 k ∧ ORow wr w.heap.size p (fun j => if j < k then prI z0 s z j else 0) ∧ Below w.heap.size w wr) (fun i _ => p - (intOf i).toNat)
  case atStart => exact ⟨0, Nat.zero_le _, rfl, (ORow.made _ _).congr (fun _ _ => by simp), (Below.refl _ _).alloc (Nat.le_refl _) _⟩
  case round =>
    obtain ⟨k, hk', rfl, ho, hb⟩ := hrel
    by_cases hlt : k < p
    · have HC := Lib.hid (impl_placeKey z0 k z s wr hs (prI_seed h0 (by omega)) (by omega) (by omega))
      have hx := ho.cell hlt
      have hf := ho.frozen k
      rw [if_neg (Nat.lt_irrefl k)] at hx
      have HO := Lib.hid ho
      have HB := Lib.hid hb
      clear ho hb
      go_wp2_with fail
      refine HC.out.mono ?_; rintro e w' ⟨rfl, rfl⟩
      go_wp2_with fail
      go_roundw
      case rel =>
        refine ⟨k + 1, by omega, by go_num, (HO.out.set k (prI z0 s z k)).congr (fun j hj => ?_), HB.out.setCell (Nat.le_refl _) _⟩
        by_cases e : j = k
        · subst e; simp
        · simp only [e, if_false]
          by_cases e2 : j < k
          · rw [if_pos e2, if_pos (by omega)]
          · rw [if_neg e2, if_neg (by omega)]
      case measure => simp [intOf]; omega
    · obtain rfl : k = p := by omega
      have HO := Lib.hid (ho.congr (Y := prI z0 s z) (fun j hj => by rw [if_pos hj]))
      have HB := Lib.hid hb
      clear ho hb
      go_wp2_with fail
      go_ret
      exact ⟨rfl, HO.out, HB.out⟩
set_option maxRecDepth 100000 in
set_option maxHeartbeats 1000000 in
theorem spec_fiProbes {z0 : Int} {p z : Nat} {s : ByteArray} {w : World} (h0 : 0 ≤ z0 ∧ z0 ≤ 9999) (hp : p ≤ 8) (hz : 1 ≤ z ∧ z ≤ 512) (hs : s.size ≤ maxLen) :
    Calls Try.prog 93 #[.int .i64 z0, .int .i64 p, .int .i64 z, .string s] w fun e w' => ∃ A' c', e = .returned (.slice A' p c') ∧ w'.ownsRow w.heap.size 3 1 (.slice A' p c') p (vals (intV (prI z0 s z)) p) ∧ Below w.heap.size w w' := by
  go_enter Try.func93, Try.ntmps93
  go_wp2_with fail
  go_loopw [9, 10] (fun v i wr => ∃ k : Nat, k ≤ p ∧ i = .int .i64 k ∧ (∃ A1 c1, v = .slice A1 k c1 ∧ wr.ownsRow w.heap.size 3 1 (.slice A1 k c1) k (vals (intV (prI z0 s z)) k)) ∧ Below w.heap.size w wr) (fun _ i _ => p - (intOf i).toNat)
  case atStart => exact ⟨0, Nat.zero_le _, rfl, ⟨none, 0, rfl, World.ownsRow_nil _ _ _ _⟩, Below.refl _ _⟩
  case round =>
    obtain ⟨k, hk', rfl, ⟨A1, c1, rfl, hown⟩, hb⟩ := hrel
    have HO1 := Lib.hid hown
    have HB := Lib.hid hb
    clear hown
    by_cases hlt : k < p
    · have hsz := hb.size
      have HC := Lib.hid (spec_biPlace z0 k z s wr hs (prI_seed h0 (by omega)) (by omega) (by omega))
      clear hb
      go_wp2_with fail
      refine HC.out.mono ?_; rintro e w2 ⟨rfl, rfl⟩
      go_wp2_with (at_builtin; refine wpList_push rfl _ _ 22 rfl w.heap.size 3 (.int .i64 0) 8 Try.underlying22 infoI rfl A1 k c1 (intV (prI z0 s z)) (.int .i64 (placeI z0 k s.data.toList z)) wr rfl HO1.out rfl rfl rfl (by omega) (by omega) hsz ?_)
      intro A' c' w3 hown' hb3
      have HO3 := Lib.hid hown'
      have HB3 := Lib.hid (HB.out.trans (hb3.mono (Nat.le_refl _)))
      clear hown' hb3 HB HO1
      go_wp2_with fail
      go_roundw
      case rel => exact ⟨k + 1, by omega, by go_num, ⟨_, _, rfl, HO3.out⟩, HB3.out⟩
      case measure => simp [intOf]; omega
    · obtain rfl : k = p := by omega
      clear hb
      go_wp2_with fail
      go_ret
      exact ⟨_, _, rfl, HO1.out, HB.out⟩
section
variable {z0 : Int} {p z : Nat} {A : Option Addr} {n c : Nat} {X : Nat → Int} {s : ByteArray} {w : World}
end
end Go.Proofs.Ytpajbcgdoedleab
