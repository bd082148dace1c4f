/- The model's Hyper of keys. -/
import Derived.Test.YtockhjdhihehlaaPush
import Derived.Test.YtockhjdhihehlaaKeyRow
import Derived.Test.YtockhjdhihehlaaLoads
import Derived.Deep.DeepCutAuto
namespace Go.Proofs.Ytockhjdhihehlaa
open Go.RowKit

/-- The places of a key's edge. -/
def eH (seed seg : Int) (S : Nat → ByteArray) (i j : Nat) : Int := placeI seed j (S i).data.toList seg + j * seg
theorem eH_bd {seed : Int} {g : Nat} {S : Nat → ByteArray} {i j : Nat} (h1 : 1 ≤ g) (_h2 : g ≤ 24) (hj : j < 3) : 0 ≤ placeI seed j (S i).data.toList (g : Int) ∧ placeI seed j (S i).data.toList (g : Int) < g ∧ 0 ≤ ((j * g : Nat) : Int) ∧ (j * g : Nat) ≤ 48 := by
  obtain ⟨h3, h4⟩ := placeI_bd seed j (S i).data.toList g (by omega)
  refine ⟨h3, h4, by omega, ?_⟩
  have : j * g ≤ 2 * 24 := Nat.mul_le_mul (by omega) (by omega)
  omega
theorem seedB_part {seed : Int} (h : seedB seed 0 = true) (j : Nat) (hj : j < 3) : seedB seed j = true := by
  unfold seedB at *
  simp only [decide_eq_true_eq] at *
  omega
set_option maxRecDepth 100000 in
set_option maxHeartbeats 2000000 in
theorem spec_peTriple (seed : Int) (g : Nat) (S : Nat → ByteArray) (i : Nat) (w : World) (hs : (S i).size ≤ maxLen) (hsd : seedB seed 0 = true) (h1 : 1 ≤ g) (h2 : g ≤ 24) :
    Calls Try.prog 71 #[.int .i64 seed, .string (S i), .int .i64 g] w fun e w' => ∃ A c, e = .returned (.slice A 3 c) ∧ w'.ownsRow w.heap.size 3 1 (.slice A 3 c) 3 (vals (intV (eH seed g S i)) 3) ∧ Below w.heap.size w w' := by
  go_enter Try.func71, Try.ntmps71
  go_wp2_with fail
  go_loopw [7, 8] (fun v i' wr => ∃ (q : Nat) (A1 : Option Addr) (k1 : Nat), q ≤ 3 ∧ i' = .int .i64 q ∧ v = .slice A1 q k1 ∧ Hid (wr.ownsRow w.heap.size 3 1 (.slice A1 q k1) q (vals (intV (eH seed g S i)) q)) ∧ Hid (Below w.heap.size w wr)) (fun _ i' _ => 3 - (intOf i').toNat)
  case atStart => exact ⟨0, none, 0, by omega, rfl, rfl, Lib.hid (World.ownsRow_nil _ _ _ _), Lib.hid (Below.refl _ _)⟩
  case round =>
    obtain ⟨q, A1, k1, hq, rfl, rfl, HO, HB⟩ := hrel
    have hsz := HB.out.size
    by_cases hlt : q < 3
    · obtain ⟨p0, p1, p2, p3⟩ := eH_bd (seed := seed) (S := S) (i := i) h1 h2 hlt
      have hsq := seedB_part hsd q hlt
      have e1 : IntKind.i64.wrap ((q : Int) * (g : Int)) = ((q * g : Nat) : Int) := by rw [← Int.natCast_mul]; exact IntWalk.i64_in _ (by omega)
      have HV := Lib.hid (show intV (eH seed g S i) q = .int .i64 (placeI seed q (S i).data.toList g + ((q * g : Nat) : Int)) by unfold intV eH; push_cast; rfl)
      have HC := Lib.hid (spec_biPlace seed q g (S i) wr hs hsq (by omega) (by omega))
      generalize placeI seed (q : Int) (S i).data.toList (g : Int) = v at *
      generalize q * g = u at *
      have e2 : IntKind.i64.wrap (v + (u : Int)) = v + (u : Int) := IntWalk.i64_in _ (by omega)
      go_wp2_with fail
      refine HC.out.mono ?_; rintro e w2 ⟨rfl, rfl⟩
      go_wp2_with (at_builtin; refine wpList_push rfl _ _ 22 rfl w.heap.size 3 (.int .i64 0) 8 Try.underlying22 infoI rfl A1 q k1 (intV (eH seed g S i)) (.int .i64 (v + (u : Int))) wr rfl HO.out rfl HV.out rfl (by omega) (by omega) hsz ?_)
      intro A' c' w3 hown' hb3
      have HO3 := Lib.hid hown'
      have HB3 := Lib.hid (HB.out.trans hb3)
      clear hown' hb3 HO HB
      go_wp2_with fail
      go_roundw
      case rel => exact ⟨q + 1, A', c', by omega, by go_num, rfl, HO3, HB3⟩
      case measure => simp [intOf]; omega
    · obtain rfl : q = 3 := by omega
      go_wp2_with fail
      go_ret
      exact ⟨A1, k1, rfl, HO.out, HB.out⟩

end Go.Proofs.Ytockhjdhihehlaa
