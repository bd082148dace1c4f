/- CountBits: the program's and the model's. -/
import Derived.Test.YtockhjdhihehlaaRead
import Derived.Test.YtockhjdhihehlaaPop
namespace Go.Proofs.Ytockhjdhihehlaa
open Go.RowKit

set_option maxHeartbeats 400000 in
theorem onesCount (x : Nat) (w : World) (hx : x < 65536) :
    Calls Try.prog 95 #[.int .u64 x] w fun e w' => e = .returned (.int .i64 (pcF x)) ∧ w = w' := by
  go_enter Try.func95, Try.ntmps95
  go_wp2_with fail
  go_enter Try.func99, Try.ntmps99
  go_wp2_with fail
  go_ret
  refine ⟨?_, rfl⟩
  rw [← pcI_eq x hx]
  rfl

def Span (z : Int) (n : Nat) (X : Nat → Int) (a b : Int) : Prop := Good z n X ∧ 0 ≤ a ∧ a ≤ b ∧ b ≤ z

set_option maxHeartbeats 400000 in
theorem spec_biCount (z : Int) (A : Option Addr) (n c : Nat) (W : Nat → Nat) (a u : Nat) (w : World) (hn : n ≤ 1048576) (hr : WRow w A n W) (hau : a ≤ u) (hz : u ≤ 16 * n) (hu : u ≤ 4096) :
    Calls Try.prog 74 #[.agg #[.int .i64 z, .slice A n c], .int .i64 a, .int .i64 u] w fun e w' => e = .returned (.int .i64 (cntN W a (u - a))) ∧ Below w.heap.size w w' := by
  have L0 := Lib.hid (LS.start (z := z) (c := c) hr.1 58)
  have hW := Lib.hid hr.2
  clear hr
  go_enter Try.func74, Try.ntmps74
  go_wp2_with fail
  go_loopw [7, 8] (fun v i wr => ∃ q V : Nat, a ≤ q ∧ q ≤ u ∧ i = .int .i64 q ∧ v = .int .i64 V ∧ V ≤ 4096 ∧ Hid (V = cntN W a (q - a)) ∧ LS w w.heap.size z A n c (fun i => (W i : Int)) wr) (fun _ i _ => u - (intOf i).toNat)
  case atStart => exact ⟨a, 0, Nat.le_refl _, hau, rfl, rfl, by omega, (by show 0 = _; simp [cntN]), L0.out⟩
  case round =>
    obtain ⟨q, V, hq1, hq2, rfl, rfl, hV, hv, hl⟩ := hrel
    have L1 := Lib.hid hl
    obtain ⟨hs1, c0, c1⟩ := hl.box
    clear hl L0
    by_cases hlt : q < u
    · have HS := Lib.hid (show cntN W a (q + 1 - a) = cntN W a (q - a) + (if bitN W q then 1 else 0) by
        rw [show q + 1 - a = (q - a) + 1 by omega, cntN_snoc, show a + (q - a) = q by omega])
      have HL := Lib.hid (cntN_le W (q + 1 - a) a)
      by_cases hbit : bitN W q = true
      · go_wp2_with fail
        refine (spec_biAt z A n c W q _ hn ⟨L1.out.row, hW.out⟩ (by omega)).mono ?_; rintro e w2 ⟨rfl, hb⟩
        have L2 := Lib.hid (L1.out.step hb)
        clear hb L1
        go_wp2_with fail
        go_roundw
        case rel => exact ⟨q + 1, V + 1, by omega, by omega, by go_num, by go_num, (by have := HL.out; rw [HS.out, ← hv.out] at this; simp [hbit] at this; omega), (by show _ = _; rw [HS.out, ← hv.out]; simp [hbit]), L2.out⟩
        case measure => simp [intOf]; omega
      · have hbit : bitN W q = false := by simpa using hbit
        go_wp2_with fail
        refine (spec_biAt z A n c W q _ hn ⟨L1.out.row, hW.out⟩ (by omega)).mono ?_; rintro e w2 ⟨rfl, hb⟩
        have L2 := Lib.hid (L1.out.step hb)
        clear hb L1
        go_wp2_with fail
        go_roundw
        case rel => exact ⟨q + 1, V, by omega, by omega, by go_num, rfl, hV, (by show _ = _; rw [HS.out, ← hv.out]; simp [hbit]), L2.out⟩
        case measure => simp [intOf]; omega
    · obtain rfl : q = u := by omega
      go_wp2_with fail
      go_ret
      exact ⟨ret_int (by rw [hv.out]), L1.out.below⟩

end Go.Proofs.Ytockhjdhihehlaa
