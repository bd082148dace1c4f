/- HyperDegrees: both sides. -/
import Derived.Test.YtpajbcgdoedleabDegM
import Derived.BigQuiet
namespace Go.Proofs.Ytpajbcgdoedleab
open Go.RowKit

theorem HyperOk.three {z : Int} {n : Nat} {l : Nat → Nat} {X : Nat → Nat → Int} (h : HyperOk z n l X) : ∀ i, i < n → l i = 3 := fun i hi => (h.2.2.2 i hi).1
theorem HyperOk.inn {z : Int} {n : Nat} {l : Nat → Nat} {X : Nat → Nat → Int} (h : HyperOk z n l X) : ∀ i, i < n → ∀ j, j < l i → 0 ≤ X i j ∧ X i j < z := fun i hi j hj => by
  have := risT_in (h.2.2.2 i hi).2 hj; omega
def allE (t : Nat) : Nat := t
set_option maxRecDepth 100000 in
set_option maxHeartbeats 2000000 in
theorem spec_peAll (z : Int) (A : Option Addr) (n c : Nat) (B : Nat → Option Addr) (l d : Nat → Nat) (X : Nat → Nat → Int) (w : World) (hn : n ≤ 40) (hr : HR w A n B l d X) :
    Calls Try.prog 124 #[.agg #[.int .i64 z, .slice A n c]] w fun e w' => ∃ EA ec, e = .returned (.slice EA n ec) ∧ w'.ownsRow (w.heap.size + 1) 3 1 (.slice EA n ec) n (vals (intV (idxV allE)) n) ∧ Below w.heap.size w w' := by
  have L0 := Lib.hid (LH.start (z := z) (c := c) hr 109)
  have HR0 := Lib.hid hr
  clear hr
  obtain ⟨hsz, b0, b1⟩ := L0.out.box
  go_enter Try.func124, Try.ntmps124
  go_wp2_with fail
  go_loopw [3, 8] (fun v i wr => ∃ (q : Nat) (A1 : Option Addr) (k1 : Nat), q ≤ n ∧ i = .int .i64 q ∧ v = .slice A1 q k1 ∧ Hid (wr.ownsRow (w.heap.size + 1) 3 1 (.slice A1 q k1) q (vals (intV (idxV allE)) q)) ∧ Hid (LH w w.heap.size z A n c B l d X wr)) (fun _ i _ => n - (intOf i).toNat)
  case atStart => exact ⟨0, none, 0, Nat.zero_le _, rfl, rfl, Lib.hid (World.ownsRow_nil _ _ _ _), L0⟩
  case round =>
    obtain ⟨q, A1, k1, hq, rfl, rfl, HO, HL⟩ := hrel
    clear b0 b1 hsz
    obtain ⟨hsz, b0, b1⟩ := HL.out.box
    have hlen := HL.out.below.size
    by_cases hlt : q < n
    · have HV := Lib.hid (show intV (idxV allE) q = .int .i64 (q : Int) from rfl)
      go_wp2_with (at_builtin; refine wpList_push rfl _ _ 22 rfl (w.heap.size + 1) 3 (.int .i64 0) 8 Try.underlying22 infoI rfl A1 q k1 (intV (idxV allE)) (.int .i64 (q : Int)) wr rfl HO.out rfl HV.out rfl (by omega) (by omega) (by omega) ?_)
      intro A' c' w5 hown' hb5
      have HO5 := Lib.hid hown'
      have L5 := Lib.hid (HL.out.low hb5 HR0.out (by omega) (by omega))
      clear hown' hb5 HO HL
      go_wp2_with fail
      go_roundw
      case rel => exact ⟨q + 1, A', c', by omega, by go_num, rfl, HO5, L5⟩
      case measure => simp [intOf]; omega
    · obtain rfl : q = n := by omega
      go_wp2_with fail
      go_ret
      exact ⟨A1, k1, rfl, HO.out, HL.out.below⟩
theorem intsOwn_row {n : Nat} {X : Nat → Int} {b : Bool} {w : World} (e : Ending) (w' : World) (h : IntsOwn n X b w e w') : ∃ A c, e = .returned (.tuple #[.slice A n c, .bool b]) ∧ GRow w' A n (intV X) ∧ Below w.heap.size w w' := by
  obtain ⟨A, c, h1, h2, h3⟩ := h
  exact ⟨A, c, h1, h2.rd.row (Nat.le_refl _), h3⟩
theorem HyperOk.nat {z : Int} {n : Nat} {l : Nat → Nat} {X : Nat → Nat → Int} (h : HyperOk z n l X) : ∃ k : Nat, z = k := ⟨z.toNat, by have := h.1; omega⟩
end Go.Proofs.Ytpajbcgdoedleab
