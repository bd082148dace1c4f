/- HyperDegrees: both sides. -/
import Derived.Test.YtdmdafifgaenhaaDegM
import Derived.BigQuiet
namespace Go.Proofs.Ytdmdafifgaenhaa
open Go.RowKit

theorem HyperOk.three {z : Int} {n : Nat} {l : Nat → Nat} {X : Nat → Nat → Int} (h : HyperOk z n l X) : ∀ i, i < n → l i = 3 := fun i hi => (h.2.2.2 i hi).1
theorem HyperOk.inn {z : Int} {n : Nat} {l : Nat → Nat} {X : Nat → Nat → Int} (h : HyperOk z n l X) : ∀ i, i < n → ∀ j, j < l i → 0 ≤ X i j ∧ X i j < z := fun i hi j hj => by
  have := risT_in (h.2.2.2 i hi).2 hj; omega
def allE (t : Nat) : Nat := t
set_option maxRecDepth 100000 in
set_option maxHeartbeats 2000000 in
theorem spec_peAll (z : Int) (A : Option Addr) (n c : Nat) (B : Nat → Option Addr) (l d : Nat → Nat) (X : Nat → Nat → Int) (w : World) (hn : n ≤ 40) (hr : HR w A n B l d X) :
    Calls Try.prog 86 #[.agg #[.int .i64 z, .slice A n c]] w fun e w' => ∃ EA ec, e = .returned (.slice EA n ec) ∧ w'.ownsRow (w.heap.size + 1) 3 1 (.slice EA n ec) n (vals (intV (idxV allE)) n) ∧ Below w.heap.size w w' := by
  have L0 := Lib.hid (LH.start (z := z) (c := c) hr 27)
  have HR0 := Lib.hid hr
  clear hr
  obtain ⟨hsz, b0, b1⟩ := L0.out.box
  go_enter Try.func86, Try.ntmps86
  go_wp2_with fail
  go_loopw [3, 8] (fun v i wr => ∃ (q : Nat) (A1 : Option Addr) (k1 : Nat), q ≤ n ∧ i = .int .i64 q ∧ v = .slice A1 q k1 ∧ Hid (wr.ownsRow (w.heap.size + 1) 3 1 (.slice A1 q k1) q (vals (intV (idxV allE)) q)) ∧ Hid (LH w w.heap.size z A n c B l d X wr)) (fun _ i _ => n - (intOf i).toNat)
  case atStart => exact ⟨0, none, 0, Nat.zero_le _, rfl, rfl, Lib.hid (World.ownsRow_nil _ _ _ _), L0⟩
  case round =>
    obtain ⟨q, A1, k1, hq, rfl, rfl, HO, HL⟩ := hrel
    clear b0 b1 hsz
    obtain ⟨hsz, b0, b1⟩ := HL.out.box
    have hlen := HL.out.below.size
    by_cases hlt : q < n
    · have HV := Lib.hid (show intV (idxV allE) q = .int .i64 (q : Int) from rfl)
      go_wp2_with (at_builtin; refine wpList_push rfl _ _ 39 rfl (w.heap.size + 1) 3 (.int .i64 0) 8 Try.underlying39 infoI rfl A1 q k1 (intV (idxV allE)) (.int .i64 (q : Int)) wr rfl HO.out rfl HV.out rfl (by omega) (by omega) (by omega) ?_)
      intro A' c' w5 hown' hb5
      have HO5 := Lib.hid hown'
      have L5 := Lib.hid (HL.out.low hb5 HR0.out (by omega) (by omega))
      clear hown' hb5 HO HL
      go_wp2_with fail
      go_roundw
      case rel => exact ⟨q + 1, A', c', by omega, by go_num, rfl, HO5, L5⟩
      case measure => simp [intOf]; omega
    · obtain rfl : q = n := by omega
      go_wp2_with fail
      go_ret
      exact ⟨A1, k1, rfl, HO.out, HL.out.below⟩
set_option maxRecDepth 100000 in
set_option maxHeartbeats 2000000 in
theorem impl_hyperDegrees (z : Nat) (A : Option Addr) (n c : Nat) (l : Nat → Nat) (X : Nat → Nat → Int) (w : World) (hn : n + sumL l n ≤ 1048576) (hr : HRow w A n l X) (h : HyperOk z n l X) :
    Calls Try.prog 34 #[.agg #[.int .i64 z, .slice A n c]] w (IntsOwn z (fun p => dgF allE l X n 0 p) true w) := by
  obtain ⟨B, d, hr⟩ := hr
  have L0 := Lib.hid (LH.start (z := (z : Int)) (c := c) hr 27)
  have HG := Lib.hid h
  clear hr h
  have hn40 := HG.out.2.2.1
  have hz72 : z ≤ 72 := by have := HG.out.2.1; omega
  go_enter Try.func34, Try.ntmps34
  go_wp2_with fail
  refine (impl_isHyper_is z A n c l X _ true hn ⟨B, d, L0.out.row⟩ (by simp only [true_iff]; exact HG.out)).mono ?_; rintro e w1 ⟨rfl, hb⟩
  have L1 := Lib.hid (L0.out.step hb)
  clear hb L0
  obtain ⟨hsz, b0, b1⟩ := L1.out.box
  go_wp2_with fail
  refine (impl_degreesOf z A n c B l d X _ hn40 hz72 L1.out.row HG.out.three HG.out.inn).mono ?_; rintro e w2 ⟨g, rfl, hg, ho, hb⟩
  have L2 := Lib.hid (L1.out.step hb)
  have HO := Lib.hid ho
  clear ho hb L1 b0 b1
  go_wp2_with fail
  go_ret2
  exact ⟨_, _, rfl, ow_of_own (m := z) (show GOwn _ _ _ _ _ from HO.out) (by omega) (Nat.le_refl _), L2.out.below⟩
set_option maxRecDepth 100000 in
set_option maxHeartbeats 2000000 in
theorem impl_hyperDegrees_no (z : Int) (A : Option Addr) (n c : Nat) (l : Nat → Nat) (X : Nat → Nat → Int) (w : World) (hn : n + sumL l n ≤ 1048576) (hr : HRow w A n l X) (h : ¬ HyperOk z n l X) :
    Calls Try.prog 34 #[.agg #[.int .i64 z, .slice A n c]] w (IntsOwn 0 (fun _ => 0) false w) := by
  obtain ⟨B, d, hr⟩ := hr
  have L0 := Lib.hid (LH.start (z := z) (c := c) hr 27)
  have HG := Lib.hid h
  clear hr h
  go_enter Try.func34, Try.ntmps34
  go_wp2_with fail
  refine (impl_isHyper_is z A n c l X _ false hn ⟨B, d, L0.out.row⟩ (by simp only [Bool.false_eq_true, false_iff]; exact HG.out)).mono ?_; rintro e w1 ⟨rfl, hb⟩
  have L1 := Lib.hid (L0.out.step hb)
  clear hb L0
  go_wp2_with fail
  go_ret2
  exact intsOwn_none _ _ _ _ rfl L1.out.below
set_option maxRecDepth 100000 in
set_option maxHeartbeats 2000000 in
theorem spec_hyperDegrees_no (z : Int) (A : Option Addr) (n c : Nat) (l : Nat → Nat) (X : Nat → Nat → Int) (w : World) (hn : n + sumL l n ≤ 1048576) (hr : HRow w A n l X) (h : ¬ HyperOk z n l X) :
    Calls Try.prog 33 #[.agg #[.int .i64 z, .slice A n c]] w (IntsOwn 0 (fun _ => 0) false w) := by
  obtain ⟨B, d, hr⟩ := hr
  have L0 := Lib.hid (LH.start (z := z) (c := c) hr 27)
  have HG := Lib.hid h
  clear hr h
  go_enter Try.func33, Try.ntmps33
  go_wp2_with fail
  refine (spec_peGood_is z A n c l X _ false hn ⟨B, d, L0.out.row⟩ (by simp only [Bool.false_eq_true, false_iff]; exact HG.out)).mono ?_; rintro e w1 ⟨rfl, hb⟩
  have L1 := Lib.hid (L0.out.step hb)
  clear hb L0
  go_wp2_with fail
  go_ret2
  exact intsOwn_none _ _ _ _ rfl L1.out.below
set_option maxRecDepth 100000 in
set_option maxHeartbeats 2000000 in
theorem spec_hyperDegrees (z : Nat) (A : Option Addr) (n c : Nat) (l : Nat → Nat) (X : Nat → Nat → Int) (w : World) (hn : n + sumL l n ≤ 1048576) (hr : HRow w A n l X) (h : HyperOk z n l X) :
    Calls Try.prog 33 #[.agg #[.int .i64 z, .slice A n c]] w (IntsOwn z (fun p => dgF allE l X n 0 p) true w) := by
  obtain ⟨B, d, hr⟩ := hr
  have L0 := Lib.hid (LH.start (z := (z : Int)) (c := c) hr 27)
  have HG := Lib.hid h
  clear hr h
  have hn40 := HG.out.2.2.1
  have hz72 : z ≤ 72 := by have := HG.out.2.1; omega
  go_enter Try.func33, Try.ntmps33
  go_wp2_with fail
  refine (spec_peGood_is z A n c l X _ true hn ⟨B, d, L0.out.row⟩ (by simp only [true_iff]; exact HG.out)).mono ?_; rintro e w1 ⟨rfl, hb⟩
  have L1 := Lib.hid (L0.out.step hb)
  clear hb L0
  obtain ⟨hsz, b0, b1⟩ := L1.out.box
  have HK := Lib.hid (fun (w' : World) (h : Below w1.heap.size w1 w') => (show w'.cell? ⟨w.heap.size, 0, none⟩ = some (.int .i64 z) ∧ w'.cell? ⟨w.heap.size, 1, none⟩ = some (.slice A n c) from (L1.out.step h).box.2))
  go_wp2_with fail
  go_region_held3 (fun w' => w'.cell? ⟨w.heap.size, 0, none⟩ = some (.int .i64 z) ∧ w'.cell? ⟨w.heap.size, 1, none⟩ = some (.slice A n c))
    (first | with_reducible exact HK.out _ hq2 | with_reducible exact HK.out _ hq1 | (go_keep; done))
    (first
      | (have hqz := hq1; clear hqz; go_at_call 85; refine (spec_peDegrees z A n c B l d X EA n ec allE _ hn40 (by omega) hz72 (L1.out.step hq1).row HE1.out (fun t ht => ht) HG.out.three HG.out.inn).mono ?_; rintro e w3 ⟨g, rfl, hg, ho, hb⟩; have hq2 := hq1.trans (hb.mono hq1.size); have HO := Lib.hid ho; clear ho hb)
      | (go_at_call 86; first | refine (spec_peAll z A n c B l d X _ hn40 L1.out.row).mono ?_ | refine (spec_peAll z A n c B l d X _ hn40 L1.out.drew.row).mono ?_; rintro e w2 ⟨EA, ec, rfl, ho, hq1'⟩; have hq1 := of_drew hq1'; have hsq := hq1.size; have HE1 := Lib.hid (show IRow w2 EA n (idxV allE) from (owned_vec ho).row); clear hq1' ho))
  all_goals
    have L2 := Lib.hid (L1.out.step hq2)
    try go_wp2_with fail
    go_ret2
    exact ⟨_, _, rfl, ow_of_own (m := z) (show GOwn _ _ _ _ _ from HO.out) (by omega) (Nat.le_refl _), L2.out.below⟩
theorem intsOwn_row {n : Nat} {X : Nat → Int} {b : Bool} {w : World} (e : Ending) (w' : World) (h : IntsOwn n X b w e w') : ∃ A c, e = .returned (.tuple #[.slice A n c, .bool b]) ∧ GRow w' A n (intV X) ∧ Below w.heap.size w w' := by
  obtain ⟨A, c, h1, h2, h3⟩ := h
  exact ⟨A, c, h1, h2.rd.row (Nat.le_refl _), h3⟩
theorem HyperOk.nat {z : Int} {n : Nat} {l : Nat → Nat} {X : Nat → Nat → Int} (h : HyperOk z n l X) : ∃ k : Nat, z = k := ⟨z.toNat, by have := h.1; omega⟩
end Go.Proofs.Ytdmdafifgaenhaa
