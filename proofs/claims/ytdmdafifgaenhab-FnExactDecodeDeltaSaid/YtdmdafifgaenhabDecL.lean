/- decodeList of the program, DecodeGamma and DecodeDelta of both sides. -/
import Derived.Test.YtdmdafifgaenhabDecI
import Derived.Test.YtdmdafifgaenhabDecU
import Derived.Test.YtdmdafifgaenhabCut
import Derived.Shelf.Abstract
namespace Go.Proofs.Ytdmdafifgaenhab
open Go.RowKit

set_option maxRecDepth 100000 in
set_option maxHeartbeats 4000000 in
theorem impl_decodeList (K : Nat) (eg : ∀ args w, (callFunc K args).run Try.prog w = .ok (.enter K args) w) (z : Nat) (A : Option Addr) (n c : Nat) (V : Nat → Int) (cnt : Nat) (X Y : Nat → Nat) (w : World) (hn : n ≤ 1048576) (hr : IRow w A n V) (hg : Good z n V) (hcnt : cnt ≤ 60)
    (hX : ∀ a, a ≤ z → X a ≤ 131072 ∧ Y a ≤ z + 1)
    (hy : ∀ a, a ≤ z → Y a ≤ z → X a ≤ 100000 → ∀ W, IRow W A n V → Calls Try.prog K #[.agg #[.int .i64 z, .slice A n c], .int .i64 a] W (Rd3 (X a) (Y a) W))
    (hno : ∀ a, a ≤ z → ¬ (Y a ≤ z ∧ X a ≤ 100000) → ∀ W, IRow W A n V → Calls Try.prog K #[.agg #[.int .i64 z, .slice A n c], .int .i64 a] W (No3 W)) :
    Calls Try.prog 36 #[.agg #[.int .i64 z, .slice A n c], .int .i64 cnt, .func (.func K) #[] #[]] w fun e w' => (DecF z cnt X Y → IntsOwn cnt (decV X Y) true w e w') ∧ (¬ DecF z cnt X Y → IntsOwn 0 (fun _ => 0) false w e w') := by
  have L0 := Lib.hid (LS.start (z := (z : Int)) (c := c) hr 30)
  have HR0 := Lib.hid hr
  have HG := Lib.hid hg
  have HY := Lib.hid hy
  have HN := Lib.hid hno
  have HX := Lib.hid hX
  have hmk := fun W => run_make_row' (P := Try.prog) 22 3 (.int .i64 0) 8 Try.underlying22 infoI rfl .i64 .i64 cnt (by omega) (by omega) W
  have d0 : decide ((cnt : Int) < 0) = false := by simp
  have d60 : decide ((60 : Int) < cnt) = false := by simp; omega
  clear hr hg hy hno hX
  go_enter Try.func36, Try.ntmps36
  go_wp2_with fail
  refine (isBits_yes hn L0.out.row HG.out).mono ?_; rintro e w1 ⟨rfl, hb⟩
  have L1 := Lib.hid (L0.out.step hb)
  clear hb L0
  have hsz1 := L1.out.box.1
  have O1 := Lib.hid (ORow.made w1 cnt)
  have L2 := Lib.hid (L1.out.step ((Below.refl w1.heap.size w1).alloc (Nat.le_refl _) (.cells (madeCells #[.int .i64 0] cnt) 3)))
  obtain ⟨_, b0, b1⟩ := L1.out.box
  go_wp2_with fail
  go_loopw [9, 29] (fun v i wr => ∃ q : Nat, q ≤ cnt ∧ i = .int .i64 q ∧ v = .int .i64 (posS Y q : Nat) ∧ Hid (DecS z q X Y) ∧ Hid (ORow wr w1.heap.size cnt (fun j => if j < q then decV X Y j else 0)) ∧ Hid (LS w w.heap.size z A n c V wr)) (fun _ i _ => cnt - (intOf i).toNat)
  case atStart => exact ⟨0, Nat.zero_le _, rfl, rfl, Lib.hid (fun i hi => absurd hi (by omega)), Lib.hid (O1.out.congr (fun i _ => by simp)), L2⟩
  case round =>
    obtain ⟨q, hq, rfl, rfl, HS, HO, HL⟩ := hrel
    clear b0 b1
    obtain ⟨hsz, b0, b1⟩ := HL.out.box
    have hpos := HS.out.pos
    by_cases hlt : q < cnt
    · have HF := Lib.hid (fun (h : ¬ (Y (posS Y q) ≤ z ∧ X (posS Y q) ≤ 100000)) => (show ¬ DecF z cnt X Y from fun hf => h (hf.1 q hlt)))
      have HV := Lib.hid (show decV X Y q = ((X (posS Y q) : Nat) : Int) from rfl)
      have HP := Lib.hid (show posS Y (q + 1) = Y (posS Y q) from rfl)
      have HNx := Lib.hid (fun (h1 : Y (posS Y q) ≤ z) (h2 : X (posS Y q) ≤ 100000) => HS.out.next h1 h2)
      obtain ⟨g1, g2⟩ := HX.out _ hpos
      clear HS
      generalize posS Y q = a at *
      by_cases hin : Y a ≤ z ∧ X a ≤ 100000
      · obtain ⟨hy1, hx1⟩ := hin
        have HS2 := Lib.hid (HNx.out hy1 hx1)
        clear HF HNx
        go_wp2_with (go_at_fn K; refine (HY.out a hpos hy1 hx1 _ HL.out.row).mono ?_; rintro e w2 ⟨rfl, hb⟩; have L3 := Lib.hid (HL.out.step hb); have O3 := Lib.hid (HO.out.b hb); have hco := O3.out.cell hlt; have hfo := O3.out.frozen q; clear hb)
        go_roundw
        case rel =>
          refine ⟨q + 1, by omega, by go_num, by rw [HP.out], HS2, Lib.hid ((O3.out.set q _).congr (fun i _ => ?_)), Lib.hid (L3.out.put HR0.out (B := w1.heap.size) (by omega) (by omega) (Nat.le_refl _) _)⟩
          by_cases e : i = q
          · subst e; rw [if_pos rfl, if_pos (by omega), HV.out]
          · rw [if_neg e]
            by_cases e2 : i < q
            · rw [if_pos e2, if_pos (by omega)]
            · rw [if_neg e2, if_neg (by omega)]
        case measure => simp [intOf]; omega
      · have HF2 := Lib.hid (HF.out hin)
        have HIN := Lib.hid hin
        clear HF HNx hin
        go_wp2_with (go_at_fn K; refine (HN.out a hpos HIN.out _ HL.out.row).mono ?_; rintro e w2 ⟨pp, qq, rfl, hb⟩; have L3 := Lib.hid (HL.out.step hb); clear hb)
        go_ret2
        exact ⟨fun h => absurd h HF2.out, fun _ => intsOwn_none _ _ _ _ rfl L3.out.below⟩
    · obtain rfl : q = cnt := by omega
      by_cases he : posS Y q = z
      · have HD := Lib.hid (show DecF z q X Y from ⟨HS.out, he⟩)
        have d1 : (((posS Y q : Nat) : Int) != (z : Int)) = false := by rw [he]; simp
        clear he
        go_wp2_with fail
        go_ret2
        exact ⟨fun _ => ⟨_, _, rfl, ow_of_own (m := q) (show GOwn _ _ _ _ _ from HO.out.congr (fun i hi => by rw [if_pos hi])) (by omega) (Nat.le_refl _), HL.out.below⟩, fun h => absurd HD.out h⟩
      · have HD := Lib.hid (show ¬ DecF z q X Y from fun h => he h.2)
        have d1 : (((posS Y q : Nat) : Int) != (z : Int)) = true := by simp; omega
        clear he
        go_wp2_with fail
        go_ret2
        exact ⟨fun h => absurd h HD.out, fun _ => intsOwn_none _ _ _ _ rfl HL.out.below⟩
set_option maxRecDepth 100000 in
set_option maxHeartbeats 2000000 in
theorem impl_decodeList_bad (fv : Value) (z : Int) (A : Option Addr) (n c : Nat) (V : Nat → Int) (cnt : Int) (w : World) (hn : n ≤ 1048576) (hr : IRow w A n V) (h : ¬ (Good z n V ∧ 0 ≤ cnt ∧ cnt ≤ 60)) :
    Calls Try.prog 36 #[.agg #[.int .i64 z, .slice A n c], .int .i64 cnt, fv] w (IntsOwn 0 (fun _ => 0) false w) := by
  have L0 := Lib.hid (LS.start (z := z) (c := c) hr 30)
  by_cases hg : Good z n V
  · have HG := Lib.hid hg
    have hc : ¬ (0 ≤ cnt ∧ cnt ≤ 60) := fun hh => h ⟨hg, hh⟩
    clear hr h hg
    by_cases h0 : cnt < 0
    · have d0 : decide (cnt < 0) = true := by simpa using h0
      go_enter Try.func36, Try.ntmps36
      go_wp2_with fail
      refine (isBits_yes hn L0.out.row HG.out).mono ?_; rintro e w1 ⟨rfl, hb⟩
      have L1 := Lib.hid (L0.out.step hb)
      clear hb L0
      go_wp2_with fail
      go_ret2
      exact intsOwn_none _ _ _ _ rfl L1.out.below
    · have d0 : decide (cnt < 0) = false := by simpa using h0
      have d60 : decide ((60 : Int) < cnt) = true := by simp; omega
      go_enter Try.func36, Try.ntmps36
      go_wp2_with fail
      refine (isBits_yes hn L0.out.row HG.out).mono ?_; rintro e w1 ⟨rfl, hb⟩
      have L1 := Lib.hid (L0.out.step hb)
      clear hb L0
      go_wp2_with fail
      go_ret2
      exact intsOwn_none _ _ _ _ rfl L1.out.below
  · have HG := Lib.hid hg
    clear hr h hg
    go_enter Try.func36, Try.ntmps36
    go_wp2_with fail
    refine (isBits_no hn L0.out.row HG.out).mono ?_; rintro e w1 ⟨rfl, hb⟩
    have L1 := Lib.hid (L0.out.step hb)
    clear hb L0
    go_wp2_with fail
    go_ret2
    exact intsOwn_none _ _ _ _ rfl L1.out.below

/-! The model's spIf. -/
set_option maxRecDepth 100000 in
set_option maxHeartbeats 400000 in
theorem spec_spIf_no (v : Value) (w : World) : Calls Try.prog 33 #[v, .bool false] w fun e w' => e = .returned (.tuple #[.slice none 0 0, .bool false]) ∧ w = w' := by
  go_enter Try.func33, Try.ntmps33
  go_wp2_with fail
  go_ret2
  exact ⟨rfl, rfl⟩
set_option maxRecDepth 100000 in
set_option maxHeartbeats 400000 in
theorem spec_spIf_yes (A : Option Addr) (n c : Nat) (w : World) : Calls Try.prog 33 #[.slice A n c, .bool true] w fun e w' => e = .returned (.tuple #[.slice A n c, .bool true]) ∧ w = w' := by
  go_enter Try.func33, Try.ntmps33
  go_wp2_with fail
  go_ret2
  exact ⟨rfl, rfl⟩
set_option maxRecDepth 100000 in
set_option maxHeartbeats 1000000 in
theorem impl_decGamma_of (Q : World → Ending → World → Prop) (z : Int) (A : Option Addr) (n c : Nat) (V : Nat → Int) (cnt : Int) (w : World) (hr : IRow w A n V)
    (hq : ∀ W, IRow W A n V → Calls Try.prog 36 #[.agg #[.int .i64 z, .slice A n c], .int .i64 cnt, .func (.func 37) #[] #[]] W (fun e w' => ∃ A k c b, e = .returned (.tuple #[.slice A k c, .bool b]) ∧ Below W.heap.size W w' ∧ ∀ w0, w0.heap.size ≤ W.heap.size → Below w0.heap.size w0 w' → Q w0 e w')) :
    Calls Try.prog 18 #[.agg #[.int .i64 z, .slice A n c], .int .i64 cnt] w (Q w) := by
  have L0 := Lib.hid (LS.start (z := z) (c := c) hr 30)
  have HQ := Lib.hid hq
  clear hr hq
  go_enter Try.func18, Try.ntmps18
  go_wp2_with fail
  refine (HQ.out _ L0.out.row).mono ?_; rintro e w1 ⟨A', k', c', b', rfl, hb, hQ⟩
  have L1 := Lib.hid (L0.out.step hb)
  have HQ1 := Lib.hid (hQ w (by simp) L1.out.below)
  clear hb hQ
  go_wp2_with fail
  exact HQ1.out
set_option maxRecDepth 100000 in
set_option maxHeartbeats 1000000 in
theorem spec_decGamma_bad (z : Int) (A : Option Addr) (n c : Nat) (V : Nat → Int) (cnt : Int) (w : World) (hn : n ≤ 1048576) (hr : IRow w A n V) (h : ¬ (Good z n V ∧ 0 ≤ cnt ∧ cnt ≤ 60)) :
    Calls Try.prog 16 #[.agg #[.int .i64 z, .slice A n c], .int .i64 cnt] w (IntsOwn 0 (fun _ => 0) false w) := by
  have L0 := Lib.hid (LS.start (z := z) (c := c) hr 30)
  by_cases hg : Good z n V
  · have HG := Lib.hid hg
    have HC := Lib.hid (show ¬ (0 ≤ cnt ∧ cnt ≤ 60) from fun hh => h ⟨hg, hh⟩)
    clear hr h hg
    go_enter Try.func16, Try.ntmps16
    go_wp2_with fail
    refine (biGood_yes hn L0.out.row HG.out).mono ?_; rintro e w1 ⟨rfl, hb⟩
    have L1 := Lib.hid (L0.out.step hb)
    clear hb L0
    go_wp2_with (go_at_call 32; refine (l1In_no _ _ _ _ HC.out).mono ?_; rintro e w' ⟨rfl, rfl⟩)
    go_ret2
    exact intsOwn_none _ _ _ _ rfl L1.out.below
  · have HG := Lib.hid hg
    clear hr h hg
    go_enter Try.func16, Try.ntmps16
    go_wp2_with fail
    refine (biGood_no hn L0.out.row HG.out).mono ?_; rintro e w1 ⟨rfl, hb⟩
    have L1 := Lib.hid (L0.out.step hb)
    clear hb L0
    go_wp2_with fail
    go_ret2
    exact intsOwn_none _ _ _ _ rfl L1.out.below
set_option maxRecDepth 100000 in
set_option maxHeartbeats 2000000 in
theorem spec_decGamma (z : Nat) (A : Option Addr) (n c : Nat) (V : Nat → Int) (gX gY : Nat → Nat) (cnt : Nat) (w : World) (hn : n ≤ 1048576) (hr : IRow w A n V) (hg : Good z n V) (hz : z ≤ 4096) (hzn : z ≤ 16 * n) (hG : GamAt z (fun i => (V i).toNat) gX gY) (hcnt : cnt ≤ 60) :
    Calls Try.prog 16 #[.agg #[.int .i64 z, .slice A n c], .int .i64 cnt] w fun e w' => (DecF z cnt gX gY → IntsOwn cnt (decV gX gY) true w e w') ∧ (¬ DecF z cnt gX gY → IntsOwn 0 (fun _ => 0) false w e w') := by
  have L0 := Lib.hid (LS.start (z := (z : Int)) (c := c) hr 30)
  have HG := Lib.hid hg
  have HM := Lib.hid hG
  clear hr hg hG
  go_enter Try.func16, Try.ntmps16
  go_wp2_with fail
  refine (biGood_yes hn L0.out.row HG.out).mono ?_; rintro e w1 ⟨rfl, hb⟩
  have L1 := Lib.hid (L0.out.step hb)
  clear hb L0
  obtain ⟨hsz, b0, b1⟩ := L1.out.box
  go_wp2_with (go_at_call 32; refine (l1In_yes _ _ _ _ (show (0 : Int) ≤ (cnt : Int) by omega) (show (cnt : Int) ≤ 60 by omega)).mono ?_; rintro e w' ⟨rfl, rfl⟩)
  refine (spec_decode_gamma z A n c (fun i => (V i).toNat) gX gY cnt _ hn (good_row HG.out L1.out.row) hz hzn HM.out hcnt).mono ?_; rintro e w2 ⟨A2, c2, k2, b, rfl, hiff, hf, hb⟩
  have L2 := Lib.hid (L1.out.step hb)
  have HI := Lib.hid hiff
  have HF := Lib.hid hf
  have hsz2 := hb.size
  clear hb hiff hf L1
  cases b with
  | true =>
    obtain ⟨rfl, ho⟩ := HF.out (HI.out.1 rfl)
    have HO := Lib.hid ho
    have HD := Lib.hid (HI.out.1 rfl)
    clear ho HF HI
    go_wp2_with (go_at_call 33; refine (spec_spIf_yes _ _ _ _).mono ?_; rintro e w' ⟨rfl, rfl⟩)
    go_ret2
    exact ⟨fun _ => ⟨_, _, rfl, HO.out.mono (by first | omega | (simp; omega) | (simp at hsz2 ⊢; omega)) (Nat.le_refl _), L2.out.below⟩, fun h => absurd HD.out h⟩
  | false =>
    have HD := Lib.hid (show ¬ DecF z cnt gX gY from fun h => by have := HI.out.2 h; cases this)
    clear HF HI
    go_wp2_with (go_at_call 33; refine (spec_spIf_no _ _).mono ?_; rintro e w' ⟨rfl, rfl⟩)
    go_ret2
    exact ⟨fun h => absurd h HD.out, fun _ => intsOwn_none _ _ _ _ rfl L2.out.below⟩

set_option maxRecDepth 100000 in
set_option maxHeartbeats 1000000 in
theorem impl_decDelta_of (Q : World → Ending → World → Prop) (z : Int) (A : Option Addr) (n c : Nat) (V : Nat → Int) (cnt : Int) (w : World) (hr : IRow w A n V)
    (hq : ∀ W, IRow W A n V → Calls Try.prog 36 #[.agg #[.int .i64 z, .slice A n c], .int .i64 cnt, .func (.func 38) #[] #[]] W (fun e w' => ∃ A k c b, e = .returned (.tuple #[.slice A k c, .bool b]) ∧ Below W.heap.size W w' ∧ ∀ w0, w0.heap.size ≤ W.heap.size → Below w0.heap.size w0 w' → Q w0 e w')) :
    Calls Try.prog 22 #[.agg #[.int .i64 z, .slice A n c], .int .i64 cnt] w (Q w) := by
  have L0 := Lib.hid (LS.start (z := z) (c := c) hr 30)
  have HQ := Lib.hid hq
  clear hr hq
  go_enter Try.func22, Try.ntmps22
  go_wp2_with fail
  refine (HQ.out _ L0.out.row).mono ?_; rintro e w1 ⟨A', k', c', b', rfl, hb, hQ⟩
  have L1 := Lib.hid (L0.out.step hb)
  have HQ1 := Lib.hid (hQ w (by simp) L1.out.below)
  clear hb hQ
  go_wp2_with fail
  exact HQ1.out
set_option maxRecDepth 100000 in
set_option maxHeartbeats 1000000 in
theorem spec_decDelta_bad (z : Int) (A : Option Addr) (n c : Nat) (V : Nat → Int) (cnt : Int) (w : World) (hn : n ≤ 1048576) (hr : IRow w A n V) (h : ¬ (Good z n V ∧ 0 ≤ cnt ∧ cnt ≤ 60)) :
    Calls Try.prog 21 #[.agg #[.int .i64 z, .slice A n c], .int .i64 cnt] w (IntsOwn 0 (fun _ => 0) false w) := by
  have L0 := Lib.hid (LS.start (z := z) (c := c) hr 30)
  by_cases hg : Good z n V
  · have HG := Lib.hid hg
    have HC := Lib.hid (show ¬ (0 ≤ cnt ∧ cnt ≤ 60) from fun hh => h ⟨hg, hh⟩)
    clear hr h hg
    go_enter Try.func21, Try.ntmps21
    go_wp2_with fail
    refine (biGood_yes hn L0.out.row HG.out).mono ?_; rintro e w1 ⟨rfl, hb⟩
    have L1 := Lib.hid (L0.out.step hb)
    clear hb L0
    go_wp2_with (go_at_call 32; refine (l1In_no _ _ _ _ HC.out).mono ?_; rintro e w' ⟨rfl, rfl⟩)
    go_ret2
    exact intsOwn_none _ _ _ _ rfl L1.out.below
  · have HG := Lib.hid hg
    clear hr h hg
    go_enter Try.func21, Try.ntmps21
    go_wp2_with fail
    refine (biGood_no hn L0.out.row HG.out).mono ?_; rintro e w1 ⟨rfl, hb⟩
    have L1 := Lib.hid (L0.out.step hb)
    clear hb L0
    go_wp2_with fail
    go_ret2
    exact intsOwn_none _ _ _ _ rfl L1.out.below
set_option maxRecDepth 100000 in
set_option maxHeartbeats 2000000 in
theorem spec_decDelta (z : Nat) (A : Option Addr) (n c : Nat) (V : Nat → Int) (gX gY : Nat → Nat) (cnt : Nat) (w : World) (hn : n ≤ 1048576) (hr : IRow w A n V) (hg : Good z n V) (hz : z ≤ 4096) (hzn : z ≤ 16 * n) (hG : GamAt z (fun i => (V i).toNat) gX gY) (hcnt : cnt ≤ 60) :
    Calls Try.prog 21 #[.agg #[.int .i64 z, .slice A n c], .int .i64 cnt] w fun e w' => (DecF z cnt (delX z (fun i => (V i).toNat) gX gY) (delY z gX gY) → IntsOwn cnt (decV (delX z (fun i => (V i).toNat) gX gY) (delY z gX gY)) true w e w') ∧ (¬ DecF z cnt (delX z (fun i => (V i).toNat) gX gY) (delY z gX gY) → IntsOwn 0 (fun _ => 0) false w e w') := by
  have L0 := Lib.hid (LS.start (z := (z : Int)) (c := c) hr 30)
  have HG := Lib.hid hg
  have HM := Lib.hid hG
  clear hr hg hG
  go_enter Try.func21, Try.ntmps21
  go_wp2_with fail
  refine (biGood_yes hn L0.out.row HG.out).mono ?_; rintro e w1 ⟨rfl, hb⟩
  have L1 := Lib.hid (L0.out.step hb)
  clear hb L0
  obtain ⟨hsz, b0, b1⟩ := L1.out.box
  go_wp2_with (go_at_call 32; refine (l1In_yes _ _ _ _ (show (0 : Int) ≤ (cnt : Int) by omega) (show (cnt : Int) ≤ 60 by omega)).mono ?_; rintro e w' ⟨rfl, rfl⟩)
  refine (spec_decode_delta z A n c (fun i => (V i).toNat) gX gY cnt _ hn (good_row HG.out L1.out.row) hz hzn HM.out hcnt).mono ?_; rintro e w2 ⟨A2, c2, k2, b, rfl, hiff, hf, hb⟩
  have L2 := Lib.hid (L1.out.step hb)
  have HI := Lib.hid hiff
  have HF := Lib.hid hf
  have hsz2 := hb.size
  clear hb hiff hf L1
  cases b with
  | true =>
    obtain ⟨rfl, ho⟩ := HF.out (HI.out.1 rfl)
    have HO := Lib.hid ho
    have HD := Lib.hid (HI.out.1 rfl)
    clear ho HF HI
    go_wp2_with (go_at_call 33; refine (spec_spIf_yes _ _ _ _).mono ?_; rintro e w' ⟨rfl, rfl⟩)
    go_ret2
    exact ⟨fun _ => ⟨_, _, rfl, HO.out.mono (by first | omega | (simp; omega) | (simp at hsz2 ⊢; omega)) (Nat.le_refl _), L2.out.below⟩, fun h => absurd HD.out h⟩
  | false =>
    have HD := Lib.hid (show ¬ DecF z cnt (delX z (fun i => (V i).toNat) gX gY) (delY z gX gY) from fun h => by have := HI.out.2 h; cases this)
    clear HF HI
    go_wp2_with (go_at_call 33; refine (spec_spIf_no _ _).mono ?_; rintro e w' ⟨rfl, rfl⟩)
    go_ret2
    exact ⟨fun h => absurd h HD.out, fun _ => intsOwn_none _ _ _ _ rfl L2.out.below⟩


theorem intsOwn_rd {n : Nat} {X : Nat → Int} {b : Bool} {w : World} (e : Ending) (w' : World) (h : IntsOwn n X b w e w') : ∃ A c, e = .returned (.tuple #[.slice A n c, .bool b]) ∧ GRow w' A n (intV X) ∧ Below w.heap.size w w' := by
  obtain ⟨A, c, h1, h2, h3⟩ := h
  exact ⟨A, c, h1, h2.rd.row (Nat.le_refl _), h3⟩
theorem intsOwn_part {n : Nat} {X : Nat → Int} {b : Bool} {w : World} {e : Ending} {w' : World} (h : IntsOwn n X b w e w') : ∃ A k c b', e = .returned (.tuple #[.slice A k c, .bool b']) ∧ Below w.heap.size w w' ∧ ∀ w0, w0.heap.size ≤ w.heap.size → Below w0.heap.size w0 w' → IntsOwn n X b w0 e w' := by
  obtain ⟨A, c, h1, h2, h3⟩ := h
  exact ⟨A, n, c, b, h1, h3, fun w0 hs hb => ⟨A, c, h1, h2.mono hs (Nat.le_refl _), hb⟩⟩
end Go.Proofs.Ytdmdafifgaenhab
