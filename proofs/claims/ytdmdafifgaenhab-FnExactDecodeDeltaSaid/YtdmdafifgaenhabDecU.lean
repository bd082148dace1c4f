/- Decoding: the model's, both ways. -/
import Derived.Test.YtdmdafifgaenhabDecT
import Derived.Deep.RegionHeld3
namespace Go.Proofs.Ytdmdafifgaenhab
open Go.RowKit

theorem LS.lowQ {w wi wj : World} {b B : Nat} {z : Int} {A : Option Addr} {n c : Nat} {X : Nat → Int} (h : LS w b z A n c X wi) (hb : Below B wi wj) (hr : IRow w A n X) (hw : w.heap.size ≤ B) (hB : b < B) : LS w b z A n c X wj :=
  have h3 := h.below.trans (hb.mono hw)
  ⟨h3, hr.b h3, Nat.lt_of_lt_of_le h.box.1 hb.size, (hb.cell (p := ⟨b, 0, none⟩) hB).trans h.box.2.1, (hb.cell (p := ⟨b, 1, none⟩) hB).trans h.box.2.2⟩
def lenQ (v : Value) : Nat := match v with | .slice _ n _ => n | _ => 0
/-- What spDecode answers. -/
def DecAns (cnt z : Nat) (X Y : Nat → Nat) (w : World) (e : Ending) (w' : World) : Prop :=
  ∃ A c k b, e = .returned (.tuple #[.slice A k c, .bool b]) ∧ (b = true ↔ DecF z cnt X Y) ∧ (DecF z cnt X Y → k = cnt ∧ Ow w.heap.size w'.heap.size 3 A cnt (intV (decV X Y)) w') ∧ Below w.heap.size w w'
theorem decAns_none {cnt z : Nat} {X Y : Nat → Nat} {w w' : World} (h : ¬ DecF z cnt X Y) (hb : Below w.heap.size w w') : DecAns cnt z X Y w (.returned (.tuple #[.slice none 0 0, .bool false])) w' :=
  ⟨none, 0, 0, false, rfl, by simp only [Bool.false_eq_true, false_iff]; exact h, fun hf => absurd hf h, hb⟩
theorem decAns_end {cnt z : Nat} {X Y : Nat → Nat} {w w' : World} {A : Option Addr} {c B : Nat} (h : DecS z cnt X Y) (ho : w'.ownsRow B 3 1 (.slice A cnt c) cnt (vals (intV (decV X Y)) cnt)) (hB : w.heap.size ≤ B) (hb : Below w.heap.size w w') :
    DecAns cnt z X Y w (.returned (.tuple #[.slice A cnt c, .bool (((posS Y cnt : Nat) : Int) == (z : Int))])) w' :=
  ⟨A, c, cnt, _, rfl, by simp only [beq_iff_eq]; exact ⟨fun e => ⟨h, by omega⟩, fun e => by rw [e.2]⟩, fun _ => ⟨rfl, (ow_of_owned ho).mono hB (Nat.le_refl _)⟩, hb⟩

set_option maxRecDepth 100000 in
set_option maxHeartbeats 4000000 in
theorem spec_decode_gamma (z : Nat) (A : Option Addr) (n c : Nat) (W gX gY : Nat → Nat) (cnt : Nat) (w : World) (hn : n ≤ 1048576) (hr : WRow w A n W) (hz : z ≤ 4096) (hzn : z ≤ 16 * n) (hG : GamAt z W gX gY) (hcnt : cnt ≤ 60) :
    Calls Try.prog 34 #[.agg #[.int .i64 z, .slice A n c], .int .i64 cnt, .bool false] w (DecAns cnt z gX gY w) := by
  have L0 := Lib.hid (LS.start (z := (z : Int)) (c := c) hr.1 30)
  have HW := Lib.hid hr.2
  have HR0 := Lib.hid hr.1
  have HG := Lib.hid hG
  clear hr hG
  go_enter Try.func34, Try.ntmps34
  go_wp2_with fail
  go_loopw [8,9] (fun v i wr => ∃ (q : Nat) (A1 : Option Addr) (k1 : Nat), q ≤ cnt ∧ i = .int .i64 (posS gY q : Nat) ∧ v = .slice A1 q k1 ∧ Hid (DecS z q gX gY) ∧ Hid (wr.ownsRow (w.heap.size + 1) 3 1 (.slice A1 q k1) q (vals (intV (decV gX gY)) q)) ∧ Hid (LS w w.heap.size z A n c (fun i => (W i : Int)) wr)) (fun v _ _ => cnt - lenQ v)
  case atStart => exact ⟨0, none, 0, Nat.zero_le _, rfl, rfl, Lib.hid (fun i hi => absurd hi (by omega)), Lib.hid (World.ownsRow_nil _ _ _ _), L0⟩
  case round =>
    obtain ⟨q, A1, k1, hq, rfl, rfl, HS, HO, HL⟩ := hrel
    obtain ⟨hsz, b0, b1⟩ := HL.out.box
    have hpos := HS.out.pos
    have hlen := HL.out.below.size
    by_cases hlt : q < cnt
    · have RD := Lib.hid (show WRow wr A n W from ⟨HL.out.row, HW.out⟩)
      have HN := Lib.hid (fun (h1 : gY (posS gY q) ≤ z) (h2 : gX (posS gY q) ≤ 100000) => HS.out.next h1 h2)
      have HF := Lib.hid (fun (h : ¬ (gY (posS gY q) ≤ z ∧ gX (posS gY q) ≤ 100000)) => (show ¬ DecF z cnt gX gY from fun hf => h (hf.1 q hlt)))
      have HV := Lib.hid (show intV (decV gX gY) q = .int .i64 ((gX (posS gY q) : Nat) : Int) from rfl)
      have HP := Lib.hid (show posS gY (q + 1) = gY (posS gY q) from rfl)
      clear HS
      generalize posS gY q = a at *
      obtain ⟨g1, g2, g3⟩ := HG.out.bd hpos
      go_wp2_with fail
      refine (spec_spOne z A n c W gX gY a _ hn RD.out hz hzn hpos HG.out).mono ?_; rintro e w2 ⟨rfl, hb⟩
      have L2 := Lib.hid (HL.out.step hb)
      have HO2 := Lib.hid (owned_b HO.out hb)
      clear hb HO HL RD b0 b1 hsz
      obtain ⟨hsz, b0, b1⟩ := L2.out.box
      by_cases hy : gY a ≤ z
      · have d1 : decide ((z : Int) < ((gY a : Nat) : Int)) = false := by simp; omega
        by_cases hx : gX a ≤ 100000
        · have d2 : decide ((100000 : Int) < ((gX a : Nat) : Int)) = false := by simp; omega
          have HS2 := Lib.hid (HN.out hy hx)
          clear HF HN
          go_wp2_with (at_builtin; refine wpList_push rfl _ _ 22 rfl (w.heap.size + 1) 3 (.int .i64 0) 8 Try.underlying22 infoI rfl A1 q k1 (intV (decV gX gY)) (.int .i64 ((gX a : Nat) : Int)) w2 rfl HO2.out rfl HV.out rfl (by omega) (by omega) (by omega) ?_)
          intro A' c' w5 hown' hb5
          have HO5 := Lib.hid hown'
          have L5 := Lib.hid (L2.out.lowQ hb5 HR0.out (by omega) (by omega))
          clear hown' hb5 HO2 L2
          go_wp2_with fail
          go_roundw
          case rel => exact ⟨q + 1, A', c', by omega, by rw [HP.out], rfl, HS2, HO5, L5⟩
          case measure => simp [lenQ]; omega
        · have d2 : decide ((100000 : Int) < ((gX a : Nat) : Int)) = true := by simp; omega
          have HF2 := Lib.hid (HF.out (fun h => hx h.2))
          clear HF HN
          go_wp2_with fail
          go_ret2
          exact decAns_none HF2.out L2.out.below
      · have d1 : decide ((z : Int) < ((gY a : Nat) : Int)) = true := by simp; omega
        have HF2 := Lib.hid (HF.out (fun h => hy h.1))
        clear HF HN
        go_wp2_with fail
        go_ret2
        exact decAns_none HF2.out L2.out.below
    · obtain rfl : q = cnt := by omega
      go_wp2_with fail
      go_region_held3 (fun w' => w'.cell? ⟨w.heap.size, 0, none⟩ = some (.int .i64 z)) ((go_keep; done)) (fail)
      all_goals
        try go_wp2_with fail
        go_ret2
        first
          | exact decAns_end HS.out HO.out (by omega) HL.out.below
          | exact decAns_end HS.out (owned_b HO.out (below_drewN (Below.refl _ _) _)) (by omega) (below_drewN HL.out.below _)
          | exact decAns_end HS.out (owned_b HO.out (Below.drew (Below.refl _ _))) (by omega) (Below.drew HL.out.below)

set_option maxRecDepth 100000 in
set_option maxHeartbeats 4000000 in
theorem spec_decode_delta (z : Nat) (A : Option Addr) (n c : Nat) (W gX gY : Nat → Nat) (cnt : Nat) (w : World) (hn : n ≤ 1048576) (hr : WRow w A n W) (hz : z ≤ 4096) (hzn : z ≤ 16 * n) (hG : GamAt z W gX gY) (hcnt : cnt ≤ 60) :
    Calls Try.prog 34 #[.agg #[.int .i64 z, .slice A n c], .int .i64 cnt, .bool true] w (DecAns cnt z (delX z W gX gY) (delY z gX gY) w) := by
  have L0 := Lib.hid (LS.start (z := (z : Int)) (c := c) hr.1 30)
  have HW := Lib.hid hr.2
  have HR0 := Lib.hid hr.1
  have HG := Lib.hid hG
  clear hr hG
  go_enter Try.func34, Try.ntmps34
  go_wp2_with fail
  go_loopw [8,9] (fun v i wr => ∃ (q : Nat) (A1 : Option Addr) (k1 : Nat), q ≤ cnt ∧ i = .int .i64 (posS (delY z gX gY) q : Nat) ∧ v = .slice A1 q k1 ∧ Hid (DecS z q (delX z W gX gY) (delY z gX gY)) ∧ Hid (wr.ownsRow (w.heap.size + 1) 3 1 (.slice A1 q k1) q (vals (intV (decV (delX z W gX gY) (delY z gX gY))) q)) ∧ Hid (LS w w.heap.size z A n c (fun i => (W i : Int)) wr)) (fun v _ _ => cnt - lenQ v)
  case atStart => exact ⟨0, none, 0, Nat.zero_le _, rfl, rfl, Lib.hid (fun i hi => absurd hi (by omega)), Lib.hid (World.ownsRow_nil _ _ _ _), L0⟩
  case round =>
    obtain ⟨q, A1, k1, hq, rfl, rfl, HS, HO, HL⟩ := hrel
    obtain ⟨hsz, b0, b1⟩ := HL.out.box
    have hpos := HS.out.pos
    have hlen := HL.out.below.size
    by_cases hlt : q < cnt
    · have RD := Lib.hid (show WRow wr A n W from ⟨HL.out.row, HW.out⟩)
      have HN := Lib.hid (fun (h1 : (delY z gX gY) (posS (delY z gX gY) q) ≤ z) (h2 : (delX z W gX gY) (posS (delY z gX gY) q) ≤ 100000) => HS.out.next h1 h2)
      have HF := Lib.hid (fun (h : ¬ ((delY z gX gY) (posS (delY z gX gY) q) ≤ z ∧ (delX z W gX gY) (posS (delY z gX gY) q) ≤ 100000)) => (show ¬ DecF z cnt (delX z W gX gY) (delY z gX gY) from fun hf => h (hf.1 q hlt)))
      have HV := Lib.hid (show intV (decV (delX z W gX gY) (delY z gX gY)) q = .int .i64 (((delX z W gX gY) (posS (delY z gX gY) q) : Nat) : Int) from rfl)
      have HP := Lib.hid (show posS (delY z gX gY) (q + 1) = (delY z gX gY) (posS (delY z gX gY) q) from rfl)
      clear HS
      generalize posS (delY z gX gY) q = a at *
      obtain ⟨g1, g2, g3⟩ := HG.out.bd hpos
      go_wp2_with fail
      refine (spec_spOne z A n c W gX gY a _ hn RD.out hz hzn hpos HG.out).mono ?_; rintro e w2 ⟨rfl, hb⟩
      have L2 := Lib.hid (HL.out.step hb)
      have HO2 := Lib.hid (owned_b HO.out hb)
      clear hb HO HL RD b0 b1 hsz
      obtain ⟨hsz, b0, b1⟩ := L2.out.box
      by_cases hc : gY a ≤ z
      · have dc : decide (((gY a : Nat) : Int) ≤ (z : Int)) = true := by simp; omega
        have h1 := g3 hc
        have E2 := Lib.hid (show (((gX a : Nat) : Int) - 1) = ((gX a - 1 : Nat) : Int) by omega)
        have R2 := Lib.hid (show WRow w2 A n W from ⟨L2.out.row, HW.out⟩)
        have eX : delX z W gX gY a = rdX z W (gY a) (gX a - 1) := if_pos hc
        have eY : delY z gX gY a = rdY z (gY a) (gX a - 1) := if_pos hc
        have bX := rdX_le z W (gY a) (gX a - 1)
        have bY := rdY_le z (gY a) (gX a - 1) (by omega)
        go_wp2_with fail
        rw [E2.out]
        refine (spec_spRead z A n c W (gY a) (gX a - 1) _ hn R2.out hz hzn (by omega) (by omega)).mono ?_; rintro e w3 ⟨rfl, hb⟩
        rw [eX] at HN HF HV
        rw [eY] at HN HF HP
        clear eX eY
        have HO3 := Lib.hid (owned_b HO2.out hb)
        replace L2 := Lib.hid (L2.out.step hb)
        replace HO2 := HO3
        clear hb HO3 R2 b0 b1 hsz
        obtain ⟨hsz, b0, b1⟩ := L2.out.box
        generalize rdX z W (gY a) (gX a - 1) = x at *
        generalize rdY z (gY a) (gX a - 1) = y at *
        by_cases hy : y ≤ z
        · have d1 : decide ((z : Int) < ((y : Nat) : Int)) = false := by simp; omega
          by_cases hx : x ≤ 100000
          · have d2 : decide ((100000 : Int) < ((x : Nat) : Int)) = false := by simp; omega
            have HS2 := Lib.hid (HN.out hy hx)
            clear HF HN
            go_wp2_with (at_builtin; refine wpList_push rfl _ _ 22 rfl (w.heap.size + 1) 3 (.int .i64 0) 8 Try.underlying22 infoI rfl A1 q k1 (intV (decV (delX z W gX gY) (delY z gX gY))) (.int .i64 ((x : Nat) : Int)) w3 rfl HO2.out rfl HV.out rfl (by omega) (by omega) (by omega) ?_)
            intro A' c' w5 hown' hb5
            have HO5 := Lib.hid hown'
            have L5 := Lib.hid (L2.out.lowQ hb5 HR0.out (by omega) (by omega))
            clear hown' hb5 HO2 L2
            go_wp2_with fail
            go_roundw
            case rel => exact ⟨q + 1, A', c', by omega, by rw [HP.out], rfl, HS2, HO5, L5⟩
            case measure => simp [lenQ]; omega
          · have d2 : decide ((100000 : Int) < ((x : Nat) : Int)) = true := by simp; omega
            have HF2 := Lib.hid (HF.out (fun h => hx h.2))
            clear HF HN
            go_wp2_with fail
            go_ret2
            exact decAns_none HF2.out L2.out.below
        · have d1 : decide ((z : Int) < ((y : Nat) : Int)) = true := by simp; omega
          have HF2 := Lib.hid (HF.out (fun h => hy h.1))
          clear HF HN
          go_wp2_with fail
          go_ret2
          exact decAns_none HF2.out L2.out.below
      · have dc : decide (((gY a : Nat) : Int) ≤ (z : Int)) = false := by simp; omega
        have d1 : decide ((z : Int) < ((gY a : Nat) : Int)) = true := by simp; omega
        have eY : delY z gX gY a = gY a := if_neg hc
        have HF2 := Lib.hid (HF.out (fun h => hc (by rw [← eY]; exact h.1)))
        clear HF HN eY
        go_wp2_with fail
        go_ret2
        exact decAns_none HF2.out L2.out.below
    · obtain rfl : q = cnt := by omega
      go_wp2_with fail
      go_region_held3 (fun w' => w'.cell? ⟨w.heap.size, 0, none⟩ = some (.int .i64 z)) ((go_keep; done)) (fail)
      all_goals
        try go_wp2_with fail
        go_ret2
        first
          | exact decAns_end HS.out HO.out (by omega) HL.out.below
          | exact decAns_end HS.out (owned_b HO.out (below_drewN (Below.refl _ _) _)) (by omega) (below_drewN HL.out.below _)
          | exact decAns_end HS.out (owned_b HO.out (Below.drew (Below.refl _ _))) (by omega) (Below.drew HL.out.below)

end Go.Proofs.Ytdmdafifgaenhab
