/- BitsText: the program's and the model's. -/
import Derived.Test.YtglccgpiakadbaaGen
namespace Go.Proofs.Ytglccgpiakadbaa
open Go.RowKit

theorem LS.low {w wi wj : World} {b B : Nat} {z : Int} {A : Option Addr} {n c : Nat} {X : Nat → Int} (h : LS w b z A n c X wi) (hb : Below B wi wj) (hr : IRow w A n X) (hw : w.heap.size ≤ B) (hB : b < B) : LS w b z A n c X wj :=
  ⟨h.below.trans (hb.mono hw), hr.below (h.below.trans (hb.mono hw)) (Nat.le_refl _), Nat.lt_of_lt_of_le h.box.1 hb.size, (hb.cell (p := ⟨b, 0, none⟩) hB).trans h.box.2.1, (hb.cell (p := ⟨b, 1, none⟩) hB).trans h.box.2.2⟩

set_option maxRecDepth 100000 in
set_option maxHeartbeats 1000000 in
theorem impl_text_yes (z : Nat) (A : Option Addr) (n c : Nat) (X : Nat → Int) (w : World) (hn : n ≤ 1048576) (hr : IRow w A n X) (hg : Good z n X) (h0 : 0 < z) :
    Calls Try.prog 44 #[.agg #[.int .i64 z, .slice A n c]] w fun e w' => e = .returned (.tuple #[.string (textOf (bitN fun i => (X i).toNat) z), .bool true]) ∧ Below w.heap.size w w' := by
  have L0 := Lib.hid (LS.start (z := (z : Int)) (c := c) hr 26)
  clear hr
  have HG := Lib.hid hg
  have hz : z ≤ 4096 := by have := hg.2.1; omega
  have hzn : z ≤ 16 * n := by have := hg.2.2.1; omega
  have hmk := fun W => run_make_row' (P := Try.prog) 22 5 (.int .u8 0) 1 Try.underlying22 (by kernel_rfl) rfl .i64 .i64 z (by omega) (by omega) W
  have hz0 : ((z : Int) == 0) = false := by simp; omega
  clear hg
  go_enter Try.func44, Try.ntmps44
  go_wp2_with fail
  refine ((good_two (impl_isBits z A n c X _ hn L0.out.row)).1 HG.out).mono ?_; rintro e w1 ⟨rfl, hb⟩
  have L1 := Lib.hid (L0.out.step hb)
  clear hb L0
  obtain ⟨hs1, c0, c1⟩ := L1.out.box
  go_wp2_with fail
  go_loopw [17] (fun i wr => ∃ k : Nat, k ≤ z ∧ i = .int .i64 k ∧ GOwn wr 5 w1.heap.size z (fun j => if j < k then digV (bitN fun i => (X i).toNat) j else .int .u8 0) ∧ Below w1.heap.size w1 wr) (fun i _ => z - (intOf i).toNat)
  case atStart => exact ⟨0, Nat.zero_le _, rfl, (GOwn.made _ _ _ _).congr (fun _ _ => by simp), (Below.refl _ _).alloc (Nat.le_refl _) _⟩
  case round =>
    obtain ⟨k, hk, rfl, ho, hb⟩ := hrel
    have L3 := Lib.hid (L1.out.step hb)
    have O3 := Lib.hid ho
    have B3 := Lib.hid hb
    clear hb c0 c1
    obtain ⟨hs3, c0, c1⟩ := L3.out.box
    by_cases hlt : k < z
    · have hx := ho.cell hlt
      have hf := ho.frozen k
      clear ho
      have O4 := Lib.hid (O3.out.set k (.int .u8 48))
      have B4 := Lib.hid (below_setAt (o := k) B3.out (Nat.le_refl _) (.int .u8 48))
      have hx4 := O4.out.cell hlt
      have hf4 := O4.out.frozen k
      have hW := Lib.hid (good_row HG.out (L1.out.step B4.out).row)
      by_cases hon : bitN (fun i => (X i).toNat) k = true
      · have HON := Lib.hid hon
        clear hon
        go_wp2_with fail
        refine (impl_isOn A n c (fun i => (X i).toNat) k _ hn hW.out (by omega)).mono ?_; rintro e w2 ⟨rfl, rfl⟩
        rw [HON.out]
        go_wp2_with fail
        go_roundw
        case rel =>
          refine ⟨k + 1, by omega, by go_num, (O4.out.set k (.int .u8 49)).congr (fun j _ => ?_), below_setAt B4.out (Nat.le_refl _) _⟩
          by_cases e : j = k
          · subst e; simp [digV, digN, HON.out]
          · simp [e, show (j < k + 1) = (j < k) by simp; omega]
        case measure => simp [intOf]; omega
      · have hoff : bitN (fun i => (X i).toNat) k = false := by simpa using hon
        have HON := Lib.hid hoff
        clear hon hoff
        go_wp2_with fail
        refine (impl_isOn A n c (fun i => (X i).toNat) k _ hn hW.out (by omega)).mono ?_; rintro e w2 ⟨rfl, rfl⟩
        rw [HON.out]
        go_wp2_with fail
        go_roundw
        case rel =>
          refine ⟨k + 1, by omega, by go_num, O4.out.congr (fun j _ => ?_), B4.out⟩
          by_cases e : j = k
          · subst e; simp [digV, digN, HON.out]
          · simp [e, show (j < k + 1) = (j < k) by simp; omega]
        case measure => simp [intOf]; omega
    · obtain rfl : k = z := by omega
      have hcv := conv_dig (w := wr) (c := k) (ho.row.congr (G := digV (bitN fun i => (X i).toNat)) (fun i hi => by simp [hi])) h0
      clear ho
      go_wp2_with fail
      go_ret2
      exact ⟨rfl, L3.out.below⟩

set_option maxHeartbeats 400000 in
theorem impl_text_zero (A : Option Addr) (n c : Nat) (X : Nat → Int) (w : World) (hn : n ≤ 1048576) (hr : IRow w A n X) (hg : Good 0 n X) :
    Calls Try.prog 44 #[.agg #[.int .i64 0, .slice A n c]] w fun e w' => e = .returned (.tuple #[.string ⟨#[45]⟩, .bool true]) ∧ Below w.heap.size w w' := by
  have L0 := Lib.hid (LS.start (z := (0 : Int)) (c := c) hr 26)
  clear hr
  go_enter Try.func44, Try.ntmps44
  go_wp2_with fail
  refine ((good_two (impl_isBits 0 A n c X _ hn L0.out.row)).1 hg).mono ?_; rintro e w1 ⟨rfl, hb⟩
  have L1 := Lib.hid (L0.out.step hb)
  clear hb L0
  obtain ⟨hs1, c0, c1⟩ := L1.out.box
  go_wp2_with fail
  go_ret2
  exact ⟨rfl, L1.out.below⟩

set_option maxHeartbeats 400000 in
theorem impl_text_no (z : Int) (A : Option Addr) (n c : Nat) (X : Nat → Int) (w : World) (hn : n ≤ 1048576) (hr : IRow w A n X) (hg : ¬ Good z n X) :
    Calls Try.prog 44 #[.agg #[.int .i64 z, .slice A n c]] w fun e w' => e = .returned (.tuple #[.string ⟨#[]⟩, .bool false]) ∧ Below w.heap.size w w' := by
  have L0 := Lib.hid (LS.start (z := z) (c := c) hr 26)
  clear hr
  go_enter Try.func44, Try.ntmps44
  go_wp2_with fail
  refine ((good_two (impl_isBits z A n c X _ hn L0.out.row)).2 hg).mono ?_; rintro e w1 ⟨rfl, hb⟩
  have L1 := Lib.hid (L0.out.step hb)
  clear hb L0
  go_wp2_with fail
  go_ret2
  exact ⟨rfl, L1.out.below⟩

set_option maxHeartbeats 400000 in
theorem spec_biText_zero (A : Option Addr) (n c : Nat) (w : World) :
    Calls Try.prog 107 #[.agg #[.int .i64 0, .slice A n c]] w fun e w' => e = .returned (.string ⟨#[45]⟩) ∧ Below w.heap.size w w' := by
  go_enter Try.func107, Try.ntmps107
  go_wp2_with fail
  go_ret
  exact ⟨rfl, (Below.refl _ _).alloc (Nat.le_refl _) _⟩
theorem infoU8 : (Try.prog.info? 5).map (fun i => (i.zero, i.size, i.bytes)) = some (some (.int .u8 0), 1, 1) := by kernel_rfl

set_option maxRecDepth 100000 in
set_option maxHeartbeats 2000000 in
theorem spec_biText (z n c : Nat) (A : Option Addr) (W : Nat → Nat) (w : World) (hn : n ≤ 1048576) (hz : z ≤ 4096) (hzn : z ≤ 16 * n) (h0 : 0 < z) (hr : WRow w A n W) :
    Calls Try.prog 107 #[.agg #[.int .i64 z, .slice A n c]] w fun e w' => e = .returned (.string (textOf (bitN W) z)) ∧ Below w.heap.size w w' := by
  obtain ⟨i0, hi, hz0, hz1, hz2⟩ := info_parts infoU8
  have L0 := Lib.hid (LS.start (z := (z : Int)) (c := c) hr.1 26)
  have hW := Lib.hid hr.2
  have L0r := Lib.hid hr.1
  have hze : ((z : Int) == 0) = false := by simp; omega
  clear hr
  go_enter Try.func107, Try.ntmps107
  go_wp2_with fail
  go_loopw [3, 4] (fun v i wr => ∃ k : Nat, k ≤ z ∧ i = .int .i64 k ∧ (∃ A' c', v = .slice A' k c' ∧ wr.ownsRow (w.heap.size + 1) 5 1 (.slice A' k c') k (vals (digV (bitN W)) k)) ∧ LS w w.heap.size z A n c (fun i => (W i : Int)) wr) (fun _ i _ => z - (intOf i).toNat)
  case atStart => exact ⟨0, Nat.zero_le _, rfl, ⟨none, 0, rfl, World.ownsRow_nil _ _ _ _⟩, L0.out⟩
  case round =>
    obtain ⟨k, hk, rfl, ⟨A1, c1, rfl, hown⟩, hl⟩ := hrel
    have L1 := Lib.hid hl
    have HO1 := Lib.hid hown
    obtain ⟨hs1, c0, c2⟩ := hl.box
    clear hl L0 hown
    by_cases hlt : k < z
    · by_cases hon : bitN W k = true
      · have HON := Lib.hid hon
        clear hon
        go_wp2_with fail
        refine (spec_biAt z A n c W k _ hn ⟨L1.out.row, hW.out⟩ (by omega)).mono ?_; rintro e w2 ⟨rfl, hb⟩
        have L2 := Lib.hid (L1.out.step hb)
        have hown2 := owned_b HO1.out hb
        clear hb L1 c0 c2 hs1 HO1
        have hsz : w.heap.size + 1 ≤ w2.heap.size := L2.out.box.1
        rw [HON.out]
        go_wp2_with (at_builtin; refine wpList_push rfl _ _ 22 rfl (w.heap.size + 1) 5 (.int .u8 0) 1 Try.underlying22 infoU8 rfl A1 k c1 (digV (bitN W)) (.int .u8 49) w2 rfl hown2 rfl (by simp [digV, digN, HON.out]) rfl (by omega) (by omega) hsz ?_)
        intro A' c' w3 hown' hb3
        have HO3 := Lib.hid hown'
        have L3 := Lib.hid (L2.out.low hb3 L0r.out (by omega) (by omega))
        clear hown' hb3 hown2 L2
        go_wp2_with fail
        go_roundw
        case rel => exact ⟨k + 1, by omega, by go_num, ⟨_, _, rfl, HO3.out⟩, L3.out⟩
        case measure => simp [intOf]; omega
      · have hoff : bitN W k = false := by simpa using hon
        have HON := Lib.hid hoff
        clear hon hoff
        go_wp2_with fail
        refine (spec_biAt z A n c W k _ hn ⟨L1.out.row, hW.out⟩ (by omega)).mono ?_; rintro e w2 ⟨rfl, hb⟩
        have L2 := Lib.hid (L1.out.step hb)
        have hown2 := owned_b HO1.out hb
        clear hb L1 c0 c2 hs1 HO1
        have hsz : w.heap.size + 1 ≤ w2.heap.size := L2.out.box.1
        rw [HON.out]
        go_wp2_with (at_builtin; refine wpList_push rfl _ _ 22 rfl (w.heap.size + 1) 5 (.int .u8 0) 1 Try.underlying22 infoU8 rfl A1 k c1 (digV (bitN W)) (.int .u8 48) w2 rfl hown2 rfl (by simp [digV, digN, HON.out]) rfl (by omega) (by omega) hsz ?_)
        intro A' c' w3 hown' hb3
        have HO3 := Lib.hid hown'
        have L3 := Lib.hid (L2.out.low hb3 L0r.out (by omega) (by omega))
        clear hown' hb3 hown2 L2
        go_wp2_with fail
        go_roundw
        case rel => exact ⟨k + 1, by omega, by go_num, ⟨_, _, rfl, HO3.out⟩, L3.out⟩
        case measure => simp [intOf]; omega
    · obtain rfl : k = z := by omega
      have hcv := conv_dig (w := wr) (c := c1) (owned_vec HO1.out).row h0
      go_wp2_with fail
      go_ret
      exact ⟨rfl, L1.out.below⟩

theorem spec_text (z : Int) (s : ByteArray) (b : Bool) (A : Option Addr) (n c : Nat) (X : Nat → Int) (w : World) (hn : n ≤ 1048576) (hr : IRow w A n X) (hg : b = true ↔ Good z n X)
    (hs : b = true → ∀ w, IRow w A n X → Calls Try.prog 107 #[.agg #[.int .i64 z, .slice A n c]] w fun e w' => e = .returned (.string s) ∧ Below w.heap.size w w') (hs0 : b = false → s = ⟨#[]⟩) :
    Calls Try.prog 45 #[.agg #[.int .i64 z, .slice A n c]] w fun e w' => e = .returned (.tuple #[.string s, .bool b]) ∧ Below w.heap.size w w' := by
  have L0 := Lib.hid (LS.start (z := z) (c := c) hr 26)
  clear hr
  have HS := Lib.hid hs
  clear hs
  cases b with
  | true =>
    go_enter Try.func45, Try.ntmps45
    go_wp2_with fail
    refine ((good_two (spec_biGood z A n c X _ hn L0.out.row)).1 (hg.1 (by simp))).mono ?_; rintro e w1 ⟨rfl, hb⟩
    have L1 := Lib.hid (L0.out.step hb)
    clear hb L0
    obtain ⟨hs1, c0, c1⟩ := L1.out.box
    go_wp2_with fail
    refine (HS.out (by simp) _ L1.out.row).mono ?_; rintro e w2 ⟨rfl, hb⟩
    have L2 := Lib.hid (L1.out.step hb)
    clear hb L1
    go_wp2_with fail
    go_ret2
    exact ⟨rfl, L2.out.below⟩
  | false =>
    obtain rfl := hs0 rfl
    go_enter Try.func45, Try.ntmps45
    go_wp2_with fail
    refine ((good_two (spec_biGood z A n c X _ hn L0.out.row)).2 (fun h => by have := hg.2 h; simp at this)).mono ?_; rintro e w1 ⟨rfl, hb⟩
    have L1 := Lib.hid (L0.out.step hb)
    clear hb L0
    go_wp2_with fail
    go_ret2
    exact ⟨rfl, L1.out.below⟩
end Go.Proofs.Ytglccgpiakadbaa
