/- The model's codes of a list, one behind another. -/
import Derived.Test.YtdkkflejpcgipabCodeN
import Derived.Test.YtdkkflejpcgipabSome
import Derived.Test.YtdkkflejpcgipabPutF
import Derived.Test.YtdkkflejpcgipabObj
namespace Go.Proofs.Ytdkkflejpcgipab
open Go.RowKit

set_option maxRecDepth 100000 in
set_option maxHeartbeats 2000000 in
theorem spec_spEncode_true (A : Option Addr) (n c m : Nat) (X : Nat → Int) (sz : Nat → Nat) (F : Nat → Nat → Bool) (w : World) (hn : n ≤ 60) (hr : IRow w A n X) (hC : ∀ i, i < n → ∀ W, Calls Try.prog 68 #[.int .i64 (X i)] W (LstIs (sz i) (F i) W)) (hz : catS sz n ≤ 4096) (hm : m = (catS sz n + 15) / 16) (hF : ∀ k i, sz k ≤ i → F k i = false) :
    Calls Try.prog 47 #[.slice A n c, .bool true] w (fun e w' => ∃ g, e = .returned (.agg #[.int .i64 (catS sz n), .slice (some ⟨g, 0, none⟩) m m]) ∧ w.heap.size ≤ g ∧ ORow w' g m (fun i => (wordsOf (catB sz F n) i : Int)) ∧ Below w.heap.size w w') := by
  have HR := Lib.hid hr
  have HF := Lib.hid hF
  have HZ := Lib.hid hz
  have HM := Lib.hid hm
  have HC := Lib.hid hC
  have RB0 := Lib.hid (show RB w w.heap.size (w.alloc (.cells #[.int .i64 0, .slice none 0 0] 27)) from ⟨(Below.refl _ _).alloc (Nat.le_refl _) _, Box.new w 0 none 0 0 _, free_new w _ _⟩)
  clear hr hF hz hm hC
  go_enter Try.func47, Try.ntmps47
  go_wp2_with fail
  go_loopw [5, 10] (fun v i wr => ∃ (q : Nat) (A1 : Option Addr) (k1 : Nat), q ≤ n ∧ i = .int .i64 q ∧ v = .slice A1 (catS sz q) k1 ∧ Hid (wr.ownsRow (w.heap.size + 1) 4 1 (.slice A1 (catS sz q) k1) (catS sz q) (vals (boolV (catB sz F q)) (catS sz q))) ∧ Hid (RB w w.heap.size wr)) (fun _ i _ => n - (intOf i).toNat)
  case atStart => exact ⟨0, none, 0, Nat.zero_le _, rfl, rfl, Lib.hid (World.ownsRow_nil _ _ _ _), RB0⟩
  case round =>
    obtain ⟨q, A1, k1, hq, rfl, rfl, HO, HB⟩ := hrel
    have hsz := HB.out.box.1
    have hle := Nat.le_trans (catS_mono (sz := sz) hq) HZ.out
    by_cases hlt : q < n
    · obtain ⟨b, off, rfl, _, hc⟩ := (HR.out.b HB.out.below) (by omega)
      have hcq := hc q hlt
      clear hc
      have hle2 := Nat.le_trans (catS_mono (sz := sz) (show q + 1 ≤ n from hlt)) HZ.out
      rw [catS] at hle2
      go_wp2_with fail
      refine (HC.out q hlt _).mono ?_; rintro e w2 ⟨A2, c2, rfl, ho, hb⟩
      have HO2 := Lib.hid (owned_b HO.out hb)
      have HG2 := Lib.hid (show GRow w2 A2 (sz q) (boolV (F q)) from (owned_vec ho).row)
      have HB2 := Lib.hid (HB.out.b hb)
      have hsz2 := HB2.out.box.1
      clear ho hb HO HB
      go_wp2_with (at_builtin; refine wpList_append_vals rfl _ _ 69 rfl (w.heap.size + 1) 4 (.bool false) 1 Try.underlying69 infoB rfl (F := boolV (catB sz F q)) (G := boolV (F q)) rfl rfl HO2.out HG2.out (fun _ _ => rfl) (by omega) (by omega) (by omega) ?_)
      intro A3 c3 w3 ho hb
      have HO3 := Lib.hid ho
      have HB3 := Lib.hid (HB2.out.low hb (by omega) (by omega))
      clear ho hb HO2 HG2 HB2
      go_wp2_with fail
      go_roundw
      case rel =>
        refine ⟨q + 1, A3, c3, by omega, by go_num, rfl, Lib.hid ?_, HB3⟩
        have h := HO3.out
        rw [vals_congr (F := catV (boolV (catB sz F q)) (boolV (F q)) (catS sz q)) (G := boolV (catB sz F (q + 1))) (fun i hi => by
          unfold catV boolV
          rw [catB]
          by_cases c : i < catS sz q
          · rw [if_pos c, if_pos c]
          · rw [if_neg c, if_neg c])] at h
        exact h
      case measure => simp [intOf]; omega
    · obtain rfl : q = n := by omega
      have HW := Lib.hid (show BRow wr A1 (catS sz q) (catB sz F q) from (owned_vec HO.out).row)
      obtain ⟨z, hzz⟩ : ∃ z, z = catS sz q := ⟨_, rfl⟩
      have HZZ := Lib.hid hzz
      rw [← hzz] at HW ⊢
      have hz4 : z ≤ 4096 := by rw [hzz]; exact HZ.out
      clear hzz hle
      go_wp2_with fail
      refine (spec_biSome A1 z k1 m _ _ hz4 (by rw [HM.out, HZZ.out]) HW.out).mono ?_; rintro e w3 ⟨g, rfl, hg, ho, hb⟩
      have HB3 := Lib.hid (HB.out.b hb)
      have HO3 := Lib.hid ho
      clear ho hb HW HB HO
      obtain ⟨hr4, d0, d1⟩ := HB3.out.box
      obtain ⟨f0, f1⟩ := HB3.out.free
      go_wp2_with fail
      refine bodyPost_ret (v := .agg #[.int .i64 z, .slice (some ⟨g, 0, none⟩) m m]) (by simp [results, Try.results47, go_sem, d0, d1]) rfl ?_
      have hfe : (fun i => (wordsOf (fun i => decide (i < z) && catB sz F q i) i : Int)) = fun i => (wordsOf (catB sz F q) i : Int) := by
        have : (fun i => decide (i < z) && catB sz F q i) = catB sz F q := by
          funext i
          by_cases c : i < z
          · simp [c]
          · rw [catB_off HF.out q i (by rw [← HZZ.out]; omega)]; simp
        rw [this]
      have h := HO3.out
      rw [hfe] at h
      have hez : (z : Int) = (catS sz q : Int) := by rw [← HZZ.out]
      exact ⟨g, by rw [hez], by omega, (h.setAt (by omega) _).setAt (by omega) _, below_setAt (below_setAt HB3.out.below (by omega) _) (by omega) _⟩
set_option maxRecDepth 100000 in
set_option maxHeartbeats 2000000 in
theorem spec_spEncode_false (A : Option Addr) (n c m : Nat) (X : Nat → Int) (sz : Nat → Nat) (F : Nat → Nat → Bool) (w : World) (hn : n ≤ 60) (hr : IRow w A n X) (hC : ∀ i, i < n → ∀ W, Calls Try.prog 69 #[.int .i64 (X i)] W (LstIs (sz i) (F i) W)) (hz : catS sz n ≤ 4096) (hm : m = (catS sz n + 15) / 16) (hF : ∀ k i, sz k ≤ i → F k i = false) :
    Calls Try.prog 47 #[.slice A n c, .bool false] w (fun e w' => ∃ g, e = .returned (.agg #[.int .i64 (catS sz n), .slice (some ⟨g, 0, none⟩) m m]) ∧ w.heap.size ≤ g ∧ ORow w' g m (fun i => (wordsOf (catB sz F n) i : Int)) ∧ Below w.heap.size w w') := by
  have HR := Lib.hid hr
  have HF := Lib.hid hF
  have HZ := Lib.hid hz
  have HM := Lib.hid hm
  have HC := Lib.hid hC
  have RB0 := Lib.hid (show RB w w.heap.size (w.alloc (.cells #[.int .i64 0, .slice none 0 0] 27)) from ⟨(Below.refl _ _).alloc (Nat.le_refl _) _, Box.new w 0 none 0 0 _, free_new w _ _⟩)
  clear hr hF hz hm hC
  go_enter Try.func47, Try.ntmps47
  go_wp2_with fail
  go_loopw [5, 10] (fun v i wr => ∃ (q : Nat) (A1 : Option Addr) (k1 : Nat), q ≤ n ∧ i = .int .i64 q ∧ v = .slice A1 (catS sz q) k1 ∧ Hid (wr.ownsRow (w.heap.size + 1) 4 1 (.slice A1 (catS sz q) k1) (catS sz q) (vals (boolV (catB sz F q)) (catS sz q))) ∧ Hid (RB w w.heap.size wr)) (fun _ i _ => n - (intOf i).toNat)
  case atStart => exact ⟨0, none, 0, Nat.zero_le _, rfl, rfl, Lib.hid (World.ownsRow_nil _ _ _ _), RB0⟩
  case round =>
    obtain ⟨q, A1, k1, hq, rfl, rfl, HO, HB⟩ := hrel
    have hsz := HB.out.box.1
    have hle := Nat.le_trans (catS_mono (sz := sz) hq) HZ.out
    by_cases hlt : q < n
    · obtain ⟨b, off, rfl, _, hc⟩ := (HR.out.b HB.out.below) (by omega)
      have hcq := hc q hlt
      clear hc
      have hle2 := Nat.le_trans (catS_mono (sz := sz) (show q + 1 ≤ n from hlt)) HZ.out
      rw [catS] at hle2
      go_wp2_with fail
      refine (HC.out q hlt _).mono ?_; rintro e w2 ⟨A2, c2, rfl, ho, hb⟩
      have HO2 := Lib.hid (owned_b HO.out hb)
      have HG2 := Lib.hid (show GRow w2 A2 (sz q) (boolV (F q)) from (owned_vec ho).row)
      have HB2 := Lib.hid (HB.out.b hb)
      have hsz2 := HB2.out.box.1
      clear ho hb HO HB
      go_wp2_with (at_builtin; refine wpList_append_vals rfl _ _ 69 rfl (w.heap.size + 1) 4 (.bool false) 1 Try.underlying69 infoB rfl (F := boolV (catB sz F q)) (G := boolV (F q)) rfl rfl HO2.out HG2.out (fun _ _ => rfl) (by omega) (by omega) (by omega) ?_)
      intro A3 c3 w3 ho hb
      have HO3 := Lib.hid ho
      have HB3 := Lib.hid (HB2.out.low hb (by omega) (by omega))
      clear ho hb HO2 HG2 HB2
      go_wp2_with fail
      go_roundw
      case rel =>
        refine ⟨q + 1, A3, c3, by omega, by go_num, rfl, Lib.hid ?_, HB3⟩
        have h := HO3.out
        rw [vals_congr (F := catV (boolV (catB sz F q)) (boolV (F q)) (catS sz q)) (G := boolV (catB sz F (q + 1))) (fun i hi => by
          unfold catV boolV
          rw [catB]
          by_cases c : i < catS sz q
          · rw [if_pos c, if_pos c]
          · rw [if_neg c, if_neg c])] at h
        exact h
      case measure => simp [intOf]; omega
    · obtain rfl : q = n := by omega
      have HW := Lib.hid (show BRow wr A1 (catS sz q) (catB sz F q) from (owned_vec HO.out).row)
      obtain ⟨z, hzz⟩ : ∃ z, z = catS sz q := ⟨_, rfl⟩
      have HZZ := Lib.hid hzz
      rw [← hzz] at HW ⊢
      have hz4 : z ≤ 4096 := by rw [hzz]; exact HZ.out
      clear hzz hle
      go_wp2_with fail
      refine (spec_biSome A1 z k1 m _ _ hz4 (by rw [HM.out, HZZ.out]) HW.out).mono ?_; rintro e w3 ⟨g, rfl, hg, ho, hb⟩
      have HB3 := Lib.hid (HB.out.b hb)
      have HO3 := Lib.hid ho
      clear ho hb HW HB HO
      obtain ⟨hr4, d0, d1⟩ := HB3.out.box
      obtain ⟨f0, f1⟩ := HB3.out.free
      go_wp2_with fail
      refine bodyPost_ret (v := .agg #[.int .i64 z, .slice (some ⟨g, 0, none⟩) m m]) (by simp [results, Try.results47, go_sem, d0, d1]) rfl ?_
      have hfe : (fun i => (wordsOf (fun i => decide (i < z) && catB sz F q i) i : Int)) = fun i => (wordsOf (catB sz F q) i : Int) := by
        have : (fun i => decide (i < z) && catB sz F q i) = catB sz F q := by
          funext i
          by_cases c : i < z
          · simp [c]
          · rw [catB_off HF.out q i (by rw [← HZZ.out]; omega)]; simp
        rw [this]
      have h := HO3.out
      rw [hfe] at h
      have hez : (z : Int) = (catS sz q : Int) := by rw [← HZZ.out]
      exact ⟨g, by rw [hez], by omega, (h.setAt (by omega) _).setAt (by omega) _, below_setAt (below_setAt HB3.out.below (by omega) _) (by omega) _⟩
end Go.Proofs.Ytdkkflejpcgipab
