/- The model's codes: lists of bits. -/
import Derived.Test.YtdkkflejpcgipabCodeL
import Derived.Test.YtdkkflejpcgipabApp
namespace Go.Proofs.Ytdkkflejpcgipab
open Go.RowKit

def TailIs (l : Nat) (f : Nat → Bool) (w : World) (e : Ending) (w' : World) : Prop := ∃ A c, e = .returned (.slice A l c) ∧ GRow w' A l (boolV f) ∧ Below w.heap.size w w'
def LstIs (z : Nat) (f : Nat → Bool) (w : World) (e : Ending) (w' : World) : Prop := ∃ A c, e = .returned (.slice A z c) ∧ w'.ownsRow w.heap.size 4 1 (.slice A z c) z (vals (boolV f) z) ∧ Below w.heap.size w w'
theorem run_make_bools (n : Nat) (hn : n ≤ 4096) (W : World) : (Instr.makeSlice 69 (.int .i64 n) (.int .i64 n)).run Try.prog W = .ok (.slice (some ⟨W.heap.size, 0, none⟩) n n) (W.alloc (.cells (madeCells #[.bool false] n) 4)) :=
  run_make_row' (P := Try.prog) 69 4 (.bool false) 1 Try.underlying69 infoB rfl .i64 .i64 n (by omega) (by omega) W
theorem made_bools (w : World) (n : Nat) : ORowB (w.alloc (.cells (madeCells #[.bool false] n) 4)) w.heap.size n (fun _ => false) :=
  ⟨_, Go.Deep.blk_alloc_new _ _, by simp [madeCells], fun i hi => by simp [madeCells, hi, Nat.mod_one]⟩
theorem made_vals (n : Nat) : (madeCells #[Value.bool false] n).toList = vals (boolV fun _ => false) n := by
  unfold vals boolV
  apply List.ext_getElem?
  intro i
  rw [Array.getElem?_toList, range_at (fun _ => Value.bool false)]
  by_cases h : i < n
  · simp [madeCells, h, Nat.mod_one]
  · rw [if_neg h]; simp [madeCells, h]
set_option maxRecDepth 100000 in
set_option maxHeartbeats 1000000 in
theorem spec_spTail (n l : Nat) (w : World) (h1 : 1 ≤ n) (hn : n ≤ 100000) (h : IsL n l) : Calls Try.prog 89 #[.int .i64 n] w (TailIs l (tailB n l) w) := by
  have hl := isL_le h hn
  have HL := Lib.hid h
  have hmk := fun W => run_make_bools l (by omega) W
  obtain ⟨P, hP⟩ : ∃ P, P = 2 ^ l := ⟨_, rfl⟩
  have hPi : (2 : Int) ^ l = (P : Int) := by rw [hP]; push_cast; rfl
  have hPn : P ≤ n := by rw [hP]; exact h.1
  obtain ⟨r, hr⟩ : ∃ r, r = n - P := ⟨_, rfl⟩
  have hri : (n : Int) - (P : Int) = (r : Int) := by omega
  have HR := Lib.hid (show ∀ i, i < l → (if 0 ≤ i ∧ i < 0 + l then r.testBit (i - 0) else false) = tailB n l i from fun i hi => by
    rw [if_pos (by omega), hr, hP]; unfold tailB; simp [hi])
  have HO := Lib.hid (made_bools w l)
  have FB := Lib.hid ((Below.refl w.heap.size w).alloc (Nat.le_refl _) (.cells (madeCells #[.bool false] l) 4))
  clear h hP hr
  go_enter Try.func89, Try.ntmps89
  go_wp2_with fail
  refine (spec_spDigits n l _ hn HL.out).mono ?_; rintro e w' ⟨rfl, rfl⟩
  go_wp2_with fail
  refine (spec_biPut (some ⟨w.heap.size, 0, none⟩) l l 0 l r w.heap.size (fun _ => false) _ (by omega) (by omega) (by omega) (by omega) (.inr ⟨w.heap.size, rfl, Nat.le_refl _, HO.out⟩) (by simp)).mono ?_; rintro e w2 ⟨rfl, ho, hb⟩
  have HB := Lib.hid (FB.out.trans hb)
  have HW := Lib.hid ho
  clear ho hb
  go_wp2_with fail
  go_ret
  refine ⟨_, _, rfl, ?_, HB.out⟩
  rcases HW.out with h0 | ⟨g, hA, hg, ho⟩
  · intro h; omega
  · rw [hA]
    intro h
    exact ⟨g, 0, rfl, ho.lt, fun k hk => by rw [Nat.zero_add, ho.cell hk, HR.out k hk]; rfl⟩
set_option maxRecDepth 100000 in
set_option maxHeartbeats 1000000 in
theorem spec_spGamma (n l z : Nat) (w : World) (h1 : 1 ≤ n) (hn : n ≤ 100000) (h : IsL n l) (hz : z = 2 * l + 1) : Calls Try.prog 69 #[.int .i64 n] w (LstIs z (gamB n l) w) := by
  have hl := isL_le h hn
  have HL := Lib.hid h
  have HZ := Lib.hid hz
  have hmk := fun W => run_make_bools l (by omega) W
  have OW := World.ownsRow_lit (base := w.heap.size) (e := 4) (size := 1) w (madeCells #[.bool false] l) l (Nat.le_refl _) (by unfold maxLen; omega) (by simp [madeCells])
  rw [made_vals, vals_congr (F := boolV fun _ => false) (G := boolV (fun i => decide (i = l))) (fun i hi => by show Value.bool false = Value.bool (decide (i = l)); rw [decide_eq_false (by omega)])] at OW
  have HO := Lib.hid OW
  have FB := Lib.hid ((Below.refl w.heap.size w).alloc (Nat.le_refl _) (.cells (madeCells #[.bool false] l) 4))
  have hsz : w.heap.size ≤ (w.alloc (.cells (madeCells #[.bool false] l) 4)).heap.size := by simp
  clear h hz OW
  go_enter Try.func69, Try.ntmps69
  go_wp2_with fail
  refine (spec_spDigits n l _ hn HL.out).mono ?_; rintro e w' ⟨rfl, rfl⟩
  go_wp2_with (at_builtin; refine wpList_push rfl _ _ 69 rfl w.heap.size 4 (.bool false) 1 Try.underlying69 infoB rfl (some ⟨w.heap.size, 0, none⟩) l l (boolV (fun i => decide (i = l))) (.bool true) _ rfl HO.out (by simp; rfl) (by unfold boolV; simp) rfl (by omega) (by omega) hsz ?_)
  intro A3 c3 w3 ho3 hb3
  have HO3 := Lib.hid ho3
  have HB3 := Lib.hid (FB.out.trans hb3)
  clear ho3 hb3 hmk hsz
  go_wp2_with fail
  refine (spec_spTail n l _ h1 hn HL.out).mono ?_; rintro e w4 ⟨A4, c4, rfl, hr, hb⟩
  have HO4 := Lib.hid (owned_b HO3.out hb)
  have HB4 := Lib.hid (HB3.out.trans (hb.mono HB3.out.size))
  have HR4 := Lib.hid hr
  have hsz4 := HB4.out.size
  clear hr hb HO3 HB3
  go_wp2_with (at_builtin; refine wpList_append_vals rfl _ _ 69 rfl w.heap.size 4 (.bool false) 1 Try.underlying69 infoB rfl (F := boolV (fun i => decide (i = l))) (G := boolV (tailB n l)) rfl rfl HO4.out HR4.out (fun _ _ => rfl) (by omega) (by omega) hsz4 ?_)
  intro A5 c5 w5 ho5 hb5
  have HO5 := Lib.hid ho5
  have HB5 := Lib.hid (HB4.out.trans hb5)
  clear ho5 hb5
  have e : l + 1 + l = z := by have := HZ.out; omega
  go_wp2_with fail
  go_ret
  subst e
  refine ⟨A5, c5, rfl, ?_, HB5.out⟩
  have := HO5.out
  rw [vals_congr (F := catV (boolV fun i => decide (i = l)) (boolV (tailB n l)) (l + 1)) (G := boolV (gamB n l)) (fun i hi => by
    unfold catV boolV gamB
    by_cases c : i < l + 1
    · rw [if_pos c, if_pos c]
    · rw [if_neg c, if_neg c])] at this
  exact this
set_option maxRecDepth 100000 in
set_option maxHeartbeats 1000000 in
theorem spec_spDelta (n l k z : Nat) (w : World) (h1 : 1 ≤ n) (hn : n ≤ 100000) (h : IsL n l) (h' : IsL (l + 1) k) (hz : z = 2 * k + 1 + l) : Calls Try.prog 68 #[.int .i64 n] w (LstIs z (delB n l k) w) := by
  have hl := isL_le h hn
  have hk := isL_le h' (by omega)
  have HL := Lib.hid h
  have HZ := Lib.hid hz
  have HK := Lib.hid (fun W => spec_spGamma (l + 1) k (2 * k + 1) W (by omega) (by omega) h' rfl)
  obtain ⟨y, hy⟩ : ∃ y, y = 2 * k + 1 := ⟨_, rfl⟩
  rw [← hy] at HK
  have HY := Lib.hid hy
  clear h h' hz hy
  go_enter Try.func68, Try.ntmps68
  go_wp2_with fail
  refine (spec_spDigits n l _ hn HL.out).mono ?_; rintro e w' ⟨rfl, rfl⟩
  go_wp2_with fail
  rw [show (l : Int) + 1 = ((l + 1 : Nat) : Int) by push_cast; rfl]
  refine (HK.out _).mono ?_; rintro e w3 ⟨A3, c3, rfl, ho, hb⟩
  have HO3 := Lib.hid ho
  have HB3 := Lib.hid hb
  clear ho hb
  go_wp2_with fail
  refine (spec_spTail n l _ h1 hn HL.out).mono ?_; rintro e w4 ⟨A4, c4, rfl, hr, hb⟩
  have HO4 := Lib.hid (owned_b HO3.out hb)
  have HB4 := Lib.hid (HB3.out.trans (hb.mono HB3.out.size))
  have HR4 := Lib.hid hr
  have hsz4 := HB4.out.size
  have hyb : y ≤ 33 := by have := HY.out; omega
  clear hr hb HO3 HB3
  go_wp2_with (at_builtin; refine wpList_append_vals rfl _ _ 69 rfl w.heap.size 4 (.bool false) 1 Try.underlying69 infoB rfl (F := boolV (gamB (l + 1) k)) (G := boolV (tailB n l)) rfl rfl HO4.out HR4.out (fun _ _ => rfl) (by omega) (by omega) hsz4 ?_)
  intro A5 c5 w5 ho5 hb5
  have HO5 := Lib.hid ho5
  have HB5 := Lib.hid (HB4.out.trans hb5)
  clear ho5 hb5
  have e : y + l = z := by have := HZ.out; have := HY.out; omega
  go_wp2_with fail
  go_ret
  subst e
  refine ⟨A5, c5, rfl, ?_, HB5.out⟩
  have := HO5.out
  rw [vals_congr (F := catV (boolV (gamB (l + 1) k)) (boolV (tailB n l)) y) (G := boolV (delB n l k)) (fun i hi => by
    unfold catV boolV delB
    rw [← HY.out]
    by_cases c : i < y
    · rw [if_pos c, if_pos c]
    · rw [if_neg c, if_neg c])] at this
  exact this
end Go.Proofs.Ytdkkflejpcgipab
