/- LoadsOf: the program's and the model's. -/
import Derived.Test.YtglccgpiakadbaaKeyRow
namespace Go.Proofs.Ytglccgpiakadbaa
open Go.RowKit

def plF (seed part : Int) (S : Nat → ByteArray) (P : Int) (i : Nat) : Int := placeI seed part (S i).data.toList P
theorem plF_bd (seed part : Int) (S : Nat → ByteArray) (P : Nat) (i : Nat) (h : 1 ≤ P) : ∃ q : Nat, plF seed part S P i = (q : Int) ∧ q < P := by
  obtain ⟨h0, h1⟩ := placeI_bd seed part (S i).data.toList P (by omega)
  exact ⟨(plF seed part S P i).toNat, (Int.toNat_of_nonneg h0).symm, by unfold plF; omega⟩
def cnt (F : Nat → Int) : Nat → Nat → Int
  | 0, _ => 0
  | k + 1, p => cnt F k p + (if F k = p then 1 else 0)
theorem cnt_bd (F : Nat → Int) (k p : Nat) : 0 ≤ cnt F k p ∧ cnt F k p ≤ k := by
  induction k with
  | zero => simp [cnt]
  | succ k ih => simp only [cnt]; split <;> omega
def LoadsOk (seed part : Int) (S : Nat → ByteArray) (n : Nat) (P : Int) : Prop := seedB seed part = true ∧ keysB S n = true ∧ 1 ≤ P ∧ P ≤ 64
/-- A slice of ints of the call's own and a word whether it is one. -/
def RowIs (m : Nat) (Y : Nat → Int) (b : Bool) (w : World) (e : Ending) (w' : World) : Prop :=
  ∃ A c, e = .returned (.tuple #[.slice A m c, .bool b]) ∧ Ow w.heap.size w'.heap.size 3 A m (intV Y) w' ∧ Below w.heap.size w w'

set_option maxRecDepth 100000 in
set_option maxHeartbeats 1000000 in
theorem impl_loads_yes (seed part : Int) (P : Nat) (A : Option Addr) (n c : Nat) (S : Nat → ByteArray) (w : World) (hn : n ≤ 1048576) (hs : ∀ i, i < n → (S i).size ≤ maxLen) (hr : GRow w A n (strV S)) (h : LoadsOk seed part S n P) :
    Calls Try.prog 77 #[.int .i64 seed, .int .i64 part, .slice A n c, .int .i64 P] w (RowIs P (cnt (plF seed part S P) n) true w) := by
  obtain ⟨hsd, hk, h1, h2⟩ := h
  have n40 := keysB_size hk
  have HR := Lib.hid hr
  have HS := Lib.hid hs
  clear hr hs
  have hmk := fun W => run_make_row' (P := Try.prog) 24 3 (.int .i64 0) 8 Try.underlying24 infoI rfl .i64 .i64 P (by omega) (by omega) W
  go_enter Try.func77, Try.ntmps77
  go_wp2_with fail
  refine (impl_isHashNumber seed part _).mono ?_; rintro e w' ⟨rfl, rfl⟩
  rw [hsd]
  go_wp2_with fail
  refine (impl_areKeys A n c S _ hn HS.out HR.out).mono ?_; rintro e w' ⟨rfl, rfl⟩
  rw [hk]
  go_wp2_with fail
  go_loopw [34] (fun i wr => ∃ k : Nat, k ≤ n ∧ i = .int .i64 k ∧ ORow wr w.heap.size P (fun p => cnt (plF seed part S P) k p) ∧ Below w.heap.size w wr) (fun i _ => n - (intOf i).toNat)
  case atStart => exact ⟨0, Nat.zero_le _, rfl, (ORow.made _ _).congr (fun _ _ => rfl), (Below.refl _ _).alloc (Nat.le_refl _) _⟩
  case round =>
    obtain ⟨k, hk', rfl, ho, hb⟩ := hrel
    by_cases hlt : k < n
    · obtain ⟨b, off, rfl, _, hc⟩ := HR.out.below hb (Nat.le_refl _) (by omega)
      have hck := hc k hlt
      have hsk := HS.out k hlt
      unfold strV at hck
      obtain ⟨q, hq, hqP⟩ := plF_bd seed part S P k (by omega)
      have hC := impl_placeKey seed part P (S k) wr hsk hsd (by omega) (by omega)
      rw [show placeI seed part (S k).data.toList P = (q : Int) from hq] at hC
      have HC := Lib.hid hC
      have hx := ho.cell hqP
      have hf := ho.frozen q
      obtain ⟨x0, x1⟩ := cnt_bd (plF seed part S P) k q
      have HX := Lib.hid (show cnt (plF seed part S P) (k + 1) q = cnt (plF seed part S P) k q + 1 by rw [cnt, if_pos hq])
      have HQ := Lib.hid hq
      have HO := Lib.hid ho
      have HB := Lib.hid hb
      generalize hxx : cnt (plF seed part S P) k q = x at *
      clear hc hC ho hb hq
      go_wp2_with fail
      refine HC.out.mono ?_; rintro e w' ⟨rfl, rfl⟩
      go_wp2_with fail
      go_roundw
      case rel =>
        refine ⟨k + 1, by omega, by go_num, (HO.out.set q (x + 1)).congr (fun j hj => ?_), HB.out.setCell (Nat.le_refl _) _⟩
        by_cases e : j = q
        · subst e; simp [HX.out]
        · simp only [e, if_false]
          rw [cnt, if_neg (by rw [HQ.out]; omega)]; simp
      case measure => simp [intOf]; omega
    · obtain rfl : k = n := by omega
      have HO := Lib.hid ho
      have HB := Lib.hid hb
      clear ho hb
      go_wp2_with fail
      go_ret2
      exact ⟨_, _, rfl, ow_of_own (m := P) (show GOwn wr 3 w.heap.size P (intV (cnt (plF seed part S P) k)) from HO.out) (Nat.le_refl _) (Nat.le_refl _), HB.out⟩

def NoRow (w : World) (e : Ending) (w' : World) : Prop := e = .returned (.tuple #[.slice none 0 0, .bool false]) ∧ w = w'
set_option maxRecDepth 100000 in
set_option maxHeartbeats 1000000 in
theorem impl_loads_no (seed part P : Int) (A : Option Addr) (n c : Nat) (S : Nat → ByteArray) (w : World) (hn : n ≤ 1048576) (hs : ∀ i, i < n → (S i).size ≤ maxLen) (hr : GRow w A n (strV S)) (h : ¬ LoadsOk seed part S n P) :
    Calls Try.prog 77 #[.int .i64 seed, .int .i64 part, .slice A n c, .int .i64 P] w (NoRow w) := by
  have HR := Lib.hid hr
  have HS := Lib.hid hs
  have H := Lib.hid h
  clear hr hs h
  cases hsd : seedB seed part with
  | false =>
    go_enter Try.func77, Try.ntmps77
    go_wp2_with fail
    refine (impl_isHashNumber seed part _).mono ?_; rintro e w' ⟨rfl, rfl⟩
    rw [hsd]
    go_wp2_with fail
    go_ret2
    exact ⟨rfl, rfl⟩
  | true =>
    cases hk : keysB S n with
    | false =>
      go_enter Try.func77, Try.ntmps77
      go_wp2_with fail
      refine (impl_isHashNumber seed part _).mono ?_; rintro e w' ⟨rfl, rfl⟩
      rw [hsd]
      go_wp2_with fail
      refine (impl_areKeys A n c S _ hn HS.out HR.out).mono ?_; rintro e w' ⟨rfl, rfl⟩
      rw [hk]
      go_wp2_with fail
      go_ret2
      exact ⟨rfl, rfl⟩
    | true =>
      by_cases h1 : 1 ≤ P
      · have h2 : (64 : Int) < P := by
          have h3 : ¬ (P ≤ 64) := fun h3 => H.out ⟨hsd, hk, h1, h3⟩
          omega
        have b1 : decide (P < 1) = false := by simp; omega
        have b2 : decide (64 < P) = true := by simpa using h2
        go_enter Try.func77, Try.ntmps77
        go_wp2_with fail
        refine (impl_isHashNumber seed part _).mono ?_; rintro e w' ⟨rfl, rfl⟩
        rw [hsd]
        go_wp2_with fail
        refine (impl_areKeys A n c S _ hn HS.out HR.out).mono ?_; rintro e w' ⟨rfl, rfl⟩
        rw [hk]
        go_wp2_with fail
        go_ret2
        exact ⟨rfl, rfl⟩
      · have b1 : decide (P < 1) = true := by simp; omega
        go_enter Try.func77, Try.ntmps77
        go_wp2_with fail
        refine (impl_isHashNumber seed part _).mono ?_; rintro e w' ⟨rfl, rfl⟩
        rw [hsd]
        go_wp2_with fail
        refine (impl_areKeys A n c S _ hn HS.out HR.out).mono ?_; rintro e w' ⟨rfl, rfl⟩
        rw [hk]
        go_wp2_with fail
        go_ret2
        exact ⟨rfl, rfl⟩

set_option maxRecDepth 100000 in
set_option maxHeartbeats 1000000 in
theorem spec_biPlaces (seed part : Int) (P : Nat) (A : Option Addr) (n c : Nat) (S : Nat → ByteArray) (w : World) (hn : n ≤ 40) (hs : ∀ i, i < n → (S i).size ≤ maxLen) (hr : GRow w A n (strV S)) (hsd : seedB seed part = true) (h2 : P ≤ 4096) :
    Calls Try.prog 129 #[.int .i64 seed, .int .i64 part, .slice A n c, .int .i64 P] w fun e w' => ∃ A' c', e = .returned (.slice A' n c') ∧ w'.ownsRow w.heap.size 3 1 (.slice A' n c') n (vals (intV (plF seed part S P)) n) ∧ Below w.heap.size w w' := by
  have HR := Lib.hid hr
  have HS := Lib.hid hs
  clear hr hs
  go_enter Try.func129, Try.ntmps129
  go_wp2_with fail
  go_loopw [9, 14] (fun v i wr => ∃ k : Nat, k ≤ n ∧ i = .int .i64 k ∧ (∃ A1 c1, v = .slice A1 k c1 ∧ wr.ownsRow w.heap.size 3 1 (.slice A1 k c1) k (vals (intV (plF seed part S P)) k)) ∧ Below w.heap.size w wr) (fun _ i _ => n - (intOf i).toNat)
  case atStart => exact ⟨0, Nat.zero_le _, rfl, ⟨none, 0, rfl, World.ownsRow_nil _ _ _ _⟩, Below.refl _ _⟩
  case round =>
    obtain ⟨k, hk', rfl, ⟨A1, c1, rfl, hown⟩, hb⟩ := hrel
    have HO1 := Lib.hid hown
    have HB := Lib.hid hb
    clear hown
    by_cases hlt : k < n
    · obtain ⟨b, off, rfl, _, hc⟩ := HR.out.below hb (Nat.le_refl _) (by omega)
      have hck := hc k hlt
      have hsk := HS.out k hlt
      have hsz := hb.size
      unfold strV at hck
      clear hc hb
      go_wp2_with fail
      refine (spec_biPlace seed part P (S k) wr hsk hsd (by omega) (by omega)).mono ?_; rintro e w2 ⟨rfl, rfl⟩
      go_wp2_with (at_builtin; refine wpList_push rfl _ _ 24 rfl w.heap.size 3 (.int .i64 0) 8 Try.underlying24 infoI rfl A1 k c1 (intV (plF seed part S P)) (.int .i64 (placeI seed part (S k).data.toList P)) wr rfl HO1.out rfl rfl rfl (by omega) (by omega) hsz ?_)
      intro A' c' w3 hown' hb3
      have HO3 := Lib.hid hown'
      have HB3 := Lib.hid (HB.out.trans (hb3.mono (Nat.le_refl _)))
      clear hown' hb3 HB HO1
      go_wp2_with fail
      go_roundw
      case rel => exact ⟨k + 1, by omega, by go_num, ⟨_, _, rfl, HO3.out⟩, HB3.out⟩
      case measure => simp [intOf]; omega
    · obtain rfl : k = n := by omega
      clear hb
      go_wp2_with fail
      go_ret
      exact ⟨_, _, rfl, HO1.out, HB.out⟩
set_option maxRecDepth 100000 in
set_option maxHeartbeats 1000000 in
theorem spec_loads_no (seed part P : Int) (A : Option Addr) (n c : Nat) (S : Nat → ByteArray) (w : World) (hn : n ≤ 1048576) (hs : ∀ i, i < n → (S i).size ≤ maxLen) (hr : GRow w A n (strV S)) (h : ¬ LoadsOk seed part S n P) :
    Calls Try.prog 76 #[.int .i64 seed, .int .i64 part, .slice A n c, .int .i64 P] w (NoRow w) := by
  have HR := Lib.hid hr
  have HS := Lib.hid hs
  have H := Lib.hid h
  clear hr hs h
  cases hsd : seedB seed part with
  | false =>
    go_enter Try.func76, Try.ntmps76
    go_wp2_with fail
    refine (spec_biSeed seed part _).mono ?_; rintro e w' ⟨rfl, rfl⟩
    rw [hsd]
    go_wp2_with fail
    go_ret2
    exact ⟨rfl, rfl⟩
  | true =>
    cases hk : keysB S n with
    | false =>
      go_enter Try.func76, Try.ntmps76
      go_wp2_with fail
      refine (spec_biSeed seed part _).mono ?_; rintro e w' ⟨rfl, rfl⟩
      rw [hsd]
      go_wp2_with fail
      refine (spec_biKeys A n c S _ hn HS.out HR.out).mono ?_; rintro e w' ⟨rfl, rfl⟩
      rw [hk]
      go_wp2_with fail
      go_ret2
      exact ⟨rfl, rfl⟩
    | true =>
      have h1 : ¬ (1 ≤ P ∧ P ≤ 64) := fun h1 => H.out ⟨hsd, hk, h1⟩
      go_enter Try.func76, Try.ntmps76
      go_wp2_with fail
      refine (spec_biSeed seed part _).mono ?_; rintro e w' ⟨rfl, rfl⟩
      rw [hsd]
      go_wp2_with fail
      refine (spec_biKeys A n c S _ hn HS.out HR.out).mono ?_; rintro e w' ⟨rfl, rfl⟩
      rw [hk]
      go_wp2_with fail
      refine (l1In_no _ _ _ _ h1).mono ?_; rintro e w' ⟨rfl, rfl⟩
      go_wp2_with fail
      go_ret2
      exact ⟨rfl, rfl⟩

set_option maxRecDepth 100000 in
set_option maxHeartbeats 1000000 in
theorem spec_loads_yes (seed part : Int) (P : Nat) (A : Option Addr) (n c : Nat) (S : Nat → ByteArray) (w : World) (hn : n ≤ 1048576) (hs : ∀ i, i < n → (S i).size ≤ maxLen) (hr : GRow w A n (strV S)) (h : LoadsOk seed part S n P) :
    Calls Try.prog 76 #[.int .i64 seed, .int .i64 part, .slice A n c, .int .i64 P] w (RowIs P (cnt (plF seed part S P) n) true w) := by
  obtain ⟨hsd, hk, h1, h2⟩ := h
  have n40 := keysB_size hk
  have HR := Lib.hid hr
  have HS := Lib.hid hs
  clear hr hs
  have hmk := fun W => run_make_row' (P := Try.prog) 24 3 (.int .i64 0) 8 Try.underlying24 infoI rfl .i64 .i64 P (by omega) (by omega) W
  go_enter Try.func76, Try.ntmps76
  go_wp2_with fail
  refine (spec_biSeed seed part _).mono ?_; rintro e w' ⟨rfl, rfl⟩
  rw [hsd]
  go_wp2_with fail
  refine (spec_biKeys A n c S _ hn HS.out HR.out).mono ?_; rintro e w' ⟨rfl, rfl⟩
  rw [hk]
  go_wp2_with fail
  refine (l1In_yes _ _ _ _ h1 h2).mono ?_; rintro e w' ⟨rfl, rfl⟩
  have HR1 := Lib.hid (HR.out.al (.cells (madeCells #[.int .i64 0] P) 3))
  go_wp2_with fail
  refine (spec_biPlaces seed part P A n c S _ n40 HS.out HR1.out hsd (by omega)).mono ?_; rintro e w2 ⟨A2, c2, rfl, hown, hb⟩
  have hW := owned_vec hown
  rw [show (w.alloc (.cells (madeCells #[.int .i64 0] P) 3)).heap.size = w.heap.size + 1 by simp] at hW
  have HW := Lib.hid hW
  have hO := (ORow.made w P).b hb
  have HO2 := Lib.hid (hO.congr (Y := fun p => cnt (plF seed part S P) 0 p) (fun _ _ => rfl))
  have HB2 := Lib.hid (((Below.refl _ w).alloc (Nat.le_refl _) (.cells (madeCells #[.int .i64 0] P) 3)).trans (hb.mono (by simp)))
  clear hown hb hO HR1 hW
  go_wp2_with fail
  go_loopw [35] (fun i wr => ∃ k : Nat, k ≤ n ∧ i = .int .i64 k ∧ ORow wr w.heap.size P (fun p => cnt (plF seed part S P) k p) ∧ Below w.heap.size w wr ∧ GVec wr (w.heap.size + 1) 3 A2 n (intV (plF seed part S P))) (fun i _ => n - (intOf i).toNat)
  case atStart => exact ⟨0, Nat.zero_le _, rfl, HO2.out, HB2.out, HW.out⟩
  case round =>
    obtain ⟨k, hk', rfl, ho, hb, hw⟩ := hrel
    by_cases hlt : k < n
    · rcases hw with h0 | ⟨g, rfl, hg, hgo⟩
      · omega
      obtain ⟨q, hq, hqP⟩ := plF_bd seed part S P k (by omega)
      have hp := hgo.cell hlt
      unfold intV at hp
      rw [hq] at hp
      have hx := ho.cell hqP
      have hf := ho.frozen q
      obtain ⟨x0, x1⟩ := cnt_bd (plF seed part S P) k q
      have HX := Lib.hid (show cnt (plF seed part S P) (k + 1) q = cnt (plF seed part S P) k q + 1 by rw [cnt, if_pos hq])
      have HQ := Lib.hid hq
      have HO := Lib.hid ho
      have HB := Lib.hid hb
      have HG := Lib.hid hgo
      generalize hxx : cnt (plF seed part S P) k q = x at *
      clear ho hb hq hgo
      go_wp2_with fail
      go_roundw
      case rel =>
        refine ⟨k + 1, by omega, by go_num, (HO.out.set q (x + 1)).congr (fun j hj => ?_), HB.out.setCell (Nat.le_refl _) _, .inr ⟨g, rfl, hg, HG.out.setAt (by omega) _⟩⟩
        by_cases e : j = q
        · subst e; simp [HX.out]
        · simp only [e, if_false]
          rw [cnt, if_neg (by rw [HQ.out]; omega)]; simp
      case measure => simp [intOf]; omega
    · obtain rfl : k = n := by omega
      have HO := Lib.hid ho
      have HB := Lib.hid hb
      clear ho hb hw
      go_wp2_with fail
      go_ret2
      exact ⟨_, _, rfl, ow_of_own (m := P) (show GOwn wr 3 w.heap.size P (intV (cnt (plF seed part S P) k)) from HO.out) (Nat.le_refl _) (Nat.le_refl _), HB.out⟩
theorem RowIs.post {m : Nat} {Y : Nat → Int} {b : Bool} {w : World} (e : Ending) (w' : World) (h : RowIs m Y b w e w') :
    ∃ A c, e = .returned (.tuple #[.slice A m c, .bool b]) ∧ Ow w.heap.size w'.heap.size 3 A m (intV Y) w' ∧ Below w.heap.size w w' := h
theorem RowIs.read {m : Nat} {Y : Nat → Int} {b : Bool} {w : World} (e : Ending) (w' : World) (h : RowIs m Y b w e w') :
    ∃ A c, e = .returned (.tuple #[.slice A m c, .bool b]) ∧ GRow w' A m (intV Y) ∧ Below w.heap.size w w' := by
  obtain ⟨A, c, he, ho, hb⟩ := h
  exact ⟨A, c, he, ho.rd.row (Nat.le_refl _), hb⟩
theorem NoRow.is {w : World} (e : Ending) (w' : World) (h : NoRow w e w') : RowIs 0 (fun _ => 0) false w e w' := by
  obtain ⟨he, rfl⟩ := h
  exact ⟨none, 0, he, ow_zero _ _ _ _ _ _, Below.refl _ _⟩
end Go.Proofs.Ytglccgpiakadbaa
