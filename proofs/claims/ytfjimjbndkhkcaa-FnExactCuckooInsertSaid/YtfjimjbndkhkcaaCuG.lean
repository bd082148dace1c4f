/- Is it a cuckoo table: the model's side. -/
import Derived.Test.YtfjimjbndkhkcaaCuT
import Derived.Test.YtfjimjbndkhkcaaHas
namespace Go.Proofs.Ytfjimjbndkhkcaa
open Go.RowKit

/-- A string in a cell is a key that has this cell. -/
def CellOk (z : Int) (S : Nat → ByteArray) (n i : Nat) : Prop := (S i).data.toList ≠ [] → isKeyB (S i).data.toList = true ∧ ∃ j, j < 2 ∧ celF z (S i).data.toList n j = (i : Int)
/-- The strings of a table that are not empty. -/
def tabL (S : Nat → ByteArray) (n : Nat) (H : Nat → ByteArray) (m : Nat) : List Byt := fullS (lsOf S n ++ lsOf H m)
structure CuOk (z : Int) (S : Nat → ByteArray) (n : Nat) (H : Nat → ByteArray) (m : Nat) : Prop where
  size : sizeB z n = true
  few : m ≤ 4
  keys : keysB H m = true
  cell : ∀ i, i < n → CellOk z S n i
  many : (tabL S n H m).length ≤ 40
  nodup : (tabL S n H m).Nodup
theorem fullS_app (a b : List Byt) : fullS (a ++ b) = fullS a ++ fullS b := by simp [fullS]
theorem tabL_len {S H : Nat → ByteArray} {n m : Nat} (h : keysB H m = true) : (tabL S n H m).length = (fullS (lsOf S n)).length + m := by
  unfold tabL
  rw [fullS_app, List.length_append, fullS_keys (l := lsOf H m) (fun x hx => (keysB_inc.1 h).2.1 x hx), lsOf_len]
section
variable (z : Int) (A : Option Addr) (n c : Nat) (S : Nat → ByteArray) (B : Option Addr) (m d : Nat) (H : Nat → ByteArray) (w : World)
set_option maxRecDepth 100000 in
set_option maxHeartbeats 4000000 in
theorem spec_cuGood (hn : n ≤ 1048576) (hm : m ≤ 1048576) (hs : ∀ i, i < n → (S i).size ≤ maxLen) (hh : ∀ i, i < m → (H i).size ≤ maxLen) (h1 : GRow w A n (strV S)) (h2 : GRow w B m (strV H)) :
    Calls Try.prog 68 #[.agg #[.int .i64 z, .slice A n c, .slice B m d]] w (BoolIs (CuOk z S n H m) w) := by
  have C0 := Lib.hid (CL.start (z := z) (c := c) (d := d) h1 h2 36)
  have HS := Lib.hid hs
  have HH := Lib.hid hh
  clear h1 h2 hs hh
  have k0 := C0.out.c0
  have k1 := C0.out.c1
  have k2 := C0.out.c2
  have HBe := Lib.hid C0.out.below
  cases hz : sizeB z n with
  | false =>
    have HN := Lib.hid (show ¬ CuOk z S n H m from fun h => by have := h.size; rw [hz] at this; cases this)
    go_enter Try.func68, Try.ntmps68
    go_wp2_with fail
    refine (spec_cuSize z n _).mono ?_; rintro e w' ⟨rfl, rfl⟩
    rw [hz]
    go_wp2_with fail
    go_ret
    exact ⟨false, rfl, by simp only [Bool.false_eq_true, false_iff]; exact HN.out, HBe.out⟩
  | true =>
  have hzs := sizeB_out hz
  have hn64 : n ≤ 64 := by omega
  by_cases h4 : 4 < m
  · have HN := Lib.hid (show ¬ CuOk z S n H m from fun h => by have := h.few; omega)
    have d4 : decide ((4 : Int) < (m : Int)) = true := by simp; omega
    go_enter Try.func68, Try.ntmps68
    go_wp2_with fail
    refine (spec_cuSize z n _).mono ?_; rintro e w' ⟨rfl, rfl⟩
    rw [hz]
    go_wp2_with fail
    go_ret
    exact ⟨false, rfl, by simp only [Bool.false_eq_true, false_iff]; exact HN.out, HBe.out⟩
  have d4 : decide ((4 : Int) < (m : Int)) = false := by simp; omega
  cases hk : keysB H m with
  | false =>
    have HN := Lib.hid (show ¬ CuOk z S n H m from fun h => by have := h.keys; rw [hk] at this; cases this)
    go_enter Try.func68, Try.ntmps68
    go_wp2_with fail
    refine (spec_cuSize z n _).mono ?_; rintro e w' ⟨rfl, rfl⟩
    rw [hz]
    go_wp2_with fail
    refine (spec_biKeys B m d H _ hm HH.out C0.out.r2).mono ?_; rintro e w' ⟨rfl, rfl⟩
    rw [hk]
    go_wp2_with fail
    go_ret
    exact ⟨false, rfl, by simp only [Bool.false_eq_true, false_iff]; exact HN.out, HBe.out⟩
  | true =>
  have HTL := Lib.hid (tabL_len (S := S) (n := n) hk)
  go_enter Try.func68, Try.ntmps68
  go_wp2_with fail
  refine (spec_cuSize z n _).mono ?_; rintro e w' ⟨rfl, rfl⟩
  rw [hz]
  go_wp2_with fail
  refine (spec_biKeys B m d H _ hm HH.out C0.out.r2).mono ?_; rintro e w' ⟨rfl, rfl⟩
  rw [hk]
  go_wp2_with fail
  generalize w.alloc (.cells #[.int .i64 z, .slice A n c, .slice B m d] 36) = w1 at *
  clear k0 k1 k2
  go_loopw [3, 31] (fun v i wr => ∃ (q : Nat), q ≤ n ∧ i = .int .i64 q ∧ v = .int .i64 (((fullS (lsOf S q)).length + m : Nat) : Int) ∧ Hid (∀ j, j < q → CellOk z S n j) ∧ Hid (CL w z A n c S B m d H wr)) (fun _ i _ => n - (intOf i).toNat)
  case atStart => exact ⟨0, Nat.zero_le _, rfl, by simp [lsOf, fullS], Lib.hid (fun j hj => absurd hj (Nat.not_lt_zero _)), C0⟩
  case round =>
    obtain ⟨q, hq, rfl, rfl, HC, HL⟩ := hrel
    have k0 := HL.out.c0
    have k1 := HL.out.c1
    have k2 := HL.out.c2
    have hle : (fullS (lsOf S q)).length ≤ 64 := by have h := fullS_le (lsOf S q); rw [lsOf_len] at h; omega
    by_cases hlt : q < n
    · obtain ⟨b, off, rfl, hbl, hcc⟩ := HL.out.r1 (by omega)
      have hx : wr.cell? ⟨b, off + q, none⟩ = some (.string (S q)) := hcc q hlt
      have hsq := HS.out q hlt
      have hE := fullS_snoc (lsOf S q) (S q).data.toList
      rw [← lsOf_succ] at hE
      have hem : (S q).toList.isEmpty = (S q).data.toList.isEmpty := by rw [ba_toList]
      clear hcc
      cases hc : (S q).data.toList.isEmpty with
      | true =>
        rw [hc] at hE hem
        have HE2 := Lib.hid (show (fullS (lsOf S (q + 1))).length = (fullS (lsOf S q)).length by rw [hE]; rfl)
        have HC2 := Lib.hid (show ∀ j, j < q + 1 → CellOk z S n j from fun j hj => by
          by_cases e : j = q
          · subst e; exact fun h => absurd (by simpa using hc) h
          · exact HC.out j (by omega))
        clear hE hc
        go_wp2_with fail
        go_roundw
        case rel => exact ⟨q + 1, by omega, by go_num, by rw [HE2.out], HC2, HL⟩
        case measure => simp [intOf]; omega
      | false =>
        rw [hc] at hE hem
        have hne : (S q).data.toList ≠ [] := fun h => by rw [h] at hc; simp at hc
        have HNE := Lib.hid hne
        have HE2 := Lib.hid (show (fullS (lsOf S (q + 1))).length = (fullS (lsOf S q)).length + 1 by rw [hE]; simp)
        clear hE hc hne
        cases hkq : isKeyB (S q).data.toList with
        | false =>
          have HN := Lib.hid (show ¬ CuOk z S n H m from fun h => by have := (h.cell q hlt HNE.out).1; rw [hkq] at this; cases this)
          go_wp2_with fail
          refine (spec_isKey (S q) _ hsq).mono ?_; rintro e w' ⟨rfl, rfl⟩
          rw [hkq]
          go_wp2_with fail
          go_ret
          exact ⟨false, rfl, by simp only [Bool.false_eq_true, false_iff]; exact HN.out, HL.out.below⟩
        | true =>
          go_wp2_with fail
          refine (spec_isKey (S q) _ hsq).mono ?_; rintro e w' ⟨rfl, rfl⟩
          rw [hkq]
          go_wp2_with fail
          refine (spec_cuCells z n (S q) _ hsq hz).mono ?_; rintro e w' ⟨rfl, rfl⟩
          have HL2 := Lib.hid (HL.out.b (celW_below z (S q).data.toList n wr))
          have HR2 := Lib.hid (celW_row z (S q).data.toList n wr)
          unfold celV
          generalize celW z (S q).data.toList n wr = w3 at *
          go_wp2_with fail
          refine (spec_l1Has _ 2 2 _ (q : Int) _ (by omega) HR2.out).mono ?_; rintro e w' ⟨r, rfl, hr, rfl⟩
          have HRR := Lib.hid hr
          clear hr
          cases r with
          | false =>
            have HN := Lib.hid (show ¬ CuOk z S n H m from fun h => by have := HRR.out.2 (h.cell q hlt HNE.out).2; cases this)
            go_wp2_with fail
            go_ret
            exact ⟨false, rfl, by simp only [Bool.false_eq_true, false_iff]; exact HN.out, HL2.out.below⟩
          | true =>
            have HC2 := Lib.hid (show ∀ j, j < q + 1 → CellOk z S n j from fun j hj => by
              by_cases e : j = q
              · subst e; exact fun _ => ⟨hkq, HRR.out.1 rfl⟩
              · exact HC.out j (by omega))
            go_wp2_with fail
            go_roundw
            case rel => exact ⟨q + 1, by omega, by go_num, by rw [HE2.out]; congr 1; push_cast; omega, HC2, HL2⟩
            case measure => simp [intOf]; omega
    · obtain rfl : q = n := by omega
      by_cases hma : (fullS (lsOf S q)).length + m ≤ 40
      · go_wp2_with fail
        refine (spec_cuAll z A q c S B m d H _ (by omega) (by omega) HL.out.r1 HL.out.r2).mono ?_; rintro e w' ⟨A6, c6, k6, S6, rfl, he6, hr6, hkc6, hb6⟩
        have hk6 : k6 = (allS (tabL S q H m)).length := by rw [show allS (tabL S q H m) = lsOf S6 k6 from he6.symm, lsOf_len]
        have hle6 := allS_le (tabL S q H m)
        have hB6 := Lib.hid (HL.out.below.trans (hb6.mono HL.out.below.size))
        by_cases hd : k6 = (fullS (lsOf S q)).length + m
        · have HY := Lib.hid (show CuOk z S q H m from ⟨hz, by omega, hk, HC.out, by rw [HTL.out]; omega, allS_len.1 (by rw [← hk6, HTL.out]; exact hd)⟩)
          have d6 : ((k6 : Int) == (((fullS (lsOf S q)).length : Int) + (m : Int))) = true := by simp; omega
          clear he6 hr6 hb6 hk6 hd
          go_wp2_with fail
          go_ret
          exact ⟨true, rfl, by simp only [true_iff]; exact HY.out, hB6.out⟩
        · have HN := Lib.hid (show ¬ CuOk z S q H m from fun h => hd (by rw [hk6, allS_len.2 h.nodup, HTL.out]))
          have d6 : ((k6 : Int) == (((fullS (lsOf S q)).length : Int) + (m : Int))) = false := by simp; omega
          clear he6 hr6 hb6 hk6 hd
          go_wp2_with fail
          go_ret
          exact ⟨false, rfl, by simp only [Bool.false_eq_true, false_iff]; exact HN.out, hB6.out⟩
      · have HN := Lib.hid (show ¬ CuOk z S q H m from fun h => by have := h.many; rw [HTL.out] at this; omega)
        go_wp2_with fail
        go_ret
        exact ⟨false, rfl, by simp only [Bool.false_eq_true, false_iff]; exact HN.out, HL.out.below⟩
end
end Go.Proofs.Ytfjimjbndkhkcaa
