/- The model's nodes of keys. -/
import Derived.Test.YthaipemgndahfaaTrN
import Derived.Test.YthaipemgndahfaaObj
import Derived.Deep.QuietTactic
import Derived.Laws.DeepStrings4
namespace Go.Proofs.Ythaipemgndahfaa
open Go.RowKit

theorem ext_take (s : ByteArray) (k : Nat) : (s.extract 0 k).data.toList = s.data.toList.take k := by
  simp [ByteArray.data_extract]
theorem ext_drop (s : ByteArray) (k : Nat) : (s.extract k s.size).data.toList = s.data.toList.drop k := by
  simp only [ByteArray.data_extract, Array.toList_extract, List.extract_eq_take_drop]
  exact List.take_of_length_le (by simp)
theorem ba_len (s : ByteArray) : s.data.toList.length = s.size := by simp
theorem ba_eq {a b : ByteArray} : (a.toList == b.toList) = decide (a.data.toList = b.data.toList) := by
  rw [ba_toList, ba_toList, Bool.eq_iff_iff, beq_iff_eq, decide_eq_true_eq]
theorem ba_ne {a b : ByteArray} : (a.toList != b.toList) = decide (a.data.toList ≠ b.data.toList) := by
  show (!(a.toList == b.toList)) = _
  rw [ba_eq]; simp only [ne_eq, decide_not]
theorem ba_nth {x : ByteArray} {k : Nat} (h : k < x.size) : x.data.toList[k]? = some x[k] := by
  rw [Array.getElem?_toList, Array.getElem?_eq_getElem (by simpa using h)]
  rfl
theorem rowS_at (L : List Byt) {i : Nat} : (rowS L i).data.toList = L.getD i [] := by simp [rowS]
theorem rowS_old {L : List Byt} {x : Byt} {i : Nat} (h : i < L.length) : rowS (L ++ [x]) i = rowS L i := by
  unfold rowS
  rw [List.getD_eq_getElem?_getD, List.getD_eq_getElem?_getD, List.getElem?_append_left h]
theorem rowS_new {L : List Byt} {x : ByteArray} {y : Byt} (h : x.data.toList = y) : rowS (L ++ [y]) L.length = x := by
  refine ba_ext ?_
  rw [rowS_at, h, List.getD_eq_getElem?_getD, List.getElem?_append_right (Nat.le_refl _)]
  simp
theorem rowS_last {L : List Byt} : (rowS L (L.length - 1)).data.toList = L.getLastD [] := by
  rw [rowS_at]
  cases L with
  | nil => simp
  | cons a l => rw [List.getLastD_eq_getLast?, List.getLast?_eq_getElem?, List.getD_eq_getElem?_getD]
/-- A slice of strings of the call's own, told as a list. -/
def OwnT (L : List Byt) (w : World) (e : Ending) (w' : World) : Prop :=
  ∃ A c, e = .returned (.slice A L.length c) ∧ w'.ownsRow w.heap.size 9 1 (.slice A L.length c) L.length (vals (strV (rowS L)) L.length) ∧ Below w.heap.size w w'
section
variable {s x : ByteArray} {w : World}
set_option maxRecDepth 100000 in
set_option maxHeartbeats 1000000 in
theorem spec_trBegins (_hs : s.size ≤ maxLen) : Calls Try.prog 75 #[.string s, .string x] w fun e w' => e = .returned (.bool (decide (x.data.toList <+: s.data.toList))) ∧ w = w' := by
  by_cases h : x.size ≤ s.size
  · have d1 : decide ((x.size : Int) ≤ (s.size : Int)) = true := by simp; omega
    have HE := Lib.hid (show ((s.extract 0 x.size).toList == x.toList) = decide (x.data.toList <+: s.data.toList) by
      rw [ba_eq, ext_take]
      refine decide_eq_decide.2 ?_
      rw [List.prefix_iff_eq_take, ba_len]
      exact eq_comm)
    go_enter Try.func75, Try.ntmps75
    go_wp2_with fail
    go_ret
    exact ⟨by rw [← HE.out]; rfl, rfl⟩
  · have d1 : decide ((x.size : Int) ≤ (s.size : Int)) = false := by simp; omega
    have HE := Lib.hid (show decide (x.data.toList <+: s.data.toList) = false by
      rw [decide_eq_false_iff_not]; intro h2; have := h2.length_le; rw [ba_len, ba_len] at this; omega)
    go_enter Try.func75, Try.ntmps75
    go_wp2_with fail
    go_ret
    exact ⟨by rw [HE.out]; rfl, rfl⟩
end
theorem own_one (w : World) (t : TypeId) (u : Value) : (w.alloc (.cells #[u] t)).ownsRow w.heap.size t 1 (.slice (some ⟨w.heap.size, 0, none⟩) 1 1) 1 [u] :=
  ⟨by simp, .inr ⟨w.heap.size, 1, #[u], rfl, Nat.le_refl _, heap_alloc_new w _, Nat.le_refl _, by simp [maxLen], by simp, by simp⟩⟩
theorem push_ls {w : World} {B c : Nat} {A : Option Addr} {O : List Byt} (y : Byt) (h : w.ownsRow B 9 1 (.slice A O.length c) O.length (vals (strV (rowS O)) O.length)) :
    w.ownsRow B 9 1 (.slice A O.length c) O.length (vals (strV (rowS (O ++ [y]))) O.length) := by
  rwa [vals_congr (F := strV (rowS (O ++ [y]))) (G := strV (rowS O)) (fun i hi => by unfold strV; rw [rowS_old hi])]
theorem ndFold_succ {n : Nat} {S : Nat → ByteArray} {i : Nat} {out : List Byt} : (lsOf S (i + 1)).foldl (ndStep n) out = ndStep n ((lsOf S i).foldl (ndStep n) out) (S i).data.toList := by
  rw [lsOf_succ, List.foldl_append]; rfl
section
variable {A : Option Addr} {k c : Nat} {S : Nat → ByteArray} {w : World}
set_option maxRecDepth 100000 in
set_option maxHeartbeats 4000000 in
theorem spec_trNodes (hk : k ≤ 64) (hs : ∀ i, i < k → (S i).size ≤ 1048576) (hr : GRow w A k (strV S)) :
    Calls Try.prog 74 #[.slice A k c] w (OwnT (ndL (lsOf S k)) w) := by
  have HR := Lib.hid hr
  have HS := Lib.hid hs
  clear hr hs
  have HO := Lib.hid (show (w.alloc (.cells #[.string ⟨#[]⟩] 9)).ownsRow w.heap.size 9 1 (.slice (some ⟨w.heap.size, 0, none⟩) 1 1) 1 (vals (strV (rowS [[]])) 1) from by
    exact own_one w 9 (.string ⟨#[]⟩))
  have HB := Lib.hid ((Below.refl w.heap.size w).alloc (Nat.le_refl _) (.cells #[.string ⟨#[]⟩] 9))
  go_enter Try.func74, Try.ntmps74
  go_wp2_with fail
  generalize hw1 : w.alloc (.cells #[.string ⟨#[]⟩] 9) = w1 at *
  clear hw1
  go_loopw [3, 4] (fun o n wr => ∃ (m : Nat) (A1 : Option Addr) (c1 : Nat) (O : List Byt), m ≤ 12 ∧ n = .int .i64 ((m : Int) + 1) ∧ o = .slice A1 O.length c1 ∧ Hid (O = ndUp (lsOf S k) m) ∧ 1 ≤ O.length ∧ O.length ≤ 1 + m * 64 ∧ Hid (wr.ownsRow w.heap.size 9 1 (.slice A1 O.length c1) O.length (vals (strV (rowS O)) O.length)) ∧ Hid (Below w.heap.size w wr)) (fun _ n _ => 13 - (intOf n).toNat)
  case atStart => exact ⟨0, _, _, [[]], by omega, rfl, rfl, Lib.hid rfl, Nat.le_refl _, by simp, HO, HB⟩
  case round =>
    obtain ⟨m, A1, c1, O, hm, rfl, rfl, HL, hO1, hO2, HW, HB⟩ := hrel
    by_cases hlt : m < 12
    · have d1 : decide ((m : Int) + 1 ≤ 12) = true := by simp; omega
      go_wp2_with fail
      go_loopw [3, 14] (fun o i wi => ∃ (q : Nat) (A2 : Option Addr) (c2 : Nat) (P : List Byt), q ≤ k ∧ i = .int .i64 q ∧ o = .slice A2 P.length c2 ∧ Hid (P = (lsOf S q).foldl (ndStep (m + 1)) O) ∧ 1 ≤ P.length ∧ P.length ≤ O.length + q ∧ Hid (wi.ownsRow w.heap.size 9 1 (.slice A2 P.length c2) P.length (vals (strV (rowS P)) P.length)) ∧ Hid (Below w.heap.size w wi)) (fun _ i _ => k - (intOf i).toNat)
      case atStart => exact ⟨0, A1, c1, O, Nat.zero_le _, rfl, rfl, Lib.hid rfl, hO1, by omega, HW, HB⟩
      case round =>
        obtain ⟨q, A2, c2, P, hq, rfl, rfl, HP, hP1, hP2, HW2, HB2⟩ := hrel
        by_cases hlq : q < k
        · obtain ⟨b, off, rfl, hbl, hcc⟩ := HR.out (by omega)
          have hx : wr.cell? ⟨b, off + q, none⟩ = some (.string (S q)) := (HB2.out.cell (p := ⟨b, off + q, none⟩) hbl).trans (hcc q hlq)
          have HSQ := HS.out q hlq
          obtain ⟨g2, o2, rfl, hbl2, hcc2⟩ := (owned_vec HW2.out).row (by omega)
          have hy : wr.cell? ⟨g2, o2 + (P.length - 1), none⟩ = some (.string (rowS P (P.length - 1))) := hcc2 (P.length - 1) (by omega)
          have hbd : ∀ nq, Below wr.heap.size wr (wr.drewN nq) := fun nq => below_drewN (Below.refl _ _) nq
          have HBD := Lib.hid hbd
          have e5 : IntKind.i64.wrap ((P.length : Int) - 1) = (P.length : Int) - 1 := IntWalk.i64_in _ (by omega)
          have q1 : (P.length : Int) - 1 < (P.length : Int) := by omega
          have q2 : 0 ≤ (P.length : Int) - 1 := by omega
          have HNX := Lib.hid (show (lsOf S (q + 1)).foldl (ndStep (m + 1)) O = ndStep (m + 1) P (S q).data.toList by rw [ndFold_succ, ← HP.out])
          have hsz2 := HB2.out.size
          clear hcc hcc2 hbd
          by_cases hl : m + 1 ≤ (S q).size
          · have d2 : decide ((m : Int) + 1 ≤ ((S q).size : Int)) = true := by simp; omega
            have q3 : (m : Int) + 1 ≤ ((S q).size : Int) := by omega
            by_cases he : (S q).data.toList.take (m + 1) = P.getLastD []
            · have d3 : (((S q).extract 0 (m + 1)).toList == (rowS P (P.length - 1)).toList) = true := by rw [ba_eq, ext_take, rowS_last]; simpa using he
              have HS2 := Lib.hid (show P = (lsOf S (q + 1)).foldl (ndStep (m + 1)) O by rw [HNX.out]; unfold ndStep; rw [if_neg (fun h => h.2 he)])
              clear he
              go_wp2_with fail
              go_quiet (fail)
              go_wp2_with fail
              go_roundw
              case rel => exact ⟨q + 1, _, c2, P, by omega, by go_num, rfl, HS2, hP1, by omega, owned_b HW2.out (HBD.out _), HB2.out.trans ((HBD.out _).mono HB2.out.size)⟩
              case measure => simp [intOf]; omega
            · have d3 : (((S q).extract 0 (m + 1)).toList == (rowS P (P.length - 1)).toList) = false := by rw [ba_eq, ext_take, rowS_last]; simpa using he
              have HS2 := Lib.hid (show P ++ [(S q).data.toList.take (m + 1)] = (lsOf S (q + 1)).foldl (ndStep (m + 1)) O by rw [HNX.out]; unfold ndStep; rw [if_pos ⟨by rw [ba_len]; exact hl, he⟩])
              have HFN := Lib.hid (show strV (rowS (P ++ [(S q).data.toList.take (m + 1)])) P.length = .string ((S q).extract 0 (m + 1)) by unfold strV; rw [rowS_new (ext_take _ _)])
              clear he
              go_wp2_with fail
              go_quiet (fail)
              go_wp2_with (at_builtin; refine wpList_push rfl _ _ 22 rfl w.heap.size 9 (.string ByteArray.empty) 16 Try.underlying22 infoS rfl _ _ c2 (strV (rowS (P ++ [(S q).data.toList.take (m + 1)]))) _ (wr.drewN _) rfl (push_ls _ (owned_b HW2.out (HBD.out _))) rfl HFN.out rfl (by omega) (by omega) (by show w.heap.size ≤ wr.heap.size; omega) ?_)
              intro A4 c4 w4 ho4 hb4
              have HW4 := Lib.hid (show w4.ownsRow w.heap.size 9 1 (.slice A4 (P ++ [(S q).data.toList.take (m + 1)]).length c4) (P ++ [(S q).data.toList.take (m + 1)]).length (vals (strV (rowS (P ++ [(S q).data.toList.take (m + 1)]))) (P ++ [(S q).data.toList.take (m + 1)]).length) by rw [List.length_append]; exact ho4)
              have HB4 := Lib.hid ((HB2.out.trans ((HBD.out _).mono HB2.out.size)).trans hb4)
              clear ho4 hb4
              go_wp2_with fail
              go_roundw
              case rel => exact ⟨q + 1, A4, c4, P ++ [(S q).data.toList.take (m + 1)], by omega, by go_num, by simp, HS2, by simp, by simp; omega, HW4, HB4⟩
              case measure => simp [intOf]; omega
          · have d2 : decide ((m : Int) + 1 ≤ ((S q).size : Int)) = false := by simp; omega
            have HS2 := Lib.hid (show P = (lsOf S (q + 1)).foldl (ndStep (m + 1)) O by rw [HNX.out]; unfold ndStep; rw [if_neg (fun h => hl (by have := h.1; rw [ba_len] at this; exact this))])
            go_wp2_with fail
            go_quiet (fail)
            go_wp2_with fail
            go_roundw
            case rel => exact ⟨q + 1, _, c2, P, by omega, by go_num, rfl, HS2, hP1, by omega, owned_b HW2.out (HBD.out _), HB2.out.trans ((HBD.out _).mono HB2.out.size)⟩
            case measure => simp [intOf]; omega
        · obtain rfl : q = k := by omega
          have HL2 := Lib.hid (show P = ndUp (lsOf S q) (m + 1) by rw [HP.out, HL.out]; rfl)
          go_wp2_with fail
          go_roundw
          case rel => exact ⟨m + 1, A2, c2, P, by omega, by go_num, rfl, HL2, hP1, by omega, HW2, HB2⟩
          case measure => simp [intOf]; omega
    · obtain rfl : m = 12 := by omega
      have d1 : decide (((12 : Nat) : Int) + 1 ≤ 12) = false := by decide
      obtain rfl : O = ndL (lsOf S k) := HL.out
      go_wp2_with fail
      go_ret
      exact ⟨A1, c1, rfl, HW.out, HB.out⟩
end
end Go.Proofs.Ythaipemgndahfaa
