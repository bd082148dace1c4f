/- The model's l1Drop; the edges still there as a list; degrees by that list. -/
import Derived.Test.YtfhanighnckbhaaPeelW
import Derived.Test.YtfhanighnckbhaaPeelS
namespace Go.Proofs.Ytfhanighnckbhaa
open Go.RowKit

set_option maxRecDepth 100000 in
set_option maxHeartbeats 4000000 in
theorem spec_l1Drop (EA : Option Addr) (ec : Nat) (L : List Nat) (e : Nat) (w : World) (hm : L.length ≤ 64) (he : IRow w EA L.length (lstV L)) :
    Calls Try.prog 100 #[.slice EA L.length ec, .int .i64 e] w fun en w' => ∃ FA fc, en = .returned (.slice FA (dropL e L).length fc) ∧ w'.ownsRow w.heap.size 3 1 (.slice FA (dropL e L).length fc) (dropL e L).length (vals (intV (lstV (dropL e L))) (dropL e L).length) ∧ Below w.heap.size w w' := by
  have HE := Lib.hid he
  clear he
  go_enter Try.func100, Try.ntmps100
  go_wp2_with fail
  go_loopw [5, 10] (fun v i wr => ∃ (q : Nat) (A1 : Option Addr) (k1 : Nat), q ≤ L.length ∧ i = .int .i64 q ∧ v = .slice A1 (dropL e (L.take q)).length k1 ∧ Hid (wr.ownsRow w.heap.size 3 1 (.slice A1 (dropL e (L.take q)).length k1) (dropL e (L.take q)).length (vals (intV (lstV (dropL e (L.take q)))) (dropL e (L.take q)).length)) ∧ Hid (Below w.heap.size w wr)) (fun _ i _ => L.length - (intOf i).toNat)
  case atStart => exact ⟨0, none, 0, Nat.zero_le _, rfl, rfl, Lib.hid (World.ownsRow_nil _ _ _ _), Lib.hid (Below.refl _ _)⟩
  case round =>
    obtain ⟨q, A1, k1, hq, rfl, rfl, HO, HB⟩ := hrel
    have hsz := HB.out.size
    have hal : (dropL e (L.take q)).length ≤ 64 := Nat.le_trans (List.length_filter_le _ _) (by rw [List.length_take]; omega)
    by_cases hlt : q < L.length
    · obtain ⟨b, off, rfl, _, hc⟩ := (HE.out.b HB.out) (by omega)
      have hcq := hc q hlt
      have hx : lstV L q = ((L[q] : Nat) : Int) := by unfold lstV; rw [List.getD_eq_getElem?_getD, List.getElem?_eq_getElem hlt]; rfl
      have HT := Lib.hid (show dropL e (L.take (q + 1)) = dropL e (L.take q) ++ (if L[q] = e then [] else [L[q]]) by
        rw [List.take_succ_eq_append_getElem hlt]; unfold dropL; rw [List.filter_append]
        by_cases h : L[q] = e <;> simp [h])
      rw [hx] at hcq
      clear hc hx
      by_cases hc : L[q] = e
      · have HA := Lib.hid (show dropL e (L.take (q + 1)) = dropL e (L.take q) by rw [HT.out, if_pos hc]; simp)
        have d1 : (((L[q] : Nat) : Int) != (e : Int)) = false := by simp; omega
        clear hc HT
        generalize L[q] = u at hcq d1
        go_wp2_with fail
        go_roundw
        case rel => exact ⟨q + 1, A1, k1, by omega, by go_num, by rw [HA.out], by rw [HA.out]; exact HO, HB⟩
        case measure => simp [intOf]; omega
      · have HA := Lib.hid (show dropL e (L.take (q + 1)) = dropL e (L.take q) ++ [L[q]] by rw [HT.out, if_neg hc])
        have d1 : (((L[q] : Nat) : Int) != (e : Int)) = true := by simp; omega
        have d2 : (L[q] != e) = true := by simpa using hc
        clear hc HT
        generalize L[q] = u at hcq d1 d2 HA
        have HPu := Lib.hid (push_lst (x := u) HO.out)
        have HV := Lib.hid (show intV (lstV (dropL e (L.take q) ++ [u])) (dropL e (L.take q)).length = .int .i64 (u : Int) by unfold intV; rw [lstV_new])
        go_upto_region 6 with fail
        go_wp2_with (at_builtin; refine wpList_push rfl _ _ 47 rfl w.heap.size 3 (.int .i64 0) 8 Try.underlying47 infoI rfl A1 (dropL e (L.take q)).length k1 (intV (lstV (dropL e (L.take q) ++ [u]))) (.int .i64 (u : Int)) _ rfl HPu.out rfl HV.out rfl (by omega) (by omega) (by omega) ?_)
        intro A' c' w5 hown' hb5
        have L5 := Lib.hid (HB.out.trans hb5)
        have hlen1 : (dropL e (L.take q)).length + 1 = (dropL e (L.take (q + 1))).length := by rw [HA.out]; simp
        rw [← HA.out] at hown'
        have HO5 := Lib.hid hown'
        clear hown' hb5 HO HB HPu
        go_wp2_with fail
        go_roundw
        case rel => exact ⟨q + 1, A', c', by omega, by go_num, by rw [← hlen1], by rw [← hlen1]; exact HO5, L5⟩
        case measure => simp [intOf]; omega
    · obtain rfl : q = L.length := by omega
      have h := HO.out
      rw [List.take_length] at h
      have HF := Lib.hid h
      clear h
      go_wp2_with fail
      go_ret
      exact ⟨A1, k1, by rw [List.take_length]; rfl, HF.out, HB.out⟩
/-- Degrees by a list are those of what is not gone. -/
def sumD (l : Nat → Nat) (X : Nat → Nat → Int) (p : Int) : List Nat → Nat
  | [] => 0
  | x :: L => cntE (X x) p (l x) + sumD l X p L
theorem sumD_append (l : Nat → Nat) (X : Nat → Nat → Int) (p : Int) : ∀ L M, sumD l X p (L ++ M) = sumD l X p L + sumD l X p M
  | [], M => by simp [sumD]
  | x :: L, M => by rw [List.cons_append, sumD, sumD, sumD_append l X p L M]; omega
theorem sumD_left (l : Nat → Nat) (X : Nat → Nat → Int) (G : Nat → Bool) (p : Int) : ∀ k, sumD l X p (leftL G k) = dgR l X G p k
  | 0 => rfl
  | k + 1 => by
    rw [leftL, dgR]
    by_cases h : G k = true
    · rw [if_pos h, if_pos h, sumD_left l X G p k]; omega
    · rw [if_neg h, if_neg h, sumD_append, sumD_left l X G p k]; simp [sumD]
theorem degN_list (l : Nat → Nat) (X : Nat → Nat → Int) (p : Int) (L : List Nat) : ∀ k, k ≤ L.length → degN (fun t => L.getD t 0) l X p k = sumD l X p (L.take k)
  | 0, _ => by simp [degN, sumD]
  | k + 1, h => by
    rw [degN, degN_list l X p L k (by omega), List.take_succ_eq_append_getElem (show k < L.length by omega), sumD_append]
    have e : L.getD k 0 = L[k] := by rw [List.getD_eq_getElem?_getD, List.getElem?_eq_getElem (show k < L.length by omega)]; rfl
    rw [e]; simp [sumD]
theorem deg_left (l : Nat → Nat) (X : Nat → Nat → Int) (G : Nat → Bool) (n : Nat) : dgF (fun t => (leftL G n).getD t 0) l X (leftL G n).length 0 = degF l X G n := by
  funext p
  rw [dgF_end, degN_list l X p (leftL G n) _ (Nat.le_refl _), List.take_length, sumD_left]; rfl
end Go.Proofs.Ytfhanighnckbhaa
