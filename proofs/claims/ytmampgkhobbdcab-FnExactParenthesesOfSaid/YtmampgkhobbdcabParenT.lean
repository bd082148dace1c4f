/- The balanced vector of a tree list: the code's side. -/
import Derived.Test.YtmampgkhobbdcabTreeI
import Derived.Test.YtmampgkhobbdcabPutF
namespace Go.Proofs.Ytmampgkhobbdcab
open Go.RowKit

/-- The words of a tree list's vector. -/
def treeF (p : Nat → Int) (n k : Nat) : Bool := bitL (outN p n) k

set_option maxRecDepth 100000 in
set_option maxHeartbeats 2000000 in
theorem impl_parens_no (A : Option Addr) (n c : Nat) (p : Nat → Int) (w : World) (hn : n ≤ 1048576) (hr : IRow w A n p) (h : ¬ IsTree n p) :
    Calls Try.prog 28 #[.slice A n c] w (OwnIs 0 0 (fun _ => 0) false w) := by
  have hb0 : Below w.heap.size w (w.alloc (.cells #[.int .i64 0, .slice none 0 0] 28)) := (Below.refl _ _).alloc (Nat.le_refl _) _
  have HR := Lib.hid (hr.b hb0)
  have RB0 := Lib.hid (show RB w w.heap.size _ from ⟨hb0, Box.new w 0 none 0 0 28, free_new w _ _⟩)
  have H := Lib.hid h
  clear hr h hb0
  go_enter Try.func28, Try.ntmps28
  go_wp2_with fail
  refine (impl_isTreeList A n c p _ hn HR.out).mono ?_; rintro e w1 ⟨b, rfl, hb, hw⟩
  rw [hw] at RB0
  obtain rfl : b = false := by cases b; rfl; exact absurd (hb.1 rfl) H.out
  obtain ⟨hr4, d0, d1⟩ := RB0.out.box
  obtain ⟨f0, f1⟩ := RB0.out.free
  clear hb hw HR
  go_wp2_with fail
  refine bodyPost_ret (v := .tuple #[.agg #[.int .i64 0, .slice none 0 0], .bool false]) (by simp [results, Try.results28, go_sem, d0, d1]) rfl ?_
  exact ⟨none, 0, rfl, .inl ⟨rfl, rfl⟩, below_setAt (below_setAt RB0.out.below (by omega) _) (by omega) _⟩

set_option maxRecDepth 100000 in
set_option maxHeartbeats 4000000 in
theorem impl_parens_yes (A : Option Addr) (n c m : Nat) (p : Nat → Int) (w : World) (hr : IRow w A n p) (h : IsTree n p) (hm : m = (2 * n + 15) / 16) :
    Calls Try.prog 28 #[.slice A n c] w (OwnIs ((2 * n : Nat) : Int) m (fun k => (wordsOf (treeF p n) k : Int)) true w) := by
  have hb0 : Below w.heap.size w (w.alloc (.cells #[.int .i64 0, .slice none 0 0] 28)) := (Below.refl _ _).alloc (Nat.le_refl _) _
  have HR := Lib.hid (hr.b hb0)
  have RB0 := Lib.hid (show RB w w.heap.size _ from ⟨hb0, Box.new w 0 none 0 0 28, free_new w _ _⟩)
  have HR0 := Lib.hid hr
  have H := Lib.hid h
  have HM := Lib.hid hm
  have hn : n ≤ 64 := h.1
  clear hr h hm hb0
  go_enter Try.func28, Try.ntmps28
  go_wp2_with fail
  refine (impl_isTreeList A n c p _ (by omega) HR.out).mono ?_; rintro e w1 ⟨b, rfl, hb, rfl⟩
  obtain rfl : b = true := hb.2 H.out
  clear hb
  go_wp2_with fail
  rw [show (2 : Int) * (n : Int) = ((2 * n : Nat) : Int) by omega]
  refine (growWords_any (2 * n) m none 0 0 (fun _ => 0) _ (by omega) HM.out (Nat.zero_le _) IRow.zero).mono ?_; rintro e w2 ⟨A2, rfl, ho, hb⟩
  have O2 := Lib.hid (ho.congr (Y := fun _ => ((0 : Nat) : Int)) (fun i hi => by simp))
  have RB2 := Lib.hid (RB0.out.b hb)
  have R2 := Lib.hid (HR.out.b hb)
  have hs2 := hb.size
  simp only [World.size_alloc] at hs2
  clear ho hb RB0 HR
  go_wp2_with fail
  go_loopw [6, 7, 21] (fun at_ op i wr => ∃ (q : Nat) (l : List Nat) (W1 : Nat → Nat), q ≤ n ∧ i = .int .i64 q ∧ at_ = .int .i64 ((outN p q).length : Int) ∧ op = .int .i64 (top l) ∧ Hid (stkOf p q = some l) ∧ OVec wr (w.heap.size + 1) A2 m (fun i => (W1 i : Int)) ∧ Hid ((∀ i, i < m → W1 i < 65536) ∧ ∀ k, k < 16 * m → bitN W1 k = bitL (outN p q) k) ∧ RB w w.heap.size wr ∧ IRow wr A n p ∧ w.heap.size + 1 ≤ wr.heap.size) (fun _ _ i _ => n - (intOf i).toNat)
  case atStart => exact ⟨0, [], fun _ => 0, Nat.zero_le _, rfl, rfl, rfl, rfl, by have := O2.out; simpa using this, ⟨fun i _ => (by show 0 < 65536; omega), fun k _ => by simp [bitN, outN, bitL]⟩, RB2.out, R2.out, hs2⟩
  case round =>
    obtain ⟨q, l, W1, hq, rfl, rfl, rfl, hl, ho, hw1, hrb, hr, hsz⟩ := hrel
    have O3 := Lib.hid ho
    have RB3 := Lib.hid hrb
    clear ho hrb O2 RB2 R2
    by_cases hlt : q < n
    · obtain ⟨b, off, rfl, hbl, hc⟩ := hr (by omega)
      have hcq := hc q hlt
      have R3 := Lib.hid hr
      have HT := Lib.hid (stk_facts hl.out)
      have HLEN := Lib.hid (out_len hl.out)
      obtain ⟨l1, hl1⟩ := stk_before H.out.2 (show q + 1 ≤ n by omega)
      obtain ⟨l0, k, e1, hk, rfl⟩ := stk_succ hl1
      rw [hl.out] at e1; injection e1 with e1; subst e1
      have HL1 := Lib.hid hl1
      have HK := Lib.hid hk
      have HOUT := Lib.hid (out_succ hl.out hk)
      have HKF := Lib.hid (popTo_facts (p := p) hk)
      clear hc hr hl1 hk
      have hlen := HLEN.out
      have hkl := HKF.out.2.2.2
      generalize hO : (outN p q).length = O at *
      go_wp2_with fail
      go_loopw [6, 7] (fun at_ op wr => ∃ (l' : List Nat), at_ = .int .i64 ((O + (l.length - l'.length) : Nat) : Int) ∧ op = .int .i64 (top l') ∧ k.length ≤ l'.length ∧ l'.length ≤ l.length ∧ Hid (Chain p l' ∧ (∀ s, s ∈ l' → s < q) ∧ popTo (p q) l' = some k) ∧ OVec wr (w.heap.size + 1) A2 m (fun i => (W1 i : Int)) ∧ RB w w.heap.size wr ∧ IRow wr (some ⟨b, off, none⟩) n p ∧ w.heap.size + 1 ≤ wr.heap.size) (fun _ op _ => (intOf op + 1).toNat)
      case atStart => exact ⟨l, by rw [Nat.sub_self]; rfl, rfl, by omega, Nat.le_refl _, ⟨HT.out.1, HT.out.2.2, HK.out⟩, O3.out, RB3.out, R3.out, hsz⟩
      case round =>
        obtain ⟨l', rfl, rfl, hl1, hl2, hl', ho, hrb, hr, hsz4⟩ := hrel
        have O4 := Lib.hid ho
        have RB4 := Lib.hid hrb
        have R4 := Lib.hid hr
        clear ho hrb O3 RB3 R3
        by_cases e : top l' = p q
        · have hkk : l' = k := by
            have h3 := hl'.out.2.2
            cases l' with
            | nil => rw [popTo, if_pos (show p q = -1 from e.symm)] at h3; exact Option.some.inj h3
            | cons s r => rw [popTo, if_pos (show (s : Int) = p q from e)] at h3; exact Option.some.inj h3
          subst hkk
          have e3 : (top l' != p q) = false := by simp [e]
          go_wp2_with fail
          refine (setField_own A2 m _ W1 (O + (l.length - l'.length)) 1 1 _ (by have := HM.out; omega) O4.out hw1.out.1 (by have := HM.out; omega) (by omega) (by omega) hsz4).mono ?_; rintro e w3 ⟨rfl, ⟨W2, hst, ho⟩, hb⟩
          have HL2 := Lib.hid (show (outN p (q + 1)).length = O + (l.length - l'.length) + 1 by rw [HOUT.out]; simp [hO]; omega)
          have HW2 := Lib.hid (show (∀ i, i < m → W2 i < 65536) ∧ ∀ k, k < 16 * m → bitN W2 k = bitL (outN p (q + 1)) k from ⟨hst.1, fun i hi => by
            rw [hst.2 i hi, HOUT.out, bitL_on, hO]
            by_cases e4 : i = O + (l.length - l'.length)
            · rw [if_pos (by omega), if_pos e4, e4, Nat.sub_self]; rfl
            · rw [if_neg (by omega), if_neg e4]; exact hw1.out.2 i hi⟩)
          have RB5 := Lib.hid (RB4.out.low hb (by omega) (by omega))
          have R5 := Lib.hid (HR0.out.below (RB5.out.below) (Nat.le_refl _))
          have hsz5 := Nat.le_trans hsz4 hb.size
          have O5 := Lib.hid ho
          clear hb hst ho RB4 R4 O4 hr
          go_wp2_with fail
          go_roundw
          case rel => exact ⟨q + 1, q :: l', W2, by omega, by go_num, by rw [HL2.out]; go_num, rfl, HL1.out, O5.out, HW2.out, RB5.out, R5.out, hsz5⟩
          case measure => simp [intOf]; omega
        · have e3 : (top l' != p q) = true := by simpa using e
          cases l' with
          | nil => have h3 := hl'.out.2.2; rw [popTo, if_neg (fun e4 : p q = -1 => e e4.symm)] at h3; cases h3
          | cons s r =>
            have et : top (s :: r) = s := rfl
            rw [et] at e e3 ⊢
            have hsq : s < q := hl'.out.2.1 s (List.mem_cons_self ..)
            obtain ⟨_, _, hbo, _, hc⟩ := hr (by omega)
            injection hbo with hbo; injection hbo with e1 e2; subst e1 e2
            have hcs := hc s (by omega)
            have hps := hl'.out.1.1
            have hlt2 := hl'.out.1.2.1
            rw [hps] at hcs
            have HP := Lib.hid (show popTo (p q) r = some k by have h3 := hl'.out.2.2; rw [popTo, if_neg e] at h3; exact h3)
            have HS := Lib.hid (fun t (h : t ∈ r) => hl'.out.2.1 t (List.mem_cons_of_mem _ h))
            have HCH := Lib.hid hl'.out.1.2.2
            have hkr := (popTo_facts (p := p) HP.out).2.2.2
            clear hl' hc hr
            simp only [List.length_cons] at hl1 hl2 ⊢
            generalize hT : top r = T at *
            have q1 : (s : Int) < (n : Int) := by omega
            have q2 : 0 ≤ (s : Int) := by omega
            have q3 : l.length - (r.length + 1) ≤ 128 := by omega
            have q4 : O ≤ 128 := by omega
            go_wp2_with fail
            go_quiet (fail)
            have hbd : ∀ nq, Below wr.heap.size wr (wr.drewN nq) := fun nq => below_drewN (Below.refl _ _) nq
            go_wp2_with fail
            go_roundw
            case rel => exact ⟨r, by rw [show l.length - r.length = l.length - (r.length + 1) + 1 by omega]; go_num, by rw [hT], hkr, by omega, ⟨HCH.out, HS.out, HP.out⟩, O4.out.b (hbd _), RB4.out.b (hbd _), R4.out.b (hbd _), hsz4⟩
            case measure => simp [intOf]; omega
    · obtain rfl : q = n := by omega
      obtain ⟨hr4, d0, d1⟩ := RB3.out.box
      obtain ⟨f0, f1⟩ := RB3.out.free
      have HE := Lib.hid (words_eq (f := treeF p q) hw1.out.1 (fun i hi => hw1.out.2 i hi))
      clear hr hw1
      go_wp2_with fail
      refine bodyPost_ret (v := .tuple #[.agg #[.int .i64 ((2 * q : Nat) : Int), .slice A2 m m], .bool true]) (by simp [results, Try.results28, go_sem, d0, d1]) rfl ?_
      exact ⟨A2, _, rfl, (((O3.out.setAt (by omega) _).setAt (by omega) _).low (by omega)).congr (fun i hi => by rw [HE.out i hi]), below_setAt (below_setAt RB3.out.below (by omega) _) (by omega) _⟩
end Go.Proofs.Ytmampgkhobbdcab
