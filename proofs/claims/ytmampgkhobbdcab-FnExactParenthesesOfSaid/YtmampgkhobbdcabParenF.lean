/- The balanced vector of a tree list: the model's side. -/
import Derived.Test.YtmampgkhobbdcabParenT
import Derived.Test.YtmampgkhobbdcabSome
import Derived.Test.YtmampgkhobbdcabObj
namespace Go.Proofs.Ytmampgkhobbdcab
open Go.RowKit

/-- As wpList_push; and nothing but the row's own block has turned. -/
theorem wpList_push2 {ops : Array Oper} {rest : List Oper} {o : Oper} {a : Act} {Q : Exit → Act → World → Prop} (hgd : o.guard = none) (s x : Operand) (t : TypeId)
    (ho : o.op = .call { callee := .builtin .append, args := #[s, x], argTypes := #[t, t] }) (B : Nat) (e : TypeId) (z : Value) (bytes : Nat)
    (ht : Try.prog.underlying t = some (.slice e)) (hinfo : (Try.prog.info? e).map (fun i => (i.zero, i.size, i.bytes)) = some (some z, 1, bytes)) (hz1 : z.cells.size = 1)
    (A : Option Addr) (k c : Nat) (F : Nat → Value) (u : Value) (wr : World) (hs : a.eval s = .slice A k c) (hown : wr.ownsRow B e 1 (.slice A k c) k (vals F k))
    (hx : a.eval x = .slice (some ⟨wr.heap.size, 0, none⟩) 1 1) (hF : F k = u) (hu : u.oneCell' = true) (hk : (k + 1) * bytes ≤ 140737488355328) (hk2 : k < 16777216) (hB : B ≤ wr.heap.size)
    (h : ∀ A' c' w3, w3.ownsRow B e 1 (.slice A' (k + 1) c') (k + 1) (vals F (k + 1)) → Below B wr w3 → (wr.alloc (.cells #[u] e)).grownBy w3 (Value.slice A k c).ownBlock → wpList Try.prog ops Q rest (a.put o.dst (.slice A' (k + 1) c')) w3) :
    wpList Try.prog ops Q (o :: rest) a (wr.alloc (.cells #[u] e)) := by
  obtain ⟨i0, hi, hz0, hz1', hz2⟩ := info_parts hinfo
  refine wpList_append_own _ hgd s x t ho B e i0 z 1 bytes ht hi hz0 hz1' hz2 hz1 (by decide) _ _ _ hs (hown.alloc _) ⟨wr.heap.size, 0, none⟩ 1 1 [u] hx rfl ?_ ?_ ?_ hk ?_ ?_
  · intro j v hj
    match j, hj with
    | 0, hj => simp at hj; subst hj; simp [Addr.add]
  · intro v hv; simp at hv; subst hv; exact hu
  · unfold maxLen; omega
  · simp; omega
  · intro v' w3 hown' hgrow _
    obtain ⟨A', c', rfl, _, _⟩ := owned_slice hown'
    exact h A' c' w3 (by rw [vals_snoc, hF]; exact hown') (((Below.refl _ _).alloc hB _).grown hgrow (by simp; omega) (fun g hg => (hown.lt g hg).1)) hgrow
/-- Rows of values of two types lie in two blocks. -/
theorem own_apart {w : World} {B B' : Nat} {e e' : TypeId} {v v' : Value} {n n' : Nat} {xs xs' : List Value} (h : w.ownsRow B e 1 v n xs) (h' : w.ownsRow B' e' 1 v' n' xs') (hne : e ≠ e') : v.ownBlock = none ∨ v.ownBlock ≠ v'.ownBlock := by
  rcases h.2 with ⟨rfl, _⟩ | ⟨g, cap, cur, rfl, _, hh, _⟩
  · exact .inl rfl
  · refine .inr fun e2 => ?_
    rcases h'.2 with ⟨rfl, _⟩ | ⟨g', cap', cur', rfl, _, hh', _⟩
    · simp [Value.ownBlock] at e2
    · simp [Value.ownBlock] at e2
      subst e2
      rw [hh] at hh'
      injection hh' with h1
      injection h1 with _ h2
      exact hne h2
theorem own_beside {w w' : World} {B B' : Nat} {e e' : TypeId} {v v' : Value} {n n' : Nat} {xs xs' : List Value} {o : Obj} (h : w.ownsRow B e 1 v n xs) (h' : w.ownsRow B' e' 1 v' n' xs') (hne : e ≠ e') (hg : (w.alloc o).grownBy w' v'.ownBlock) : w'.ownsRow B e 1 v n xs :=
  (h.alloc o).kept hg (own_apart h h' hne)

def nodeV (l : List Nat) (t : Nat) : Value := .int .i64 ((l.reverse.getD t 0 : Nat) : Int)
theorem nodeV_old (i : Nat) (l : List Nat) (t : Nat) (h : t < l.length) : nodeV (i :: l) t = nodeV l t := by
  unfold nodeV
  rw [List.reverse_cons, List.getD_eq_getElem?_getD, List.getD_eq_getElem?_getD, List.getElem?_append_left (by simpa using h)]
theorem nodeV_new (i : Nat) (l : List Nat) : nodeV (i :: l) l.length = .int .i64 i := by
  unfold nodeV
  rw [List.reverse_cons, List.getD_eq_getElem?_getD, List.getElem?_append_right (by simp)]
  simp

set_option maxRecDepth 100000 in
set_option maxHeartbeats 4000000 in
theorem spec_raFrom (A : Option Addr) (n c m : Nat) (p : Nat → Int) (w : World) (hr : IRow w A n p) (h : IsTree n p) (hm : m = (2 * n + 15) / 16) :
    Calls Try.prog 51 #[.slice A n c] w fun e w' => ∃ g c', e = .returned (.agg #[.int .i64 ((2 * n : Nat) : Int), .slice (some ⟨g, 0, none⟩) m c']) ∧ w.heap.size ≤ g ∧ ORow w' g m (fun k => (wordsOf (treeF p n) k : Int)) ∧ Below w.heap.size w w' := by
  have hb0 : Below w.heap.size w (w.alloc (.cells #[.int .i64 0, .slice none 0 0] 28)) := (Below.refl _ _).alloc (Nat.le_refl _) _
  have RB0 := Lib.hid (show RB w w.heap.size _ from ⟨hb0, Box.new w 0 none 0 0 28, free_new w _ _⟩)
  have HR0 := Lib.hid hr
  have H := Lib.hid h
  have HM := Lib.hid hm
  have hn : n ≤ 64 := h.1
  have hne : (3 : TypeId) ≠ 4 := by decide
  clear hr h hm hb0
  go_enter Try.func51, Try.ntmps51
  go_wp2_with fail
  go_loopw [3, 4, 9] (fun li op i wr => ∃ (q : Nat) (l : List Nat) (A3 A4 : Option Addr) (c3 c4 : Nat), q ≤ n ∧ i = .int .i64 q ∧ li = .slice A3 (outN p q).length c3 ∧ op = .slice A4 l.length c4 ∧ Hid (stkOf p q = some l) ∧
      wr.ownsRow (w.heap.size + 1) 4 1 (.slice A3 (outN p q).length c3) (outN p q).length (vals (boolV (bitL (outN p q))) (outN p q).length) ∧
      wr.ownsRow (w.heap.size + 1) 3 1 (.slice A4 l.length c4) l.length (vals (nodeV l) l.length) ∧ RB w w.heap.size wr) (fun _ _ i _ => n - (intOf i).toNat)
  case atStart => exact ⟨0, [], none, none, 0, 0, Nat.zero_le _, rfl, rfl, rfl, rfl, World.ownsRow_nil _ _ _ _, World.ownsRow_nil _ _ _ _, RB0.out⟩
  case round =>
    obtain ⟨q, l, A3, A4, c3, c4, hq, rfl, rfl, rfl, hl, ho3, ho4, hrb⟩ := hrel
    have O3 := Lib.hid ho3
    have O4 := Lib.hid ho4
    have RB3 := Lib.hid hrb
    have HLEN := Lib.hid (out_len hl.out)
    have hlen := HLEN.out
    clear ho3 ho4 hrb RB0
    by_cases hlt : q < n
    · have hrow := HR0.out.below RB3.out.below (Nat.le_refl _)
      obtain ⟨b, off, rfl, hbl, hc⟩ := hrow (by omega)
      have hcq := hc q hlt
      have HT := Lib.hid (stk_facts hl.out)
      obtain ⟨l1, hl1⟩ := stk_before H.out.2 (show q + 1 ≤ n by omega)
      obtain ⟨l0, k, e1, hk, rfl⟩ := stk_succ hl1
      rw [hl.out] at e1; injection e1 with e1; subst e1
      have HL1 := Lib.hid hl1
      have HK := Lib.hid hk
      have HOUT := Lib.hid (out_succ hl.out hk)
      have HKF := Lib.hid (popTo_facts (p := p) hk)
      clear hc hl1 hk hrow
      have hkl := HKF.out.2.2.2
      have HF := Lib.hid (fun j (h : (outN p q).length ≤ j) => bitL_end (outN p q) j h)
      generalize hO : (outN p q).length = O at *
      go_wp2_with fail
      go_loopw [3, 4] (fun li op wr => ∃ (l' : List Nat) (A3 A4 : Option Addr) (c3 c4 : Nat), li = .slice A3 (O + (l.length - l'.length)) c3 ∧ op = .slice A4 l'.length c4 ∧ k.length ≤ l'.length ∧ l'.length ≤ l.length ∧ Hid ((∀ s, s ∈ l' → s < q) ∧ popTo (p q) l' = some k) ∧
        wr.ownsRow (w.heap.size + 1) 4 1 (.slice A3 (O + (l.length - l'.length)) c3) (O + (l.length - l'.length)) (vals (boolV (bitL (outN p q))) (O + (l.length - l'.length))) ∧
        wr.ownsRow (w.heap.size + 1) 3 1 (.slice A4 l'.length c4) l'.length (vals (nodeV l') l'.length) ∧ RB w w.heap.size wr) (fun _ op _ => match op with | .slice _ n _ => n | _ => 0)
      case atStart => exact ⟨l, A3, A4, c3, c4, by rw [Nat.sub_self]; rfl, rfl, hkl, Nat.le_refl _, ⟨HT.out.2.2, HK.out⟩, by rw [Nat.sub_self]; exact O3.out, O4.out, RB3.out⟩
      case round =>
        obtain ⟨l', A3, A4, c3, c4, rfl, rfl, hk1, hk2, hl', ho3, ho4, hrb⟩ := hrel
        have O5 := Lib.hid ho3
        have O6 := Lib.hid ho4
        have RB5 := Lib.hid hrb
        have hszr : w.heap.size + 1 ≤ wr.heap.size := hrb.box.1
        have hroom := owned_room ho4
        clear ho3 ho4 hrb O3 O4 RB3
        generalize ht : l.length - l'.length = t at *
        cases l' with
        | nil =>
          have hkk : [] = k := by
            have h3 := hl'.out.2
            rw [popTo] at h3
            split at h3
            · exact Option.some.inj h3
            · cases h3
          subst hkk
          simp only [List.length_nil] at O6 hroom hk1 hk2 ⊢
          have HT2 := Lib.hid (show O + t = O + (l.length - ([] : List Nat).length) by rw [← ht])
          have P1 := Lib.hid (show wr.ownsRow (w.heap.size + 1) 3 1 (.slice A4 0 c4) 0 (vals (nodeV [q]) 0) from O6.out)
          have P2 := Lib.hid (show nodeV [q] 0 = .int .i64 q from nodeV_new q [])
          go_wp2_with (at_builtin; refine wpList_push2 rfl _ _ 22 rfl (w.heap.size + 1) 3 (.int .i64 0) 8 Try.underlying22 infoI rfl _ 0 c4 (nodeV [q]) (.int .i64 q) wr rfl P1.out rfl P2.out rfl (by omega) (by omega) hszr ?_)
          intro A5 c5 w3 hown hb3 hg3
          have O7 := Lib.hid hown
          have O8 := Lib.hid (own_beside O5.out O6.out hne.symm hg3)
          have RB6 := Lib.hid (RB5.out.low hb3 (by omega) (by omega))
          have hsz3 := Nat.le_trans hszr hb3.size
          clear hown hb3 hg3 O5 O6 RB5
          have P3 := Lib.hid (show w3.ownsRow (w.heap.size + 1) 4 1 (.slice A3 (O + t) c3) (O + t) (vals (boolV (bitL (outN p (q + 1)))) (O + t)) by rw [vals_congr (G := boolV (bitL (outN p q))) (fun i hi => by unfold boolV; rw [HOUT.out, bitL_on, hO, if_neg (by have := HT2.out; omega)])]; exact O8.out)
          have P4 := Lib.hid (show boolV (bitL (outN p (q + 1))) (O + t) = .bool true by unfold boolV; rw [HOUT.out, bitL_on, hO, if_pos HT2.out])
          go_wp2_with (at_builtin; refine wpList_push2 rfl _ _ 60 rfl (w.heap.size + 1) 4 (.bool false) 1 Try.underlying60 infoB rfl A3 (O + t) c3 (boolV (bitL (outN p (q + 1)))) (.bool true) w3 rfl P3.out rfl P4.out rfl (by omega) (by omega) hsz3 ?_)
          intro A6 c6 w4 hown hb4 hg4
          have O9 := Lib.hid hown
          have O10 := Lib.hid (own_beside O7.out O8.out hne hg4)
          have RB7 := Lib.hid (RB6.out.low hb4 (by omega) (by omega))
          have HL2 := Lib.hid (show (outN p (q + 1)).length = O + t + 1 by rw [HOUT.out]; simp [hO]; have := HT2.out; simp at this; omega)
          clear hown hb4 hg4 O7 O8 RB6
          go_wp2_with fail
          go_roundw
          case rel => exact ⟨q + 1, q :: [], A6, A5, c6, c5, by omega, by go_num, by rw [HL2.out], rfl, HL1.out, by rw [HL2.out]; exact O9.out, O10.out, RB7.out⟩
          case measure => simp [intOf]; omega
        | cons s r =>
          simp only [List.length_cons] at O6 hroom hk1 hk2 ht ⊢
          obtain ⟨b4, off4, rfl, _, hc4⟩ := (owned_vec O6.out).row (by omega)
          have hcs := hc4 r.length (by omega)
          rw [nodeV_new] at hcs
          have ek : ((r.length + 1 : Nat) : Int) - 1 = (r.length : Int) := by omega
          have epos : (0 : Int) < ((r.length + 1 : Nat) : Int) := by omega
          clear hc4
          by_cases e : (s : Int) = p q
          · have hkk : s :: r = k := by
              have h3 := hl'.out.2
              rw [popTo, if_pos e] at h3
              exact Option.some.inj h3
            subst hkk
            have e3 : ((s : Int) != p q) = false := by simp [e]
            have HT2 := Lib.hid (show O + t = O + (l.length - (s :: r).length) by rw [← ht]; rfl)
            have P1 := Lib.hid (show wr.ownsRow (w.heap.size + 1) 3 1 (.slice (some ⟨b4, off4, none⟩) (r.length + 1) c4) (r.length + 1) (vals (nodeV (q :: s :: r)) (r.length + 1)) by rw [vals_congr (G := nodeV (s :: r)) (fun i hi => by exact nodeV_old q (s :: r) i hi)]; exact O6.out)
            have P2 := Lib.hid (show nodeV (q :: s :: r) (r.length + 1) = .int .i64 q from nodeV_new q (s :: r))
            go_wp2_with (at_builtin; refine wpList_push2 rfl _ _ 22 rfl (w.heap.size + 1) 3 (.int .i64 0) 8 Try.underlying22 infoI rfl _ (r.length + 1) c4 (nodeV (q :: s :: r)) (.int .i64 q) wr rfl P1.out rfl P2.out rfl (by omega) (by omega) hszr ?_)
            intro A5 c5 w3 hown hb3 hg3
            have O7 := Lib.hid hown
            have O8 := Lib.hid (own_beside O5.out O6.out hne.symm hg3)
            have RB6 := Lib.hid (RB5.out.low hb3 (by omega) (by omega))
            have hsz3 := Nat.le_trans hszr hb3.size
            clear hown hb3 hg3 O5 O6 RB5
            have P3 := Lib.hid (show w3.ownsRow (w.heap.size + 1) 4 1 (.slice A3 (O + t) c3) (O + t) (vals (boolV (bitL (outN p (q + 1)))) (O + t)) by rw [vals_congr (G := boolV (bitL (outN p q))) (fun i hi => by unfold boolV; rw [HOUT.out, bitL_on, hO, if_neg (by have := HT2.out; omega)])]; exact O8.out)
            have P4 := Lib.hid (show boolV (bitL (outN p (q + 1))) (O + t) = .bool true by unfold boolV; rw [HOUT.out, bitL_on, hO, if_pos HT2.out])
            go_wp2_with (at_builtin; refine wpList_push2 rfl _ _ 60 rfl (w.heap.size + 1) 4 (.bool false) 1 Try.underlying60 infoB rfl A3 (O + t) c3 (boolV (bitL (outN p (q + 1)))) (.bool true) w3 rfl P3.out rfl P4.out rfl (by omega) (by omega) hsz3 ?_)
            intro A6 c6 w4 hown hb4 hg4
            have O9 := Lib.hid hown
            have O10 := Lib.hid (own_beside O7.out O8.out hne hg4)
            have RB7 := Lib.hid (RB6.out.low hb4 (by omega) (by omega))
            have HL2 := Lib.hid (show (outN p (q + 1)).length = O + t + 1 by rw [HOUT.out]; simp [hO]; have := HT2.out; simp at this; omega)
            clear hown hb4 hg4 O7 O8 RB6
            go_wp2_with fail
            go_roundw
            case rel => exact ⟨q + 1, q :: s :: r, A6, A5, c6, c5, by omega, by go_num, by rw [HL2.out], rfl, HL1.out, by rw [HL2.out]; exact O9.out, O10.out, RB7.out⟩
            case measure => simp [intOf]; omega
          · have e3 : ((s : Int) != p q) = true := by simpa using e
            have HP := Lib.hid (show popTo (p q) r = some k by have h3 := hl'.out.2; rw [popTo, if_neg e] at h3; exact h3)
            have HS := Lib.hid (fun t (h : t ∈ r) => hl'.out.1 t (List.mem_cons_of_mem _ h))
            have hkr := (popTo_facts (p := p) HP.out).2.2.2
            have O6' := Lib.hid (owned_pop O6.out)
            have P5 := Lib.hid (show boolV (bitL (outN p q)) (O + t) = .bool false by unfold boolV; rw [HF.out (O + t) (by omega)])
            go_wp2_with (at_builtin; refine wpList_push2 rfl _ _ 60 rfl (w.heap.size + 1) 4 (.bool false) 1 Try.underlying60 infoB rfl A3 (O + t) c3 (boolV (bitL (outN p q))) (.bool false) wr rfl O5.out rfl P5.out rfl (by omega) (by omega) hszr ?_)
            intro A6 c6 w4 hown hb4 hg4
            have O7 := Lib.hid hown
            have O8 := Lib.hid (own_beside O6'.out O5.out hne hg4)
            have RB6 := Lib.hid (RB5.out.low hb4 (by omega) (by omega))
            clear hown hb4 hg4 O5 O6 O6' RB5
            go_wp2_with fail
            go_roundw
            case rel => exact ⟨r, A6, _, c6, c4, by rw [show l.length - r.length = t + 1 by omega]; rfl, rfl, hkr, by omega, ⟨HS.out, HP.out⟩, by rw [show l.length - r.length = t + 1 by omega]; exact O7.out, by rw [vals_congr (G := nodeV (s :: r)) (fun i hi => (nodeV_old _ _ _ hi).symm)]; exact O8.out, RB6.out⟩
            case measure => simp
    · obtain rfl : q = n := by omega
      have HF := Lib.hid (fun j (h : (outN p q).length ≤ j) => bitL_end (outN p q) j h)
      generalize hO : (outN p q).length = O at *
      go_wp2_with fail
      go_loopw [3, 45] (fun li i wr => ∃ (j : Nat) (A3 : Option Addr) (c3 : Nat), j ≤ l.length ∧ i = .int .i64 j ∧ li = .slice A3 (O + j) c3 ∧ wr.ownsRow (w.heap.size + 1) 4 1 (.slice A3 (O + j) c3) (O + j) (vals (boolV (bitL (outN p q))) (O + j)) ∧ RB w w.heap.size wr) (fun _ i _ => l.length - (intOf i).toNat)
      case atStart => exact ⟨0, A3, c3, Nat.zero_le _, rfl, rfl, O3.out, RB3.out⟩
      case round =>
        obtain ⟨j, A3, c3, hj, rfl, rfl, ho3, hrb⟩ := hrel
        have O5 := Lib.hid ho3
        have RB5 := Lib.hid hrb
        have hszr : w.heap.size + 1 ≤ wr.heap.size := hrb.box.1
        clear ho3 hrb O3 O4 RB3
        by_cases hjl : j < l.length
        · have P5 := Lib.hid (show boolV (bitL (outN p q)) (O + j) = .bool false by unfold boolV; rw [HF.out (O + j) (by omega)])
          go_wp2_with (at_builtin; refine wpList_push2 rfl _ _ 60 rfl (w.heap.size + 1) 4 (.bool false) 1 Try.underlying60 infoB rfl A3 (O + j) c3 (boolV (bitL (outN p q))) (.bool false) wr rfl O5.out rfl P5.out rfl (by omega) (by omega) hszr ?_)
          intro A6 c6 w4 hown hb4 hg4
          have O7 := Lib.hid hown
          have RB6 := Lib.hid (RB5.out.low hb4 (by omega) (by omega))
          clear hown hb4 hg4 O5 RB5
          go_wp2_with fail
          go_roundw
          case rel => exact ⟨j + 1, A6, c6, by omega, by go_num, rfl, O7.out, RB6.out⟩
          case measure => simp [intOf]; omega
        · obtain rfl : j = l.length := by omega
          have hfe : (fun i => decide (i < 2 * q) && bitL (outN p q) i) = treeF p q := by
            funext i
            by_cases e : i < 2 * q
            · simp [e, treeF]
            · simp [e, treeF, HF.out i (by omega)]
          have hrow4 : BRow wr A3 (2 * q) (bitL (outN p q)) := by rw [← hlen]; exact (owned_vec O5.out).row
          have SB := Lib.hid (spec_biSome A3 (2 * q) c3 m (bitL (outN p q)) wr (by omega) HM.out hrow4)
          clear hrow4
          generalize O + l.length = OL at *
          subst hlen
          go_wp2_with fail
          refine SB.out.mono ?_; rintro e w5 ⟨g, rfl, hg, ho, hb⟩
          rw [hfe] at ho
          have RB6 := Lib.hid (RB5.out.b hb)
          have O6 := Lib.hid ho
          clear hb ho O5
          obtain ⟨hr4, d0, d1⟩ := RB6.out.box
          obtain ⟨f0, f1⟩ := RB6.out.free
          go_wp2_with fail
          refine bodyPost_ret (v := .agg #[.int .i64 ((2 * q : Nat) : Int), .slice (some ⟨g, 0, none⟩) m m]) (by simp [results, Try.results51, go_sem, d0, d1]) rfl ?_
          have hgl := O6.out.lt
          refine ⟨g, m, rfl, by have := RB5.out.below.size; omega, ?_, ?_⟩
          · exact ORow.setAt (ORow.setAt O6.out (by omega) _) (by omega) _
          · exact below_setAt (below_setAt RB6.out.below (by omega) _) (by omega) _
end Go.Proofs.Ytmampgkhobbdcab
