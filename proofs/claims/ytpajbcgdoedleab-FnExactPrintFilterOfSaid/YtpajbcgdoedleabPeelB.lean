/- peelBy of the program. -/
import Derived.Test.YtpajbcgdoedleabPeelA
namespace Go.Proofs.Ytpajbcgdoedleab
open Go.RowKit

theorem infoP : (Try.prog.info? 115).map (fun i => (i.zero, i.size, i.bytes)) = some (some (.agg #[.int .i64 0, .int .i64 0]), 2, 16) := by kernel_rfl
def stepsL (E P : Nat → Nat) (k : Nat) : List Value := (List.range k).flatMap (fun j => [.int .i64 ((E j : Nat) : Int), .int .i64 ((P j : Nat) : Int)])
theorem stepsL_succ (E P : Nat → Nat) (k : Nat) : stepsL E P (k + 1) = stepsL E P k ++ [.int .i64 ((E k : Nat) : Int), .int .i64 ((P k : Nat) : Int)] := by
  unfold stepsL; rw [List.range_succ, List.flatMap_append]; simp
theorem wpList_push2c {ops : Array Oper} {rest : List Oper} {o : Oper} {a : Act} {Q : Exit → Act → World → Prop} (hgd : o.guard = none) (s x : Operand)
    (ho : o.op = .call { callee := .builtin .append, args := #[s, x], argTypes := #[111, 111] }) (B : Nat)
    (A : Option Addr) (k c : Nat) (xs : List Value) (u1 u2 : Value) (wr : World) (hs : a.eval s = .slice A k c) (hown : wr.ownsRow B 115 2 (.slice A k c) k xs)
    (hx : a.eval x = .slice (some ⟨wr.heap.size, 0, none⟩) 1 1) (hu1 : u1.oneCell' = true) (hu2 : u2.oneCell' = true) (hk : k < 16777216) (hB : B ≤ wr.heap.size)
    (h : ∀ A' c' w3, w3.ownsRow B 115 2 (.slice A' (k + 1) c') (k + 1) (xs ++ [u1, u2]) → Below B wr w3 → (wr.alloc (.cells #[u1, u2] 115)).grownBy w3 (Value.slice A k c).ownBlock → wpList Try.prog ops Q rest (a.put o.dst (.slice A' (k + 1) c')) w3) :
    wpList Try.prog ops Q (o :: rest) a (wr.alloc (.cells #[u1, u2] 115)) := by
  obtain ⟨i0, hi, hzz⟩ := Option.map_eq_some_iff.1 infoP
  simp only [Prod.mk.injEq] at hzz
  obtain ⟨hz0, hz1, hz2⟩ := hzz
  have hal := hown.alloc (.cells #[u1, u2] 115)
  refine wpList_append_own _ hgd s x _ ho B 115 i0 (.agg #[.int .i64 0, .int .i64 0]) 2 16 Try.underlying111 hi hz0 hz1 hz2 rfl (by decide) _ _ _ hs hal ⟨wr.heap.size, 0, none⟩ 1 1 [u1, u2] hx rfl ?_ ?_ ?_ ?_ ?_ ?_
  · intro j v hj
    match j, hj with
    | 0, hj => simp at hj; subst hj; simp [Addr.add]
    | 1, hj => simp at hj; subst hj; simp [Addr.add]
  · intro v hv
    simp at hv
    rcases hv with rfl | rfl
    · exact hu1
    · exact hu2
  · unfold maxLen; omega
  · omega
  · simp; omega
  · intro v' w3 hown' hgrow _
    have hsl : ∃ A' c', v' = .slice A' (k + 1) c' := by
      rcases hown'.2 with ⟨_, h0⟩ | ⟨g, cap, cur, rfl, _⟩
      · omega
      · exact ⟨_, _, rfl⟩
    obtain ⟨A', c', rfl⟩ := hsl
    exact h A' c' w3 hown' (((Below.refl B wr).alloc hB (.cells #[u1, u2] 115)).trans ((Below.refl _ _).grown hgrow (by simp; omega) (fun g hg => (hal.lt g hg).1))) hgrow
section
variable {w wi wj : World} {pb gb db z n c : Nat} {A : Option Addr} {l : Nat → Nat} {X : Nat → Nat → Int} {G : Nat → Bool}
theorem PG.low {B : Nat} (h : PG w pb gb db z n c A l X G wi) (hb : Below B wi wj) (h0 : w.heap.size ≤ B) (h1 : pb < B) (h2 : gb < B) (h3 : db < B) : PG w pb gb db z n c A l X G wj :=
  ⟨h.below.trans (hb.mono h0), ⟨(hb.block pb h1).trans h.box.blk, h.box.ge⟩, h.gone.of_block (hb.block gb h2), GOwn.of_block (F := intV (fun p => degF l X G n p)) h.deg (hb.block db h3), h.lo, h.ne⟩
theorem own_tch {S : Nat → Prop} {B s m : Nat} {e : TypeId} {v : Value} {xs : List Value} (ho : wi.ownsRow B e s v m xs) (ht : Tch S wi wj) (hS : ∀ g, B ≤ g → ¬ S g) : wj.ownsRow B e s v m xs := by
  refine ⟨ho.1, ?_⟩
  rcases ho.2 with h | ⟨g, cap, cur, h1, h2, h3, h4⟩
  · exact .inl h
  · exact .inr ⟨g, cap, cur, h1, h2, (ht.block g (Array.getElem?_eq_some_iff.1 h3).1 (hS g h2)).trans h3, h4⟩
theorem own_lowG {B B' s m : Nat} {e : TypeId} {v : Value} {xs : List Value} (ho : wi.ownsRow B e s v m xs) (hB : B' ≤ B) : wi.ownsRow B' e s v m xs := by
  refine ⟨ho.1, ?_⟩
  rcases ho.2 with h | ⟨g, cap, cur, h1, h2, h3⟩
  · exact .inl h
  · exact .inr ⟨g, cap, cur, h1, Nat.le_trans hB h2, h3⟩
theorem own_keepT {B B2 s s2 m m2 : Nat} {e e2 : TypeId} {v v2 : Value} {xs xs2 : List Value} (ho : wi.ownsRow B e s v m xs) (h2 : wi.ownsRow B2 e2 s2 v2 m2 xs2) (hne : e ≠ e2) (hg : wi.grownBy wj v2.ownBlock) : wj.ownsRow B e s v m xs := by
  refine ⟨ho.1, ?_⟩
  rcases ho.2 with h | ⟨g, cap, cur, h1, hB, h3, h4⟩
  · exact .inl h
  · refine .inr ⟨g, cap, cur, h1, hB, (hg.block g (Array.getElem?_eq_some_iff.1 h3).1 (fun e1 => ?_)).trans h3, h4⟩
    rcases h2.2 with ⟨h5, _⟩ | ⟨g2, cap2, cur2, h5, _, h6, _⟩
    · subst h5; simp [Value.ownBlock] at e1
    · subst h5; simp [Value.ownBlock] at e1; subst e1
      rw [h3] at h6; injection h6 with h6; injection h6 with _ h6 _; exact hne h6
theorem nbx_tch {S : Nat → Prop} {base q : Nat} {cs : Array Value} {t : TypeId} (h : NBX base q cs t wi) (ht : Tch S wi wj) (hS : ¬ S q) : NBX base q cs t wj := ⟨(ht.block q h.lt hS).trans h.blk, h.ge⟩
theorem own_bG {B s m : Nat} {e : TypeId} {v : Value} {xs : List Value} (ho : wi.ownsRow B e s v m xs) (hb : Below wi.heap.size wi wj) : wj.ownsRow B e s v m xs := by
  refine ⟨ho.1, ?_⟩
  rcases ho.2 with h | ⟨g, cap, cur, h1, h2, h3, h4⟩
  · exact .inl h
  · exact .inr ⟨g, cap, cur, h1, h2, (hb.block g (Array.getElem?_eq_some_iff.1 h3).1).trans h3, h4⟩
end
def stP (z : Nat) (l : Nat → Nat) (X : Nat → Nat → Int) (n : Nat) (C : Nat → Nat) (j : Nat) : Nat := plc z l X n (goneS z l X n C j) (C j)
def stE (z : Nat) (l : Nat → Nat) (X : Nat → Nat → Int) (n : Nat) (C : Nat → Nat) (j : Nat) : Nat := edg l X n (goneS z l X n C j) (stP z l X n C j)
set_option maxRecDepth 100000 in
set_option maxHeartbeats 8000000 in
theorem impl_peelBy (z : Nat) (A : Option Addr) (n c : Nat) (B : Nat → Option Addr) (l d : Nat → Nat) (X : Nat → Nat → Int) (CA : Option Addr) (m cc : Nat) (C : Nat → Nat) (w : World) (hr : HR w A n B l d X) (h : HyperOk z n l X) (hm : m ≤ 64) (hc : IRow w CA m (idxV C)) :
    Calls Try.prog 134 #[.agg #[.int .i64 z, .slice A n c], .slice CA m cc] w fun e w' => ∃ k SA sc FA fc, e = .returned (.tuple #[.slice SA k sc, .slice FA (leftL (goneS z l X n C k) n).length fc]) ∧ k ≤ m ∧ Goes z l X n C k ∧ (k = m ∨ freL (degF l X (goneS z l X n C k) n) z = []) ∧
      w'.ownsRow w.heap.size 115 2 (.slice SA k sc) k (stepsL (stE z l X n C) (stP z l X n C) k) ∧ w'.ownsRow w.heap.size 3 1 (.slice FA (leftL (goneS z l X n C k) n).length fc) (leftL (goneS z l X n C k) n).length (vals (intV (lstV (leftL (goneS z l X n C k) n))) (leftL (goneS z l X n C k) n).length) ∧ Below w.heap.size w w' := by
  have L0 := Lib.hid (LH.start (z := (z : Int)) (c := c) hr 109)
  have HG := Lib.hid h
  have HC := Lib.hid hc
  have hn40 := h.2.2.1
  have hz72 : z ≤ 72 := by have := h.2.1; omega
  have HL3 := Lib.hid (fun i (hi : i < n) => (show l i ≤ 1048576 by have := HG.out.three i hi; omega))
  clear hr h hc
  go_enter Try.func134, Try.ntmps134
  go_wp2_with fail
  refine (startPeeling_is z A n c B l d X _ L0.out.row HG.out).mono ?_; rintro e w1 ⟨pb, gb, db, rfl, hpg⟩
  have HP1 := Lib.hid hpg
  have hpl := hpg.box.lt
  have hgl := hpg.gone.lt
  have hdl : db < w1.heap.size := GOwn.lt (F := intV (fun p => degF l X (fun _ => false) n p)) hpg.deg
  have hs1 := hpg.below.size
  have HB1 := Lib.hid (L0.out.below.trans (hpg.below.mono L0.out.below.size))
  have HRW := Lib.hid L0.out.row
  simp only [World.size_alloc] at hs1
  clear hpg
  go_wp2_with fail
  go_loopw [7, 17] (fun v i wr => ∃ (k : Nat) (SA : Option Addr) (sc : Nat), k ≤ m ∧ i = .int .i64 k ∧ v = .slice SA k sc ∧ Hid (Goes z l X n C k) ∧ Hid (PG (w.alloc (.cells #[.int .i64 z, .slice A n c] 109)) pb gb db z n c A l X (goneS z l X n C k) wr) ∧ Hid (wr.ownsRow w1.heap.size 115 2 (.slice SA k sc) k (stepsL (stE z l X n C) (stP z l X n C) k)) ∧ Hid (Below w1.heap.size w1 wr ∨ True) ∧ w1.heap.size ≤ wr.heap.size) (fun _ i _ => m - (intOf i).toNat)
  case atStart => exact ⟨0, none, 0, Nat.zero_le _, rfl, rfl, Lib.hid (fun j hj => absurd hj (by omega)), HP1, Lib.hid (World.ownsRow_nil _ _ _ _), Lib.hid (.inr trivial), Nat.le_refl _⟩
  case round =>
    obtain ⟨k, SA, sc, hk, rfl, rfl, HGo, HP, HO, _, hsz⟩ := hrel
    have HBw := Lib.hid (L0.out.below.trans (HP.out.below.mono L0.out.below.size))
    by_cases hlt : k < m
    · obtain ⟨b, off, rfl, _, hcc⟩ := (HC.out.b HBw.out) (by omega)
      have hck := hcc k hlt
      unfold idxV at hck
      clear hcc
      go_wp2_with fail
      refine (freePlaces_is _ HP.out hz72).mono ?_; rintro e w2 ⟨FA, fc, rfl, hof, hb⟩
      have HP2 := Lib.hid (HP.out.b hb)
      have HO2 := Lib.hid (own_bG HO.out hb)
      have HF2 := Lib.hid ((owned_vec hof).row)
      have hsz2 := Nat.le_trans hsz hb.size
      clear hb hof
      by_cases hF : freL (degF l X (goneS z l X n C k) n) z = []
      · have HFn := Lib.hid hF
        have d1 : (((freL (degF l X (goneS z l X n C k) n) z).length : Int) == 0) = true := by rw [hF]; rfl
        clear hF
        go_wp2_with fail
        refine (left_is _ HP2.out (by omega)).mono ?_; rintro e w3 ⟨GA, gc, rfl, hol, hb⟩
        have HO3 := Lib.hid (own_lowG (own_bG HO2.out hb) (show w.heap.size ≤ w1.heap.size by omega))
        have HL3' := Lib.hid (owned_low hol (show w.heap.size ≤ w2.heap.size by omega))
        have HB3 := Lib.hid ((L0.out.below.trans (HP2.out.below.mono L0.out.below.size)).trans (hb.mono (show w.heap.size ≤ w2.heap.size by omega)))
        clear hb hol
        go_wp2_with fail
        go_ret2
        exact ⟨k, SA, sc, GA, gc, rfl, hk, HGo.out, .inr HFn.out, HO3.out, HL3'.out, HB3.out⟩
      · have hm1 := plc_mem (ch := C k) hF
        have hE1 := edg_first hm1.2
        have hl : 0 < (freL (degF l X (goneS z l X n C k) n) z).length := List.length_pos_iff.2 hF
        have HGo2 := Lib.hid (show Goes z l X n C (k + 1) from fun j hj => by
          by_cases e : j = k
          · subst e; exact hF
          · exact HGo.out j (by omega))
        have hll := freL_len (degF l X (goneS z l X n C k) n) z
        have d1 : (((freL (degF l X (goneS z l X n C k) n) z).length : Int) == 0) = false := by simp; omega
        obtain ⟨bf, of, rfl, _, hcf⟩ := HF2.out hl
        have hrl : C k % (freL (degF l X (goneS z l X n C k) n) z).length < (freL (degF l X (goneS z l X n C k) n) z).length := Nat.mod_lt _ hl
        have hcp : w2.cell? ⟨bf, of + C k % (freL (degF l X (goneS z l X n C k) n) z).length, none⟩ = some (.int .i64 ((stP z l X n C k : Nat) : Int)) := hcf _ hrl
        have hrem : ((C k : Int)).tmod (((freL (degF l X (goneS z l X n C k) n) z).length : Nat) : Int) = ((C k % (freL (degF l X (goneS z l X n C k) n) z).length : Nat) : Int) := by rw [Int.tmod_eq_emod_of_nonneg (by omega)]; rfl
        have HE1 := Lib.hid hE1
        have HM1 := Lib.hid hm1
        clear hF hcf hm1 hE1
        generalize (freL (degF l X (goneS z l X n C k) n) z).length = Ln at *
        generalize C k % Ln = r at *
        go_wp2_with fail
        refine (edgeAt_is (stP z l X n C k) (stE z l X n C k) _ HRW.out HP2.out (by omega) HL3.out HE1.out).mono ?_; rintro e3 w3 ⟨rfl, rfl⟩
        have HP3 := Lib.hid (HP2.out.b ((Below.refl _ _).alloc (Nat.le_refl _) (.cells #[.int .i64 ((stE z l X n C k : Nat) : Int), .int .i64 ((stP z l X n C k : Nat) : Int)] 115)))
        have HO3 := Lib.hid (own_bG HO2.out ((Below.refl _ _).alloc (Nat.le_refl _) (.cells #[.int .i64 ((stE z l X n C k : Nat) : Int), .int .i64 ((stP z l X n C k : Nat) : Int)] 115)))
        have NB3 := Lib.hid (nbx0 w2 #[.int .i64 ((stE z l X n C k : Nat) : Int), .int .i64 ((stP z l X n C k : Nat) : Int)] 115)
        have x0 := NB3.out.cell 0 _ rfl
        have x1 := NB3.out.cell 1 _ rfl
        go_wp2_with fail
        refine (takeAway_is (stE z l X n C k) _ HRW.out HP3.out (by omega) HG.out.three HG.out.inn HE1.out.1 HE1.out.2.1).mono ?_; rintro e4 w4 ⟨rfl, hpg4, htc⟩
        have HP4 := Lib.hid (show PG (w.alloc (.cells #[.int .i64 z, .slice A n c] 109)) pb gb db z n c A l X (goneS z l X n C (k + 1)) w4 from hpg4)
        have HO4 := Lib.hid (own_tch HO3.out htc (fun g hg => by omega))
        have NB4 := Lib.hid (nbx_tch NB3.out htc (by omega))
        have hsz4 := htc.size
        simp only [World.size_alloc] at hsz4
        clear hpg4 htc x0 x1
        have x0 := NB4.out.cell 0 _ rfl
        have x1 := NB4.out.cell 1 _ rfl
        go_wp2_with (at_builtin; refine wpList_push2c rfl _ _ rfl w1.heap.size SA k sc (stepsL (stE z l X n C) (stP z l X n C) k) (.int .i64 ((stE z l X n C k : Nat) : Int)) (.int .i64 ((stP z l X n C k : Nat) : Int)) w4 rfl HO4.out rfl rfl rfl (by omega) (by omega) ?_)
        intro A' c' w5 ho5 hb5 _
        rw [← stepsL_succ] at ho5
        have HO5 := Lib.hid ho5
        have hw0 : (w.alloc (.cells #[.int .i64 z, .slice A n c] 109)).heap.size ≤ w1.heap.size := by simp only [World.size_alloc]; omega
        have HP5 := Lib.hid (HP4.out.low hb5 hw0 hpl hgl hdl)
        have hsz5 : w1.heap.size ≤ w5.heap.size := Nat.le_trans (by omega) hb5.size
        clear ho5 hb5
        go_wp2_with fail
        go_roundw
        case rel => exact ⟨k + 1, A', c', by omega, by go_num, rfl, HGo2, HP5, HO5, Lib.hid (.inr trivial), hsz5⟩
        case measure => simp [intOf]; omega
    · obtain rfl : k = m := by omega
      go_wp2_with fail
      refine (left_is _ HP.out (by omega)).mono ?_; rintro e w3 ⟨GA, gc, rfl, hol, hb⟩
      have HO3 := Lib.hid (own_lowG (own_bG HO.out hb) (show w.heap.size ≤ w1.heap.size by omega))
      have HL3' := Lib.hid (owned_low hol (show w.heap.size ≤ _ from HBw.out.size))
      have HB3 := Lib.hid (HBw.out.trans (hb.mono HBw.out.size))
      clear hb hol
      go_wp2_with fail
      go_ret2
      exact ⟨k, SA, sc, GA, gc, rfl, Nat.le_refl _, HGo.out, .inl rfl, HO3.out, HL3'.out, HB3.out⟩
end Go.Proofs.Ytpajbcgdoedleab
