/- The front of keys, made: the model's. -/
import Derived.Test.YthaipemgndahfaaCplW
import Derived.Test.YthaipemgndahfaaPushR
import Derived.Test.YthaipemgndahfaaObjFr
import Derived.Deep.DeepCutAuto
import Derived.Deep.RegionHeld3
namespace Go.Proofs.Ythaipemgndahfaa
open Go.RowKit

/-- A front in its own memory, as a value; with a word behind it. -/
def FrVal (z : Nat) (n : Nat) (S : Nat → ByteArray) (w : World) (e : Ending) (w' : World) : Prop :=
  ∃ A c B d, e = .returned (.agg #[.int .i64 z, .slice A n c, .slice B n d]) ∧ Ow w.heap.size w'.heap.size 3 A n (intV (keepI z S)) w' ∧ Ow w.heap.size w'.heap.size 9 B n (strV (tailF z S)) w' ∧ Apart n A n B ∧ Below w.heap.size w w'
def FrIs (z : Nat) (n : Nat) (S : Nat → ByteArray) (w : World) (e : Ending) (w' : World) : Prop :=
  ∃ A c B d, e = .returned (.tuple #[.agg #[.int .i64 z, .slice A n c, .slice B n d], .bool true]) ∧ Ow w.heap.size w'.heap.size 3 A n (intV (keepI z S)) w' ∧ Ow w.heap.size w'.heap.size 9 B n (strV (tailF z S)) w' ∧ Apart n A n B ∧ Below w.heap.size w w'
def NoFr (w : World) (e : Ending) (w' : World) : Prop := e = .returned (.tuple #[.agg #[.int .i64 0, .slice none 0 0, .slice none 0 0], .bool false]) ∧ Below w.heap.size w w'
/-- A front that the model makes: the answer's box, its own box, its two rows. -/
structure FO (w : World) (z : Int) (K : Nat → Int) (T : Nat → ByteArray) (k1 : Nat) (A1 : Option Addr) (c1 : Nat) (k2 : Nat) (B1 : Option Addr) (d1 : Nat) (cs : Array Value) (wr : World) : Prop where
  below : Below w.heap.size w wr
  res : NBX w.heap.size w.heap.size #[.int .i64 0, .slice none 0 0, .slice none 0 0] 26 wr
  box : NBX w.heap.size (w.heap.size + 1) cs 26 wr
  own1 : wr.ownsRow (w.heap.size + 2) 3 1 (.slice A1 k1 c1) k1 (vals (intV K) k1)
  own2 : wr.ownsRow (w.heap.size + 2) 9 1 (.slice B1 k2 d1) k2 (vals (strV T) k2)
theorem own_setF {w : World} {B : Nat} {e : TypeId} {A : Option Addr} {k c : Nat} {xs : List Value} (h : w.ownsRow B e 1 (.slice A k c) k xs) {b o : Nat} (hb : b < B) (v : Value) : (w.setCell ⟨b, o, none⟩ v).ownsRow B e 1 (.slice A k c) k xs :=
  h.kept (grown_setCell (World.grownBy.refl w _) o v) (by
    by_cases e : (Value.slice A k c).ownBlock = none
    · exact .inl e
    · refine .inr (fun e2 => ?_)
      have := (h.lt b e2).1
      omega)
section
variable {w wr wj : World} {z : Int} {K : Nat → Int} {T : Nat → ByteArray} {k1 c1 k2 d1 : Nat} {A1 B1 : Option Addr} {cs : Array Value}
theorem FO.size (h : FO w z K T k1 A1 c1 k2 B1 d1 cs wr) : w.heap.size + 2 ≤ wr.heap.size := h.box.lt
theorem FO.b (h : FO w z K T k1 A1 c1 k2 B1 d1 cs wr) (hb : Below wr.heap.size wr wj) : FO w z K T k1 A1 c1 k2 B1 d1 cs wj :=
  ⟨h.below.trans (hb.mono (by have := h.size; omega)), h.res.b hb, h.box.b hb, owned_b h.own1 hb, owned_b h.own2 hb⟩
theorem FO.al (h : FO w z K T k1 A1 c1 k2 B1 d1 cs wr) (o : Obj) : FO w z K T k1 A1 c1 k2 B1 d1 cs (wr.alloc o) := h.b ((Below.refl _ _).alloc (Nat.le_refl _) o)
theorem FO.push1 (h : FO w z K T k1 A1 c1 k2 B1 d1 cs wr) {A' : Option Addr} {c' : Nat} (ho : wj.ownsRow (w.heap.size + 2) 3 1 (.slice A' (k1 + 1) c') (k1 + 1) (vals (intV K) (k1 + 1))) (hg : wr.grownBy wj (Value.slice A1 k1 c1).ownBlock) :
    FO w z K T (k1 + 1) A' c' k2 B1 d1 cs wj := by
  have hs := h.size
  exact ⟨h.below.trans ((below_ownG h.own1 hg hs).mono (by omega)), nbx_grownG h.res h.own1 hg (by omega), nbx_grownG h.box h.own1 hg (by omega), ho, h.own2.kept hg (own_apartG h.own2 h.own1 (by decide))⟩
theorem FO.push2 (h : FO w z K T k1 A1 c1 k2 B1 d1 cs wr) {A' : Option Addr} {c' : Nat} (ho : wj.ownsRow (w.heap.size + 2) 9 1 (.slice A' (k2 + 1) c') (k2 + 1) (vals (strV T) (k2 + 1))) (hg : wr.grownBy wj (Value.slice B1 k2 d1).ownBlock) :
    FO w z K T k1 A1 c1 (k2 + 1) A' c' cs wj := by
  have hs := h.size
  exact ⟨h.below.trans ((below_ownG h.own2 hg hs).mono (by omega)), nbx_grownG h.res h.own2 hg (by omega), nbx_grownG h.box h.own2 hg (by omega), h.own1.kept hg (own_apartG h.own1 h.own2 (by decide)), ho⟩
theorem FO.store (h : FO w z K T k1 A1 c1 k2 B1 d1 cs wr) (i : Nat) (v : Value) : FO w z K T k1 A1 c1 k2 B1 d1 (cs.setIfInBounds i v) (wr.setCell ⟨w.heap.size + 1, i, none⟩ v) :=
  ⟨below_setAt h.below (by omega) _, ⟨(Go.Deep.blk_setCell_other _ _ _ _ (by show w.heap.size ≠ w.heap.size + 1; omega)).trans h.res.blk, h.res.ge⟩, h.box.set i v, own_setF h.own1 (by omega) _, own_setF h.own2 (by omega) _⟩
theorem FO.start : FO w z K T 0 none 0 0 none 0 #[.int .i64 z, .slice none 0 0, .slice none 0 0] ((w.alloc (.cells #[.int .i64 0, .slice none 0 0, .slice none 0 0] 26)).alloc (.cells #[.int .i64 z, .slice none 0 0, .slice none 0 0] 26)) := by
  have h1 := nbx0 w #[.int .i64 0, .slice none 0 0, .slice none 0 0] 26
  have h2 := nbx0 (w.alloc (.cells #[.int .i64 0, .slice none 0 0, .slice none 0 0] 26)) #[.int .i64 z, .slice none 0 0, .slice none 0 0] 26
  simp only [World.size_alloc] at h2
  exact ⟨((Below.refl _ _).alloc (Nat.le_refl _) _).alloc (by simp) _, h1.b ((Below.refl _ _).alloc (Nat.le_refl _) _), ⟨h2.blk, by omega⟩, World.ownsRow_nil _ _ _ _, World.ownsRow_nil _ _ _ _⟩
end
theorem ow_own2 {w' : World} {B n c : Nat} {t : TypeId} {A : Option Addr} {F : Nat → Value} (h : w'.ownsRow B t 1 (.slice A n c) n (vals F n)) : Ow B w'.heap.size t A n F w' := by
  rcases owned_vec h with rfl | ⟨g, rfl, hg, ho⟩
  · exact ow_zero _ _ _ _ _ _
  · exact ow_of_own (m := n) ho hg (Nat.le_refl _)
section
variable {A : Option Addr} {n c : Nat} {S : Nat → ByteArray} {w : World}
set_option maxRecDepth 100000 in
set_option maxHeartbeats 4000000 in
theorem spec_trFront (z : Nat) (hz : 1 ≤ z ∧ z ≤ 16) (hn : n ≤ 64) (hs : ∀ i, i < n → (S i).size ≤ 1048576) (hr : GRow w A n (strV S)) :
    Calls Try.prog 41 #[.slice A n c, .int .i64 z] w (FrVal z n S w) := by
  have HR := Lib.hid hr
  have HS := Lib.hid hs
  have U0 := Lib.hid (FO.start (w := w) (z := z) (K := keepI z S) (T := tailF z S))
  clear hr hs
  go_enter Try.func41, Try.ntmps41
  go_wp2_with fail
  generalize (w.alloc (.cells #[.int .i64 0, .slice none 0 0, .slice none 0 0] 26)).alloc (.cells #[.int .i64 z, .slice none 0 0, .slice none 0 0] 26) = w1 at *
  go_loopw [13] (fun i wr => ∃ (k : Nat) (A1 : Option Addr) (c1 : Nat) (B1 : Option Addr) (d1 : Nat), k ≤ n ∧ i = .int .i64 k ∧ Hid (FO w z (keepI z S) (tailF z S) k A1 c1 k B1 d1 #[.int .i64 z, .slice A1 k c1, .slice B1 k d1] wr)) (fun i _ => n - (intOf i).toNat)
  case atStart => exact ⟨0, none, 0, none, 0, Nat.zero_le _, rfl, U0⟩
  case round =>
    obtain ⟨k, A1, c1, B1, d1, hk, rfl, HP⟩ := hrel
    by_cases hlt : k < n
    · obtain ⟨b, off, rfl, hbl, hcc⟩ := HR.out (by omega)
      have HCC := Lib.hid (show ∀ W, Below w.heap.size w W → ∀ i, i < n → W.cell? ⟨b, off + i, none⟩ = some (.string (S i)) from fun W hW i hi => (hW.cell (p := ⟨b, off + i, none⟩) hbl).trans (hcc i hi))
      have hx := HCC.out _ HP.out.below k hlt
      have hsz := HP.out.size
      have b0 := HP.out.box.cell 0 _ rfl
      have b1 := HP.out.box.cell 1 _ rfl
      have b2 := HP.out.box.cell 2 _ rfl
      have f1 := HP.out.box.free 1
      clear hcc
      have HFT := Lib.hid (show ∀ v : Nat, keepN z S k = v → strV (tailF z S) k = .string ((S k).extract v (S k).size) from fun v hv => by unfold strV tailF; rw [hv])
      have HSK := HS.out k hlt
      by_cases h0 : k % z = 0
      · have HE := Lib.hid (show keepN z S k = 0 by unfold keepN; rw [if_pos h0])
        have e3 : decide ((0:Int) < (k : Int) % (z : Int)) = false := by rw [decide_eq_false_iff_not]; omega
        have e4 : decide (0 < k % z) = false := by rw [decide_eq_false_iff_not]; omega
        have HF1 := Lib.hid (show intV (keepI z S) k = .int .i64 0 by unfold intV keepI; rw [HE.out]; rfl)
        have HF2 := Lib.hid (show strV (tailF z S) k = .string (S k) by rw [HFT.out 0 HE.out]; congr 1; simp)
        clear h0
        go_upto_region 8 with fail
        go_wp2_with (at_builtin; refine wpList_pushR rfl _ _ 24 rfl (w.heap.size + 2) 3 (.int .i64 0) 8 Try.underlying24 infoI rfl A1 _ c1 (intV (keepI z S)) _ wr rfl HP.out.own1 rfl HF1.out rfl (by omega) (by omega) hsz ?_)
        intro A2 c2 w2 ho2 hg2
        have P2 := Lib.hid ((HP.out.al (.cells #[.int .i64 0] 3)).push1 ho2 hg2)
        have hs2 := P2.out.size
        have g1 := P2.out.box.cell 1 _ rfl
        have gf1 := P2.out.box.free 1
        have P3 := Lib.hid (P2.out.store 1 (.slice A2 (k + 1) c2))
        have g2 := P3.out.box.cell 2 (.slice B1 k d1) (by simp)
        have gf2 := P3.out.box.free 2
        have P4 := Lib.hid (FO.b (P3.out.al (.cells #[.string (S k)] 9)) (Below.drew (Below.refl _ _)))
        have CY := Lib.hid (show (((w2.setCell ⟨w.heap.size + 1, 1, none⟩ (.slice A2 (k + 1) c2)).alloc (.cells #[.string (S k)] 9)).drew).cell? ⟨(w2.setCell ⟨w.heap.size + 1, 1, none⟩ (.slice A2 (k + 1) c2)).heap.size, 0, none⟩ = some (.string (S k)) from (boxed (w2.setCell ⟨w.heap.size + 1, 1, none⟩ (.slice A2 (k + 1) c2)) #[.string (S k)] 9).now 0 _ rfl)
        have g3 := (P3.out.al (.cells #[.string (S k)] 9)).box.cell 2 (.slice B1 k d1) (by simp)
        rw [World.size_setCell] at CY
        clear ho2 hg2 b0 b1 b2 f1
        go_upto_region 9 with fail
        go_region_law (first
          | (refine step_pushG rfl (.tmp 36) (.tmp 40) 22 9 (.string ByteArray.empty) 16 Try.underlying22 infoS rfl rfl rfl rfl P4.out.own2 CY.out HF2.out rfl ?_ ?_ ?_ ?_; omega; omega; exact P4.out.size; intro A5 c5 w5 ho5 hg5; have P5 := Lib.hid (P4.out.push2 ho5 hg5); have k5 := P5.out.box.cell 2 _ rfl; have f5 := P5.out.box.free 2; clear ho5 hg5))
        all_goals
          have P6 := Lib.hid (P5.out.store 2 (.slice A5 (k + 1) c5))
          go_wp2_with fail
          go_roundw
          case rel => exact ⟨k + 1, A2, c2, A5, c5, by omega, by go_num, Lib.hid (by simpa using P6.out)⟩
          case measure => simp [intOf]; omega
      · have HE := Lib.hid (show keepN z S k = cplB (S (k - 1)) (S k) by unfold keepN; rw [if_neg h0])
        have e3 : decide ((0:Int) < (k : Int) % (z : Int)) = true := by rw [decide_eq_true_eq]; omega
        have e4 : decide (0 < k % z) = true := by rw [decide_eq_true_eq]; omega
        have hk1 : 1 ≤ k := by rcases Nat.eq_zero_or_pos k with e | e; · subst e; simp at h0
                               · exact e
        have hxj := HCC.out _ HP.out.below (k - 1) (by omega)
        have hle := cplB_le (S (k - 1)) (S k)
        have HSJ := HS.out (k - 1) (by omega)
        obtain ⟨v, hv⟩ : ∃ v, v = cplB (S (k - 1)) (S k) := ⟨_, rfl⟩
        rw [← hv] at HE
        rw [← hv] at hle
        have HF1 := Lib.hid (show intV (keepI z S) k = .int .i64 v by unfold intV keepI; rw [HE.out])
        have HF2 := Lib.hid (HFT.out v HE.out)
        have HV := Lib.hid hv
        clear h0 hv
        go_wp2_with fail
        refine (spec_trCommon _ _ _ (by unfold maxLen; omega) (by unfold maxLen; omega)).mono ?_; rintro e w9 ⟨rfl, hb9⟩
        rw [← HV.out]
        have HQ := Lib.hid (HP.out.b hb9)
        have hsz9 := HQ.out.size
        clear b0 b1 b2 f1 hb9 hx hxj
        have hx := HCC.out _ HQ.out.below k hlt
        have b0 := HQ.out.box.cell 0 _ rfl
        have b1 := HQ.out.box.cell 1 _ rfl
        have b2 := HQ.out.box.cell 2 _ rfl
        have f1 := HQ.out.box.free 1
        go_upto_region 8 with fail
        go_wp2_with (at_builtin; refine wpList_pushR rfl _ _ 24 rfl (w.heap.size + 2) 3 (.int .i64 0) 8 Try.underlying24 infoI rfl A1 _ c1 (intV (keepI z S)) _ w9 rfl HQ.out.own1 rfl HF1.out rfl (by omega) (by omega) hsz9 ?_)
        intro A2 c2 w2 ho2 hg2
        have P2 := Lib.hid ((HQ.out.al (.cells #[.int .i64 v] 3)).push1 ho2 hg2)
        have hs2 := P2.out.size
        have g1 := P2.out.box.cell 1 _ rfl
        have gf1 := P2.out.box.free 1
        have P3 := Lib.hid (P2.out.store 1 (.slice A2 (k + 1) c2))
        have g2 := P3.out.box.cell 2 (.slice B1 k d1) (by simp)
        have gf2 := P3.out.box.free 2
        have P4 := Lib.hid (FO.b (P3.out.al (.cells #[.string ((S k).extract v (S k).size)] 9)) (Below.drew (Below.refl _ _)))
        have CY := Lib.hid (show (((w2.setCell ⟨w.heap.size + 1, 1, none⟩ (.slice A2 (k + 1) c2)).alloc (.cells #[.string ((S k).extract v (S k).size)] 9)).drew).cell? ⟨(w2.setCell ⟨w.heap.size + 1, 1, none⟩ (.slice A2 (k + 1) c2)).heap.size, 0, none⟩ = some (.string ((S k).extract v (S k).size)) from (boxed (w2.setCell ⟨w.heap.size + 1, 1, none⟩ (.slice A2 (k + 1) c2)) #[.string ((S k).extract v (S k).size)] 9).now 0 _ rfl)
        have g3 := (P3.out.al (.cells #[.string ((S k).extract v (S k).size)] 9)).box.cell 2 (.slice B1 k d1) (by simp)
        rw [World.size_setCell] at CY
        clear ho2 hg2 b0 b1 b2 f1
        go_upto_region 9 with fail
        go_region_law (first
          | (refine step_pushG rfl (.tmp 36) (.tmp 40) 22 9 (.string ByteArray.empty) 16 Try.underlying22 infoS rfl rfl rfl rfl P4.out.own2 CY.out HF2.out rfl ?_ ?_ ?_ ?_; omega; omega; exact P4.out.size; intro A5 c5 w5 ho5 hg5; have P5 := Lib.hid (P4.out.push2 ho5 hg5); have k5 := P5.out.box.cell 2 _ rfl; have f5 := P5.out.box.free 2; clear ho5 hg5))
        all_goals
          have P6 := Lib.hid (P5.out.store 2 (.slice A5 (k + 1) c5))
          go_wp2_with fail
          go_roundw
          case rel => exact ⟨k + 1, A2, c2, A5, c5, by omega, by go_num, Lib.hid (by simpa using P6.out)⟩
          case measure => simp [intOf]; omega
    · obtain rfl : k = n := by omega
      have b0 := HP.out.box.cell 0 _ rfl
      have b1 := HP.out.box.cell 1 _ rfl
      have b2 := HP.out.box.cell 2 _ rfl
      have y0 := HP.out.res.cell 0 _ rfl
      have y1 := HP.out.res.cell 1 _ rfl
      have y2 := HP.out.res.cell 2 _ rfl
      have f0 := HP.out.res.free 0
      have f1 := HP.out.res.free 1
      have f2 := HP.out.res.free 2
      have hsz := HP.out.size
      go_wp2_with fail
      refine bodyPost_ret (v := .agg #[.int .i64 z, .slice A1 k c1, .slice B1 k d1]) (by simp [results, Try.results41, go_sem, y0, y1, y2]) rfl ?_
      have O1 := own_setF (own_setF (own_setF HP.out.own1 (b := w.heap.size) (o := 0) (by omega) (.int .i64 z)) (b := w.heap.size) (o := 1) (by omega) (.slice A1 k c1)) (b := w.heap.size) (o := 2) (by omega) (.slice B1 k d1)
      have O2 := own_setF (own_setF (own_setF HP.out.own2 (b := w.heap.size) (o := 0) (by omega) (.int .i64 z)) (b := w.heap.size) (o := 1) (by omega) (.slice A1 k c1)) (b := w.heap.size) (o := 2) (by omega) (.slice B1 k d1)
      have W1 := (ow_own2 O1).mono (lo' := w.heap.size) (by omega) (Nat.le_refl _)
      have W2 := (ow_own2 O2).mono (lo' := w.heap.size) (by omega) (Nat.le_refl _)
      exact ⟨A1, c1, B1, d1, rfl, W1, W2, apart_ty W1 W2 (by decide), below_setAt (below_setAt (below_setAt HP.out.below (by omega) _) (by omega) _) (by omega) _⟩
end
end Go.Proofs.Ythaipemgndahfaa
