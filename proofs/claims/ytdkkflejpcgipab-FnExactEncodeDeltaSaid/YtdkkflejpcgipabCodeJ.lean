/- fieldBits and joinCodes of the program. -/
import Derived.Test.YtdkkflejpcgipabCodeM
import Derived.Test.YtdkkflejpcgipabObj
namespace Go.Proofs.Ytdkkflejpcgipab
open Go.RowKit

theorem nbx_far {w w' : World} {base q l h : Nat} {cs : Array Value} {t : TypeId} (x : NBX base q cs t w) (ho : Only l h w w') (hd : q < l ∨ h ≤ q) : NBX base q cs t w' := ⟨(ho.block q x.lt hd).trans x.blk, x.ge⟩
def fldB (v wd i : Nat) : Bool := decide (i < wd) && v.testBit i
def VecA (z m : Nat) (f : Nat → Bool) (w : World) (e : Ending) (w' : World) : Prop :=
  ∃ A c, e = .returned (.agg #[.int .i64 z, .slice A m c]) ∧ OVec w' w.heap.size A m (fun i => (wordsOf f i : Int)) ∧ Below w.heap.size w w'
set_option maxRecDepth 100000 in
set_option maxHeartbeats 1000000 in
theorem impl_fieldBits (wd v m : Nat) (w : World) (hw : wd ≤ 24) (hv : v < 16777216) (hm : m = (wd + 15) / 16) :
    Calls Try.prog 66 #[.int .i64 wd, .int .i64 v] w (VecA wd m (fldB v wd) w) := by
  have HM := Lib.hid hm
  have N0 := Lib.hid (show NBX w.heap.size w.heap.size #[.int .i64 0, .slice none 0 0] 27 (w.alloc (.cells #[.int .i64 0, .slice none 0 0] 27)) from ⟨Go.Deep.blk_alloc_new _ _, Nat.le_refl _⟩)
  have FB := Lib.hid ((Below.refl w.heap.size w).alloc (Nat.le_refl _) (.cells #[.int .i64 0, .slice none 0 0] 27))
  have hm2 : m ≤ 256 := by omega
  clear hm
  go_enter Try.func66, Try.ntmps66
  go_wp2_with fail
  refine (growWords_any wd m none 0 0 (fun _ => 0) _ (by omega) HM.out (Nat.zero_le _) IRow.zero).mono ?_; rintro e w1 ⟨A, rfl, ho, hb⟩
  have N1 := Lib.hid (N0.out.b hb)
  have F1 := Lib.hid (FB.out.trans (hb.mono (by simp)))
  have O1 := Lib.hid (show OVec w1 (w.heap.size + 1) A m (fun i => (((fun _ => 0 : Nat → Nat) i : Nat) : Int)) from (ho.congr (fun i _ => by simp)).low (by simp))
  have hs1 := N1.out.lt
  clear ho hb N0 FB
  go_wp2_with fail
  refine (setField_own A m (w.heap.size + 1) (fun _ => 0) 0 wd v _ hm2 O1.out (fun _ _ => by decide) (by have := HM.out; omega) hw hv hs1).mono ?_; rintro e w2 ⟨rfl, ⟨W1, hp, ho⟩, hb⟩
  have hN2 : NBX w.heap.size w.heap.size #[.int .i64 0, .slice none 0 0] 27 w2 := ⟨(hb.block _ (by omega)).trans N1.out.blk, Nat.le_refl _⟩
  have F2 := Lib.hid (F1.out.trans (hb.mono (by omega)))
  have HE := Lib.hid (words_eq (f := fldB v wd) hp.1 (fun i hi => by
    rw [hp.2 i hi]; unfold fldB
    by_cases c : i < wd
    · rw [if_pos (by omega)]; simp [c]
    · rw [if_neg (by omega)]; unfold bitN; simp [c]))
  have O2 := Lib.hid ho
  have c0 := hN2.cell 0 _ rfl
  have c1 := hN2.cell 1 _ rfl
  have f0 := hN2.free 0
  have f1 := hN2.free 1
  clear hp ho hb O1
  go_wp2_with fail
  refine bodyPost_ret (v := .agg #[.int .i64 wd, .slice A m m]) (by simp [results, Try.results66, go_sem, c0, c1]) rfl ?_
  exact ⟨A, m, rfl, (((O2.out.setAt (by omega) _).setAt (by omega) _).low (by omega)).congr (fun i hi => by rw [HE.out i hi]), below_setAt (below_setAt F2.out (by omega) _) (by omega) _⟩

/-- A list of vectors in memory: sizes and bits. -/
def CRow (w : World) (A : Option Addr) (n : Nat) (sz : Nat → Nat) (F : Nat → Nat → Bool) : Prop :=
  0 < n → ∃ b off, A = some ⟨b, off, none⟩ ∧ b < w.heap.size ∧ ∀ k, k < n → ∃ (B : Option Addr) (c : Nat), w.cell? ⟨b, off + k * 2, none⟩ = some (.int .i64 (sz k : Nat)) ∧ w.cell? ⟨b, off + k * 2 + 1, none⟩ = some (.slice B ((sz k + 15) / 16) c) ∧ IRow w B ((sz k + 15) / 16) (fun i => (wordsOf (F k) i : Int))
theorem CRow.b {w w' : World} {A : Option Addr} {n : Nat} {sz : Nat → Nat} {F : Nat → Nat → Bool} (h : CRow w A n sz F) (hb : Below w.heap.size w w') : CRow w' A n sz F := fun hn => by
  obtain ⟨b, off, hA, hl, hc⟩ := h hn
  refine ⟨b, off, hA, Nat.lt_of_lt_of_le hl hb.size, fun k hk => ?_⟩
  obtain ⟨B, c, h1, h2, h3⟩ := hc k hk
  exact ⟨B, c, (hb.cell (p := ⟨b, off + k * 2, none⟩) hl).trans h1, (hb.cell (p := ⟨b, off + k * 2 + 1, none⟩) hl).trans h2, h3.b hb⟩
/-- What joinCodes holds: the box of its answer, and that of what has been joined. -/
structure JC (w : World) (z m : Nat) (f : Nat → Bool) (wr : World) : Prop where
  below : Below w.heap.size w wr
  res : NBX w.heap.size w.heap.size #[.int .i64 0, .slice none 0 0] 27 wr
  cur : ∃ A c, NBX w.heap.size (w.heap.size + 1) #[.int .i64 z, .slice A m c] 27 wr ∧ OVec wr (w.heap.size + 2) A m (fun i => (wordsOf f i : Int))
set_option maxRecDepth 100000 in
set_option maxHeartbeats 4000000 in
theorem impl_joinCodes (A : Option Addr) (n c : Nat) (sz : Nat → Nat) (F : Nat → Nat → Bool) (w : World) (hn : n ≤ 60) (hr : CRow w A n sz F) (hz : catS sz n ≤ 4096) (hF : ∀ k i, sz k ≤ i → F k i = false) :
    Calls Try.prog 65 #[.slice A n c] w (OwnIs (catS sz n) ((catS sz n + 15) / 16) (fun i => (wordsOf (catB sz F n) i : Int)) true w) := by
  have HR := Lib.hid hr
  have HF := Lib.hid hF
  have HZ := Lib.hid hz
  have FB := Lib.hid (((Below.refl w.heap.size w).alloc (Nat.le_refl _) (.cells #[.int .i64 0, .slice none 0 0] 27)).alloc (by simp) (.cells #[.int .i64 0, .slice none 0 0] 27))
  have J0 := Lib.hid (show JC w 0 0 (catB sz F 0) ((w.alloc (.cells #[.int .i64 0, .slice none 0 0] 27)).alloc (.cells #[.int .i64 0, .slice none 0 0] 27)) from
    ⟨FB.out, NBX.b ⟨Go.Deep.blk_alloc_new _ _, Nat.le_refl _⟩ ((Below.refl _ _).alloc (Nat.le_refl _) _), none, 0, ⟨by have := Go.Deep.blk_alloc_new (w.alloc (.cells #[.int .i64 0, .slice none 0 0] 27)) (.cells #[.int .i64 0, .slice none 0 0] 27); simpa using this, by omega⟩, .inl ⟨rfl, rfl⟩⟩)
  clear hr hF hz
  go_enter Try.func65, Try.ntmps65
  go_wp2_with fail
  go_loopw [11] (fun i wr => ∃ k : Nat, k ≤ n ∧ i = .int .i64 k ∧ JC w (catS sz k) ((catS sz k + 15) / 16) (catB sz F k) wr) (fun i _ => n - (intOf i).toNat)
  case atStart => exact ⟨0, Nat.zero_le _, rfl, by have := J0.out; simpa [catS] using this⟩
  case round =>
    obtain ⟨k, hk, rfl, hj⟩ := hrel
    have HJ := Lib.hid hj
    clear hj J0
    by_cases hlt : k < n
    · obtain ⟨b, off, rfl, hbl, hcl⟩ := HR.out.b HJ.out.below (by omega)
      obtain ⟨B, cB, x0, x1, hx⟩ := hcl k hlt
      obtain ⟨D, cD, hcur, hov⟩ := HJ.out.cur
      have y0 := hcur.cell 0 _ rfl
      have y1 := hcur.cell 1 _ rfl
      have hlt1 := hcur.lt
      have hlt0 := HJ.out.res.lt
      have HX := Lib.hid hx
      have HOV := Lib.hid hov
      have HCU := Lib.hid hcur
      clear hcl hx hov hcur
      go_wp2_with fail
      have HC := Lib.hid (HCU.out.b ((Below.refl _ _).alloc (Nat.le_refl _) (.cells #[.int .i64 (sz k : Nat), .slice B ((sz k + 15) / 16) cB] 27)))
      have hcs : catS sz k + sz k ≤ 4096 := by
        have h1 := catS_mono (sz := sz) (show k + 1 ≤ n by omega)
        rw [catS] at h1; have := HZ.out; omega
      have ha := (Below.refl wr.heap.size wr).alloc (Nat.le_refl _) (.cells #[.int .i64 (sz k : Nat), .slice B ((sz k + 15) / 16) cB] 27)
      refine (impl_join_yes (catS sz k) (sz k) (catS sz (k + 1)) ((catS sz (k + 1) + 15) / 16) D B _ cD _ cB _ _ _ (by omega) (by omega) (HOV.out.row.b ha) (HX.out.b ha) (words_vec (by omega) rfl (catB_off HF.out k)) (words_vec (by omega) rfl (HF.out k)) rfl (by rw [catS]; exact hcs) rfl).mono ?_; rintro e w2 ⟨E, cE, rfl, ho, hb⟩
      rw [join_words HF.out k] at ho
      have HE := Lib.hid (ho.low (B' := w.heap.size + 2) (by simp; omega))
      have hb2 := ha.trans (hb.mono (by simp))
      have N2 := Lib.hid (HCU.out.b hb2)
      have R2 := Lib.hid (HJ.out.res.b hb2)
      have F2 := Lib.hid (HJ.out.below.trans (hb2.mono HJ.out.below.size))
      have hs2 : wr.heap.size < w2.heap.size := by have := hb.size; simp at this; omega
      clear ho hb hb2 ha x0 x1 y0 y1 HC HX HOV HCU
      have f0 := N2.out.free 0
      have f1 := N2.out.free 1
      have y0 := N2.out.cell 0 _ rfl
      have y1 := N2.out.cell 1 _ rfl
      have hlt2 := N2.out.lt
      go_wp2_with fail
      have N3 := Lib.hid ((N2.out.set 0 (.int .i64 (catS sz (k + 1) : Nat))).set 1 (.slice E ((catS sz (k + 1) + 15) / 16) cE))
      have ho3 := (only_set w2 (w.heap.size + 1) 0 (.int .i64 (catS sz (k + 1) : Nat))).trans (only_set _ (w.heap.size + 1) 1 (.slice E ((catS sz (k + 1) + 15) / 16) cE))
      have hE3 := (HE.out.setAt (b := w.heap.size + 1) (o := 0) (by omega) (.int .i64 (catS sz (k + 1) : Nat))).setAt (b := w.heap.size + 1) (o := 1) (by omega) (.slice E ((catS sz (k + 1) + 15) / 16) cE)
      have R3 := nbx_far R2.out ho3 (.inl (by omega))
      have F3 := F2.out.trans (ho3.below F2.out.size (by omega))
      have ha2 := (Below.refl ((w2.setCell ⟨w.heap.size + 1, 0, none⟩ (.int .i64 (catS sz (k + 1) : Nat))).setCell ⟨w.heap.size + 1, 1, none⟩ (.slice E ((catS sz (k + 1) + 15) / 16) cE)).heap.size _).alloc (Nat.le_refl _) (.cells #[.int .i64 (catS sz (k + 1) : Nat), .slice E ((catS sz (k + 1) + 15) / 16) cE] 27)
      have J3 := Lib.hid (show JC w (catS sz (k + 1)) ((catS sz (k + 1) + 15) / 16) (catB sz F (k + 1)) _ from ⟨F3.trans (ha2.mono F3.size), R3.b ha2, E, cE, N3.out.b ha2, hE3.b ha2⟩)
      clear ha2 F3 R3 hE3 ho3
      go_roundw
      case rel => exact ⟨k + 1, by omega, by go_num, J3.out⟩
      case measure => simp [intOf]; omega
    · obtain rfl : k = n := by omega
      obtain ⟨D, cD, hcur, hov⟩ := HJ.out.cur
      have y0 := hcur.cell 0 _ rfl
      have y1 := hcur.cell 1 _ rfl
      have r0 := HJ.out.res.cell 0 _ rfl
      have r1 := HJ.out.res.cell 1 _ rfl
      have f0 := HJ.out.res.free 0
      have f1 := HJ.out.res.free 1
      have hlt1 := hcur.lt
      have HOV := Lib.hid hov
      clear hcur hov
      go_wp2_with fail
      refine bodyPost_ret (v := .tuple #[.agg #[.int .i64 (catS sz k : Nat), .slice D ((catS sz k + 15) / 16) cD], .bool true]) (by simp [results, Try.results65, go_sem, r0, r1]) rfl ?_
      exact ⟨D, cD, rfl, ((HOV.out.setAt (by omega) _).setAt (by omega) _).low (by omega), below_setAt (below_setAt HJ.out.below (by omega) _) (by omega) _⟩
end Go.Proofs.Ytdkkflejpcgipab
