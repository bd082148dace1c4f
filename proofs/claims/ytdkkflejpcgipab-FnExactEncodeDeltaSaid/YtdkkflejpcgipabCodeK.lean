/- The program's codes of one number. -/
import Derived.Test.YtdkkflejpcgipabCodeJ
import Derived.Test.YtdkkflejpcgipabLenS
namespace Go.Proofs.Ytdkkflejpcgipab
open Go.RowKit

theorem fld_tail (n l i : Nat) : fldB (n - 2 ^ l) l i = tailB n l i := rfl
/-- splitDigits. -/
def SplitIs (n l m : Nat) (w : World) (e : Ending) (w' : World) : Prop :=
  ∃ A c, e = .returned (.tuple #[.int .i64 l, .agg #[.int .i64 l, .slice A m c], .bool true]) ∧ OVec w' w.heap.size A m (fun i => (wordsOf (tailB n l) i : Int)) ∧ Below w.heap.size w w'
set_option maxRecDepth 100000 in
set_option maxHeartbeats 1000000 in
theorem impl_splitDigits (n l m : Nat) (w : World) (h1 : 1 ≤ n) (hn : n ≤ 100000) (hl : IsL n l) (hm : m = (l + 15) / 16) :
    Calls Try.prog 64 #[.int .i64 n] w (SplitIs n l m w) := by
  have HL := Lib.hid hl
  have HM := Lib.hid hm
  have hl2 := isL_le hl hn
  have d0 : decide ((n : Int) < 1) = false := by simp; omega
  have d1 : decide ((100000 : Int) < (n : Int)) = false := by simp; omega
  obtain ⟨P, hP⟩ : ∃ P, P = 2 ^ l := ⟨_, rfl⟩
  have hPi : (2 : Int) ^ l = (P : Int) := by rw [hP]; push_cast; rfl
  have hPn : P ≤ n := by rw [hP]; exact hl.1
  obtain ⟨r, hr⟩ : ∃ r, r = n - P := ⟨_, rfl⟩
  have hri : (n : Int) - (P : Int) = (r : Int) := by omega
  have HF := Lib.hid (show fldB r l = tailB n l by funext i; rw [hr, hP]; rfl)
  have N0 := Lib.hid (show NBX w.heap.size w.heap.size #[.int .i64 0, .slice none 0 0] 27 (w.alloc (.cells #[.int .i64 0, .slice none 0 0] 27)) from ⟨Go.Deep.blk_alloc_new _ _, Nat.le_refl _⟩)
  have FB := Lib.hid ((Below.refl w.heap.size w).alloc (Nat.le_refl _) (.cells #[.int .i64 0, .slice none 0 0] 27))
  clear hl hm hP hr
  go_enter Try.func64, Try.ntmps64
  go_wp2_with fail
  refine (len_small n l _ hn HL.out).mono ?_; rintro e w' ⟨rfl, rfl⟩
  have el : (l : Int) + 1 - 1 = (l : Int) := by omega
  go_wp2_with fail
  refine (impl_fieldBits l r m _ (by omega) (by omega) HM.out).mono ?_; rintro e w1 ⟨A, c, rfl, ho, hb⟩
  rw [HF.out] at ho
  have N1 := Lib.hid (N0.out.b hb)
  have F1 := Lib.hid (FB.out.trans (hb.mono (by simp)))
  have HO := Lib.hid (ho.low (B' := w.heap.size + 1) (by simp))
  have c0 := N1.out.cell 0 _ rfl
  have c1 := N1.out.cell 1 _ rfl
  have f0 := N1.out.free 0
  have f1 := N1.out.free 1
  have hlt := N1.out.lt
  clear ho hb N0 FB el
  go_wp2_with fail
  refine bodyPost_ret (v := .tuple #[.int .i64 l, .agg #[.int .i64 l, .slice A m c], .bool true]) (by simp [results, Try.results64, go_sem, c0, c1]) rfl ?_
  exact ⟨A, c, rfl, ((HO.out.setAt (by omega) _).setAt (by omega) _).low (by omega), below_setAt (below_setAt F1.out (by omega) _) (by omega) _⟩
set_option maxRecDepth 100000 in
set_option maxHeartbeats 1000000 in
theorem impl_splitDigits_no (x : Int) (w : World) (h : ¬ (1 ≤ x ∧ x ≤ 100000)) :
    Calls Try.prog 64 #[.int .i64 x] w fun e w' => e = .returned (.tuple #[.int .i64 0, .agg #[.int .i64 0, .slice none 0 0], .bool false]) ∧ Below w.heap.size w w' := by
  by_cases h0 : x < 1
  · have d0 : decide (x < 1) = true := by simpa using h0
    clear h
    go_enter Try.func64, Try.ntmps64
    go_wp2_with fail
    refine bodyPost_ret (v := .tuple #[.int .i64 0, .agg #[.int .i64 0, .slice none 0 0], .bool false]) (by simp [results, Try.results64, go_sem]) rfl ?_
    exact ⟨rfl, by first | exact (Below.refl _ _).alloc (Nat.le_refl _) _ | go_grown⟩
  · have d0 : decide (x < 1) = false := by simpa using h0
    have d1 : decide (100000 < x) = true := by simp; omega
    clear h
    go_enter Try.func64, Try.ntmps64
    go_wp2_with fail
    refine bodyPost_ret (v := .tuple #[.int .i64 0, .agg #[.int .i64 0, .slice none 0 0], .bool false]) (by simp [results, Try.results64, go_sem]) rfl ?_
    exact ⟨rfl, by first | exact (Below.refl _ _).alloc (Nat.le_refl _) _ | go_grown⟩

/-- Two vectors in one list. -/
def two {α : Type} (a b : α) (k : Nat) : α := if k = 0 then a else b
theorem cat_two (a b : Nat) (f g : Nat → Bool) : catB (two a b) (two f g) 2 = fun i => if i < a then f i else g (i - a) := by
  funext i
  simp only [catB, catS, two]
  by_cases c : i < a
  · simp [c]
  · simp [c]
theorem catS_two (a b : Nat) : catS (two a b) 2 = a + b := by simp [catS, two]
theorem fld_one (l : Nat) : fldB (2 ^ l) (l + 1) = fun i => decide (i = l) := by
  funext i
  unfold fldB
  rw [Nat.testBit_two_pow]
  by_cases c : i = l
  · subst c; simp
  · have : ¬ l = i := fun h => c h.symm
    simp [c, this]
theorem gam_cat (n l : Nat) : catB (two (l + 1) l) (two (fldB (2 ^ l) (l + 1)) (tailB n l)) 2 = gamB n l := by
  rw [cat_two]
  funext i
  unfold gamB
  rw [fld_one]
theorem crow_two {w : World} {a b : Nat} {f g : Nat → Bool} {A B : Option Addr} {c d : Nat} (h1 : IRow w A ((a + 15) / 16) (fun i => (wordsOf f i : Int))) (h2 : IRow w B ((b + 15) / 16) (fun i => (wordsOf g i : Int))) (t : TypeId) :
    CRow (w.alloc (.cells #[.int .i64 a, .slice A ((a + 15) / 16) c, .int .i64 b, .slice B ((b + 15) / 16) d] t)) (some ⟨w.heap.size, 0, none⟩) 2 (two a b) (two f g) := fun _ => by
  have hb := (Below.refl w.heap.size w).alloc (Nat.le_refl _) (.cells #[.int .i64 a, .slice A ((a + 15) / 16) c, .int .i64 b, .slice B ((b + 15) / 16) d] t)
  refine ⟨w.heap.size, 0, rfl, by simp, fun k hk => ?_⟩
  have hk2 : k = 0 ∨ k = 1 := by omega
  rcases hk2 with rfl | rfl
  · exact ⟨A, c, by simp [go_sem, two], by simp [go_sem, two], by simpa [two] using h1.b hb⟩
  · exact ⟨B, d, by simp [go_sem, two], by simp [go_sem, two], by simpa [two] using h2.b hb⟩

theorem kept_box {wi : World} {base q p : Nat} {u0 u1 : Value} {t : TypeId} (h : NBX base q #[u0, u1] t wi) (hne : q ≠ p) (v0 v1 : Value) :
    ((wi.setCell ⟨p, 0, none⟩ v0).setCell ⟨p, 1, none⟩ v1).cell? ⟨q, 0, none⟩ = some u0 ∧ ((wi.setCell ⟨p, 0, none⟩ v0).setCell ⟨p, 1, none⟩ v1).cell? ⟨q, 1, none⟩ = some u1 := by
  have ho := (only_set wi p 0 v0).trans (only_set _ p 1 v1)
  have h2 := nbx_far h ho (by omega)
  exact ⟨h2.cell 0 _ rfl, h2.cell 1 _ rfl⟩
set_option maxRecDepth 100000 in
set_option maxHeartbeats 2000000 in
theorem impl_gammaCode (n l : Nat) (w : World) (h1 : 1 ≤ n) (hn : n ≤ 100000) (hl : IsL n l) :
    Calls Try.prog 44 #[.int .i64 n] w (OwnIs ((2 * l + 1 : Nat) : Int) ((2 * l + 1 + 15) / 16) (fun i => (wordsOf (gamB n l) i : Int)) true w) := by
  have HL := Lib.hid hl
  have hl2 := isL_le hl hn
  obtain ⟨z, hz⟩ : ∃ z, z = 2 * l + 1 := ⟨_, rfl⟩
  rw [← hz]
  have HZ := Lib.hid hz
  clear hz
  obtain ⟨P, hP⟩ : ∃ P, P = 2 ^ l := ⟨_, rfl⟩
  have hPi : (2 : Int) ^ l = (P : Int) := by rw [hP]; push_cast; rfl
  have hPb : P ≤ 100000 := by rw [hP]; have := hl.1; omega
  have HP := Lib.hid hP
  have N0 := Lib.hid (show NBX w.heap.size w.heap.size #[.int .i64 0, .slice none 0 0] 27 (w.alloc (.cells #[.int .i64 0, .slice none 0 0] 27)) from ⟨Go.Deep.blk_alloc_new _ _, Nat.le_refl _⟩)
  have FB := Lib.hid ((Below.refl w.heap.size w).alloc (Nat.le_refl _) (.cells #[.int .i64 0, .slice none 0 0] 27))
  clear hl hP
  go_enter Try.func44, Try.ntmps44
  go_wp2_with fail
  refine (impl_splitDigits n l ((l + 15) / 16) _ h1 hn HL.out rfl).mono ?_; rintro e w1 ⟨A, c, rfl, ho, hb⟩
  have hba := (Below.refl w1.heap.size w1).alloc (Nat.le_refl _) (.cells #[.int .i64 l, .slice A ((l + 15) / 16) c] 27)
  have N1 := Lib.hid ((N0.out.b hb).b hba)
  have F1 := Lib.hid ((FB.out.trans (hb.mono (by simp))).trans (hba.mono (by have := (N0.out.b hb).lt; omega)))
  have R1 := Lib.hid (ho.row.b hba)
  have D1 : Hid (NBX w1.heap.size w1.heap.size #[.int .i64 l, .slice A ((l + 15) / 16) c] 27 (w1.alloc (.cells #[.int .i64 l, .slice A ((l + 15) / 16) c] 27))) := Lib.hid ⟨Go.Deep.blk_alloc_new _ _, Nat.le_refl _⟩
  have hlt0 := (N0.out.b hb).lt
  clear ho hb hba N0 FB
  go_wp2_with fail
  have e1 : IntKind.i64.wrap ((l : Int) + 1) = ((l + 1 : Nat) : Int) := by rw [show ((l + 1 : Nat) : Int) = (l : Int) + 1 by push_cast; rfl]; exact IntWalk.i64_in _ (by omega)
  have e2 : IntKind.i64.wrap ((2 : Int) ^ l) = (P : Int) := by rw [hPi]; exact IntWalk.i64_in _ (by omega)
  have hjc := fun (W : World) (b : Nat) (h : CRow W (some ⟨b, 0, none⟩) 2 (two (l + 1) l) (two (fldB P (l + 1)) (tailB n l))) => impl_joinCodes (some ⟨b, 0, none⟩) 2 2 (two (l + 1) l) (two (fldB P (l + 1)) (tailB n l)) W (by omega) h (by rw [catS_two]; omega) (fun k i hi => by
    unfold two at *
    by_cases c : k = 0
    · rw [if_pos c] at hi ⊢; unfold fldB; simp [show ¬ i < l + 1 by omega]
    · rw [if_neg c] at hi ⊢; exact tailB_off hi)
  rw [catS_two, show l + 1 + l = z by have := HZ.out; omega, show catB (two (l + 1) l) (two (fldB P (l + 1)) (tailB n l)) 2 = gamB n l by rw [HP.out]; exact gam_cat n l] at hjc
  have HJ := Lib.hid hjc
  have HD := Lib.hid (D1.out.b (Below.drew (Below.refl _ _)))
  have hw1 := D1.out.lt
  clear hjc hPi
  generalize hw1e : w1.alloc (Obj.cells #[Value.int IntKind.i64 ↑l, Value.slice A ((l + 15) / 16) c] 27) = wa at *
  clear hw1e
  have hne : w1.heap.size ≠ w.heap.size := by omega
  have s0 := D1.out.cell 0 _ rfl
  have s1 := D1.out.cell 1 _ rfl
  go_region_held3 (fun w' => w'.cell? ⟨w1.heap.size, 0, none⟩ = some (.int .i64 l) ∧ w'.cell? ⟨w1.heap.size, 1, none⟩ = some (.slice A ((l + 15) / 16) c))
    (first | (go_keep; done) | with_reducible exact kept_box D3.out hne (.int .i64 z) (.slice E ((z + 15) / 16) cE) | with_reducible exact ⟨D3.out.cell 0 _ rfl, D3.out.cell 1 _ rfl⟩ | with_reducible exact ⟨D2.out.cell 0 _ rfl, D2.out.cell 1 _ rfl⟩)
    (first
      | (have hz := D2; clear hz; go_at_call 65; refine (HJ.out _ _ (crow_two R2.out R2'.out 27)).mono ?_; rintro e w3 ⟨E, cE, rfl, ho, hb'⟩; have hb := below_al hb'; have D3 := Lib.hid (D2.out.b hb); have N3 := Lib.hid (N2.out.b hb); have F3 := Lib.hid (F2.out.trans (hb.mono F2.out.size)); have HO := Lib.hid (ho.low (B' := w.heap.size + 1) (by simp; omega)); have r0 := N3.out.cell 0 _ rfl; have r1 := N3.out.cell 1 _ rfl; have g0 := N3.out.free 0; have g1 := N3.out.free 1; clear ho hb hb')
      | (go_at_call 66; refine (impl_fieldBits (l + 1) P ((l + 1 + 15) / 16) _ (by omega) (by omega) rfl).mono ?_; rintro e w2 ⟨B, d, rfl, ho, hb'⟩; have hb : Below wa.heap.size wa w2 := (by first | exact hb' | exact of_drew hb'); have D2 := Lib.hid (D1.out.b hb); have N2 := Lib.hid (N1.out.b hb); have F2 := Lib.hid (F1.out.trans (hb.mono F1.out.size)); have R2 := Lib.hid ho.row; have R2' := Lib.hid (R1.out.b hb); have hlt2 := N2.out.lt; clear ho hb hb'))
  all_goals
    try go_wp2_with fail
    have N4 := Lib.hid ((N3.out.set 0 (.int .i64 z)).set 1 (.slice E ((z + 15) / 16) cE))
    have q0 := N4.out.cell 0 (.int .i64 z) (by simp)
    have q1 := N4.out.cell 1 (.slice E ((z + 15) / 16) cE) (by simp)
    refine bodyPost_ret (v := .tuple #[.agg #[.int .i64 z, .slice E ((z + 15) / 16) cE], .bool true]) (by simp [results, Try.results44, go_sem, q0, q1]) rfl ?_
    exact ⟨E, cE, rfl, ((HO.out.setAt (by omega) _).setAt (by omega) _).low (by omega), below_setAt (below_setAt F3.out (by omega) _) (by omega) _⟩

set_option maxRecDepth 100000 in
set_option maxHeartbeats 1000000 in
theorem impl_gammaCode_no (x : Int) (w : World) (h : ¬ (1 ≤ x ∧ x ≤ 100000)) : Calls Try.prog 44 #[.int .i64 x] w (OwnIs 0 0 (fun _ => 0) false w) := by
  have HF := Lib.hid h
  have N0 := Lib.hid (show NBX w.heap.size w.heap.size #[.int .i64 0, .slice none 0 0] 27 (w.alloc (.cells #[.int .i64 0, .slice none 0 0] 27)) from ⟨Go.Deep.blk_alloc_new _ _, Nat.le_refl _⟩)
  have FB := Lib.hid ((Below.refl w.heap.size w).alloc (Nat.le_refl _) (.cells #[.int .i64 0, .slice none 0 0] 27))
  clear h
  go_enter Try.func44, Try.ntmps44
  go_wp2_with fail
  refine (impl_splitDigits_no x _ HF.out).mono ?_; rintro e w1 ⟨rfl, hb⟩
  have N1 := Lib.hid (N0.out.b hb)
  have F1 := Lib.hid (FB.out.trans (hb.mono (by simp)))
  have c0 := N1.out.cell 0 _ rfl
  have c1 := N1.out.cell 1 _ rfl
  have f0 := N1.out.free 0
  have f1 := N1.out.free 1
  have hlt := N1.out.lt
  clear hb N0 FB
  go_wp2_with fail
  have hs2 : ((w1.setCell ⟨w.heap.size, 0, none⟩ (.int .i64 0)).setCell ⟨w.heap.size, 1, none⟩ (.slice none 0 0)).heap.size = w1.heap.size := by simp [World.setCell]
  have N4 := Lib.hid (((N1.out.set 0 (.int .i64 0)).set 1 (.slice none 0 0)).b ((Below.refl _ _).alloc (Nat.le_refl _) (.cells #[.int .i64 0, .slice none 0 0] 27)))
  have q0 := N4.out.cell 0 (.int .i64 0) (by simp)
  have q1 := N4.out.cell 1 (.slice none 0 0) (by simp)
  refine bodyPost_ret (v := .tuple #[.agg #[.int .i64 0, .slice none 0 0], .bool false]) (by simp [results, Try.results44, go_sem, q0, q1]) rfl ?_
  exact ⟨none, 0, rfl, .inl ⟨rfl, rfl⟩, (below_setAt (below_setAt F1.out (by omega) _) (by omega) _).alloc (by rw [hs2]; omega) _⟩

set_option maxRecDepth 100000 in
set_option maxHeartbeats 1000000 in
theorem impl_deltaCode_no (x : Int) (w : World) (h : ¬ (1 ≤ x ∧ x ≤ 100000)) : Calls Try.prog 45 #[.int .i64 x] w (OwnIs 0 0 (fun _ => 0) false w) := by
  have HF := Lib.hid h
  have N0 := Lib.hid (show NBX w.heap.size w.heap.size #[.int .i64 0, .slice none 0 0] 27 (w.alloc (.cells #[.int .i64 0, .slice none 0 0] 27)) from ⟨Go.Deep.blk_alloc_new _ _, Nat.le_refl _⟩)
  have FB := Lib.hid ((Below.refl w.heap.size w).alloc (Nat.le_refl _) (.cells #[.int .i64 0, .slice none 0 0] 27))
  clear h
  go_enter Try.func45, Try.ntmps45
  go_wp2_with fail
  refine (impl_splitDigits_no x _ HF.out).mono ?_; rintro e w1 ⟨rfl, hb⟩
  have N1 := Lib.hid (N0.out.b hb)
  have F1 := Lib.hid (FB.out.trans (hb.mono (by simp)))
  have c0 := N1.out.cell 0 _ rfl
  have c1 := N1.out.cell 1 _ rfl
  have f0 := N1.out.free 0
  have f1 := N1.out.free 1
  have hlt := N1.out.lt
  clear hb N0 FB
  go_wp2_with fail
  have hs2 : ((w1.setCell ⟨w.heap.size, 0, none⟩ (.int .i64 0)).setCell ⟨w.heap.size, 1, none⟩ (.slice none 0 0)).heap.size = w1.heap.size := by simp [World.setCell]
  have N4 := Lib.hid (((N1.out.set 0 (.int .i64 0)).set 1 (.slice none 0 0)).b ((Below.refl _ _).alloc (Nat.le_refl _) (.cells #[.int .i64 0, .slice none 0 0] 27)))
  have q0 := N4.out.cell 0 (.int .i64 0) (by simp)
  have q1 := N4.out.cell 1 (.slice none 0 0) (by simp)
  refine bodyPost_ret (v := .tuple #[.agg #[.int .i64 0, .slice none 0 0], .bool false]) (by simp [results, Try.results45, go_sem, q0, q1]) rfl ?_
  exact ⟨none, 0, rfl, .inl ⟨rfl, rfl⟩, (below_setAt (below_setAt F1.out (by omega) _) (by omega) _).alloc (by rw [hs2]; omega) _⟩

theorem del_cat (n l k : Nat) : catB (two (2 * k + 1) l) (two (gamB (l + 1) k) (tailB n l)) 2 = delB n l k := by
  rw [cat_two]
  funext i
  unfold delB
  rfl
set_option maxRecDepth 100000 in
set_option maxHeartbeats 2000000 in
theorem impl_deltaCode (n l k : Nat) (w : World) (h1 : 1 ≤ n) (hn : n ≤ 100000) (hl : IsL n l) (hk : IsL (l + 1) k) :
    Calls Try.prog 45 #[.int .i64 n] w (OwnIs ((2 * k + 1 + l : Nat) : Int) ((2 * k + 1 + l + 15) / 16) (fun i => (wordsOf (delB n l k) i : Int)) true w) := by
  have HL := Lib.hid hl
  have HK := Lib.hid hk
  have hl2 := isL_le hl hn
  have hk2 := isL_le hk (by omega)
  obtain ⟨y, hy⟩ : ∃ y, y = 2 * k + 1 := ⟨_, rfl⟩
  obtain ⟨z, hz⟩ : ∃ z, z = 2 * k + 1 + l := ⟨_, rfl⟩
  rw [← hz]
  have HZ := Lib.hid hz
  have HY := Lib.hid hy
  have N0 := Lib.hid (show NBX w.heap.size w.heap.size #[.int .i64 0, .slice none 0 0] 27 (w.alloc (.cells #[.int .i64 0, .slice none 0 0] 27)) from ⟨Go.Deep.blk_alloc_new _ _, Nat.le_refl _⟩)
  have FB := Lib.hid ((Below.refl w.heap.size w).alloc (Nat.le_refl _) (.cells #[.int .i64 0, .slice none 0 0] 27))
  have hgc := fun (W : World) => impl_gammaCode (l + 1) k W (by omega) (by omega) HK.out
  rw [← HY.out] at hgc
  have HGC := Lib.hid hgc
  have hjc := fun (W : World) (b : Nat) (h : CRow W (some ⟨b, 0, none⟩) 2 (two y l) (two (gamB (l + 1) k) (tailB n l))) => impl_joinCodes (some ⟨b, 0, none⟩) 2 2 (two y l) (two (gamB (l + 1) k) (tailB n l)) W (by omega) h (by rw [catS_two]; have := HY.out; omega) (fun j i hi => by
    unfold two at *
    by_cases c : j = 0
    · rw [if_pos c] at hi ⊢; exact gamB_off (by have := HY.out; omega)
    · rw [if_neg c] at hi ⊢; exact tailB_off hi)
  rw [catS_two, show y + l = z by have := HZ.out; have := HY.out; omega, show catB (two y l) (two (gamB (l + 1) k) (tailB n l)) 2 = delB n l k by rw [HY.out]; exact del_cat n l k] at hjc
  have HJ := Lib.hid hjc
  clear hl hk hz hy hgc hjc
  go_enter Try.func45, Try.ntmps45
  go_wp2_with fail
  refine (impl_splitDigits n l ((l + 15) / 16) _ h1 hn HL.out rfl).mono ?_; rintro e w1 ⟨A, c, rfl, ho, hb⟩
  have hba := (Below.refl w1.heap.size w1).alloc (Nat.le_refl _) (.cells #[.int .i64 l, .slice A ((l + 15) / 16) c] 27)
  have N1 := Lib.hid ((N0.out.b hb).b hba)
  have F1 := Lib.hid ((FB.out.trans (hb.mono (by simp))).trans (hba.mono (by have := (N0.out.b hb).lt; omega)))
  have R1 := Lib.hid (ho.row.b hba)
  have D1 : Hid (NBX w1.heap.size w1.heap.size #[.int .i64 l, .slice A ((l + 15) / 16) c] 27 (w1.alloc (.cells #[.int .i64 l, .slice A ((l + 15) / 16) c] 27))) := Lib.hid ⟨Go.Deep.blk_alloc_new _ _, Nat.le_refl _⟩
  have hlt0 := (N0.out.b hb).lt
  clear ho hb hba N0 FB
  go_wp2_with fail
  rw [show (l : Int) + 1 = ((l + 1 : Nat) : Int) by push_cast; rfl]
  refine (HGC.out _).mono ?_; rintro e w2 ⟨B, d, rfl, ho, hb⟩
  have hba := (Below.refl w2.heap.size w2).alloc (Nat.le_refl _) (.cells #[.int .i64 y, .slice B ((y + 15) / 16) d] 27)
  have N2 := Lib.hid ((N1.out.b hb).b hba)
  have F2 := Lib.hid ((F1.out.trans (hb.mono F1.out.size)).trans (hba.mono (by have := (N1.out.b hb).lt; omega)))
  have R2 := Lib.hid ((R1.out.b hb).b hba)
  have Q2 := Lib.hid (ho.row.b hba)
  have D2 := Lib.hid ((D1.out.b hb).b hba)
  have E2 : Hid (NBX w2.heap.size w2.heap.size #[.int .i64 y, .slice B ((y + 15) / 16) d] 27 (w2.alloc (.cells #[.int .i64 y, .slice B ((y + 15) / 16) d] 27))) := Lib.hid ⟨Go.Deep.blk_alloc_new _ _, Nat.le_refl _⟩
  have hlt1 := (D1.out.b hb).lt
  have x0 := (D1.out.b hb).cell 0 _ rfl
  have x1 := (D1.out.b hb).cell 1 _ rfl
  clear ho hb hba N1 F1 R1 D1
  go_wp2_with fail
  have hcr := crow_two (c := d) (d := c) Q2.out R2.out 27
  simp only [World.size_alloc] at hcr
  refine (HJ.out _ _ hcr).mono ?_; rintro e w3 ⟨E, cE, rfl, ho, hb'⟩
  clear hcr
  have hb := below_al hb'
  have N3 := Lib.hid (N2.out.b hb)
  have F3 := Lib.hid (F2.out.trans (hb.mono F2.out.size))
  have HO := Lib.hid (ho.low (B' := w.heap.size + 1) (by simp; omega))
  have r0 := N3.out.cell 0 _ rfl
  have r1 := N3.out.cell 1 _ rfl
  have g0 := N3.out.free 0
  have g1 := N3.out.free 1
  clear ho hb hb' x0 x1
  go_wp2_with fail
  have N4 := Lib.hid ((N3.out.set 0 (.int .i64 z)).set 1 (.slice E ((z + 15) / 16) cE))
  have q0 := N4.out.cell 0 (.int .i64 z) (by simp)
  have q1 := N4.out.cell 1 (.slice E ((z + 15) / 16) cE) (by simp)
  refine bodyPost_ret (v := .tuple #[.agg #[.int .i64 z, .slice E ((z + 15) / 16) cE], .bool true]) (by simp [results, Try.results45, go_sem, q0, q1]) rfl ?_
  exact ⟨E, cE, rfl, ((HO.out.setAt (by omega) _).setAt (by omega) _).low (by omega), below_setAt (below_setAt F3.out (by omega) _) (by omega) _⟩
end Go.Proofs.Ytdkkflejpcgipab
