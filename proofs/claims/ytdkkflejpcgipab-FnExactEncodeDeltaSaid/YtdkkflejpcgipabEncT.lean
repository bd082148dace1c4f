/- The model's EncodeGamma and EncodeDelta. -/
import Derived.Test.YtdkkflejpcgipabEncS
import Derived.Test.YtdkkflejpcgipabFromG
namespace Go.Proofs.Ytdkkflejpcgipab
open Go.RowKit

def lgX (x : Int) : Nat := x.toNat.log2
theorem lgX_is {x : Int} (h : 1 ≤ x ∧ x ≤ 100000) : IsL x.toNat (lgX x) := ⟨Nat.log2_self_le (by omega), Nat.lt_log2_self⟩
def lgY (x : Int) : Nat := (lgX x + 1).log2
theorem lgY_is (x : Int) : IsL (lgX x + 1) (lgY x) := ⟨Nat.log2_self_le (by omega), Nat.lt_log2_self⟩
def gamS (X : Nat → Int) (k : Nat) : Nat := 2 * lgX (X k) + 1
def gamF (X : Nat → Int) (k i : Nat) : Bool := gamB (X k).toNat (lgX (X k)) i
def delS (X : Nat → Int) (k : Nat) : Nat := 2 * lgY (X k) + 1 + lgX (X k)
def delF (X : Nat → Int) (k i : Nat) : Bool := delB (X k).toNat (lgX (X k)) (lgY (X k)) i
theorem gamF_off {X : Nat → Int} {k i : Nat} (h : gamS X k ≤ i) : gamF X k i = false := gamB_off h
theorem delF_off {X : Nat → Int} {k i : Nat} (h : delS X k ≤ i) : delF X k i = false := delB_off h
theorem gamS_le {X : Nat → Int} {k : Nat} (h : 1 ≤ X k ∧ X k ≤ 100000) : gamS X k ≤ 64 := by
  have := isL_le (lgX_is h) (by omega); unfold gamS; omega
theorem delS_le {X : Nat → Int} {k : Nat} (h : 1 ≤ X k ∧ X k ≤ 100000) : delS X k ≤ 64 := by
  have h1 := isL_le (lgX_is h) (by omega)
  have h2 := isL_le (lgY_is (X k)) (by omega)
  unfold delS; omega
theorem catS_le {sz : Nat → Nat} : ∀ n, (∀ i, i < n → sz i ≤ 64) → catS sz n ≤ 64 * n
  | 0, _ => Nat.le_refl _
  | n + 1, h => by
    have h1 := catS_le (sz := sz) n (fun i hi => h i (by omega))
    have h2 := h n (by omega)
    rw [catS]; omega
theorem gam_lst {x : Int} (h : 1 ≤ x ∧ x ≤ 100000) (W : World) : Calls Try.prog 69 #[.int .i64 x] W (LstIs (2 * lgX x + 1) (gamB x.toNat (lgX x)) W) := by
  have := spec_spGamma x.toNat (lgX x) _ W (by omega) (by omega) (lgX_is h) rfl
  rwa [Int.toNat_of_nonneg (by omega)] at this
theorem del_lst {x : Int} (h : 1 ≤ x ∧ x ≤ 100000) (W : World) : Calls Try.prog 68 #[.int .i64 x] W (LstIs (2 * lgY x + 1 + lgX x) (delB x.toNat (lgX x) (lgY x)) W) := by
  have := spec_spDelta x.toNat (lgX x) (lgY x) _ W (by omega) (by omega) (lgX_is h) (lgY_is x) rfl
  rwa [Int.toNat_of_nonneg (by omega)] at this

set_option maxRecDepth 100000 in
set_option maxHeartbeats 2000000 in
theorem spec_encGamma (A : Option Addr) (n c m : Nat) (X : Nat → Int) (w : World) (hr : IRow w A n X) (h60 : n ≤ 60) (h : InAll n X 1 100000) (hm : m = (catS (gamS X) n + 15) / 16) :
    Calls Try.prog 16 #[.slice A n c] w (OwnIs (catS (gamS X) n) m (fun i => (wordsOf (catB (gamS X) (gamF X) n) i : Int)) true w) := by
  have HR := Lib.hid hr
  have HX := Lib.hid h
  have HM := Lib.hid hm
  have hzl : catS (gamS X) n ≤ 4096 := by
    have := catS_le (sz := gamS X) n (fun i hi => gamS_le (h i hi)); omega
  have HZ := Lib.hid hzl
  have RB0 := Lib.hid (show RB w w.heap.size (w.alloc (.cells #[.int .i64 0, .slice none 0 0] 27)) from ⟨(Below.refl _ _).alloc (Nat.le_refl _) _, Box.new w 0 none 0 0 _, free_new w _ _⟩)
  have R0 := Lib.hid (hr.b ((Below.refl w.heap.size w).alloc (Nat.le_refl _) (.cells #[.int .i64 0, .slice none 0 0] 27)))
  have HC := Lib.hid (show ∀ i, i < n → ∀ W, Calls Try.prog 69 #[.int .i64 (X i)] W (LstIs (gamS X i) (gamF X i) W) from fun i hi W => gam_lst (h i hi) W)
  clear hr h hm hzl
  go_enter Try.func16, Try.ntmps16
  go_wp2_with fail
  refine ((BoolIs.two (spec_spCoded A n c X _ (by omega) R0.out)).1 ⟨h60, HX.out⟩).mono ?_; rintro e w1 ⟨rfl, hb⟩
  have RB1 := Lib.hid (RB0.out.b hb)
  have R1 := Lib.hid (R0.out.b hb)
  clear hb RB0 R0
  go_wp2_with fail
  refine (spec_spEncode_false A n c m X (gamS X) (gamF X) _ h60 R1.out HC.out HZ.out HM.out (fun k i hi => gamF_off hi)).mono ?_; rintro e w2 ⟨g, rfl, hg, ho, hb⟩
  have RB2 := Lib.hid (RB1.out.b hb)
  have HO := Lib.hid ho
  have hs1 := RB1.out.box.1
  clear ho hb RB1 R1
  obtain ⟨hr4, d0, d1⟩ := RB2.out.box
  obtain ⟨f0, f1⟩ := RB2.out.free
  go_wp2_with fail
  refine bodyPost_ret (v := .tuple #[.agg #[.int .i64 (catS (gamS X) n : Nat), .slice (some ⟨g, 0, none⟩) m m], .bool true]) (by simp [results, Try.results16, go_sem, d0, d1]) rfl ?_
  exact ⟨_, _, rfl, OVec.low (B := g) (.inr ⟨g, rfl, Nat.le_refl _, (HO.out.setAt (by omega) _).setAt (by omega) _⟩) (by omega), below_setAt (below_setAt RB2.out.below (by omega) _) (by omega) _⟩

set_option maxRecDepth 100000 in
set_option maxHeartbeats 1000000 in
theorem spec_encGamma_no (A : Option Addr) (n c : Nat) (X : Nat → Int) (w : World) (hn : n ≤ 1048576) (hr : IRow w A n X) (h : ¬ (n ≤ 60 ∧ InAll n X 1 100000)) :
    Calls Try.prog 16 #[.slice A n c] w (OwnIs 0 0 (fun _ => 0) false w) := by
  have HX := Lib.hid h
  have RB0 := Lib.hid (show RB w w.heap.size (w.alloc (.cells #[.int .i64 0, .slice none 0 0] 27)) from ⟨(Below.refl _ _).alloc (Nat.le_refl _) _, Box.new w 0 none 0 0 _, free_new w _ _⟩)
  have R0 := Lib.hid (hr.b ((Below.refl w.heap.size w).alloc (Nat.le_refl _) (.cells #[.int .i64 0, .slice none 0 0] 27)))
  clear hr h
  go_enter Try.func16, Try.ntmps16
  go_wp2_with fail
  refine ((BoolIs.two (spec_spCoded A n c X _ hn R0.out)).2 HX.out).mono ?_; rintro e w1 ⟨rfl, hb⟩
  have RB1 := Lib.hid (RB0.out.b hb)
  clear hb RB0 R0
  obtain ⟨hr4, d0, d1⟩ := RB1.out.box
  obtain ⟨f0, f1⟩ := RB1.out.free
  go_wp2_with fail
  refine bodyPost_ret (v := .tuple #[.agg #[.int .i64 0, .slice none 0 0], .bool false]) (by simp [results, Try.results16, go_sem, d0, d1]) rfl ?_
  exact ⟨none, 0, rfl, .inl ⟨rfl, rfl⟩, by first | exact RB1.out.below | exact below_setAt (below_setAt RB1.out.below (by omega) _) (by omega) _⟩

set_option maxRecDepth 100000 in
set_option maxHeartbeats 2000000 in
theorem spec_encDelta (A : Option Addr) (n c m : Nat) (X : Nat → Int) (w : World) (hr : IRow w A n X) (h60 : n ≤ 60) (h : InAll n X 1 100000) (hm : m = (catS (delS X) n + 15) / 16) :
    Calls Try.prog 29 #[.slice A n c] w (OwnIs (catS (delS X) n) m (fun i => (wordsOf (catB (delS X) (delF X) n) i : Int)) true w) := by
  have HR := Lib.hid hr
  have HX := Lib.hid h
  have HM := Lib.hid hm
  have hzl : catS (delS X) n ≤ 4096 := by
    have := catS_le (sz := delS X) n (fun i hi => delS_le (h i hi)); omega
  have HZ := Lib.hid hzl
  have RB0 := Lib.hid (show RB w w.heap.size (w.alloc (.cells #[.int .i64 0, .slice none 0 0] 27)) from ⟨(Below.refl _ _).alloc (Nat.le_refl _) _, Box.new w 0 none 0 0 _, free_new w _ _⟩)
  have R0 := Lib.hid (hr.b ((Below.refl w.heap.size w).alloc (Nat.le_refl _) (.cells #[.int .i64 0, .slice none 0 0] 27)))
  have HC := Lib.hid (show ∀ i, i < n → ∀ W, Calls Try.prog 68 #[.int .i64 (X i)] W (LstIs (delS X i) (delF X i) W) from fun i hi W => del_lst (h i hi) W)
  clear hr h hm hzl
  go_enter Try.func29, Try.ntmps29
  go_wp2_with fail
  refine ((BoolIs.two (spec_spCoded A n c X _ (by omega) R0.out)).1 ⟨h60, HX.out⟩).mono ?_; rintro e w1 ⟨rfl, hb⟩
  have RB1 := Lib.hid (RB0.out.b hb)
  have R1 := Lib.hid (R0.out.b hb)
  clear hb RB0 R0
  go_wp2_with fail
  refine (spec_spEncode_true A n c m X (delS X) (delF X) _ h60 R1.out HC.out HZ.out HM.out (fun k i hi => delF_off hi)).mono ?_; rintro e w2 ⟨g, rfl, hg, ho, hb⟩
  have RB2 := Lib.hid (RB1.out.b hb)
  have HO := Lib.hid ho
  have hs1 := RB1.out.box.1
  clear ho hb RB1 R1
  obtain ⟨hr4, d0, d1⟩ := RB2.out.box
  obtain ⟨f0, f1⟩ := RB2.out.free
  go_wp2_with fail
  refine bodyPost_ret (v := .tuple #[.agg #[.int .i64 (catS (delS X) n : Nat), .slice (some ⟨g, 0, none⟩) m m], .bool true]) (by simp [results, Try.results29, go_sem, d0, d1]) rfl ?_
  exact ⟨_, _, rfl, OVec.low (B := g) (.inr ⟨g, rfl, Nat.le_refl _, (HO.out.setAt (by omega) _).setAt (by omega) _⟩) (by omega), below_setAt (below_setAt RB2.out.below (by omega) _) (by omega) _⟩

set_option maxRecDepth 100000 in
set_option maxHeartbeats 1000000 in
theorem spec_encDelta_no (A : Option Addr) (n c : Nat) (X : Nat → Int) (w : World) (hn : n ≤ 1048576) (hr : IRow w A n X) (h : ¬ (n ≤ 60 ∧ InAll n X 1 100000)) :
    Calls Try.prog 29 #[.slice A n c] w (OwnIs 0 0 (fun _ => 0) false w) := by
  have HX := Lib.hid h
  have RB0 := Lib.hid (show RB w w.heap.size (w.alloc (.cells #[.int .i64 0, .slice none 0 0] 27)) from ⟨(Below.refl _ _).alloc (Nat.le_refl _) _, Box.new w 0 none 0 0 _, free_new w _ _⟩)
  have R0 := Lib.hid (hr.b ((Below.refl w.heap.size w).alloc (Nat.le_refl _) (.cells #[.int .i64 0, .slice none 0 0] 27)))
  clear hr h
  go_enter Try.func29, Try.ntmps29
  go_wp2_with fail
  refine ((BoolIs.two (spec_spCoded A n c X _ hn R0.out)).2 HX.out).mono ?_; rintro e w1 ⟨rfl, hb⟩
  have RB1 := Lib.hid (RB0.out.b hb)
  clear hb RB0 R0
  obtain ⟨hr4, d0, d1⟩ := RB1.out.box
  obtain ⟨f0, f1⟩ := RB1.out.free
  go_wp2_with fail
  refine bodyPost_ret (v := .tuple #[.agg #[.int .i64 0, .slice none 0 0], .bool false]) (by simp [results, Try.results29, go_sem, d0, d1]) rfl ?_
  exact ⟨none, 0, rfl, .inl ⟨rfl, rfl⟩, by first | exact RB1.out.below | exact below_setAt (below_setAt RB1.out.below (by omega) _) (by omega) _⟩
end Go.Proofs.Ytdkkflejpcgipab
