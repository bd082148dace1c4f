/- BuildSparse: the program's way. -/
import Derived.Test.YtffdkfhnlgfigaaWidthS
import Derived.Test.YtffdkfhnlgfigaaPutF
import Derived.Test.YtffdkfhnlgfigaaObj
namespace Go.Proofs.Ytffdkfhnlgfigaa
open Go.RowKit

/-- The cells of a Sparse. -/
def spC (z0 z1 z2 z3 : Int) (A1 : Option Addr) (n1 c1 : Nat) (z4 : Int) (A2 : Option Addr) (n2 c2 : Nat) : Array Value :=
  #[.int .i64 z0, .int .i64 z1, .int .i64 z2, .int .i64 z3, .slice A1 n1 c1, .int .i64 z4, .slice A2 n2 c2]
/-- A Sparse of the call's own as answer, and a word whether it is one. -/
def SpOwn (z0 z1 z2 z3 : Int) (n1 : Nat) (X1 : Nat → Int) (z4 : Int) (n2 : Nat) (X2 : Nat → Int) (b : Bool) (w : World) (e : Ending) (w' : World) : Prop :=
  ∃ A1 c1 A2 c2, e = .returned (.tuple #[.agg (spC z0 z1 z2 z3 A1 n1 c1 z4 A2 n2 c2), .bool b]) ∧ Ow w.heap.size w'.heap.size 3 A1 n1 (intV X1) w' ∧ Ow w.heap.size w'.heap.size 3 A2 n2 (intV X2) w' ∧ Apart n1 A1 n2 A2 ∧ Below w.heap.size w w'
theorem spOwn_none {w w' : World} {e : Ending} (h : e = .returned (.tuple #[.agg (spC 0 0 0 0 none 0 0 0 none 0 0), .bool false])) (hb : Below w.heap.size w w') : SpOwn 0 0 0 0 0 (fun _ => 0) 0 0 (fun _ => 0) false w e w' :=
  ⟨none, 0, none, 0, h, ow_zero _ _ _ _ _ _, ow_zero _ _ _ _ _ _, fun h => absurd h (by omega), hb⟩

/-- A vector of words of the call's own, in a block of lo .. hi - 1. -/
def VecU (lo hi : Nat) (A : Option Addr) (m : Nat) (W : Nat → Nat) (w : World) : Prop := (m = 0 ∧ A = none) ∨ ∃ g, A = some ⟨g, 0, none⟩ ∧ lo ≤ g ∧ g < hi ∧ ORow w g m (fun i => (W i : Int))
section
variable {lo hi l h m : Nat} {A : Option Addr} {W : Nat → Nat} {w w' : World}
theorem VecU.same (v : VecU lo hi A m W w) (e : ∀ g, lo ≤ g → g < hi → w'.heap[g]? = w.heap[g]?) : VecU lo hi A m W w' := by
  rcases v with v | ⟨g, hA, h1, h2, ho⟩
  · exact .inl v
  · exact .inr ⟨g, hA, h1, h2, ho.of_block (e g h1 h2)⟩
theorem VecU.b (v : VecU lo hi A m W w) (hb : Below w.heap.size w w') : VecU lo hi A m W w' := by
  rcases v with v | ⟨g, hA, h1, h2, ho⟩
  · exact .inl v
  · exact .inr ⟨g, hA, h1, h2, ho.b hb⟩
theorem VecU.far (v : VecU lo hi A m W w) (ho : Only l h w w') (hd : hi ≤ l ∨ h ≤ lo) : VecU lo hi A m W w' := by
  rcases v with v | ⟨g, hA, h1, h2, hr⟩
  · exact .inl v
  · exact .inr ⟨g, hA, h1, h2, hr.of_block (ho.block g hr.lt (by omega))⟩
theorem VecU.of_vec {B : Nat} (v : OVec w B A m (fun i => (W i : Int))) (hB : lo ≤ B) (hs : w.heap.size ≤ hi) : VecU lo hi A m W w := by
  rcases v with v | ⟨g, hA, h1, ho⟩
  · exact .inl v
  · exact .inr ⟨g, hA, by omega, by have := ho.lt; omega, ho⟩
theorem VecU.ow {X : Nat → Int} (v : VecU lo hi A m W w) (hX : ∀ i, i < m → (W i : Int) = X i) : Ow lo w.heap.size 3 A m (intV X) w := by
  rcases v with ⟨rfl, rfl⟩ | ⟨g, rfl, h1, h2, ho⟩
  · exact ow_zero _ _ _ _ _ _
  · exact ow_of_own (m := m) (show GOwn _ _ _ _ _ from ho.congr hX) h1 (Nat.le_refl _)
theorem VecU.apart {lo2 hi2 m2 : Nat} {A2 : Option Addr} {W2 : Nat → Nat} (v : VecU lo hi A m W w) (u : VecU lo2 hi2 A2 m2 W2 w) (hd : hi ≤ lo2) : Apart m A m2 A2 := by
  intro p1 p2 b o c q e1 e2
  rcases v with ⟨h0, _⟩ | ⟨g, rfl, h1, h2, _⟩
  · omega
  rcases u with ⟨h0, _⟩ | ⟨g', rfl, h3, h4, _⟩
  · omega
  injection e1 with e1; injection e1 with e1; injection e2 with e2; injection e2 with e2; omega
end
theorem setField_vecU (A : Option Addr) (m lo hi : Nat) (W : Nat → Nat) (a width v : Nat) (w : World) (hm : m ≤ 256) (ho : VecU lo hi A m W w) (hW : ∀ i, i < m → W i < 65536) (ha : a + width ≤ 16 * m) (hw : width ≤ 24) (hv : v < 16777216) :
    Calls Try.prog 48 #[.slice A m m, .int .i64 a, .int .i64 width, .int .i64 v] w fun e w' => e = .returned (.tuple #[]) ∧ (∃ W1, PutSt W m a v (a + width) W1 ∧ VecU lo hi A m W1 w') ∧ Only lo hi w w' := by
  rcases ho with ⟨rfl, rfl⟩ | ⟨g, rfl, hg, hh, ho⟩
  · obtain rfl : width = 0 := by omega
    exact (setField_none _ _ w).mono fun e w' ⟨he, hw⟩ => ⟨he, ⟨W, PutSt.start W _ _ _ (fun i hi => by omega), .inl ⟨rfl, rfl⟩⟩, by subst hw; exact Only.refl _ _ _⟩
  · exact (impl_setField g m W a width v w hm ho hW ha hw hv).mono fun e w' ⟨he, ⟨W1, h1, h2⟩, hgr⟩ => ⟨he, ⟨W1, h1, .inr ⟨g, rfl, hg, hh, h2⟩⟩, (only_grown hgr).mono hg (by omega)⟩

theorem NBX.far {w w' : World} {base q l h : Nat} {cs : Array Value} {t : TypeId} (x : NBX base q cs t w) (ho : Only l h w w') (hd : q < l ∨ h ≤ q) : NBX base q cs t w' := ⟨(ho.block q x.lt hd).trans x.blk, x.ge⟩
/-- What BuildSparse of the program holds: the box of the answer, two boxed vectors, their words. -/
structure BL (w : World) (b1 b2 h2 : Nat) (zl : Int) (Al : Option Addr) (ml : Nat) (zh : Int) (Ah : Option Addr) (mh : Nat) (Wl Wh : Nat → Nat) (wr : World) : Prop where
  below : Below w.heap.size w wr
  res : NBX w.heap.size w.heap.size (spC 0 0 0 0 none 0 0 0 none 0 0) 32 wr
  lbox : NBX w.heap.size b1 #[.int .i64 zl, .slice Al ml ml] 30 wr
  hbox : NBX w.heap.size b2 #[.int .i64 zh, .slice Ah mh mh] 30 wr
  o1 : w.heap.size < b1
  o2 : b1 < b2
  o3 : b2 < h2
  low : VecU (b1 + 1) b2 Al ml Wl wr
  high : VecU (b2 + 1) h2 Ah mh Wh wr
section
variable {w : World} {b1 b2 h2 : Nat} {zl : Int} {Al : Option Addr} {ml : Nat} {zh : Int} {Ah : Option Addr} {mh : Nat} {Wl Wh W' : Nat → Nat} {wr wj : World}
theorem BL.setLow (x : BL w b1 b2 h2 zl Al ml zh Ah mh Wl Wh wr) (v : VecU (b1 + 1) b2 Al ml W' wj) (ho : Only (b1 + 1) b2 wr wj) : BL w b1 b2 h2 zl Al ml zh Ah mh W' Wh wj :=
  ⟨x.below.trans (ho.below x.below.size (by have := x.o1; omega)), x.res.far ho (by have := x.o1; omega), x.lbox.far ho (by omega), x.hbox.far ho (by omega), x.o1, x.o2, x.o3, v, x.high.far ho (by omega)⟩
theorem BL.setHigh (x : BL w b1 b2 h2 zl Al ml zh Ah mh Wl Wh wr) (v : VecU (b2 + 1) h2 Ah mh W' wj) (ho : Only (b2 + 1) h2 wr wj) : BL w b1 b2 h2 zl Al ml zh Ah mh Wl W' wj :=
  ⟨x.below.trans (ho.below x.below.size (by have := x.o1; have := x.o2; omega)), x.res.far ho (by have := x.o1; have := x.o2; omega), x.lbox.far ho (by have := x.o2; omega), x.hbox.far ho (by omega), x.o1, x.o2, x.o3, x.low.far ho (by omega), v⟩
end
/-- The box of a Sparse, filled. -/
def fin7 (w : World) (q : Nat) (v0 v1 v2 v3 v4 v5 v6 : Value) : World :=
  ((((((w.setCell ⟨q, 0, none⟩ v0).setCell ⟨q, 1, none⟩ v1).setCell ⟨q, 2, none⟩ v2).setCell ⟨q, 3, none⟩ v3).setCell ⟨q, 4, none⟩ v4).setCell ⟨q, 5, none⟩ v5).setCell ⟨q, 6, none⟩ v6
theorem fin7_only (w : World) (q : Nat) (v0 v1 v2 v3 v4 v5 v6 : Value) : Only q (q + 1) w (fin7 w q v0 v1 v2 v3 v4 v5 v6) :=
  ((((((only_set _ _ _ _).trans (only_set _ _ _ _)).trans (only_set _ _ _ _)).trans (only_set _ _ _ _)).trans (only_set _ _ _ _)).trans (only_set _ _ _ _)).trans (only_set _ _ _ _)
theorem fin7_size (w : World) (q : Nat) (v0 v1 v2 v3 v4 v5 v6 : Value) : (fin7 w q v0 v1 v2 v3 v4 v5 v6).heap.size = w.heap.size := by simp [fin7, World.setCell]
theorem fin7_box {base q : Nat} {t : TypeId} {w : World} {u0 u1 u2 u3 u4 u5 u6 v0 v1 v2 v3 v4 v5 v6 : Value} (h : NBX base q #[u0, u1, u2, u3, u4, u5, u6] t w) : NBX base q #[v0, v1, v2, v3, v4, v5, v6] t (fin7 w q v0 v1 v2 v3 v4 v5 v6) := by
  have k := ((((((h.set 0 v0).set 1 v1).set 2 v2).set 3 v3).set 4 v4).set 5 v5).set 6 v6
  have e : (((((((#[u0, u1, u2, u3, u4, u5, u6] : Array Value).setIfInBounds 0 v0).setIfInBounds 1 v1).setIfInBounds 2 v2).setIfInBounds 3 v3).setIfInBounds 4 v4).setIfInBounds 5 v5).setIfInBounds 6 v6 = #[v0, v1, v2, v3, v4, v5, v6] := by simp [Array.setIfInBounds, Array.set]
  rw [e] at k
  unfold fin7
  exact k

def SrtI (n : Nat) (X : Nat → Int) (L : Int) : Prop := ∀ i, i < n → 0 ≤ X i ∧ X i < L ∧ (0 < i → X (i - 1) ≤ X i)
def befI (X : Nat → Int) (i : Nat) : Int := if i = 0 then 0 else X (i - 1)
theorem srt_snoc {q : Nat} {X : Nat → Int} {L : Int} (h : SrtI q X L) (h0 : befI X q ≤ X q) (h1 : X q < L) (hl : 0 ≤ befI X q) : SrtI (q + 1) X L := fun i hi => by
  by_cases e : i = q
  · subst e
    refine ⟨by omega, h1, fun hp => ?_⟩
    unfold befI at h0; rw [if_neg (by omega)] at h0; exact h0
  · exact h i (by omega)
theorem srt_bef {q : Nat} {X : Nat → Int} {L : Int} (h : SrtI q X L) : 0 ≤ befI X q := by
  unfold befI
  split
  · omega
  · exact (h (q - 1) (by omega)).1
theorem srt_not {q n : Nat} {X : Nat → Int} {L : Int} (hq : q < n) (h : ¬ (befI X q ≤ X q ∧ X q < L)) : ¬ SrtI n X L := fun hr => h (by
  have h1 := hr q hq
  unfold befI
  split
  · exact ⟨h1.1, h1.2.1⟩
  · exact ⟨h1.2.2 (by omega), h1.2.1⟩)

def SrtIs (n : Nat) (X : Nat → Int) (L : Int) (w : World) (e : Ending) (w' : World) : Prop := ∃ b : Bool, e = .returned (.bool b) ∧ (b = true ↔ SrtI n X L) ∧ w = w'
set_option maxRecDepth 100000 in
set_option maxHeartbeats 1000000 in
theorem impl_isSorted (A : Option Addr) (n c : Nat) (X : Nat → Int) (L : Int) (w : World) (hn : n ≤ 1048576) (hr : IRow w A n X) :
    Calls Try.prog 46 #[.slice A n c, .int .i64 L] w (SrtIs n X L w) := by
  have HR := Lib.hid hr
  clear hr
  go_enter Try.func46, Try.ntmps46
  go_wp2_with fail
  go_loop [5, 10] (fun l i => ∃ q : Nat, q ≤ n ∧ i = .int .i64 q ∧ l = .int .i64 (befI X q) ∧ Hid (SrtI q X L)) (fun _ i => n - (intOf i).toNat)
  case atStart => exact ⟨0, Nat.zero_le _, rfl, rfl, Lib.hid (fun i hi => absurd hi (by omega))⟩
  case round =>
    obtain ⟨q, hq, rfl, rfl, HS⟩ := hrel
    have l0 := srt_bef HS.out
    by_cases hlt : q < n
    · obtain ⟨b, off, rfl, hbl, hc⟩ := HR.out (by omega)
      have hcq := hc q hlt
      have hB1 : befI X (q + 1) = X q := rfl
      clear hc
      by_cases hgood : befI X q ≤ X q ∧ X q < L
      · have HN := Lib.hid (srt_snoc HS.out hgood.1 hgood.2 l0)
        obtain ⟨g1, g2⟩ := hgood
        have HB1 := Lib.hid hB1
        clear hB1
        generalize hL : befI X q = P at *
        have d1 : decide (X q < P) = false := by simp; omega
        have d2 : decide (L ≤ X q) = false := by simp; omega
        go_wp2_with fail
        go_round
        case rel => exact ⟨q + 1, by omega, by go_num, by rw [HB1.out], HN⟩
        case measure => simp [intOf]; omega
      · have HF := Lib.hid (srt_not hlt hgood)
        clear hB1
        generalize hL : befI X q = P at *
        by_cases g1 : X q < P
        · have d1 : decide (X q < P) = true := by simpa using g1
          go_wp2_with fail
          go_ret
          exact ⟨false, rfl, by simp only [Bool.false_eq_true, false_iff]; exact HF.out, rfl⟩
        · have d1 : decide (X q < P) = false := by simpa using g1
          have d2 : decide (L ≤ X q) = true := by simp; omega
          go_wp2_with fail
          go_ret
          exact ⟨false, rfl, by simp only [Bool.false_eq_true, false_iff]; exact HF.out, rfl⟩
    · obtain rfl : q = n := by omega
      go_wp2_with fail
      go_ret
      exact ⟨true, rfl, by simp only [true_iff]; exact HS.out, rfl⟩
end Go.Proofs.Ytffdkfhnlgfigaa
