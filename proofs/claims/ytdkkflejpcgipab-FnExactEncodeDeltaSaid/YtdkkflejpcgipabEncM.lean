/- EncodeGamma and EncodeDelta of the program. -/
import Derived.Test.YtdkkflejpcgipabEncL
namespace Go.Proofs.Ytdkkflejpcgipab
open Go.RowKit

theorem gam_code {X : Nat → Int} {i : Nat} (h : 1 ≤ X i ∧ X i ≤ 100000) (W : World) : Calls Try.prog 44 #[.int .i64 (X i)] W (OwnIs (gamS X i : Nat) ((gamS X i + 15) / 16) (fun j => (wordsOf (gamF X i) j : Int)) true W) := by
  have := impl_gammaCode (X i).toNat (lgX (X i)) W (by omega) (by omega) (lgX_is h)
  rwa [Int.toNat_of_nonneg (by omega)] at this
theorem del_code {X : Nat → Int} {i : Nat} (h : 1 ≤ X i ∧ X i ≤ 100000) (W : World) : Calls Try.prog 45 #[.int .i64 (X i)] W (OwnIs (delS X i : Nat) ((delS X i + 15) / 16) (fun j => (wordsOf (delF X i) j : Int)) true W) := by
  have := impl_deltaCode (X i).toNat (lgX (X i)) (lgY (X i)) W (by omega) (by omega) (lgX_is h) (lgY_is (X i))
  rwa [Int.toNat_of_nonneg (by omega)] at this

theorem encGamma_list (A : Option Addr) (n c : Nat) (X : Nat → Int) (W : World) (h60 : n ≤ 60) (hr : IRow W A n X) :
    Calls Try.prog 48 #[.slice A n c, .func (.func 44) #[] #[]] W fun e w' => (InAll n X 1 100000 → OwnIs (catS (gamS X) n) ((catS (gamS X) n + 15) / 16) (fun i => (wordsOf (catB (gamS X) (gamF X) n) i : Int)) true W e w') ∧ (¬ InAll n X 1 100000 → OwnIs 0 0 (fun _ => 0) false W e w') :=
  impl_encodeList 44 (enters_of Try.func44 (by kernel_rfl) rfl) A n c X (gamS X) (gamF X) W h60 hr (fun i h w => gam_code h w) (fun i h w => impl_gammaCode_no (X i) w h) (fun h => by
    have := catS_le (sz := gamS X) n (fun i hi => gamS_le (h i hi)); omega) (fun k i hi => gamF_off hi)
set_option maxRecDepth 100000 in
set_option maxHeartbeats 2000000 in
theorem impl_encGamma (A : Option Addr) (n c m : Nat) (X : Nat → Int) (w : World) (hr : IRow w A n X) (h60 : n ≤ 60) (h : InAll n X 1 100000) (hm : m = (catS (gamS X) n + 15) / 16) :
    Calls Try.prog 18 #[.slice A n c] w (OwnIs (catS (gamS X) n) m (fun i => (wordsOf (catB (gamS X) (gamF X) n) i : Int)) true w) := by
  subst hm
  have HX := Lib.hid h
  have RB0 := Lib.hid (show RB w w.heap.size (w.alloc (.cells #[.int .i64 0, .slice none 0 0] 27)) from ⟨(Below.refl _ _).alloc (Nat.le_refl _) _, Box.new w 0 none 0 0 _, free_new w _ _⟩)
  have R0 := Lib.hid (hr.b ((Below.refl w.heap.size w).alloc (Nat.le_refl _) (.cells #[.int .i64 0, .slice none 0 0] 27)))
  clear hr h
  go_enter Try.func18, Try.ntmps18
  go_wp2_with fail
  refine (encGamma_list A n c X _ h60 R0.out).mono ?_; rintro e w1 ⟨hq, _⟩
  obtain ⟨D, cD, rfl, ho, hb⟩ := hq HX.out
  clear hq
  have RB1 := Lib.hid (RB0.out.b hb)
  have HO := Lib.hid ho
  clear ho hb RB0 R0
  obtain ⟨hr4, d0, d1⟩ := RB1.out.box
  obtain ⟨f0, f1⟩ := RB1.out.free
  go_wp2_with fail
  refine bodyPost_ret (v := .tuple #[.agg #[.int .i64 (catS (gamS X) n : Nat), .slice D ((catS (gamS X) n + 15) / 16) cD], .bool true]) (by simp [results, Try.results18, go_sem, d0, d1]) rfl ?_
  exact ⟨D, cD, rfl, ((HO.out.setAt (by simp) _).setAt (by simp) _).low (by simp), below_setAt (below_setAt RB1.out.below (by omega) _) (by omega) _⟩

set_option maxRecDepth 100000 in
set_option maxHeartbeats 2000000 in
theorem impl_encGamma_no (A : Option Addr) (n c : Nat) (X : Nat → Int) (w : World) (hr : IRow w A n X) (h : ¬ (n ≤ 60 ∧ InAll n X 1 100000)) :
    Calls Try.prog 18 #[.slice A n c] w (OwnIs 0 0 (fun _ => 0) false w) := by
  have HX := Lib.hid h
  have RB0 := Lib.hid (show RB w w.heap.size (w.alloc (.cells #[.int .i64 0, .slice none 0 0] 27)) from ⟨(Below.refl _ _).alloc (Nat.le_refl _) _, Box.new w 0 none 0 0 _, free_new w _ _⟩)
  have R0 := Lib.hid (hr.b ((Below.refl w.heap.size w).alloc (Nat.le_refl _) (.cells #[.int .i64 0, .slice none 0 0] 27)))
  clear hr h
  have HC := Lib.hid (show ∀ W, IRow W A n X → Calls Try.prog 48 #[.slice A n c, .func (.func 44) #[] #[]] W (OwnIs 0 0 (fun _ => 0) false W) from fun W hw => by
    by_cases h60 : n ≤ 60
    · exact (encGamma_list A n c X W h60 hw).mono fun e w' h => h.2 (fun hh => HX.out ⟨h60, hh⟩)
    · exact impl_encodeList_long _ A n c W (by omega))
  go_enter Try.func18, Try.ntmps18
  go_wp2_with fail
  refine (HC.out _ R0.out).mono ?_; rintro e w1 ⟨D, cD, rfl, ho, hb⟩
  have RB1 := Lib.hid (RB0.out.b hb)
  have HO := Lib.hid ho
  clear ho hb RB0 R0
  obtain ⟨hr4, d0, d1⟩ := RB1.out.box
  obtain ⟨f0, f1⟩ := RB1.out.free
  go_wp2_with fail
  refine bodyPost_ret (v := .tuple #[.agg #[.int .i64 0, .slice D 0 cD], .bool false]) (by simp [results, Try.results18, go_sem, d0, d1]) rfl ?_
  exact ⟨D, cD, rfl, ((HO.out.setAt (by simp) _).setAt (by simp) _).low (by simp), below_setAt (below_setAt RB1.out.below (by omega) _) (by omega) _⟩

theorem encDelta_list (A : Option Addr) (n c : Nat) (X : Nat → Int) (W : World) (h60 : n ≤ 60) (hr : IRow W A n X) :
    Calls Try.prog 48 #[.slice A n c, .func (.func 45) #[] #[]] W fun e w' => (InAll n X 1 100000 → OwnIs (catS (delS X) n) ((catS (delS X) n + 15) / 16) (fun i => (wordsOf (catB (delS X) (delF X) n) i : Int)) true W e w') ∧ (¬ InAll n X 1 100000 → OwnIs 0 0 (fun _ => 0) false W e w') :=
  impl_encodeList 45 (enters_of Try.func45 (by kernel_rfl) rfl) A n c X (delS X) (delF X) W h60 hr (fun i h w => del_code h w) (fun i h w => impl_deltaCode_no (X i) w h) (fun h => by
    have := catS_le (sz := delS X) n (fun i hi => delS_le (h i hi)); omega) (fun k i hi => delF_off hi)
set_option maxRecDepth 100000 in
set_option maxHeartbeats 2000000 in
theorem impl_encDelta (A : Option Addr) (n c m : Nat) (X : Nat → Int) (w : World) (hr : IRow w A n X) (h60 : n ≤ 60) (h : InAll n X 1 100000) (hm : m = (catS (delS X) n + 15) / 16) :
    Calls Try.prog 30 #[.slice A n c] w (OwnIs (catS (delS X) n) m (fun i => (wordsOf (catB (delS X) (delF X) n) i : Int)) true w) := by
  subst hm
  have HX := Lib.hid h
  have RB0 := Lib.hid (show RB w w.heap.size (w.alloc (.cells #[.int .i64 0, .slice none 0 0] 27)) from ⟨(Below.refl _ _).alloc (Nat.le_refl _) _, Box.new w 0 none 0 0 _, free_new w _ _⟩)
  have R0 := Lib.hid (hr.b ((Below.refl w.heap.size w).alloc (Nat.le_refl _) (.cells #[.int .i64 0, .slice none 0 0] 27)))
  clear hr h
  go_enter Try.func30, Try.ntmps30
  go_wp2_with fail
  refine (encDelta_list A n c X _ h60 R0.out).mono ?_; rintro e w1 ⟨hq, _⟩
  obtain ⟨D, cD, rfl, ho, hb⟩ := hq HX.out
  clear hq
  have RB1 := Lib.hid (RB0.out.b hb)
  have HO := Lib.hid ho
  clear ho hb RB0 R0
  obtain ⟨hr4, d0, d1⟩ := RB1.out.box
  obtain ⟨f0, f1⟩ := RB1.out.free
  go_wp2_with fail
  refine bodyPost_ret (v := .tuple #[.agg #[.int .i64 (catS (delS X) n : Nat), .slice D ((catS (delS X) n + 15) / 16) cD], .bool true]) (by simp [results, Try.results30, go_sem, d0, d1]) rfl ?_
  exact ⟨D, cD, rfl, ((HO.out.setAt (by simp) _).setAt (by simp) _).low (by simp), below_setAt (below_setAt RB1.out.below (by omega) _) (by omega) _⟩

set_option maxRecDepth 100000 in
set_option maxHeartbeats 2000000 in
theorem impl_encDelta_no (A : Option Addr) (n c : Nat) (X : Nat → Int) (w : World) (hr : IRow w A n X) (h : ¬ (n ≤ 60 ∧ InAll n X 1 100000)) :
    Calls Try.prog 30 #[.slice A n c] w (OwnIs 0 0 (fun _ => 0) false w) := by
  have HX := Lib.hid h
  have RB0 := Lib.hid (show RB w w.heap.size (w.alloc (.cells #[.int .i64 0, .slice none 0 0] 27)) from ⟨(Below.refl _ _).alloc (Nat.le_refl _) _, Box.new w 0 none 0 0 _, free_new w _ _⟩)
  have R0 := Lib.hid (hr.b ((Below.refl w.heap.size w).alloc (Nat.le_refl _) (.cells #[.int .i64 0, .slice none 0 0] 27)))
  clear hr h
  have HC := Lib.hid (show ∀ W, IRow W A n X → Calls Try.prog 48 #[.slice A n c, .func (.func 45) #[] #[]] W (OwnIs 0 0 (fun _ => 0) false W) from fun W hw => by
    by_cases h60 : n ≤ 60
    · exact (encDelta_list A n c X W h60 hw).mono fun e w' h => h.2 (fun hh => HX.out ⟨h60, hh⟩)
    · exact impl_encodeList_long _ A n c W (by omega))
  go_enter Try.func30, Try.ntmps30
  go_wp2_with fail
  refine (HC.out _ R0.out).mono ?_; rintro e w1 ⟨D, cD, rfl, ho, hb⟩
  have RB1 := Lib.hid (RB0.out.b hb)
  have HO := Lib.hid ho
  clear ho hb RB0 R0
  obtain ⟨hr4, d0, d1⟩ := RB1.out.box
  obtain ⟨f0, f1⟩ := RB1.out.free
  go_wp2_with fail
  refine bodyPost_ret (v := .tuple #[.agg #[.int .i64 0, .slice D 0 cD], .bool false]) (by simp [results, Try.results30, go_sem, d0, d1]) rfl ?_
  exact ⟨D, cD, rfl, ((HO.out.setAt (by simp) _).setAt (by simp) _).low (by simp), below_setAt (below_setAt RB1.out.below (by omega) _) (by omega) _⟩
end Go.Proofs.Ytdkkflejpcgipab
