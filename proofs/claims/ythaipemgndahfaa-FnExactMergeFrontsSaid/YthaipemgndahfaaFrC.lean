/- The front of keys: BuildFront, both sides. -/
import Derived.Test.YthaipemgndahfaaFrB
namespace Go.Proofs.Ythaipemgndahfaa
open Go.RowKit

section
variable {A : Option Addr} {n c : Nat} {S : Nat → ByteArray} {w : World}
theorem FrVal.own {z n : Nat} {S : Nat → ByteArray} {w w' : World} {e : Ending} (h : FrVal z n S w e w') : FrVal z n S w e w' := h
set_option maxRecDepth 100000 in
set_option maxHeartbeats 2000000 in
theorem spec_buildFront (z : Nat) (hk : keysB S n = true) (hz : 1 ≤ z ∧ z ≤ 16) (hs : ∀ i, i < n → (S i).size ≤ 1048576) (hr : GRow w A n (strV S)) :
    Calls Try.prog 12 #[.slice A n c, .int .i64 z] w (FrIs z n S w) := by
  have hn := keysB_size hk
  have HS := Lib.hid hs
  have hal := Lib.hid ((Below.refl w.heap.size w).alloc (Nat.le_refl _) (.cells #[.int .i64 0, .slice none 0 0, .slice none 0 0] 26))
  have N1 := Lib.hid (nbx0 w #[.int .i64 0, .slice none 0 0, .slice none 0 0] 26)
  have HK := Lib.hid (hr.b hal.out)
  clear hr hs
  go_enter Try.func12, Try.ntmps12
  go_wp2_with fail
  refine (spec_biKeys A n c S _ (by omega) (fun i hi => by have := HS.out i hi; unfold maxLen; omega) HK.out).mono ?_; rintro e w1 ⟨rfl, rfl⟩
  rw [hk]
  go_wp2_with fail
  refine (l1In_yes _ _ _ _ (by omega) (by omega)).mono ?_; rintro e w1 ⟨rfl, rfl⟩
  go_wp2_with fail
  refine (spec_trFront z hz (by omega) HS.out HK.out).mono ?_; rintro e w2 ⟨A1, c1, B1, d1, rfl, o1, o2, ha, hb⟩
  have HB := Lib.hid (hal.out.trans (hb.mono (by simp)))
  have N2 := Lib.hid (N1.out.b hb)
  have y0 := N2.out.cell 0 _ rfl
  have y1 := N2.out.cell 1 _ rfl
  have y2 := N2.out.cell 2 _ rfl
  have f0 := N2.out.free 0
  have f1 := N2.out.free 1
  have f2 := N2.out.free 2
  have HA := Lib.hid ha
  have O1 := Lib.hid (((o1.overNew.setC (Nat.le_refl _) 0 (.int .i64 z)).setC (Nat.le_refl _) 1 (.slice A1 n c1)).setC (Nat.le_refl _) 2 (.slice B1 n d1))
  have O2 := Lib.hid (((o2.overNew.setC (Nat.le_refl _) 0 (.int .i64 z)).setC (Nat.le_refl _) 1 (.slice A1 n c1)).setC (Nat.le_refl _) 2 (.slice B1 n d1))
  clear o1 o2 ha hb
  go_wp2_with fail
  refine bodyPost_ret (v := .tuple #[.agg #[.int .i64 z, .slice A1 n c1, .slice B1 n d1], .bool true]) (by simp [results, Try.results12, go_sem, y0, y1, y2]) rfl ?_
  exact ⟨A1, c1, B1, d1, rfl, O1.out.now.mono (by omega) O1.out.top, O2.out.now.mono (by omega) O2.out.top, HA.out, below_setAt (below_setAt (below_setAt HB.out (by omega) _) (by omega) _) (by omega) _⟩
set_option maxRecDepth 100000 in
set_option maxHeartbeats 2000000 in
theorem spec_buildFront_no (z : Int) (h : ¬ (keysB S n = true ∧ 1 ≤ z ∧ z ≤ 16)) (hn : n ≤ 1048576) (hs : ∀ i, i < n → (S i).size ≤ maxLen) (hr : GRow w A n (strV S)) :
    Calls Try.prog 12 #[.slice A n c, .int .i64 z] w (NoFr w) := by
  have HB := Lib.hid ((Below.refl w.heap.size w).alloc (Nat.le_refl _) (.cells #[.int .i64 0, .slice none 0 0, .slice none 0 0] 26))
  have HK := Lib.hid (hr.b HB.out)
  clear hr
  cases hk : keysB S n with
  | false =>
    go_enter Try.func12, Try.ntmps12
    go_wp2_with fail
    refine (spec_biKeys A n c S _ hn hs HK.out).mono ?_; rintro e w1 ⟨rfl, rfl⟩
    rw [hk]
    go_wp2_with fail
    refine bodyPost_ret (v := .tuple #[.agg #[.int .i64 0, .slice none 0 0, .slice none 0 0], .bool false]) (by simp [results, Try.results12, go_sem]) rfl ?_
    exact ⟨rfl, HB.out⟩
  | true =>
    have hz : ¬ (1 ≤ z ∧ z ≤ 16) := fun h2 => h ⟨hk, h2⟩
    go_enter Try.func12, Try.ntmps12
    go_wp2_with fail
    refine (spec_biKeys A n c S _ hn hs HK.out).mono ?_; rintro e w1 ⟨rfl, rfl⟩
    rw [hk]
    go_wp2_with fail
    refine (l1In_no _ _ _ _ hz).mono ?_; rintro e w1 ⟨rfl, rfl⟩
    go_wp2_with fail
    refine bodyPost_ret (v := .tuple #[.agg #[.int .i64 0, .slice none 0 0, .slice none 0 0], .bool false]) (by simp [results, Try.results12, go_sem]) rfl ?_
    exact ⟨rfl, HB.out⟩
set_option maxRecDepth 100000 in
set_option maxHeartbeats 2000000 in
theorem impl_buildFront_no (z : Int) (h : ¬ (keysB S n = true ∧ 1 ≤ z ∧ z ≤ 16)) (hn : n ≤ 1048576) (hs : ∀ i, i < n → (S i).size ≤ maxLen) (hr : GRow w A n (strV S)) :
    Calls Try.prog 14 #[.slice A n c, .int .i64 z] w (NoFr w) := by
  have HB := Lib.hid ((Below.refl w.heap.size w).alloc (Nat.le_refl _) (.cells #[.int .i64 0, .slice none 0 0, .slice none 0 0] 26))
  have HK := Lib.hid (hr.b HB.out)
  clear hr
  cases hk : keysB S n with
  | false =>
    go_enter Try.func14, Try.ntmps14
    go_wp2_with fail
    refine (impl_areKeys A n c S _ hn hs HK.out).mono ?_; rintro e w1 ⟨rfl, rfl⟩
    rw [hk]
    go_wp2_with fail
    refine bodyPost_ret (v := .tuple #[.agg #[.int .i64 0, .slice none 0 0, .slice none 0 0], .bool false]) (by simp [results, Try.results14, go_sem]) rfl ?_
    exact ⟨rfl, HB.out⟩
  | true =>
    have hz : z < 1 ∨ 16 < z := by
      by_cases h2 : z < 1
      · exact .inl h2
      · by_cases h3 : 16 < z
        · exact .inr h3
        · exact absurd ⟨hk, by omega, by omega⟩ h
    rcases hz with h1 | h1
    · go_enter Try.func14, Try.ntmps14
      go_wp2_with fail
      refine (impl_areKeys A n c S _ hn hs HK.out).mono ?_; rintro e w1 ⟨rfl, rfl⟩
      rw [hk]
      go_wp2_with fail
      refine bodyPost_ret (v := .tuple #[.agg #[.int .i64 0, .slice none 0 0, .slice none 0 0], .bool false]) (by simp [results, Try.results14, go_sem]) rfl ?_
      exact ⟨rfl, HB.out⟩
    · have h2 : decide (z < 1) = false := by simp; omega
      go_enter Try.func14, Try.ntmps14
      go_wp2_with fail
      refine (impl_areKeys A n c S _ hn hs HK.out).mono ?_; rintro e w1 ⟨rfl, rfl⟩
      rw [hk]
      go_wp2_with fail
      refine bodyPost_ret (v := .tuple #[.agg #[.int .i64 0, .slice none 0 0, .slice none 0 0], .bool false]) (by simp [results, Try.results14, go_sem]) rfl ?_
      exact ⟨rfl, HB.out⟩
end
/-- A front that the program makes: the answer's box, its own box, its two rows. -/
structure FW (w : World) (q a b : Nat) (z : Int) (n : Nat) (K : Nat → Int) (T : Nat → ByteArray) (wr : World) : Prop where
  below : Below w.heap.size w wr
  res : NBX w.heap.size w.heap.size #[.int .i64 0, .slice none 0 0, .slice none 0 0] 26 wr
  box : NBX w.heap.size q #[.int .i64 z, .slice (some ⟨a, 0, none⟩) n n, .slice (some ⟨b, 0, none⟩) n n] 26 wr
  own1 : GOwn wr 3 a n (intV K)
  own2 : GOwn wr 9 b n (strV T)
  far : w.heap.size < q ∧ w.heap.size < a ∧ w.heap.size < b ∧ q ≠ a ∧ q ≠ b ∧ a ≠ b
theorem four_blk (w : World) (o0 o1 o2 o3 : Obj) : ((((w.alloc o0).alloc o1).alloc o2).alloc o3).drew.heap[w.heap.size]? = some o0 ∧ ((((w.alloc o0).alloc o1).alloc o2).alloc o3).drew.heap[w.heap.size + 1]? = some o1 ∧ ((((w.alloc o0).alloc o1).alloc o2).alloc o3).drew.heap[w.heap.size + 1 + 1]? = some o2 ∧ ((((w.alloc o0).alloc o1).alloc o2).alloc o3).drew.heap[w.heap.size + 1 + 1 + 1]? = some o3 ∧ Below w.heap.size w ((((w.alloc o0).alloc o1).alloc o2).alloc o3).drew := by
  refine ⟨?_, ?_, ?_, ?_, Below.drew (((((Below.refl _ _).alloc (Nat.le_refl _) _).alloc (by simp) _).alloc (by simp; try omega) _).alloc (by simp; try omega) _)⟩
  · show ((((w.alloc o0).alloc o1).alloc o2).alloc o3).heap[w.heap.size]? = some o0
    rw [Go.Deep.blk_alloc_lt _ _ _ (by simp; try omega), Go.Deep.blk_alloc_lt _ _ _ (by simp; try omega), Go.Deep.blk_alloc_lt _ _ _ (by simp)]
    exact Go.Deep.blk_alloc_new _ _
  · show ((((w.alloc o0).alloc o1).alloc o2).alloc o3).heap[w.heap.size + 1]? = some o1
    rw [Go.Deep.blk_alloc_lt _ _ _ (by simp; try omega), Go.Deep.blk_alloc_lt _ _ _ (by simp)]
    have := Go.Deep.blk_alloc_new (w.alloc o0) o1
    rwa [World.size_alloc] at this
  · show ((((w.alloc o0).alloc o1).alloc o2).alloc o3).heap[w.heap.size + 1 + 1]? = some o2
    rw [Go.Deep.blk_alloc_lt _ _ _ (by simp)]
    have := Go.Deep.blk_alloc_new ((w.alloc o0).alloc o1) o2
    rwa [World.size_alloc, World.size_alloc] at this
  · have := Go.Deep.blk_alloc_new (((w.alloc o0).alloc o1).alloc o2) o3
    rwa [World.size_alloc, World.size_alloc, World.size_alloc] at this
theorem made_blk {w : World} {t : TypeId} {z : Value} {n g : Nat} (h : w.heap[g]? = some (.cells (madeCells #[z] n) t (0, 0))) : GOwn w t g n (fun _ => z) := ⟨_, h, by simp [madeCells], fun i hi => by simp [madeCells, hi, Nat.mod_one]⟩
theorem FW.of {w wx : World} {q a b : Nat} {z : Int} {n : Nat} (hb : Below w.heap.size w wx) (h0 : wx.heap[w.heap.size]? = some (.cells #[.int .i64 0, .slice none 0 0, .slice none 0 0] 26 (0, 0))) (h1 : wx.heap[q]? = some (.cells #[.int .i64 z, .slice (some ⟨a, 0, none⟩) n n, .slice (some ⟨b, 0, none⟩) n n] 26 (0, 0)))
    (h2 : wx.heap[a]? = some (.cells (madeCells #[.int .i64 0] n) 3 (0, 0))) (h3 : wx.heap[b]? = some (.cells (madeCells #[.string ByteArray.empty] n) 9 (0, 0))) (hf : w.heap.size < q ∧ w.heap.size < a ∧ w.heap.size < b ∧ q ≠ a ∧ q ≠ b ∧ a ≠ b) : FW w q a b z n (fun _ => 0) (fun _ => ByteArray.empty) wx :=
  ⟨hb, ⟨h0, Nat.le_refl _⟩, ⟨h1, by omega⟩, made_blk h2, made_blk h3, hf⟩
theorem FW.seen {w wr wj : World} {q a b : Nat} {z : Int} {n : Nat} {K : Nat → Int} {T : Nat → ByteArray} (h : FW w q a b z n K T wr) (hb : Below wr.heap.size wr wj) : FW w q a b z n K T wj := ⟨h.below.trans (hb.mono h.below.size), h.res.b hb, h.box.b hb, h.own1.b hb, h.own2.b hb, h.far⟩
theorem FW.set1 {w wr : World} {q a b : Nat} {z : Int} {n : Nat} {K : Nat → Int} {T : Nat → ByteArray} (h : FW w q a b z n K T wr) (i : Nat) (x : Int) : FW w q a b z n (fun j => if j = i then x else K j) T (wr.setCell ⟨a, i, none⟩ (.int .i64 x)) := by
  obtain ⟨f1, f2, f3, f4, f5, f6⟩ := h.far
  exact ⟨below_setAt h.below (by omega) _, ⟨(Go.Deep.blk_setCell_other _ _ _ _ (by show w.heap.size ≠ a; omega)).trans h.res.blk, h.res.ge⟩, ⟨(Go.Deep.blk_setCell_other _ _ _ _ (by show q ≠ a; omega)).trans h.box.blk, h.box.ge⟩, (h.own1.set i (.int .i64 x)).congr (fun j _ => by unfold intV; by_cases e : j = i <;> simp [e]), h.own2.setAt (by omega) _, h.far⟩
theorem FW.set2 {w wr : World} {q a b : Nat} {z : Int} {n : Nat} {K : Nat → Int} {T : Nat → ByteArray} (h : FW w q a b z n K T wr) (i : Nat) (x : ByteArray) : FW w q a b z n K (fun j => if j = i then x else T j) (wr.setCell ⟨b, i, none⟩ (.string x)) := by
  obtain ⟨f1, f2, f3, f4, f5, f6⟩ := h.far
  exact ⟨below_setAt h.below (by omega) _, ⟨(Go.Deep.blk_setCell_other _ _ _ _ (by show w.heap.size ≠ b; omega)).trans h.res.blk, h.res.ge⟩, ⟨(Go.Deep.blk_setCell_other _ _ _ _ (by show q ≠ b; omega)).trans h.box.blk, h.box.ge⟩, h.own1.setAt (by omega) _, (h.own2.set i (.string x)).congr (fun j _ => by unfold strV; by_cases e : j = i <;> simp [e]), h.far⟩
/-- The first k values. -/
def upto (k : Nat) (K : Nat → Int) (j : Nat) : Int := if j < k then K j else 0
def uptoS (k : Nat) (T : Nat → ByteArray) (j : Nat) : ByteArray := if j < k then T j else ByteArray.empty
theorem upto_step (k : Nat) (K : Nat → Int) (x : Int) (h : K k = x) : (fun j => if j = k then x else upto k K j) = upto (k + 1) K := by
  funext j; unfold upto
  by_cases e : j = k
  · subst e; rw [if_pos rfl, if_pos (by omega), h]
  · rw [if_neg e]; by_cases e2 : j < k
    · rw [if_pos e2, if_pos (by omega)]
    · rw [if_neg e2, if_neg (by omega)]
theorem upto_zero (k : Nat) (K : Nat → Int) (h : K k = 0) : upto k K = upto (k + 1) K := by
  rw [← upto_step k K 0 h]
  funext j
  by_cases e : j = k
  · subst e; rw [if_pos rfl]; unfold upto; rw [if_neg (by omega)]
  · rw [if_neg e]
theorem uptoS_step (k : Nat) (T : Nat → ByteArray) (x : ByteArray) (h : T k = x) : (fun j => if j = k then x else uptoS k T j) = uptoS (k + 1) T := by
  funext j; unfold uptoS
  by_cases e : j = k
  · subst e; rw [if_pos rfl, if_pos (by omega), h]
  · rw [if_neg e]; by_cases e2 : j < k
    · rw [if_pos e2, if_pos (by omega)]
    · rw [if_neg e2, if_neg (by omega)]
section
variable {A : Option Addr} {n c : Nat} {S : Nat → ByteArray} {w : World}
set_option maxRecDepth 100000 in
set_option maxHeartbeats 2000000 in
theorem impl_buildFront (z : Nat) (hk : keysB S n = true) (hz : 1 ≤ z ∧ z ≤ 16) (hs : ∀ i, i < n → (S i).size ≤ 1048576) (hr : GRow w A n (strV S)) :
    Calls Try.prog 14 #[.slice A n c, .int .i64 z] w (FrIs z n S w) := by
  have hn := keysB_size hk
  have HS := Lib.hid hs
  have hal := Lib.hid ((Below.refl w.heap.size w).alloc (Nat.le_refl _) (.cells #[.int .i64 0, .slice none 0 0, .slice none 0 0] 26))
  have N1 := Lib.hid (nbx0 w #[.int .i64 0, .slice none 0 0, .slice none 0 0] 26)
  have HK := Lib.hid (hr.b hal.out)
  have HR := Lib.hid hr
  have h1 : decide ((z : Int) < 1) = false := by simp; omega
  have h1' : decide (z < 1) = false := by simp; omega
  have h2 : decide ((16 : Int) < (z : Int)) = false := by simp; omega
  have hmk1 := fun W => run_make_row' (P := Try.prog) 24 3 (.int .i64 0) 8 Try.underlying24 infoI rfl .i64 .i64 n (by omega) (by omega) W
  have hmk2 := fun W => run_make_row' (P := Try.prog) 22 9 (.string ByteArray.empty) 16 Try.underlying22 infoS rfl .i64 .i64 n (by omega) (by omega) W
  clear hr hs
  go_enter Try.func14, Try.ntmps14
  go_wp2_with fail
  refine (impl_areKeys A n c S _ (by omega) (fun i hi => by have := HS.out i hi; unfold maxLen; omega) HK.out).mono ?_; rintro e w1 ⟨rfl, rfl⟩
  rw [hk]
  clear hk
  go_upto_region 3 with fail
  go_cut [6] (fun s6 wx => ∃ q a b, s6 = .pointer (some ⟨q, 0, none⟩) ∧ FW w q a b z n (fun _ => 0) (fun _ => ByteArray.empty) wx)
  case first =>
    go_region
    all_goals go_wp2_with fail
    all_goals go_meet
    all_goals first
      | exact ⟨_, _, _, rfl, FW.of (four_blk _ _ _ _ _).2.2.2.2 (four_blk _ _ _ _ _).1 (four_blk _ _ _ _ _).2.1 (four_blk _ _ _ _ _).2.2.1 (four_blk _ _ _ _ _).2.2.2.1 (by omega)⟩
      | exact ⟨_, _, _, rfl, FW.of (four_blk _ _ _ _ _).2.2.2.2 (four_blk _ _ _ _ _).1 (four_blk _ _ _ _ _).2.1 (four_blk _ _ _ _ _).2.2.2.1 (four_blk _ _ _ _ _).2.2.1 (by omega)⟩
      | exact ⟨_, _, _, rfl, FW.of (four_blk _ _ _ _ _).2.2.2.2 (four_blk _ _ _ _ _).1 (four_blk _ _ _ _ _).2.2.1 (four_blk _ _ _ _ _).2.1 (four_blk _ _ _ _ _).2.2.2.1 (by omega)⟩
      | exact ⟨_, _, _, rfl, FW.of (four_blk _ _ _ _ _).2.2.2.2 (four_blk _ _ _ _ _).1 (four_blk _ _ _ _ _).2.2.1 (four_blk _ _ _ _ _).2.2.2.1 (four_blk _ _ _ _ _).2.1 (by omega)⟩
      | exact ⟨_, _, _, rfl, FW.of (four_blk _ _ _ _ _).2.2.2.2 (four_blk _ _ _ _ _).1 (four_blk _ _ _ _ _).2.2.2.1 (four_blk _ _ _ _ _).2.1 (four_blk _ _ _ _ _).2.2.1 (by omega)⟩
      | exact ⟨_, _, _, rfl, FW.of (four_blk _ _ _ _ _).2.2.2.2 (four_blk _ _ _ _ _).1 (four_blk _ _ _ _ _).2.2.2.1 (four_blk _ _ _ _ _).2.2.1 (four_blk _ _ _ _ _).2.1 (by omega)⟩
  case rest =>
    obtain ⟨q, a, b, rfl, hw⟩ := hcut
    have P0 := Lib.hid (show FW w q a b z n (upto 0 (keepI z S)) (uptoS 0 (tailF z S)) wc from ⟨hw.below, hw.res, hw.box, hw.own1.congr (fun _ _ => rfl), hw.own2.congr (fun _ _ => rfl), hw.far⟩)
    clear hw
    go_wp2_with fail
    go_loopw [31] (fun i wr => ∃ k : Nat, k ≤ n ∧ i = .int .i64 k ∧ Hid (FW w q a b z n (upto k (keepI z S)) (uptoS k (tailF z S)) wr)) (fun i _ => n - (intOf i).toNat)
    case atStart => exact ⟨0, Nat.zero_le _, rfl, P0⟩
    case round =>
      obtain ⟨k, hk, rfl, HP⟩ := hrel
      obtain ⟨r1, r2, r3, r4, r5, r6⟩ := HP.out.far
      by_cases hlt : k < n
      · obtain ⟨kb, off, rfl, hbl, hcc⟩ := HR.out (by omega)
        have HCC := Lib.hid (show ∀ W, Below w.heap.size w W → ∀ i, i < n → W.cell? ⟨kb, off + i, none⟩ = some (.string (S i)) from fun W hW i hi => (hW.cell (p := ⟨kb, off + i, none⟩) hbl).trans (hcc i hi))
        have hx := HCC.out _ HP.out.below k hlt
        clear hcc
        have HSK := HS.out k hlt
        have HFT := Lib.hid (show ∀ v : Nat, keepN z S k = v → tailF z S k = (S k).extract v (S k).size from fun v hv => by unfold tailF; rw [hv])
        by_cases h0 : k % z = 0
        · have HE := Lib.hid (show keepN z S k = 0 by unfold keepN; rw [if_pos h0])
          have e3 : ((k : Int) % (z : Int) != 0) = false := by simp; omega
          have e4 : (k % z != 0) = false := by simp; omega
          have HK0 := Lib.hid (show upto k (keepI z S) k = 0 by unfold upto; rw [if_neg (by omega)])
          have b1 := HP.out.box.cell 1 _ rfl
          have b2 := HP.out.box.cell 2 _ rfl
          have y1 := HP.out.own1.cell hlt
          have y2 := HP.out.own2.cell hlt
          have t2 := HP.out.own2.frozen k
          unfold intV at y1
          rw [HK0.out] at y1
          clear h0
          go_wp2_with fail
          go_region
          have P1 := Lib.hid (show FW w q a b z n (upto (k + 1) (keepI z S)) (uptoS (k + 1) (tailF z S)) (wr.setCell ⟨b, k, none⟩ (.string (S k))) from by
            have h := HP.out.set2 k (S k)
            rwa [uptoS_step k (tailF z S) (S k) (by rw [HFT.out 0 HE.out]; simp), upto_zero k (keepI z S) (by unfold keepI; rw [HE.out]; rfl)] at h)
          go_wp2_with fail
          go_roundw
          case rel => exact ⟨k + 1, by omega, by go_num, Lib.hid (P1.out.seen (Below.drew (Below.refl _ _)))⟩
          case measure => simp [intOf]; omega
        · have HE := Lib.hid (show keepN z S k = cplB (S (k - 1)) (S k) by unfold keepN; rw [if_neg h0])
          have e3 : ((k : Int) % (z : Int) != 0) = true := by simp; omega
          have e4 : (k % z != 0) = true := by simp; omega
          have hk1 : 1 ≤ k := by
            rcases Nat.eq_zero_or_pos k with e | e
            · subst e; simp at h0
            · exact e
          have hxj := HCC.out _ HP.out.below (k - 1) (by omega)
          have hle := cplB_le (S (k - 1)) (S k)
          have HSJ := HS.out (k - 1) (by omega)
          obtain ⟨v, hv⟩ : ∃ v, v = cplB (S (k - 1)) (S k) := ⟨_, rfl⟩
          rw [← hv] at HE hle
          have HV := Lib.hid hv
          clear h0 hv
          have b1 := HP.out.box.cell 1 _ rfl
          have HKK := Lib.hid (show ∀ K T W, FW w q a b z n K T W → W.cell? ⟨q, 1, none⟩ = some (.slice (some ⟨a, 0, none⟩) n n) ∧ W.cell? ⟨kb, off + (k - 1), none⟩ = some (.string (S (k - 1))) from fun K T W hW => ⟨hW.box.cell 1 _ rfl, HCC.out _ hW.below (k - 1) (by omega)⟩)
          have e5 : IntKind.i64.wrap ((k : Int) - 1) = (k : Int) - 1 := IntWalk.i64_in _ (by omega)
          have q1 : (k : Int) - 1 < (n : Int) := by omega
          have q2 : 0 ≤ (k : Int) - 1 := by omega
          have q3 : (1 : Int) ≤ (k : Int) := by omega
          go_upto_region 8 with fail
          go_region_held3 (fun W => W.cell? ⟨q, 1, none⟩ = some (.slice (some ⟨a, 0, none⟩) n n) ∧ W.cell? ⟨kb, off + (k - 1), none⟩ = some (.string (S (k - 1))))
            (first | with_reducible exact HKK.out _ _ _ (HQ.out.set1 k ((cplB (S (k - 1)) (S k) : Nat) : Int)) | with_reducible exact HKK.out _ _ _ HQ.out | (go_keep; done))
            (first
              | (go_at_call 43; refine (impl_commonBytes _ _ _ (by unfold maxLen; omega) (by unfold maxLen; omega)).mono ?_; rintro e w9 ⟨rfl, hb9'⟩; have hb9 := of_drew hb9'; have HQ := Lib.hid (HP.out.seen hb9); have y1 := HQ.out.own1.cell hlt; have t1 := HQ.out.own1.frozen k; clear hb9'))
          rw [← HV.out]
          have P1 := Lib.hid (show FW w q a b z n (upto (k + 1) (keepI z S)) (uptoS k (tailF z S)) (w9.setCell ⟨a, k, none⟩ (.int .i64 (v : Int))) from by
            have h := HQ.out.set1 k (v : Int)
            rwa [upto_step k (keepI z S) v (by unfold keepI; rw [HE.out])] at h)
          clear y1 t1 b1 hx hxj
          have hx := HCC.out _ P1.out.below k hlt
          have HK0 := Lib.hid (show upto (k + 1) (keepI z S) k = v by unfold upto keepI; rw [if_pos (by omega), HE.out])
          have b1 := P1.out.box.cell 1 _ rfl
          have b2 := P1.out.box.cell 2 _ rfl
          have y1 := P1.out.own1.cell hlt
          have y2 := P1.out.own2.cell hlt
          have t2 := P1.out.own2.frozen k
          unfold intV at y1
          rw [HK0.out] at y1
          have P2 := Lib.hid (show FW w q a b z n (upto (k + 1) (keepI z S)) (uptoS (k + 1) (tailF z S)) ((w9.setCell ⟨a, k, none⟩ (.int .i64 (v : Int))).setCell ⟨b, k, none⟩ (.string ((S k).extract v (S k).size))) from by
            have h := P1.out.set2 k ((S k).extract v (S k).size)
            rwa [uptoS_step k (tailF z S) ((S k).extract v (S k).size) (HFT.out v HE.out)] at h)
          generalize w9.setCell ⟨a, k, none⟩ (.int .i64 (v : Int)) = w8 at *
          have hle2 : (v : Int) ≤ ((S k).size : Int) := by omega
          go_wp2_with fail
          go_region
          go_wp2_with fail
          go_roundw
          case rel => exact ⟨k + 1, by omega, by go_num, Lib.hid (P2.out.seen (Below.drew (Below.refl _ _)))⟩
          case measure => simp [intOf]; omega
      · obtain rfl : k = n := by omega
        have b0 := HP.out.box.cell 0 _ rfl
        have b1 := HP.out.box.cell 1 _ rfl
        have b2 := HP.out.box.cell 2 _ rfl
        have y0 := HP.out.res.cell 0 _ rfl
        have y1 := HP.out.res.cell 1 _ rfl
        have y2 := HP.out.res.cell 2 _ rfl
        have f0 := HP.out.res.free 0
        have f1 := HP.out.res.free 1
        have f2 := HP.out.res.free 2
        go_wp2_with fail
        refine bodyPost_ret (v := .tuple #[.agg #[.int .i64 z, .slice (some ⟨a, 0, none⟩) k k, .slice (some ⟨b, 0, none⟩) k k], .bool true]) (by simp [results, Try.results14, go_sem, y0, y1, y2]) rfl ?_
        have O1 := (((HP.out.own1.congr (G := intV (keepI z S)) (fun j hj => by unfold intV upto; rw [if_pos hj])).setAt (b := w.heap.size) (o := 0) (by omega) (.int .i64 z)).setAt (b := w.heap.size) (o := 1) (by omega) (.slice (some ⟨a, 0, none⟩) k k)).setAt (b := w.heap.size) (o := 2) (by omega) (.slice (some ⟨b, 0, none⟩) k k)
        have O2 := (((HP.out.own2.congr (G := strV (tailF z S)) (fun j hj => by unfold strV uptoS; rw [if_pos hj])).setAt (b := w.heap.size) (o := 0) (by omega) (.int .i64 z)).setAt (b := w.heap.size) (o := 1) (by omega) (.slice (some ⟨a, 0, none⟩) k k)).setAt (b := w.heap.size) (o := 2) (by omega) (.slice (some ⟨b, 0, none⟩) k k)
        have W1 := ow_of_own (lo := w.heap.size) O1 (by omega) (Nat.le_refl k)
        have W2 := ow_of_own (lo := w.heap.size) O2 (by omega) (Nat.le_refl k)
        exact ⟨_, _, _, _, rfl, W1, W2, apart_ty W1 W2 (by decide), below_setAt (below_setAt (below_setAt HP.out.below (by omega) _) (by omega) _) (by omega) _⟩
end
theorem FrIs.row {z n : Nat} {S : Nat → ByteArray} {w w' : World} {e : Ending} (h : FrIs z n S w e w') : ∃ A c B d, e = .returned (.tuple #[.agg #[.int .i64 z, .slice A n c, .slice B n d], .bool true]) ∧ GRow w' A n (intV (keepI z S)) ∧ GRow w' B n (strV (tailF z S)) ∧ Below w.heap.size w w' := by
  obtain ⟨A, c, B, d, he, o1, o2, _, hb⟩ := h
  exact ⟨A, c, B, d, he, o1.rd.row (Nat.le_refl _), o2.rd.row (Nat.le_refl _), hb⟩
theorem NoFr.row {w w' : World} {e : Ending} (h : NoFr w e w') : ∃ A c B d, e = .returned (.tuple #[.agg #[.int .i64 0, .slice A 0 c, .slice B 0 d], .bool false]) ∧ GRow w' A 0 (intV fun _ => 0) ∧ GRow w' B 0 (strV fun _ => ByteArray.empty) ∧ Below w.heap.size w w' :=
  ⟨none, 0, none, 0, h.1, GRow.zero, GRow.zero, h.2⟩
theorem NoFr.ow {w w' : World} {e : Ending} (h : NoFr w e w') : ∃ A c B d, e = .returned (.tuple #[.agg #[.int .i64 0, .slice A 0 c, .slice B 0 d], .bool false]) ∧ Ow w.heap.size w'.heap.size 3 A 0 (intV fun _ => 0) w' ∧ Ow w.heap.size w'.heap.size 9 B 0 (strV fun _ => ByteArray.empty) w' ∧ Apart 0 A 0 B ∧ Below w.heap.size w w' :=
  ⟨none, 0, none, 0, h.1, ow_zero _ _ _ _ _ _, ow_zero _ _ _ _ _ _, fun h => absurd h (Nat.lt_irrefl 0), h.2⟩
theorem sizeS_all {S : Nat → ByteArray} {n N : Nat} (h : n + sizeS S n ≤ N) : ∀ i, i < n → (S i).size ≤ N := fun i hi => by
  have := sizeS_le S (show i + 1 ≤ n by omega)
  simp only [sizeS] at this
  omega
end Go.Proofs.Ythaipemgndahfaa
