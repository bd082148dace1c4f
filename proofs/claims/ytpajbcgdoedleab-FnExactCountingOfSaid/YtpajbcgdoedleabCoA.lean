/- CountingAdd and CountingRemove: both sides. -/
import Derived.Test.YtpajbcgdoedleabCoB
namespace Go.Proofs.Ytpajbcgdoedleab
open Go.RowKit

/-- A counting filter among the answers, its counts one's own. -/
def CoAns (z0 z1 : Int) (n : Nat) (X : Nat → Int) (b : Bool) (w : World) (e : Ending) (w' : World) : Prop :=
  ∃ A c, e = .returned (.tuple #[.agg #[.int .i64 z0, .int .i64 z1, .slice A n c], .bool b]) ∧ Ow w.heap.size w'.heap.size 3 A n (intV X) w' ∧ Below w.heap.size w w'
theorem CoAns.row {z0 z1 : Int} {n : Nat} {X : Nat → Int} {b : Bool} {w w' : World} {e : Ending} (h : CoAns z0 z1 n X b w e w') : ∃ A c, e = .returned (.tuple #[.agg #[.int .i64 z0, .int .i64 z1, .slice A n c], .bool b]) ∧ GRow w' A n (intV X) ∧ Below w.heap.size w w' := by
  obtain ⟨A, c, h1, h2, h3⟩ := h
  exact ⟨A, c, h1, (Ow.rd h2).row (Nat.le_refl _), h3⟩
theorem coAns_none {w w' : World} {e : Ending} (h : e = .returned (.tuple #[.agg #[.int .i64 0, .int .i64 0, .slice none 0 0], .bool false])) (hb : Below w.heap.size w w') : CoAns 0 0 0 (fun _ => 0) false w e w' := ⟨none, 0, h, ow_zero _ _ _ _ _ _, hb⟩
theorem coAns_own {z0 z1 : Int} {n g cc : Nat} {X : Nat → Int} {w w' : World} {e : Ending} (he : e = .returned (.tuple #[.agg #[.int .i64 z0, .int .i64 z1, .slice (some ⟨g, 0, none⟩) n cc], .bool true])) (hg : w.heap.size ≤ g) (ho : ORow w' g n X) (hb : Below w.heap.size w w') : CoAns z0 z1 n X true w e w' := ⟨_, _, he, ow_orow ho hg, hb⟩
theorem hasP_same {F G : Nat → Bool} {P : Nat → Nat} : ∀ m, (∀ j, j < m → F (P j) = G (P j)) → hasP F P m = hasP G P m
  | 0, _ => rfl
  | m + 1, h => by rw [hasP, hasP, hasP_same m (fun j hj => h j (by omega)), h m (by omega)]
theorem co_of_words {z n : Nat} {f : Nat → Bool} (hz : z ≤ 4096) (hn : n = (z + 15) / 16) (hf : ∀ i, z ≤ i → f i = false) : Good z n (fun k => (wordsOf f k : Int)) := by
  refine ⟨by omega, by omega, by omega, fun i hi => ⟨Int.natCast_nonneg _, ?_⟩⟩
  have h : wordsOf f i < 2 ^ (min 16 (z - 16 * i)) := by
    apply Nat.lt_pow_two_of_testBit
    intro j hj
    rw [wordsOf, ofB_bit]
    by_cases c : j < 16
    · rw [hf (16 * i + j) (by omega)]; simp
    · simp [c]
  unfold cap
  rw [show (z : Int).toNat = z from rfl]
  have e : ((2 ^ (min 16 (z - 16 * i)) : Nat) : Int) = (2 : Int) ^ (min 16 (z - 16 * i)) := by push_cast; rfl
  rw [← e]
  show ((wordsOf f i : Nat) : Int) < _
  omega
theorem bit_co (f : Nat → Bool) (k : Nat) : bitX (fun i => (wordsOf f i : Int)) k = f k := by
  unfold bitX bitN wordsOf
  simp only [Int.toNat_natCast]
  rw [ofB_bit, show 16 * (k / 16) + k % 16 = k by omega]
  have : k % 16 < 16 := by omega
  simp [this]
theorem fb_has {z0 : Int} {n p : Nat} {X : Nat → Int} {s : ByteArray} (hn : 1 ≤ n) : hasP (bitX (fun i => (wordsOf (fbF n X) i : Int))) (prN z0 s n) p = hasP (posX X) (prN z0 s n) p :=
  hasP_same p (fun j _ => by
    rw [bit_co]
    unfold fbF
    rw [decide_eq_true (prI_nat z0 s (z := n) hn j).2, Bool.true_and])
section
variable {z0 z1 : Int} {p : Nat} {A : Option Addr} {n c : Nat} {X : Nat → Int} {s : ByteArray} {w : World}
set_option maxRecDepth 100000 in
set_option maxHeartbeats 4000000 in
theorem spec_CountingAdd_no (h : ¬ (CoV z0 z1 n X ∧ isKeyB s.data.toList = true)) (hn : n ≤ 1048576) (hs : s.size ≤ maxLen) (hr : IRow w A n X) :
    Calls Try.prog 25 #[.agg #[.int .i64 z0, .int .i64 z1, .slice A n c], .string s] w (CoAns 0 0 0 (fun _ => 0) false w) := by
  have S0 := CoC.start (z0 := z0) (z1 := z1) (c := c) hr
  have hal := (Below.refl (w.alloc (.cells #[.int .i64 z0, .int .i64 z1, .slice A n c] 27)).heap.size (w.alloc (.cells #[.int .i64 z0, .int .i64 z1, .slice A n c] 27))).alloc (Nat.le_refl _) (.cells #[.int .i64 0, .int .i64 0, .slice none 0 0] 27)
  have S1 := Lib.hid (S0.step hal)
  have N1 := Lib.hid (nbx0 (w.alloc (.cells #[.int .i64 z0, .int .i64 z1, .slice A n c] 27)) #[.int .i64 0, .int .i64 0, .slice none 0 0] 27)
  rw [World.size_alloc] at N1
  clear hr hal S0
  have x0 := S1.out.box.cell 0 _ rfl
  have x1 := S1.out.box.cell 1 _ rfl
  have x2 := S1.out.box.cell 2 _ rfl
  go_enter Try.func25, Try.ntmps25
  by_cases hv : CoV z0 z1 n X
  · have hk : isKeyB s.data.toList = false := by
      cases e : isKeyB s.data.toList
      · rfl
      · exact absurd ⟨hv, e⟩ h
    go_wp2_with fail
    refine (spec_counting (b := true) (by simp [hv]) hn S1.out.row).mono ?_; rintro e w2 ⟨rfl, hw⟩
    have LB := Lib.hid (S1.out.step hw).below
    have N2 := N1.out.b hw
    have y0 := N2.cell 0 _ rfl
    have f0 := N2.free 0
    have y1 := N2.cell 1 _ rfl
    have f1 := N2.free 1
    have y2 := N2.cell 2 _ rfl
    have f2 := N2.free 2
    clear hw x0 x1 x2 N2
    go_wp2_with fail
    refine (spec_isKey _ _ hs).mono ?_; rintro e w3 ⟨rfl, rfl⟩
    rw [hk]
    go_wp2_with fail
    refine bodyPost_ret (v := .tuple #[.agg #[.int .i64 0, .int .i64 0, .slice none 0 0], .bool false]) (by simp [results, Try.results25, go_sem, y0, y1, y2]) rfl ?_
    exact coAns_none rfl (by first | exact LB.out | exact below_setAt (below_setAt (below_setAt (LB.out) (by omega) _) (by omega) _) (by omega) _)
  · go_wp2_with fail
    refine (spec_counting (b := false) (by simp [hv]) hn S1.out.row).mono ?_; rintro e w2 ⟨rfl, hw⟩
    have LB := Lib.hid (S1.out.step hw).below
    have N2 := N1.out.b hw
    have y0 := N2.cell 0 _ rfl
    have f0 := N2.free 0
    have y1 := N2.cell 1 _ rfl
    have f1 := N2.free 1
    have y2 := N2.cell 2 _ rfl
    have f2 := N2.free 2
    clear hw x0 x1 x2 N2
    go_wp2_with fail
    refine bodyPost_ret (v := .tuple #[.agg #[.int .i64 0, .int .i64 0, .slice none 0 0], .bool false]) (by simp [results, Try.results25, go_sem, y0, y1, y2]) rfl ?_
    exact coAns_none rfl (by first | exact LB.out | exact below_setAt (below_setAt (below_setAt (LB.out) (by omega) _) (by omega) _) (by omega) _)
set_option maxRecDepth 100000 in
set_option maxHeartbeats 4000000 in
theorem impl_CountingAdd_no (h : ¬ (CoV z0 z1 n X ∧ isKeyB s.data.toList = true)) (hn : n ≤ 1048576) (hs : s.size ≤ maxLen) (hr : IRow w A n X) :
    Calls Try.prog 26 #[.agg #[.int .i64 z0, .int .i64 z1, .slice A n c], .string s] w (CoAns 0 0 0 (fun _ => 0) false w) := by
  have S0 := CoC.start (z0 := z0) (z1 := z1) (c := c) hr
  have hal := (Below.refl (w.alloc (.cells #[.int .i64 z0, .int .i64 z1, .slice A n c] 27)).heap.size (w.alloc (.cells #[.int .i64 z0, .int .i64 z1, .slice A n c] 27))).alloc (Nat.le_refl _) (.cells #[.int .i64 0, .int .i64 0, .slice none 0 0] 27)
  have S1 := Lib.hid (S0.step hal)
  have N1 := Lib.hid (nbx0 (w.alloc (.cells #[.int .i64 z0, .int .i64 z1, .slice A n c] 27)) #[.int .i64 0, .int .i64 0, .slice none 0 0] 27)
  rw [World.size_alloc] at N1
  clear hr hal S0
  have x0 := S1.out.box.cell 0 _ rfl
  have x1 := S1.out.box.cell 1 _ rfl
  have x2 := S1.out.box.cell 2 _ rfl
  go_enter Try.func26, Try.ntmps26
  by_cases hv : CoV z0 z1 n X
  · have hk : isKeyB s.data.toList = false := by
      cases e : isKeyB s.data.toList
      · rfl
      · exact absurd ⟨hv, e⟩ h
    go_wp2_with fail
    refine (impl_counting (b := true) (by simp [hv]) hn S1.out.row).mono ?_; rintro e w2 ⟨rfl, hw⟩
    have LB := Lib.hid (S1.out.step hw).below
    have N2 := N1.out.b hw
    have y0 := N2.cell 0 _ rfl
    have f0 := N2.free 0
    have y1 := N2.cell 1 _ rfl
    have f1 := N2.free 1
    have y2 := N2.cell 2 _ rfl
    have f2 := N2.free 2
    clear hw x0 x1 x2 N2
    go_wp2_with fail
    refine (impl_isKey _ _ hs).mono ?_; rintro e w3 ⟨rfl, rfl⟩
    rw [hk]
    go_wp2_with fail
    refine bodyPost_ret (v := .tuple #[.agg #[.int .i64 0, .int .i64 0, .slice none 0 0], .bool false]) (by simp [results, Try.results26, go_sem, y0, y1, y2]) rfl ?_
    exact coAns_none rfl (by first | exact LB.out | exact below_setAt (below_setAt (below_setAt (LB.out) (by omega) _) (by omega) _) (by omega) _)
  · go_wp2_with fail
    refine (impl_counting (b := false) (by simp [hv]) hn S1.out.row).mono ?_; rintro e w2 ⟨rfl, hw⟩
    have LB := Lib.hid (S1.out.step hw).below
    have N2 := N1.out.b hw
    have y0 := N2.cell 0 _ rfl
    have f0 := N2.free 0
    have y1 := N2.cell 1 _ rfl
    have f1 := N2.free 1
    have y2 := N2.cell 2 _ rfl
    have f2 := N2.free 2
    clear hw x0 x1 x2 N2
    go_wp2_with fail
    refine bodyPost_ret (v := .tuple #[.agg #[.int .i64 0, .int .i64 0, .slice none 0 0], .bool false]) (by simp [results, Try.results26, go_sem, y0, y1, y2]) rfl ?_
    exact coAns_none rfl (by first | exact LB.out | exact below_setAt (below_setAt (below_setAt (LB.out) (by omega) _) (by omega) _) (by omega) _)
set_option maxRecDepth 100000 in
set_option maxHeartbeats 4000000 in
theorem spec_CountingRemove_no (h : ¬ (CoV z0 z1 n X ∧ isKeyB s.data.toList = true)) (hn : n ≤ 1048576) (hs : s.size ≤ maxLen) (hr : IRow w A n X) :
    Calls Try.prog 27 #[.agg #[.int .i64 z0, .int .i64 z1, .slice A n c], .string s] w (CoAns 0 0 0 (fun _ => 0) false w) := by
  have S0 := CoC.start (z0 := z0) (z1 := z1) (c := c) hr
  have hal := (Below.refl (w.alloc (.cells #[.int .i64 z0, .int .i64 z1, .slice A n c] 27)).heap.size (w.alloc (.cells #[.int .i64 z0, .int .i64 z1, .slice A n c] 27))).alloc (Nat.le_refl _) (.cells #[.int .i64 0, .int .i64 0, .slice none 0 0] 27)
  have S1 := Lib.hid (S0.step hal)
  have N1 := Lib.hid (nbx0 (w.alloc (.cells #[.int .i64 z0, .int .i64 z1, .slice A n c] 27)) #[.int .i64 0, .int .i64 0, .slice none 0 0] 27)
  rw [World.size_alloc] at N1
  clear hr hal S0
  have x0 := S1.out.box.cell 0 _ rfl
  have x1 := S1.out.box.cell 1 _ rfl
  have x2 := S1.out.box.cell 2 _ rfl
  go_enter Try.func27, Try.ntmps27
  by_cases hv : CoV z0 z1 n X
  · have hk : isKeyB s.data.toList = false := by
      cases e : isKeyB s.data.toList
      · rfl
      · exact absurd ⟨hv, e⟩ h
    go_wp2_with fail
    refine (spec_counting (b := true) (by simp [hv]) hn S1.out.row).mono ?_; rintro e w2 ⟨rfl, hw⟩
    have LB := Lib.hid (S1.out.step hw).below
    have N2 := N1.out.b hw
    have y0 := N2.cell 0 _ rfl
    have f0 := N2.free 0
    have y1 := N2.cell 1 _ rfl
    have f1 := N2.free 1
    have y2 := N2.cell 2 _ rfl
    have f2 := N2.free 2
    clear hw x0 x1 x2 N2
    go_wp2_with fail
    refine (spec_isKey _ _ hs).mono ?_; rintro e w3 ⟨rfl, rfl⟩
    rw [hk]
    go_wp2_with fail
    refine bodyPost_ret (v := .tuple #[.agg #[.int .i64 0, .int .i64 0, .slice none 0 0], .bool false]) (by simp [results, Try.results27, go_sem, y0, y1, y2]) rfl ?_
    exact coAns_none rfl (by first | exact LB.out | exact below_setAt (below_setAt (below_setAt (LB.out) (by omega) _) (by omega) _) (by omega) _)
  · go_wp2_with fail
    refine (spec_counting (b := false) (by simp [hv]) hn S1.out.row).mono ?_; rintro e w2 ⟨rfl, hw⟩
    have LB := Lib.hid (S1.out.step hw).below
    have N2 := N1.out.b hw
    have y0 := N2.cell 0 _ rfl
    have f0 := N2.free 0
    have y1 := N2.cell 1 _ rfl
    have f1 := N2.free 1
    have y2 := N2.cell 2 _ rfl
    have f2 := N2.free 2
    clear hw x0 x1 x2 N2
    go_wp2_with fail
    refine bodyPost_ret (v := .tuple #[.agg #[.int .i64 0, .int .i64 0, .slice none 0 0], .bool false]) (by simp [results, Try.results27, go_sem, y0, y1, y2]) rfl ?_
    exact coAns_none rfl (by first | exact LB.out | exact below_setAt (below_setAt (below_setAt (LB.out) (by omega) _) (by omega) _) (by omega) _)
set_option maxRecDepth 100000 in
set_option maxHeartbeats 4000000 in
theorem impl_CountingRemove_no (h : ¬ (CoV z0 z1 n X ∧ isKeyB s.data.toList = true)) (hn : n ≤ 1048576) (hs : s.size ≤ maxLen) (hr : IRow w A n X) :
    Calls Try.prog 28 #[.agg #[.int .i64 z0, .int .i64 z1, .slice A n c], .string s] w (CoAns 0 0 0 (fun _ => 0) false w) := by
  have S0 := CoC.start (z0 := z0) (z1 := z1) (c := c) hr
  have hal := (Below.refl (w.alloc (.cells #[.int .i64 z0, .int .i64 z1, .slice A n c] 27)).heap.size (w.alloc (.cells #[.int .i64 z0, .int .i64 z1, .slice A n c] 27))).alloc (Nat.le_refl _) (.cells #[.int .i64 0, .int .i64 0, .slice none 0 0] 27)
  have S1 := Lib.hid (S0.step hal)
  have N1 := Lib.hid (nbx0 (w.alloc (.cells #[.int .i64 z0, .int .i64 z1, .slice A n c] 27)) #[.int .i64 0, .int .i64 0, .slice none 0 0] 27)
  rw [World.size_alloc] at N1
  clear hr hal S0
  have x0 := S1.out.box.cell 0 _ rfl
  have x1 := S1.out.box.cell 1 _ rfl
  have x2 := S1.out.box.cell 2 _ rfl
  go_enter Try.func28, Try.ntmps28
  by_cases hv : CoV z0 z1 n X
  · have hk : isKeyB s.data.toList = false := by
      cases e : isKeyB s.data.toList
      · rfl
      · exact absurd ⟨hv, e⟩ h
    go_wp2_with fail
    refine (impl_counting (b := true) (by simp [hv]) hn S1.out.row).mono ?_; rintro e w2 ⟨rfl, hw⟩
    have LB := Lib.hid (S1.out.step hw).below
    have N2 := N1.out.b hw
    have y0 := N2.cell 0 _ rfl
    have f0 := N2.free 0
    have y1 := N2.cell 1 _ rfl
    have f1 := N2.free 1
    have y2 := N2.cell 2 _ rfl
    have f2 := N2.free 2
    clear hw x0 x1 x2 N2
    go_wp2_with fail
    refine (impl_isKey _ _ hs).mono ?_; rintro e w3 ⟨rfl, rfl⟩
    rw [hk]
    go_wp2_with fail
    refine bodyPost_ret (v := .tuple #[.agg #[.int .i64 0, .int .i64 0, .slice none 0 0], .bool false]) (by simp [results, Try.results28, go_sem, y0, y1, y2]) rfl ?_
    exact coAns_none rfl (by first | exact LB.out | exact below_setAt (below_setAt (below_setAt (LB.out) (by omega) _) (by omega) _) (by omega) _)
  · go_wp2_with fail
    refine (impl_counting (b := false) (by simp [hv]) hn S1.out.row).mono ?_; rintro e w2 ⟨rfl, hw⟩
    have LB := Lib.hid (S1.out.step hw).below
    have N2 := N1.out.b hw
    have y0 := N2.cell 0 _ rfl
    have f0 := N2.free 0
    have y1 := N2.cell 1 _ rfl
    have f1 := N2.free 1
    have y2 := N2.cell 2 _ rfl
    have f2 := N2.free 2
    clear hw x0 x1 x2 N2
    go_wp2_with fail
    refine bodyPost_ret (v := .tuple #[.agg #[.int .i64 0, .int .i64 0, .slice none 0 0], .bool false]) (by simp [results, Try.results28, go_sem, y0, y1, y2]) rfl ?_
    exact coAns_none rfl (by first | exact LB.out | exact below_setAt (below_setAt (below_setAt (LB.out) (by omega) _) (by omega) _) (by omega) _)
set_option maxRecDepth 100000 in
set_option maxHeartbeats 4000000 in
theorem spec_CountingAdd (h : fiB z0 p n = true) (hX : InAll n X 0 15) (hk : isKeyB s.data.toList = true) (hn : n ≤ 1048576) (hs : s.size ≤ maxLen) (hr : IRow w A n X) :
    Calls Try.prog 25 #[.agg #[.int .i64 z0, .int .i64 p, .slice A n c], .string s] w (CoAns z0 p n (cnF 1 X (prN z0 s n) p) true w) := by
  obtain ⟨h0, h1, h2⟩ := fiB_out h
  have S0 := CoC.start (z0 := z0) (z1 := p) (c := c) hr
  have hal := (Below.refl (w.alloc (.cells #[.int .i64 z0, .int .i64 p, .slice A n c] 27)).heap.size (w.alloc (.cells #[.int .i64 z0, .int .i64 p, .slice A n c] 27))).alloc (Nat.le_refl _) (.cells #[.int .i64 0, .int .i64 0, .slice none 0 0] 27)
  have S1 := Lib.hid (S0.step hal)
  have N1 := Lib.hid (nbx0 (w.alloc (.cells #[.int .i64 z0, .int .i64 p, .slice A n c] 27)) #[.int .i64 0, .int .i64 0, .slice none 0 0] 27)
  rw [World.size_alloc] at N1
  clear hr hal S0
  have x0 := S1.out.box.cell 0 _ rfl
  have x1 := S1.out.box.cell 1 _ rfl
  have x2 := S1.out.box.cell 2 _ rfl
  go_enter Try.func25, Try.ntmps25
  go_wp2_with fail
  refine (spec_counting (b := true) (by simp [CoV, h, hX]) hn S1.out.row).mono ?_; rintro e w2 ⟨rfl, hw⟩
  have S2 := Lib.hid (S1.out.step hw)
  have N2 := Lib.hid (N1.out.b hw)
  clear hw x0 x1 x2
  have x0 := S2.out.box.cell 0 _ rfl
  have x1 := S2.out.box.cell 1 _ rfl
  have x2 := S2.out.box.cell 2 _ rfl
  go_wp2_with fail
  refine (spec_isKey _ _ hs).mono ?_; rintro e w3 ⟨rfl, rfl⟩
  rw [hk]
  go_wp2_with fail
  refine (spec_fiCount (.inl rfl) h hX hs S2.out.row).mono ?_; rintro e w4 ⟨hy, _, hb⟩
  obtain ⟨g, cc, rfl, hgg, ho⟩ := hy (cn_ok1 hX p (fun j _ => (prI_nat z0 s (z := n) (by omega) j).2))
  have LB := Lib.hid (S2.out.step hb).below
  have hlt2 := N2.out.lt
  have hs2 := S2.out.below.size
  have N3 := N2.out.b hb
  have HO := Lib.hid ho
  have y0 := N3.cell 0 _ rfl
  have f0 := N3.free 0
  have y1 := N3.cell 1 _ rfl
  have f1 := N3.free 1
  have y2 := N3.cell 2 _ rfl
  have f2 := N3.free 2
  clear hb ho x0 x1 x2 N3 hy
  go_wp2_with fail
  refine bodyPost_ret (v := .tuple #[.agg #[.int .i64 z0, .int .i64 p, .slice (some ⟨g, 0, none⟩) n cc], .bool true]) (by simp [results, Try.results25, go_sem, y0, y1, y2]) rfl ?_
  exact coAns_own rfl (by omega) ((((HO.out).setAt (by omega) _).setAt (by omega) _).setAt (by omega) _) (below_setAt (below_setAt (below_setAt (LB.out) (by omega) _) (by omega) _) (by omega) _)
set_option maxRecDepth 100000 in
set_option maxHeartbeats 4000000 in
theorem spec_CountingRemove (h : fiB z0 p n = true) (hX : InAll n X 0 15) (hk : isKeyB s.data.toList = true) (hok : cnOk (-1) X (prN z0 s n) p) (hn : n ≤ 1048576) (hs : s.size ≤ maxLen) (hr : IRow w A n X) :
    Calls Try.prog 27 #[.agg #[.int .i64 z0, .int .i64 p, .slice A n c], .string s] w (CoAns z0 p n (cnF (-1) X (prN z0 s n) p) true w) := by
  obtain ⟨h0, h1, h2⟩ := fiB_out h
  have S0 := CoC.start (z0 := z0) (z1 := p) (c := c) hr
  have hal := (Below.refl (w.alloc (.cells #[.int .i64 z0, .int .i64 p, .slice A n c] 27)).heap.size (w.alloc (.cells #[.int .i64 z0, .int .i64 p, .slice A n c] 27))).alloc (Nat.le_refl _) (.cells #[.int .i64 0, .int .i64 0, .slice none 0 0] 27)
  have S1 := Lib.hid (S0.step hal)
  have N1 := Lib.hid (nbx0 (w.alloc (.cells #[.int .i64 z0, .int .i64 p, .slice A n c] 27)) #[.int .i64 0, .int .i64 0, .slice none 0 0] 27)
  rw [World.size_alloc] at N1
  clear hr hal S0
  have x0 := S1.out.box.cell 0 _ rfl
  have x1 := S1.out.box.cell 1 _ rfl
  have x2 := S1.out.box.cell 2 _ rfl
  go_enter Try.func27, Try.ntmps27
  go_wp2_with fail
  refine (spec_counting (b := true) (by simp [CoV, h, hX]) hn S1.out.row).mono ?_; rintro e w2 ⟨rfl, hw⟩
  have S2 := Lib.hid (S1.out.step hw)
  have N2 := Lib.hid (N1.out.b hw)
  clear hw x0 x1 x2
  have x0 := S2.out.box.cell 0 _ rfl
  have x1 := S2.out.box.cell 1 _ rfl
  have x2 := S2.out.box.cell 2 _ rfl
  go_wp2_with fail
  refine (spec_isKey _ _ hs).mono ?_; rintro e w3 ⟨rfl, rfl⟩
  rw [hk]
  go_wp2_with fail
  refine (spec_fiBits h hX S2.out.row).mono ?_; rintro e w3 ⟨g, cc, rfl, hgg, ho, hb⟩
  have R3 := Lib.hid ho.own.row
  have S3 := Lib.hid (S2.out.step hb)
  have N3 := Lib.hid (N2.out.b hb)
  have HW := Lib.hid (co_of_words (z := n) (n := (n + 15) / 16) (f := fbF n X) (by omega) rfl (fun i hi => by unfold fbF; rw [decide_eq_false (by omega)]; rfl))
  clear hb ho hgg S2 N2 x0 x1 x2
  have x0 := S3.out.box.cell 0 _ rfl
  have x1 := S3.out.box.cell 1 _ rfl
  have x2 := S3.out.box.cell 2 _ rfl
  go_wp2_with fail
  refine (spec_fiHas h (by omega) HW.out hs R3.out).mono ?_; rintro e w4 ⟨rfl, hb⟩
  rw [fb_has (by omega)]
  have S2 := Lib.hid (S3.out.step hb)
  have N2 := Lib.hid (N3.out.b hb)
  clear hb S3 N3 x0 x1 x2
  rw [cn_has p hok]
  have x0 := S2.out.box.cell 0 _ rfl
  have x1 := S2.out.box.cell 1 _ rfl
  have x2 := S2.out.box.cell 2 _ rfl
  go_wp2_with fail
  refine (spec_fiCount (.inr rfl) h hX hs S2.out.row).mono ?_; rintro e w4 ⟨hy, _, hb⟩
  obtain ⟨g, cc, rfl, hgg, ho⟩ := hy (hok)
  have LB := Lib.hid (S2.out.step hb).below
  have hlt2 := N2.out.lt
  have hs2 := S2.out.below.size
  have N3 := N2.out.b hb
  have HO := Lib.hid ho
  have y0 := N3.cell 0 _ rfl
  have f0 := N3.free 0
  have y1 := N3.cell 1 _ rfl
  have f1 := N3.free 1
  have y2 := N3.cell 2 _ rfl
  have f2 := N3.free 2
  clear hb ho x0 x1 x2 N3 hy
  go_wp2_with fail
  refine bodyPost_ret (v := .tuple #[.agg #[.int .i64 z0, .int .i64 p, .slice (some ⟨g, 0, none⟩) n cc], .bool true]) (by simp [results, Try.results27, go_sem, y0, y1, y2]) rfl ?_
  exact coAns_own rfl (by omega) ((((HO.out).setAt (by omega) _).setAt (by omega) _).setAt (by omega) _) (below_setAt (below_setAt (below_setAt (LB.out) (by omega) _) (by omega) _) (by omega) _)
set_option maxRecDepth 100000 in
set_option maxHeartbeats 4000000 in
theorem spec_CountingRemove_stop (h : fiB z0 p n = true) (hX : InAll n X 0 15) (hk : isKeyB s.data.toList = true) (hno : ¬ cnOk (-1) X (prN z0 s n) p) (hn : n ≤ 1048576) (hs : s.size ≤ maxLen) (hr : IRow w A n X) :
    Calls Try.prog 27 #[.agg #[.int .i64 z0, .int .i64 p, .slice A n c], .string s] w (CoAns 0 0 0 (fun _ => 0) false w) := by
  obtain ⟨h0, h1, h2⟩ := fiB_out h
  have S0 := CoC.start (z0 := z0) (z1 := p) (c := c) hr
  have hal := (Below.refl (w.alloc (.cells #[.int .i64 z0, .int .i64 p, .slice A n c] 27)).heap.size (w.alloc (.cells #[.int .i64 z0, .int .i64 p, .slice A n c] 27))).alloc (Nat.le_refl _) (.cells #[.int .i64 0, .int .i64 0, .slice none 0 0] 27)
  have S1 := Lib.hid (S0.step hal)
  have N1 := Lib.hid (nbx0 (w.alloc (.cells #[.int .i64 z0, .int .i64 p, .slice A n c] 27)) #[.int .i64 0, .int .i64 0, .slice none 0 0] 27)
  rw [World.size_alloc] at N1
  clear hr hal S0
  have x0 := S1.out.box.cell 0 _ rfl
  have x1 := S1.out.box.cell 1 _ rfl
  have x2 := S1.out.box.cell 2 _ rfl
  go_enter Try.func27, Try.ntmps27
  go_wp2_with fail
  refine (spec_counting (b := true) (by simp [CoV, h, hX]) hn S1.out.row).mono ?_; rintro e w2 ⟨rfl, hw⟩
  have S2 := Lib.hid (S1.out.step hw)
  have N2 := Lib.hid (N1.out.b hw)
  clear hw x0 x1 x2
  have x0 := S2.out.box.cell 0 _ rfl
  have x1 := S2.out.box.cell 1 _ rfl
  have x2 := S2.out.box.cell 2 _ rfl
  go_wp2_with fail
  refine (spec_isKey _ _ hs).mono ?_; rintro e w3 ⟨rfl, rfl⟩
  rw [hk]
  go_wp2_with fail
  refine (spec_fiBits h hX S2.out.row).mono ?_; rintro e w3 ⟨g, cc, rfl, hgg, ho, hb⟩
  have R3 := Lib.hid ho.own.row
  have S3 := Lib.hid (S2.out.step hb)
  have N3 := Lib.hid (N2.out.b hb)
  have HW := Lib.hid (co_of_words (z := n) (n := (n + 15) / 16) (f := fbF n X) (by omega) rfl (fun i hi => by unfold fbF; rw [decide_eq_false (by omega)]; rfl))
  clear hb ho hgg S2 N2 x0 x1 x2
  have x0 := S3.out.box.cell 0 _ rfl
  have x1 := S3.out.box.cell 1 _ rfl
  have x2 := S3.out.box.cell 2 _ rfl
  go_wp2_with fail
  refine (spec_fiHas h (by omega) HW.out hs R3.out).mono ?_; rintro e w4 ⟨rfl, hb⟩
  rw [fb_has (by omega)]
  have S2 := Lib.hid (S3.out.step hb)
  have N2 := Lib.hid (N3.out.b hb)
  clear hb S3 N3 x0 x1 x2
  cases hh : hasP (posX X) (prN z0 s n) p with
  | false =>
    have LB := Lib.hid S2.out.below
    have N3 := N2.out
    have y0 := N3.cell 0 _ rfl
    have f0 := N3.free 0
    have y1 := N3.cell 1 _ rfl
    have f1 := N3.free 1
    have y2 := N3.cell 2 _ rfl
    have f2 := N3.free 2
    clear N3
    go_wp2_with fail
    refine bodyPost_ret (v := .tuple #[.agg #[.int .i64 0, .int .i64 0, .slice none 0 0], .bool false]) (by simp [results, Try.results27, go_sem, y0, y1, y2]) rfl ?_
    exact coAns_none rfl (by first | exact LB.out | exact below_setAt (below_setAt (below_setAt (LB.out) (by omega) _) (by omega) _) (by omega) _)
  | true =>
    have x0 := S2.out.box.cell 0 _ rfl
    have x1 := S2.out.box.cell 1 _ rfl
    have x2 := S2.out.box.cell 2 _ rfl
    go_wp2_with fail
    refine (spec_fiCount (.inr rfl) h hX hs S2.out.row).mono ?_; rintro e w4 ⟨_, hy, hb⟩
    obtain rfl := hy (hno)
    have LB := Lib.hid (S2.out.step hb).below
    have hlt2 := N2.out.lt
    have hs2 := S2.out.below.size
    have N3 := N2.out.b hb
    have y0 := N3.cell 0 _ rfl
    have f0 := N3.free 0
    have y1 := N3.cell 1 _ rfl
    have f1 := N3.free 1
    have y2 := N3.cell 2 _ rfl
    have f2 := N3.free 2
    clear hb x0 x1 x2 N3 hy
    go_wp2_with fail
    refine bodyPost_ret (v := .tuple #[.agg #[.int .i64 0, .int .i64 0, .slice none 0 0], .bool false]) (by simp [results, Try.results27, go_sem, y0, y1, y2]) rfl ?_
    exact coAns_none rfl (by first | exact LB.out | exact below_setAt (below_setAt (below_setAt (LB.out) (by omega) _) (by omega) _) (by omega) _)
set_option maxRecDepth 100000 in
set_option maxHeartbeats 4000000 in
theorem impl_CountingAdd (h : fiB z0 p n = true) (hX : InAll n X 0 15) (hk : isKeyB s.data.toList = true) (hn : n ≤ 1048576) (hs : s.size ≤ maxLen) (hr : IRow w A n X) :
    Calls Try.prog 26 #[.agg #[.int .i64 z0, .int .i64 p, .slice A n c], .string s] w (CoAns z0 p n (cnF 1 X (prN z0 s n) p) true w) := by
  obtain ⟨h0, h1, h2⟩ := fiB_out h
  have S0 := CoC.start (z0 := z0) (z1 := p) (c := c) hr
  have hal := (Below.refl (w.alloc (.cells #[.int .i64 z0, .int .i64 p, .slice A n c] 27)).heap.size (w.alloc (.cells #[.int .i64 z0, .int .i64 p, .slice A n c] 27))).alloc (Nat.le_refl _) (.cells #[.int .i64 0, .int .i64 0, .slice none 0 0] 27)
  have S1 := Lib.hid (S0.step hal)
  have N1 := Lib.hid (nbx0 (w.alloc (.cells #[.int .i64 z0, .int .i64 p, .slice A n c] 27)) #[.int .i64 0, .int .i64 0, .slice none 0 0] 27)
  rw [World.size_alloc] at N1
  clear hr hal S0
  have x0 := S1.out.box.cell 0 _ rfl
  have x1 := S1.out.box.cell 1 _ rfl
  have x2 := S1.out.box.cell 2 _ rfl
  go_enter Try.func26, Try.ntmps26
  go_wp2_with fail
  refine (impl_counting (b := true) (by simp [CoV, h, hX]) hn S1.out.row).mono ?_; rintro e w2 ⟨rfl, hw⟩
  replace S1 := Lib.hid (S1.out.step hw)
  replace N1 := Lib.hid (N1.out.b hw)
  clear hw x0 x1 x2
  have x0 := S1.out.box.cell 0 _ rfl
  have x1 := S1.out.box.cell 1 _ rfl
  have x2 := S1.out.box.cell 2 _ rfl
  go_wp2_with fail
  refine (impl_isKey _ _ hs).mono ?_; rintro e w3 ⟨rfl, rfl⟩
  rw [hk]
  go_wp2_with fail
  have hlt := N1.out.lt
  have hsz2 := S1.out.below.size
  refine (impl_cloneCounting (by omega) (by omega) S1.out.row).mono ?_; rintro e w4 ⟨g, cc, rfl, hgg, ho, hb⟩
  replace N1 := Lib.hid (N1.out.b hb)
  have S2 := Lib.hid (S1.out.step hb)
  have hs4 := hb.size
  have hgl := ho.lt
  have O2 := Lib.hid (ho.alloc (.cells #[.int .i64 z0, .int .i64 p, .slice (some ⟨g, 0, none⟩) n cc] 27))
  have B2 := Lib.hid (boxed w4 #[.int .i64 z0, .int .i64 p, .slice (some ⟨g, 0, none⟩) n cc] 27)
  have hal4 := Lib.hid ((Below.refl w4.heap.size w4).alloc (Nat.le_refl _) (.cells #[.int .i64 z0, .int .i64 p, .slice (some ⟨g, 0, none⟩) n cc] 27))
  replace N1 := Lib.hid (N1.out.b hal4.out)
  have b0 := B2.out.now 0 _ rfl
  have b1 := B2.out.now 1 _ rfl
  have b2 := B2.out.now 2 _ rfl
  clear hb ho x0 x1 x2
  go_wp2_with fail
  refine (impl_countUp h hX hs O2.out).mono ?_; rintro e w5 ⟨rfl, ho5, hg5⟩
  have O5 := Lib.hid ho5
  clear ho5
  have B5 := Lib.hid (B2.out.far (only_grown hg5) (by omega))
  have hlt5 := B5.out.top
  have L5 := Lib.hid (S2.out.below.trans ((hal4.out.mono (Nat.le_refl _)).mono (by omega) |>.trans (below_of_grown hg5 (by simp; omega) (show w.heap.size ≤ g by omega))))
  replace N1 := Lib.hid (show NBX (w.heap.size + 1) (w.heap.size + 1) #[.int .i64 0, .int .i64 0, .slice none 0 0] 27 w5 from ⟨(hg5.block _ (by simp; omega) (by intro e; injection e with e; omega)).trans N1.out.blk, N1.out.ge⟩)
  clear hg5 b0 b1 b2 hal4
  have b0 := B5.out.now 0 _ rfl
  have b1 := B5.out.now 1 _ rfl
  have b2 := B5.out.now 2 _ rfl
  have y0 := N1.out.cell 0 _ rfl
  have f0 := N1.out.free 0
  have y1 := N1.out.cell 1 _ rfl
  have f1 := N1.out.free 1
  have y2 := N1.out.cell 2 _ rfl
  have f2 := N1.out.free 2
  go_wp2_with fail
  refine bodyPost_ret (v := .tuple #[.agg #[.int .i64 z0, .int .i64 p, .slice (some ⟨g, 0, none⟩) n cc], .bool true]) (by simp [results, Try.results26, go_sem, y0, y1, y2]) rfl ?_
  exact coAns_own rfl (by omega) ((((O5.out).setAt (by omega) _).setAt (by omega) _).setAt (by omega) _) (below_setAt (below_setAt (below_setAt (L5.out) (by omega) _) (by omega) _) (by omega) _)
set_option maxRecDepth 100000 in
set_option maxHeartbeats 4000000 in
theorem impl_CountingRemove (h : fiB z0 p n = true) (hX : InAll n X 0 15) (hk : isKeyB s.data.toList = true) (hok : cnOk (-1) X (prN z0 s n) p) (hn : n ≤ 1048576) (hs : s.size ≤ maxLen) (hr : IRow w A n X) :
    Calls Try.prog 28 #[.agg #[.int .i64 z0, .int .i64 p, .slice A n c], .string s] w (CoAns z0 p n (cnF (-1) X (prN z0 s n) p) true w) := by
  obtain ⟨h0, h1, h2⟩ := fiB_out h
  have S0 := CoC.start (z0 := z0) (z1 := p) (c := c) hr
  have hal := (Below.refl (w.alloc (.cells #[.int .i64 z0, .int .i64 p, .slice A n c] 27)).heap.size (w.alloc (.cells #[.int .i64 z0, .int .i64 p, .slice A n c] 27))).alloc (Nat.le_refl _) (.cells #[.int .i64 0, .int .i64 0, .slice none 0 0] 27)
  have S1 := Lib.hid (S0.step hal)
  have N1 := Lib.hid (nbx0 (w.alloc (.cells #[.int .i64 z0, .int .i64 p, .slice A n c] 27)) #[.int .i64 0, .int .i64 0, .slice none 0 0] 27)
  rw [World.size_alloc] at N1
  clear hr hal S0
  have x0 := S1.out.box.cell 0 _ rfl
  have x1 := S1.out.box.cell 1 _ rfl
  have x2 := S1.out.box.cell 2 _ rfl
  go_enter Try.func28, Try.ntmps28
  go_wp2_with fail
  refine (impl_counting (b := true) (by simp [CoV, h, hX]) hn S1.out.row).mono ?_; rintro e w2 ⟨rfl, hw⟩
  replace S1 := Lib.hid (S1.out.step hw)
  replace N1 := Lib.hid (N1.out.b hw)
  clear hw x0 x1 x2
  have x0 := S1.out.box.cell 0 _ rfl
  have x1 := S1.out.box.cell 1 _ rfl
  have x2 := S1.out.box.cell 2 _ rfl
  go_wp2_with fail
  refine (impl_isKey _ _ hs).mono ?_; rintro e w3 ⟨rfl, rfl⟩
  rw [hk]
  go_wp2_with fail
  have hlt := N1.out.lt
  have hsz2 := S1.out.below.size
  refine (impl_cloneCounting (by omega) (by omega) S1.out.row).mono ?_; rintro e w4 ⟨g, cc, rfl, hgg, ho, hb⟩
  replace N1 := Lib.hid (N1.out.b hb)
  have S2 := Lib.hid (S1.out.step hb)
  have hs4 := hb.size
  have hgl := ho.lt
  have O2 := Lib.hid (ho.alloc (.cells #[.int .i64 z0, .int .i64 p, .slice (some ⟨g, 0, none⟩) n cc] 27))
  have B2 := Lib.hid (boxed w4 #[.int .i64 z0, .int .i64 p, .slice (some ⟨g, 0, none⟩) n cc] 27)
  have hal4 := Lib.hid ((Below.refl w4.heap.size w4).alloc (Nat.le_refl _) (.cells #[.int .i64 z0, .int .i64 p, .slice (some ⟨g, 0, none⟩) n cc] 27))
  replace N1 := Lib.hid (N1.out.b hal4.out)
  have b0 := B2.out.now 0 _ rfl
  have b1 := B2.out.now 1 _ rfl
  have b2 := B2.out.now 2 _ rfl
  clear hb ho x0 x1 x2
  go_wp2_with fail
  refine (impl_countDown h hX hs O2.out).mono ?_; rintro e w5 ⟨r, rfl, hr5, ho5, hg5⟩
  obtain rfl : r = true := hr5.2 hok
  have O5 := Lib.hid (ho5 rfl)
  clear ho5 hr5
  have B5 := Lib.hid (B2.out.far (only_grown hg5) (by omega))
  have hlt5 := B5.out.top
  have L5 := Lib.hid (S2.out.below.trans ((hal4.out.mono (Nat.le_refl _)).mono (by omega) |>.trans (below_of_grown hg5 (by simp; omega) (show w.heap.size ≤ g by omega))))
  replace N1 := Lib.hid (show NBX (w.heap.size + 1) (w.heap.size + 1) #[.int .i64 0, .int .i64 0, .slice none 0 0] 27 w5 from ⟨(hg5.block _ (by simp; omega) (by intro e; injection e with e; omega)).trans N1.out.blk, N1.out.ge⟩)
  clear hg5 b0 b1 b2 hal4
  have b0 := B5.out.now 0 _ rfl
  have b1 := B5.out.now 1 _ rfl
  have b2 := B5.out.now 2 _ rfl
  have y0 := N1.out.cell 0 _ rfl
  have f0 := N1.out.free 0
  have y1 := N1.out.cell 1 _ rfl
  have f1 := N1.out.free 1
  have y2 := N1.out.cell 2 _ rfl
  have f2 := N1.out.free 2
  go_wp2_with fail
  refine bodyPost_ret (v := .tuple #[.agg #[.int .i64 z0, .int .i64 p, .slice (some ⟨g, 0, none⟩) n cc], .bool true]) (by simp [results, Try.results28, go_sem, y0, y1, y2]) rfl ?_
  exact coAns_own rfl (by omega) ((((O5.out).setAt (by omega) _).setAt (by omega) _).setAt (by omega) _) (below_setAt (below_setAt (below_setAt (L5.out) (by omega) _) (by omega) _) (by omega) _)
set_option maxRecDepth 100000 in
set_option maxHeartbeats 4000000 in
theorem impl_CountingRemove_stop (h : fiB z0 p n = true) (hX : InAll n X 0 15) (hk : isKeyB s.data.toList = true) (hno : ¬ cnOk (-1) X (prN z0 s n) p) (hn : n ≤ 1048576) (hs : s.size ≤ maxLen) (hr : IRow w A n X) :
    Calls Try.prog 28 #[.agg #[.int .i64 z0, .int .i64 p, .slice A n c], .string s] w (CoAns 0 0 0 (fun _ => 0) false w) := by
  obtain ⟨h0, h1, h2⟩ := fiB_out h
  have S0 := CoC.start (z0 := z0) (z1 := p) (c := c) hr
  have hal := (Below.refl (w.alloc (.cells #[.int .i64 z0, .int .i64 p, .slice A n c] 27)).heap.size (w.alloc (.cells #[.int .i64 z0, .int .i64 p, .slice A n c] 27))).alloc (Nat.le_refl _) (.cells #[.int .i64 0, .int .i64 0, .slice none 0 0] 27)
  have S1 := Lib.hid (S0.step hal)
  have N1 := Lib.hid (nbx0 (w.alloc (.cells #[.int .i64 z0, .int .i64 p, .slice A n c] 27)) #[.int .i64 0, .int .i64 0, .slice none 0 0] 27)
  rw [World.size_alloc] at N1
  clear hr hal S0
  have x0 := S1.out.box.cell 0 _ rfl
  have x1 := S1.out.box.cell 1 _ rfl
  have x2 := S1.out.box.cell 2 _ rfl
  go_enter Try.func28, Try.ntmps28
  go_wp2_with fail
  refine (impl_counting (b := true) (by simp [CoV, h, hX]) hn S1.out.row).mono ?_; rintro e w2 ⟨rfl, hw⟩
  replace S1 := Lib.hid (S1.out.step hw)
  replace N1 := Lib.hid (N1.out.b hw)
  clear hw x0 x1 x2
  have x0 := S1.out.box.cell 0 _ rfl
  have x1 := S1.out.box.cell 1 _ rfl
  have x2 := S1.out.box.cell 2 _ rfl
  go_wp2_with fail
  refine (impl_isKey _ _ hs).mono ?_; rintro e w3 ⟨rfl, rfl⟩
  rw [hk]
  go_wp2_with fail
  have hlt := N1.out.lt
  have hsz2 := S1.out.below.size
  refine (impl_cloneCounting (by omega) (by omega) S1.out.row).mono ?_; rintro e w4 ⟨g, cc, rfl, hgg, ho, hb⟩
  replace N1 := Lib.hid (N1.out.b hb)
  have S2 := Lib.hid (S1.out.step hb)
  have hs4 := hb.size
  have hgl := ho.lt
  have O2 := Lib.hid (ho.alloc (.cells #[.int .i64 z0, .int .i64 p, .slice (some ⟨g, 0, none⟩) n cc] 27))
  have B2 := Lib.hid (boxed w4 #[.int .i64 z0, .int .i64 p, .slice (some ⟨g, 0, none⟩) n cc] 27)
  have hal4 := Lib.hid ((Below.refl w4.heap.size w4).alloc (Nat.le_refl _) (.cells #[.int .i64 z0, .int .i64 p, .slice (some ⟨g, 0, none⟩) n cc] 27))
  replace N1 := Lib.hid (N1.out.b hal4.out)
  have b0 := B2.out.now 0 _ rfl
  have b1 := B2.out.now 1 _ rfl
  have b2 := B2.out.now 2 _ rfl
  clear hb ho x0 x1 x2
  go_wp2_with fail
  refine (impl_countDown h hX hs O2.out).mono ?_; rintro e w5 ⟨r, rfl, hr5, ho5, hg5⟩
  obtain rfl : r = false := by
    cases r
    · rfl
    · exact absurd (hr5.1 rfl) hno
  clear ho5 hr5
  have B5 := Lib.hid (B2.out.far (only_grown hg5) (by omega))
  have hlt5 := B5.out.top
  have L5 := Lib.hid (S2.out.below.trans ((hal4.out.mono (Nat.le_refl _)).mono (by omega) |>.trans (below_of_grown hg5 (by simp; omega) (show w.heap.size ≤ g by omega))))
  replace N1 := Lib.hid (show NBX (w.heap.size + 1) (w.heap.size + 1) #[.int .i64 0, .int .i64 0, .slice none 0 0] 27 w5 from ⟨(hg5.block _ (by simp; omega) (by intro e; injection e with e; omega)).trans N1.out.blk, N1.out.ge⟩)
  clear hg5 b0 b1 b2 hal4
  have b0 := B5.out.now 0 _ rfl
  have b1 := B5.out.now 1 _ rfl
  have b2 := B5.out.now 2 _ rfl
  have y0 := N1.out.cell 0 _ rfl
  have f0 := N1.out.free 0
  have y1 := N1.out.cell 1 _ rfl
  have f1 := N1.out.free 1
  have y2 := N1.out.cell 2 _ rfl
  have f2 := N1.out.free 2
  go_wp2_with fail
  refine bodyPost_ret (v := .tuple #[.agg #[.int .i64 0, .int .i64 0, .slice none 0 0], .bool false]) (by simp [results, Try.results28, go_sem, y0, y1, y2]) rfl ?_
  exact coAns_none rfl (by first | exact L5.out | exact below_setAt (below_setAt (below_setAt (L5.out) (by omega) _) (by omega) _) (by omega) _)
end
end Go.Proofs.Ytpajbcgdoedleab
