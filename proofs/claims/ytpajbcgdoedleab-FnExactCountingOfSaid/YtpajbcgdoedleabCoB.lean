/- The Bloom filter of a counting filter: both sides. -/
import Derived.Test.YtpajbcgdoedleabCoK
import Derived.Test.YtpajbcgdoedleabBlB
namespace Go.Proofs.Ytpajbcgdoedleab
open Go.RowKit

theorem blAns_obC {z0 p z : Int} {m cc g : Nat} {F : Nat → Bool} {w w' : World} {e : Ending} (he : e = .returned (.tuple #[.agg #[.int .i64 z0, .int .i64 p, .int .i64 z, .slice (some ⟨g, 0, none⟩) m cc], .bool true])) (hg : w.heap.size ≤ g) (ho : OB w' g m F) (hb : Below w.heap.size w w') : BlAns z0 p z m (fun i => (wordsOf F i : Int)) true w e w' :=
  ⟨_, _, he, ow_orow ho.own hg, hb⟩
/-- The bits of a counting filter. -/
def fbF (n : Nat) (X : Nat → Int) (k : Nat) : Bool := decide (k < n) && posX X k
theorem fb_on {k : Nat} {X : Nat → Int} (h : 0 < X k) : (fun j => fbF k X j || decide (j = k)) = fbF (k + 1) X := by
  funext j
  unfold fbF
  by_cases e : j = k
  · subst e; have : posX X j = true := by unfold posX; simpa using h
    simp [this]
  · rw [show decide (j < k + 1) = decide (j < k) from decide_eq_decide.2 (by omega)]; simp [e]
theorem fb_off {k : Nat} {X : Nat → Int} (h : ¬ 0 < X k) : fbF k X = fbF (k + 1) X := by
  funext j
  unfold fbF
  by_cases e : j = k
  · subst e; have : posX X j = false := by unfold posX; simpa using h
    simp [this]
  · rw [show decide (j < k + 1) = decide (j < k) from decide_eq_decide.2 (by omega)]
section
variable {z0 z1 : Int} {p : Nat} {A : Option Addr} {n c : Nat} {X : Nat → Int} {s : ByteArray} {w : World}
set_option maxRecDepth 100000 in
set_option maxHeartbeats 4000000 in
theorem spec_fiBits (h : fiB z0 p n = true) (hX : InAll n X 0 15) (hr : IRow w A n X) :
    Calls Try.prog 65 #[.agg #[.int .i64 z0, .int .i64 p, .slice A n c]] w (BlO z0 p n ((n + 15) / 16) (fbF n X) w) := by
  obtain ⟨m, hm⟩ : ∃ m, m = (n + 15) / 16 := ⟨_, rfl⟩
  rw [← hm]
  have HM := Lib.hid hm
  have hm2 : m ≤ 256 := by have := (fiB_out h).2.2; omega
  have hnm : n ≤ 16 * m := by omega
  clear hm
  obtain ⟨h0, h1, h2⟩ := fiB_out h
  have HR0 := Lib.hid hr
  have S0 := CoC.start (z0 := z0) (z1 := p) (c := c) hr
  have hal := (Below.refl (w.alloc (.cells #[.int .i64 z0, .int .i64 p, .slice A n c] 27)).heap.size (w.alloc (.cells #[.int .i64 z0, .int .i64 p, .slice A n c] 27))).alloc (Nat.le_refl _) (.cells #[.int .i64 0, .int .i64 0, .int .i64 0, .slice none 0 0] 44)
  have S1 := Lib.hid (S0.step hal)
  have N1 := Lib.hid (nbx0 (w.alloc (.cells #[.int .i64 z0, .int .i64 p, .slice A n c] 27)) #[.int .i64 0, .int .i64 0, .int .i64 0, .slice none 0 0] 44)
  rw [World.size_alloc] at N1
  clear hr hal S0
  have HX := Lib.hid hX
  have hs1 := S1.out.below.size
  have hlt1 := N1.out.lt
  clear hX
  have x0 := S1.out.box.cell 0 _ rfl
  have x1 := S1.out.box.cell 1 _ rfl
  have x2 := S1.out.box.cell 2 _ rfl
  go_enter Try.func65, Try.ntmps65
  go_wp2_with fail
  refine (spec_fiNew (z0 := z0) (p := p) (z := n) (by omega)).mono ?_; rintro e w3 ⟨g, he, hgg, ho, hb⟩
  simp only [World.size_alloc] at hgg
  rw [← HM.out] at he ho
  subst he
  have hbl := (Below.refl w3.heap.size w3).alloc (Nat.le_refl _) (.cells #[.int .i64 z0, .int .i64 p, .int .i64 n, .slice (some ⟨g, 0, none⟩) m m] 44)
  have S4 := Lib.hid ((S1.out.step hb).step hbl)
  have N4 := Lib.hid ((N1.out.b hb).b hbl)
  have hs3 := hb.size
  have B4 := Lib.hid (boxed w3 #[.int .i64 z0, .int .i64 p, .int .i64 n, .slice (some ⟨g, 0, none⟩) m m] 44)
  have O4 := Lib.hid ((ob_zero ho).alloc (.cells #[.int .i64 z0, .int .i64 p, .int .i64 n, .slice (some ⟨g, 0, none⟩) m m] 44))
  have hgl := ho.lt
  clear hb hbl ho x0 x1 x2
  have x2 := S4.out.box.cell 2 _ rfl
  go_wp2_with fail
  generalize hw4 : w3.alloc (.cells #[.int .i64 z0, .int .i64 p, .int .i64 n, .slice (some ⟨g, 0, none⟩) m m] 44) = w4 at *
  have hs4 : w3.heap.size + 1 ≤ w4.heap.size := by rw [← hw4]; simp
  clear hw4 x2
  go_loopw [17] (fun i wr => ∃ k : Nat, k ≤ n ∧ i = .int .i64 k ∧ Hid (OB wr g m (fbF k X)) ∧ Hid (w4.grownBy wr (some g))) (fun i _ => n - (intOf i).toNat)
  case atStart => exact ⟨0, Nat.zero_le _, rfl, Lib.hid (O4.out.congr (fun j _ => by simp [fbF])), Lib.hid (World.grownBy.refl w4 _)⟩
  case round =>
    obtain ⟨k, hk, rfl, HO, HGr⟩ := hrel
    have B5 := Lib.hid (B4.out.far (only_grown HGr.out) (by omega))
    have q0 := B5.out.now 0 _ rfl
    have q1 := B5.out.now 1 _ rfl
    have q2 := B5.out.now 2 _ rfl
    have q3 := B5.out.now 3 _ rfl
    have L2 := Lib.hid (S4.out.below.trans (below_of_grown HGr.out S4.out.below.size (by omega)))
    by_cases hlt : k < n
    · obtain ⟨bb, ob, hA, _, hcb⟩ := (HR0.out.b L2.out) (by omega)
      have hx := hcb k hlt
      have hX := HX.out k hlt
      obtain ⟨y, hy⟩ : ∃ y, y = X k := ⟨_, rfl⟩
      rw [← hy] at hx hX
      have HY := Lib.hid hy
      clear hcb hy
      subst hA
      by_cases hz : 0 < y
      · have d : decide (0 < y) = true := by simpa using hz
        have hcv := spec_setOn (z := (n : Int)) (c := m) (i := k) HO.out hm2 (by omega)
        have HC := Lib.hid hcv
        have HF := Lib.hid (fb_on (k := k) (X := X) (by rw [← HY.out]; exact hz))
        clear hz hcv
        go_wp2_with fail
        refine HC.out.mono ?_; rintro e w7 ⟨rfl, ho7, hg7⟩
        have HO7 := Lib.hid (show OB w7 g m (fbF (k + 1) X) from HF.out ▸ ho7)
        have HG7 := Lib.hid (grown_two HGr.out hg7)
        clear ho7 hg7 q0 q1 q2 q3 hx
        go_wp2_with fail
        go_roundw
        case rel => exact ⟨k + 1, by omega, by go_num, HO7, HG7⟩
        case measure => simp [intOf]; omega
      · have d : decide (0 < y) = false := by simpa using hz
        have HO7 := Lib.hid (show OB wr g m (fbF (k + 1) X) from (fb_off (k := k) (X := X) (by rw [← HY.out]; exact hz)) ▸ HO.out)
        clear hz q0 q1 q2 q3
        go_wp2_with fail
        go_roundw
        case rel => exact ⟨k + 1, by omega, by go_num, HO7, HGr⟩
        case measure => simp [intOf]; omega
    · obtain rfl : n = k := by omega
      have N2 : NBX (w.heap.size + 1) (w.heap.size + 1) #[.int .i64 0, .int .i64 0, .int .i64 0, .slice none 0 0] 44 wr := ⟨(HGr.out.block _ (by have := N4.out.lt; omega) (by intro e; injection e with e; omega)).trans N4.out.blk, N4.out.ge⟩
      have y0 := N2.cell 0 _ rfl
      have f0 := N2.free 0
      have y1 := N2.cell 1 _ rfl
      have f1 := N2.free 1
      have y2 := N2.cell 2 _ rfl
      have f2 := N2.free 2
      have y3 := N2.cell 3 _ rfl
      have f3 := N2.free 3
      clear N2
      go_wp2_with fail
      refine bodyPost_ret (v := .agg #[.int .i64 z0, .int .i64 p, .int .i64 n, .slice (some ⟨g, 0, none⟩) m m]) (by simp [results, Try.results65, go_sem, y0, y1, y2, y3]) rfl ?_
      exact ⟨g, m, rfl, by omega, ((((HO.out).setAt (by omega) _).setAt (by omega) _).setAt (by omega) _).setAt (by omega) _, below_setAt (below_setAt (below_setAt (below_setAt (L2.out) (by omega) _) (by omega) _) (by omega) _) (by omega) _⟩
set_option maxRecDepth 100000 in
set_option maxHeartbeats 4000000 in
theorem spec_bloomOfC_no (h : ¬ CoV z0 z1 n X) (hn : n ≤ 1048576) (hr : IRow w A n X) :
    Calls Try.prog 29 #[.agg #[.int .i64 z0, .int .i64 z1, .slice A n c]] w (BlAns 0 0 0 0 (fun _ => 0) false w) := by
  have S0 := CoC.start (z0 := z0) (z1 := z1) (c := c) hr
  have hal := (Below.refl (w.alloc (.cells #[.int .i64 z0, .int .i64 z1, .slice A n c] 27)).heap.size (w.alloc (.cells #[.int .i64 z0, .int .i64 z1, .slice A n c] 27))).alloc (Nat.le_refl _) (.cells #[.int .i64 0, .int .i64 0, .int .i64 0, .slice none 0 0] 44)
  have S1 := Lib.hid (S0.step hal)
  have N1 := Lib.hid (nbx0 (w.alloc (.cells #[.int .i64 z0, .int .i64 z1, .slice A n c] 27)) #[.int .i64 0, .int .i64 0, .int .i64 0, .slice none 0 0] 44)
  rw [World.size_alloc] at N1
  clear hr hal S0
  have x0 := S1.out.box.cell 0 _ rfl
  have x1 := S1.out.box.cell 1 _ rfl
  have x2 := S1.out.box.cell 2 _ rfl
  go_enter Try.func29, Try.ntmps29
  go_wp2_with fail
  refine (spec_counting (b := false) (by simp [h]) hn S1.out.row).mono ?_; rintro e w2 ⟨rfl, hw⟩
  have LB := Lib.hid (S1.out.step hw).below
  have N2 := N1.out.b hw
  have y0 := N2.cell 0 _ rfl
  have f0 := N2.free 0
  have y1 := N2.cell 1 _ rfl
  have f1 := N2.free 1
  have y2 := N2.cell 2 _ rfl
  have f2 := N2.free 2
  have y3 := N2.cell 3 _ rfl
  have f3 := N2.free 3
  clear hw x0 x1 x2 N2
  go_wp2_with fail
  refine bodyPost_ret (v := .tuple #[.agg #[.int .i64 0, .int .i64 0, .int .i64 0, .slice none 0 0], .bool false]) (by simp [results, Try.results29, go_sem, y0, y1, y2, y3]) rfl ?_
  exact blAns_none rfl (by first | exact LB.out | exact below_setAt (below_setAt (below_setAt (below_setAt (LB.out) (by omega) _) (by omega) _) (by omega) _) (by omega) _)
set_option maxRecDepth 100000 in
set_option maxHeartbeats 4000000 in
theorem impl_bloomOfC_no (h : ¬ CoV z0 z1 n X) (hn : n ≤ 1048576) (hr : IRow w A n X) :
    Calls Try.prog 30 #[.agg #[.int .i64 z0, .int .i64 z1, .slice A n c]] w (BlAns 0 0 0 0 (fun _ => 0) false w) := by
  have S0 := CoC.start (z0 := z0) (z1 := z1) (c := c) hr
  have hal := (Below.refl (w.alloc (.cells #[.int .i64 z0, .int .i64 z1, .slice A n c] 27)).heap.size (w.alloc (.cells #[.int .i64 z0, .int .i64 z1, .slice A n c] 27))).alloc (Nat.le_refl _) (.cells #[.int .i64 0, .int .i64 0, .int .i64 0, .slice none 0 0] 44)
  have S1 := Lib.hid (S0.step hal)
  have N1 := Lib.hid (nbx0 (w.alloc (.cells #[.int .i64 z0, .int .i64 z1, .slice A n c] 27)) #[.int .i64 0, .int .i64 0, .int .i64 0, .slice none 0 0] 44)
  rw [World.size_alloc] at N1
  clear hr hal S0
  have x0 := S1.out.box.cell 0 _ rfl
  have x1 := S1.out.box.cell 1 _ rfl
  have x2 := S1.out.box.cell 2 _ rfl
  go_enter Try.func30, Try.ntmps30
  go_wp2_with fail
  refine (impl_counting (b := false) (by simp [h]) hn S1.out.row).mono ?_; rintro e w2 ⟨rfl, hw⟩
  have LB := Lib.hid (S1.out.step hw).below
  have N2 := N1.out.b hw
  have y0 := N2.cell 0 _ rfl
  have f0 := N2.free 0
  have y1 := N2.cell 1 _ rfl
  have f1 := N2.free 1
  have y2 := N2.cell 2 _ rfl
  have f2 := N2.free 2
  have y3 := N2.cell 3 _ rfl
  have f3 := N2.free 3
  clear hw x0 x1 x2 N2
  go_wp2_with fail
  refine bodyPost_ret (v := .tuple #[.agg #[.int .i64 0, .int .i64 0, .int .i64 0, .slice none 0 0], .bool false]) (by simp [results, Try.results30, go_sem, y0, y1, y2, y3]) rfl ?_
  exact blAns_none rfl (by first | exact LB.out | exact below_setAt (below_setAt (below_setAt (below_setAt (LB.out) (by omega) _) (by omega) _) (by omega) _) (by omega) _)
set_option maxRecDepth 100000 in
set_option maxHeartbeats 4000000 in
theorem spec_bloomOfC (h : fiB z0 p n = true) (hX : InAll n X 0 15) (hn : n ≤ 1048576) (hr : IRow w A n X) :
    Calls Try.prog 29 #[.agg #[.int .i64 z0, .int .i64 p, .slice A n c]] w (BlAns z0 p n ((n + 15) / 16) (fun i => (wordsOf (fbF n X) i : Int)) true w) := by
  obtain ⟨m, hm⟩ : ∃ m, m = (n + 15) / 16 := ⟨_, rfl⟩
  rw [← hm]
  have HM := Lib.hid hm
  have hm2 : m ≤ 256 := by have := (fiB_out h).2.2; omega
  have hnm : n ≤ 16 * m := by omega
  clear hm
  have S0 := CoC.start (z0 := z0) (z1 := p) (c := c) hr
  have hal := (Below.refl (w.alloc (.cells #[.int .i64 z0, .int .i64 p, .slice A n c] 27)).heap.size (w.alloc (.cells #[.int .i64 z0, .int .i64 p, .slice A n c] 27))).alloc (Nat.le_refl _) (.cells #[.int .i64 0, .int .i64 0, .int .i64 0, .slice none 0 0] 44)
  have S1 := Lib.hid (S0.step hal)
  have N1 := Lib.hid (nbx0 (w.alloc (.cells #[.int .i64 z0, .int .i64 p, .slice A n c] 27)) #[.int .i64 0, .int .i64 0, .int .i64 0, .slice none 0 0] 44)
  rw [World.size_alloc] at N1
  clear hr hal S0
  have x0 := S1.out.box.cell 0 _ rfl
  have x1 := S1.out.box.cell 1 _ rfl
  have x2 := S1.out.box.cell 2 _ rfl
  go_enter Try.func29, Try.ntmps29
  go_wp2_with fail
  refine (spec_counting (b := true) (by simp [CoV, h, hX]) hn S1.out.row).mono ?_; rintro e w2 ⟨rfl, hw⟩
  have S2 := Lib.hid (S1.out.step hw)
  have N2 := Lib.hid (N1.out.b hw)
  clear hw x0 x1 x2
  have x0 := S2.out.box.cell 0 _ rfl
  have x1 := S2.out.box.cell 1 _ rfl
  have x2 := S2.out.box.cell 2 _ rfl
  go_wp2_with fail
  refine (spec_fiBits h hX S2.out.row).mono ?_; rintro e w3 ⟨g, cc, he, hgg, ho, hb⟩
  rw [← HM.out] at he ho
  subst he
  have LB := Lib.hid (S2.out.step hb).below
  have hlt2 := N2.out.lt
  have hs2 := S2.out.below.size
  have N3 := N2.out.b hb
  have HO := Lib.hid ho
  have y0 := N3.cell 0 _ rfl
  have f0 := N3.free 0
  have y1 := N3.cell 1 _ rfl
  have f1 := N3.free 1
  have y2 := N3.cell 2 _ rfl
  have f2 := N3.free 2
  have y3 := N3.cell 3 _ rfl
  have f3 := N3.free 3
  clear hb ho x0 x1 x2 N3
  go_wp2_with fail
  refine bodyPost_ret (v := .tuple #[.agg #[.int .i64 z0, .int .i64 p, .int .i64 n, .slice (some ⟨g, 0, none⟩) m cc], .bool true]) (by simp [results, Try.results29, go_sem, y0, y1, y2, y3]) rfl ?_
  exact blAns_obC rfl (by omega) (((((HO.out).setAt (by omega) _).setAt (by omega) _).setAt (by omega) _).setAt (by omega) _) (below_setAt (below_setAt (below_setAt (below_setAt (LB.out) (by omega) _) (by omega) _) (by omega) _) (by omega) _)
set_option maxRecDepth 100000 in
set_option maxHeartbeats 4000000 in
theorem impl_bloomOfC (h : fiB z0 p n = true) (hX : InAll n X 0 15) (hn : n ≤ 1048576) (hr : IRow w A n X) :
    Calls Try.prog 30 #[.agg #[.int .i64 z0, .int .i64 p, .slice A n c]] w (BlAns z0 p n ((n + 15) / 16) (fun i => (wordsOf (fbF n X) i : Int)) true w) := by
  obtain ⟨m, hm⟩ : ∃ m, m = (n + 15) / 16 := ⟨_, rfl⟩
  rw [← hm]
  have HM := Lib.hid hm
  have hm2 : m ≤ 256 := by have := (fiB_out h).2.2; omega
  have hnm : n ≤ 16 * m := by omega
  clear hm
  obtain ⟨h0, h1, h2⟩ := fiB_out h
  have HR0 := Lib.hid hr
  have S0 := CoC.start (z0 := z0) (z1 := p) (c := c) hr
  have hal := (Below.refl (w.alloc (.cells #[.int .i64 z0, .int .i64 p, .slice A n c] 27)).heap.size (w.alloc (.cells #[.int .i64 z0, .int .i64 p, .slice A n c] 27))).alloc (Nat.le_refl _) (.cells #[.int .i64 0, .int .i64 0, .int .i64 0, .slice none 0 0] 44)
  have S1 := Lib.hid (S0.step hal)
  have N1 := Lib.hid (nbx0 (w.alloc (.cells #[.int .i64 z0, .int .i64 p, .slice A n c] 27)) #[.int .i64 0, .int .i64 0, .int .i64 0, .slice none 0 0] 44)
  rw [World.size_alloc] at N1
  clear hr hal S0
  have HX := Lib.hid hX
  have x0 := S1.out.box.cell 0 _ rfl
  have x1 := S1.out.box.cell 1 _ rfl
  have x2 := S1.out.box.cell 2 _ rfl
  go_enter Try.func30, Try.ntmps30
  go_wp2_with fail
  refine (impl_counting (b := true) (by simp [CoV, h, hX]) hn S1.out.row).mono ?_; rintro e w2 ⟨rfl, hw⟩
  replace S1 := Lib.hid (S1.out.step hw)
  replace N1 := Lib.hid (N1.out.b hw)
  have hs1 := S1.out.below.size
  have hlt1 := N1.out.lt
  clear hw x0 x1 x2 hX
  have x0 := S1.out.box.cell 0 _ rfl
  have x1 := S1.out.box.cell 1 _ rfl
  have x2 := S1.out.box.cell 2 _ rfl
  go_wp2_with fail
  refine (impl_newBloomG (z0 := z0) (p := p) (z := n) h).mono ?_; rintro e w3 ⟨g, he, hgg, ho, hb⟩
  rw [← HM.out] at he ho
  subst he
  have hbl := (Below.refl w3.heap.size w3).alloc (Nat.le_refl _) (.cells #[.int .i64 z0, .int .i64 p, .int .i64 n, .slice (some ⟨g, 0, none⟩) m m] 44)
  have S4 := Lib.hid ((S1.out.step hb).step hbl)
  have N4 := Lib.hid ((N1.out.b hb).b hbl)
  have hs3 := hb.size
  have B4 := Lib.hid (boxed w3 #[.int .i64 z0, .int .i64 p, .int .i64 n, .slice (some ⟨g, 0, none⟩) m m] 44)
  have O4 := Lib.hid ((ob_zero ho).alloc (.cells #[.int .i64 z0, .int .i64 p, .int .i64 n, .slice (some ⟨g, 0, none⟩) m m] 44))
  have hgl := ho.lt
  clear hb hbl ho x0 x1 x2
  have x2 := S4.out.box.cell 2 _ rfl
  go_wp2_with fail
  generalize hw4 : w3.alloc (.cells #[.int .i64 z0, .int .i64 p, .int .i64 n, .slice (some ⟨g, 0, none⟩) m m] 44) = w4 at *
  have hs4 : w3.heap.size + 1 ≤ w4.heap.size := by rw [← hw4]; simp
  clear hw4 x2
  go_loopw [26] (fun i wr => ∃ k : Nat, k ≤ n ∧ i = .int .i64 k ∧ Hid (OB wr g m (fbF k X)) ∧ Hid (w4.grownBy wr (some g))) (fun i _ => n - (intOf i).toNat)
  case atStart => exact ⟨0, Nat.zero_le _, rfl, Lib.hid (O4.out.congr (fun j _ => by simp [fbF])), Lib.hid (World.grownBy.refl w4 _)⟩
  case round =>
    obtain ⟨k, hk, rfl, HO, HGr⟩ := hrel
    have B5 := Lib.hid (B4.out.far (only_grown HGr.out) (by omega))
    have q0 := B5.out.now 0 _ rfl
    have q1 := B5.out.now 1 _ rfl
    have q2 := B5.out.now 2 _ rfl
    have q3 := B5.out.now 3 _ rfl
    have L2 := Lib.hid (S4.out.below.trans (below_of_grown HGr.out S4.out.below.size (by omega)))
    by_cases hlt : k < n
    · obtain ⟨bb, ob, hA, _, hcb⟩ := (HR0.out.b L2.out) (by omega)
      have hx := hcb k hlt
      have hX := HX.out k hlt
      obtain ⟨y, hy⟩ : ∃ y, y = X k := ⟨_, rfl⟩
      rw [← hy] at hx hX
      have HY := Lib.hid hy
      clear hcb hy
      subst hA
      by_cases hz : 0 < y
      · have d : (y != 0) = true := by simp; omega
        have hcv := impl_setOn (c := m) (i := k) HO.out hm2 (by omega)
        have HC := Lib.hid hcv
        have HF := Lib.hid (fb_on (k := k) (X := X) (by rw [← HY.out]; exact hz))
        clear hz hcv
        go_wp2_with fail
        refine HC.out.mono ?_; rintro e w7 ⟨rfl, ho7, hg7⟩
        have HO7 := Lib.hid (show OB w7 g m (fbF (k + 1) X) from HF.out ▸ ho7)
        have HG7 := Lib.hid (grown_two HGr.out hg7)
        clear ho7 hg7 q0 q1 q2 q3 hx
        go_wp2_with fail
        go_roundw
        case rel => exact ⟨k + 1, by omega, by go_num, HO7, HG7⟩
        case measure => simp [intOf]; omega
      · have d : (y != 0) = false := by simp; omega
        have HO7 := Lib.hid (show OB wr g m (fbF (k + 1) X) from (fb_off (k := k) (X := X) (by rw [← HY.out]; exact hz)) ▸ HO.out)
        clear hz q0 q1 q2 q3
        go_wp2_with fail
        go_roundw
        case rel => exact ⟨k + 1, by omega, by go_num, HO7, HGr⟩
        case measure => simp [intOf]; omega
    · obtain rfl : n = k := by omega
      have N2 : NBX (w.heap.size + 1) (w.heap.size + 1) #[.int .i64 0, .int .i64 0, .int .i64 0, .slice none 0 0] 44 wr := ⟨(HGr.out.block _ (by have := N4.out.lt; omega) (by intro e; injection e with e; omega)).trans N4.out.blk, N4.out.ge⟩
      have y0 := N2.cell 0 _ rfl
      have f0 := N2.free 0
      have y1 := N2.cell 1 _ rfl
      have f1 := N2.free 1
      have y2 := N2.cell 2 _ rfl
      have f2 := N2.free 2
      have y3 := N2.cell 3 _ rfl
      have f3 := N2.free 3
      clear N2
      go_wp2_with fail
      refine bodyPost_ret (v := .tuple #[.agg #[.int .i64 z0, .int .i64 p, .int .i64 n, .slice (some ⟨g, 0, none⟩) m m], .bool true]) (by simp [results, Try.results30, go_sem, y0, y1, y2, y3]) rfl ?_
      exact blAns_obC rfl (by omega) (((((HO.out).setAt (by omega) _).setAt (by omega) _).setAt (by omega) _).setAt (by omega) _) (below_setAt (below_setAt (below_setAt (below_setAt (L2.out) (by omega) _) (by omega) _) (by omega) _) (by omega) _)
end
end Go.Proofs.Ytpajbcgdoedleab
