/- CountingOf: both sides. -/
import Derived.Test.YtpajbcgdoedleabCoA
import Derived.Test.YtpajbcgdoedleabKeyRow
namespace Go.Proofs.Ytpajbcgdoedleab
open Go.RowKit

/-- Counts behind k keys. -/
def upK (z0 : Int) (p n : Nat) (S : Nat → ByteArray) : Nat → Nat → Int
  | 0 => fun _ => 0
  | i + 1 => cnF 1 (upK z0 p n S i) (prN z0 (S i) n) p
theorem up_all {z0 : Int} {p n : Nat} {S : Nat → ByteArray} (hn : 1 ≤ n) : ∀ k, InAll n (upK z0 p n S k) 0 15
  | 0 => fun i _ => by show (0 : Int) ≤ 0 ∧ (0 : Int) ≤ 15; omega
  | k + 1 => cn_all (up_all hn k) (.inl rfl) p (cn_ok1 (up_all hn k) p (fun j _ => (prI_nat z0 (S k) (z := n) hn j).2))
theorem nbx_otherC {w : World} {base q b : Nat} {cs : Array Value} {t : TypeId} (h : NBX base q cs t w) (hne : q ≠ b) (i : Nat) (v : Value) : NBX base q cs t (w.setCell ⟨b, i, none⟩ v) := ⟨(Go.Deep.blk_setCell_other _ _ _ _ hne).trans h.blk, h.ge⟩
section
variable {z0 z1 z2 : Int} {p n : Nat} {KA : Option Addr} {k kc : Nat} {S : Nat → ByteArray} {w : World}
set_option maxRecDepth 100000 in
set_option maxHeartbeats 4000000 in
theorem spec_countingOf_no (h : (fiB z0 z1 z2 && keysB S k) = false) (hk : k ≤ 1048576) (hs : ∀ i, i < k → (S i).size ≤ maxLen) (hK : GRow w KA k (strV S)) :
    Calls Try.prog 18 #[.int .i64 z0, .int .i64 z1, .int .i64 z2, .slice KA k kc] w (CoAns 0 0 0 (fun _ => 0) false w) := by
  have L := Lib.hid ((Below.refl w.heap.size w).alloc (Nat.le_refl _) (.cells #[.int .i64 0, .int .i64 0, .slice none 0 0] 27))
  have N1 := Lib.hid (nbx0 w #[.int .i64 0, .int .i64 0, .slice none 0 0] 27)
  have HK := Lib.hid (hK.b L.out)
  clear hK
  have y0 := N1.out.cell 0 _ rfl
  have f0 := N1.out.free 0
  have y1 := N1.out.cell 1 _ rfl
  have f1 := N1.out.free 1
  have y2 := N1.out.cell 2 _ rfl
  have f2 := N1.out.free 2
  cases hf : fiB z0 z1 z2 with
  | false =>
    clear h
    go_enter Try.func18, Try.ntmps18
    go_wp2_with fail
    refine (spec_fiSize z0 z1 z2 _).mono ?_; rintro e w1 ⟨rfl, rfl⟩
    rw [hf]
    go_wp2_with fail
    refine bodyPost_ret (v := .tuple #[.agg #[.int .i64 0, .int .i64 0, .slice none 0 0], .bool false]) (by simp [results, Try.results18, go_sem, y0, y1, y2]) rfl ?_
    exact coAns_none rfl (by first | exact L.out | exact below_setAt (below_setAt (below_setAt (L.out) (by omega) _) (by omega) _) (by omega) _)
  | true =>
    have hkb : keysB S k = false := by rw [hf, Bool.true_and] at h; exact h
    clear h
    go_enter Try.func18, Try.ntmps18
    go_wp2_with fail
    refine (spec_fiSize z0 z1 z2 _).mono ?_; rintro e w1 ⟨rfl, rfl⟩
    rw [hf]
    go_wp2_with fail
    refine (spec_biKeys KA k kc S _ hk hs HK.out).mono ?_; rintro e w1 ⟨rfl, rfl⟩
    rw [hkb]
    go_wp2_with fail
    refine bodyPost_ret (v := .tuple #[.agg #[.int .i64 0, .int .i64 0, .slice none 0 0], .bool false]) (by simp [results, Try.results18, go_sem, y0, y1, y2]) rfl ?_
    exact coAns_none rfl (by first | exact L.out | exact below_setAt (below_setAt (below_setAt (L.out) (by omega) _) (by omega) _) (by omega) _)
set_option maxRecDepth 100000 in
set_option maxHeartbeats 4000000 in
theorem impl_countingOf_no (h : (fiB z0 z1 z2 && keysB S k) = false) (hk : k ≤ 1048576) (hs : ∀ i, i < k → (S i).size ≤ maxLen) (hK : GRow w KA k (strV S)) :
    Calls Try.prog 20 #[.int .i64 z0, .int .i64 z1, .int .i64 z2, .slice KA k kc] w (CoAns 0 0 0 (fun _ => 0) false w) := by
  have L := Lib.hid ((Below.refl w.heap.size w).alloc (Nat.le_refl _) (.cells #[.int .i64 0, .int .i64 0, .slice none 0 0] 27))
  have N1 := Lib.hid (nbx0 w #[.int .i64 0, .int .i64 0, .slice none 0 0] 27)
  have HK := Lib.hid (hK.b L.out)
  clear hK
  have y0 := N1.out.cell 0 _ rfl
  have f0 := N1.out.free 0
  have y1 := N1.out.cell 1 _ rfl
  have f1 := N1.out.free 1
  have y2 := N1.out.cell 2 _ rfl
  have f2 := N1.out.free 2
  cases hf : fiB z0 z1 z2 with
  | false =>
    clear h
    go_enter Try.func20, Try.ntmps20
    go_wp2_with fail
    refine (impl_hasProbes z0 z1 z2 _).mono ?_; rintro e w1 ⟨rfl, rfl⟩
    rw [hf]
    go_wp2_with fail
    refine bodyPost_ret (v := .tuple #[.agg #[.int .i64 0, .int .i64 0, .slice none 0 0], .bool false]) (by simp [results, Try.results20, go_sem, y0, y1, y2]) rfl ?_
    exact coAns_none rfl (by first | exact L.out | exact below_setAt (below_setAt (below_setAt (L.out) (by omega) _) (by omega) _) (by omega) _)
  | true =>
    have hkb : keysB S k = false := by rw [hf, Bool.true_and] at h; exact h
    clear h
    go_enter Try.func20, Try.ntmps20
    go_wp2_with fail
    refine (impl_hasProbes z0 z1 z2 _).mono ?_; rintro e w1 ⟨rfl, rfl⟩
    rw [hf]
    go_wp2_with fail
    refine (impl_areKeys KA k kc S _ hk hs HK.out).mono ?_; rintro e w1 ⟨rfl, rfl⟩
    rw [hkb]
    go_wp2_with fail
    refine bodyPost_ret (v := .tuple #[.agg #[.int .i64 0, .int .i64 0, .slice none 0 0], .bool false]) (by simp [results, Try.results20, go_sem, y0, y1, y2]) rfl ?_
    exact coAns_none rfl (by first | exact L.out | exact below_setAt (below_setAt (below_setAt (L.out) (by omega) _) (by omega) _) (by omega) _)
set_option maxRecDepth 100000 in
set_option maxHeartbeats 4000000 in
theorem spec_countingOf (h : fiB z0 p n = true) (hkb : keysB S k = true) (hk : k ≤ 1048576) (hs : ∀ i, i < k → (S i).size ≤ maxLen) (hK : GRow w KA k (strV S)) :
    Calls Try.prog 18 #[.int .i64 z0, .int .i64 p, .int .i64 n, .slice KA k kc] w (CoAns z0 p n (upK z0 p n S k) true w) := by
  obtain ⟨h0, h1, h2⟩ := fiB_out h
  have HK0 := Lib.hid hK
  have HS := Lib.hid hs
  have hmk := fun W => run_make_row' (P := Try.prog) 22 3 (.int .i64 0) 8 Try.underlying22 infoI rfl .i64 .i64 n (by omega) (by omega) W
  have hal := (Below.refl w.heap.size w).alloc (Nat.le_refl _) (.cells #[.int .i64 0, .int .i64 0, .slice none 0 0] 27)
  have N0 := nbx0 w #[.int .i64 0, .int .i64 0, .slice none 0 0] 27
  have HKa := Lib.hid (hK.b hal)
  have O0 := ORow.made (w.alloc (.cells #[.int .i64 0, .int .i64 0, .slice none 0 0] 27)) n
  have hal2 := (Below.refl (w.alloc (.cells #[.int .i64 0, .int .i64 0, .slice none 0 0] 27)).heap.size _).alloc (Nat.le_refl _) (.cells (madeCells #[.int .i64 0] n) 3)
  have hal3 := (Below.refl ((w.alloc (.cells #[.int .i64 0, .int .i64 0, .slice none 0 0] 27)).alloc (.cells (madeCells #[.int .i64 0] n) 3)).heap.size _).alloc (Nat.le_refl _) (.cells #[.int .i64 z0, .int .i64 p, .slice (some ⟨w.heap.size + 1, 0, none⟩) n n] 27)
  have O1 := Lib.hid (O0.alloc (.cells #[.int .i64 z0, .int .i64 p, .slice (some ⟨w.heap.size + 1, 0, none⟩) n n] 27))
  have N1 := Lib.hid ((N0.b hal2).b hal3)
  have Q1 := Lib.hid (nbx0 ((w.alloc (.cells #[.int .i64 0, .int .i64 0, .slice none 0 0] 27)).alloc (.cells (madeCells #[.int .i64 0] n) 3)) #[.int .i64 z0, .int .i64 p, .slice (some ⟨w.heap.size + 1, 0, none⟩) n n] 27)
  have L1 := Lib.hid ((hal.trans (hal2.mono (by simp))).trans (hal3.mono (by simp; omega)))
  simp only [World.size_alloc] at O1 Q1
  clear hK hs hal hal2 hal3 N0 O0
  go_enter Try.func18, Try.ntmps18
  go_wp2_with fail
  refine (spec_fiSize z0 p n _).mono ?_; rintro e w1 ⟨rfl, rfl⟩
  rw [h]
  go_wp2_with fail
  refine (spec_biKeys KA k kc S _ hk HS.out HKa.out).mono ?_; rintro e w2 ⟨rfl, rfl⟩
  rw [hkb]
  go_wp2_with fail
  generalize hw2 : ((w.alloc (.cells #[.int .i64 0, .int .i64 0, .slice none 0 0] 27)).alloc (.cells (madeCells #[.int .i64 0] n) 3)).alloc (.cells #[.int .i64 z0, .int .i64 p, .slice (some ⟨w.heap.size + 1, 0, none⟩) n n] 27) = w2 at *
  have hs2 : w.heap.size + 3 ≤ w2.heap.size := by rw [← hw2]; simp
  clear hw2 hmk HKa
  go_loopw [31] (fun i wr => ∃ (t g cc : Nat), t ≤ k ∧ i = .int .i64 t ∧ w.heap.size ≤ g ∧ g ≠ w.heap.size ∧ g ≠ w.heap.size + 1 + 1 ∧ Hid (ORow wr g n (upK z0 p n S t)) ∧ Hid (NBX (w.heap.size + 1 + 1) (w.heap.size + 1 + 1) #[.int .i64 z0, .int .i64 p, .slice (some ⟨g, 0, none⟩) n cc] 27 wr) ∧ Hid (NBX w.heap.size w.heap.size #[.int .i64 0, .int .i64 0, .slice none 0 0] 27 wr) ∧ Hid (Below w.heap.size w wr)) (fun i _ => k - (intOf i).toNat)
  case atStart => exact ⟨0, w.heap.size + 1, n, Nat.zero_le _, rfl, by omega, by omega, by omega, O1, Q1, N1, L1⟩
  case round =>
    obtain ⟨t, g, cc, ht, rfl, hg0, hg1, hg2, HO, HQ, HN, HL⟩ := hrel
    have hql := HQ.out.lt
    have hnl := HN.out.lt
    have q0 := HQ.out.cell 0 _ rfl
    have q1 := HQ.out.cell 1 _ rfl
    have q2 := HQ.out.cell 2 _ rfl
    by_cases hlt : t < k
    · obtain ⟨bk, ok, hKA, _, hc⟩ := HK0.out.b HL.out (by omega)
      have hck := hc t hlt
      unfold strV at hck
      have hall := up_all (z0 := z0) (p := p) (S := S) (n := n) (by omega) t
      have HC := Lib.hid (spec_fiCount (b := 1) (s := S t) (c := cc) (w := wr) (.inl rfl) h hall (HS.out t hlt) HO.out.row)
      have HOK := Lib.hid (cn_ok1 (P := prN z0 (S t) n) hall p (fun j _ => (prI_nat z0 (S t) (z := n) (by omega) j).2))
      clear hc hall
      subst hKA
      go_wp2_with fail
      refine HC.out.mono ?_; rintro e w5 ⟨hy, _, hb⟩
      obtain ⟨g5, c5, rfl, hg5, ho5⟩ := hy HOK.out
      have Q5 := HQ.out.b hb
      have N5 := HN.out.b hb
      have L5 := Lib.hid (HL.out.trans (hb.mono HL.out.size))
      have O5 := Lib.hid (show ORow w5 g5 n (upK z0 p n S (t + 1)) from ho5)
      clear hb ho5 hy q0 q1 q2 hck
      have q0 := Q5.cell 0 _ rfl
      have q1 := Q5.cell 1 _ rfl
      have q2 := Q5.cell 2 _ rfl
      have r0 := Q5.free 0
      have r1 := Q5.free 1
      have r2 := Q5.free 2
      have Q6 := Lib.hid (show NBX (w.heap.size + 1 + 1) (w.heap.size + 1 + 1) #[.int .i64 z0, .int .i64 p, .slice (some ⟨g5, 0, none⟩) n c5] 27 (((w5.setCell ⟨w.heap.size + 1 + 1, 0, none⟩ (.int .i64 z0)).setCell ⟨w.heap.size + 1 + 1, 1, none⟩ (.int .i64 p)).setCell ⟨w.heap.size + 1 + 1, 2, none⟩ (.slice (some ⟨g5, 0, none⟩) n c5)) from ((Q5.set 0 _).set 1 _).set 2 _)
      have N6 := Lib.hid (nbx_otherC (b := w.heap.size + 1 + 1) (nbx_otherC (b := w.heap.size + 1 + 1) (nbx_otherC N5 (b := w.heap.size + 1 + 1) (by omega) 0 (.int .i64 z0)) (by omega) 1 (.int .i64 p)) (by omega) 2 (.slice (some ⟨g5, 0, none⟩) n c5))
      have O6 := Lib.hid (show ORow (((w5.setCell ⟨w.heap.size + 1 + 1, 0, none⟩ (.int .i64 z0)).setCell ⟨w.heap.size + 1 + 1, 1, none⟩ (.int .i64 p)).setCell ⟨w.heap.size + 1 + 1, 2, none⟩ (.slice (some ⟨g5, 0, none⟩) n c5)) g5 n (upK z0 p n S (t + 1)) from (((O5.out).setAt (by omega) _).setAt (by omega) _).setAt (by omega) _)
      have L6 := Lib.hid (show Below w.heap.size w (((w5.setCell ⟨w.heap.size + 1 + 1, 0, none⟩ (.int .i64 z0)).setCell ⟨w.heap.size + 1 + 1, 1, none⟩ (.int .i64 p)).setCell ⟨w.heap.size + 1 + 1, 2, none⟩ (.slice (some ⟨g5, 0, none⟩) n c5)) from below_setAt (below_setAt (below_setAt (L5.out) (by omega) _) (by omega) _) (by omega) _)
      clear Q5 N5
      go_wp2_with fail
      go_roundw
      case rel => exact ⟨t + 1, g5, c5, by omega, by go_num, by omega, by omega, by omega, O6, Q6, N6, L6⟩
      case measure => simp [intOf]; omega
    · obtain rfl : k = t := by omega
      have y0 := HN.out.cell 0 _ rfl
      have f0 := HN.out.free 0
      have y1 := HN.out.cell 1 _ rfl
      have f1 := HN.out.free 1
      have y2 := HN.out.cell 2 _ rfl
      have f2 := HN.out.free 2
      go_wp2_with fail
      refine bodyPost_ret (v := .tuple #[.agg #[.int .i64 z0, .int .i64 p, .slice (some ⟨g, 0, none⟩) n cc], .bool true]) (by simp [results, Try.results18, go_sem, y0, y1, y2]) rfl ?_
      exact coAns_own rfl (by omega) ((((HO.out).setAt (by omega) _).setAt (by omega) _).setAt (by omega) _) (below_setAt (below_setAt (below_setAt (HL.out) (by omega) _) (by omega) _) (by omega) _)
set_option maxRecDepth 100000 in
set_option maxHeartbeats 4000000 in
theorem impl_countingOf (h : fiB z0 p n = true) (hkb : keysB S k = true) (hk : k ≤ 1048576) (hs : ∀ i, i < k → (S i).size ≤ maxLen) (hK : GRow w KA k (strV S)) :
    Calls Try.prog 20 #[.int .i64 z0, .int .i64 p, .int .i64 n, .slice KA k kc] w (CoAns z0 p n (upK z0 p n S k) true w) := by
  obtain ⟨h0, h1, h2⟩ := fiB_out h
  have HK0 := Lib.hid hK
  have HS := Lib.hid hs
  have hmk := fun W => run_make_row' (P := Try.prog) 22 3 (.int .i64 0) 8 Try.underlying22 infoI rfl .i64 .i64 n (by omega) (by omega) W
  have hal := (Below.refl w.heap.size w).alloc (Nat.le_refl _) (.cells #[.int .i64 0, .int .i64 0, .slice none 0 0] 27)
  have N0 := nbx0 w #[.int .i64 0, .int .i64 0, .slice none 0 0] 27
  have HKa := Lib.hid (hK.b hal)
  have O0 := ORow.made (w.alloc (.cells #[.int .i64 0, .int .i64 0, .slice none 0 0] 27)) n
  have hal2 := (Below.refl (w.alloc (.cells #[.int .i64 0, .int .i64 0, .slice none 0 0] 27)).heap.size _).alloc (Nat.le_refl _) (.cells (madeCells #[.int .i64 0] n) 3)
  have hal3 := (Below.refl ((w.alloc (.cells #[.int .i64 0, .int .i64 0, .slice none 0 0] 27)).alloc (.cells (madeCells #[.int .i64 0] n) 3)).heap.size _).alloc (Nat.le_refl _) (.cells #[.int .i64 z0, .int .i64 p, .slice (some ⟨w.heap.size + 1, 0, none⟩) n n] 27)
  have O1 := Lib.hid (O0.alloc (.cells #[.int .i64 z0, .int .i64 p, .slice (some ⟨w.heap.size + 1, 0, none⟩) n n] 27))
  have N1 := Lib.hid ((N0.b hal2).b hal3)
  have Q1 := Lib.hid (nbx0 ((w.alloc (.cells #[.int .i64 0, .int .i64 0, .slice none 0 0] 27)).alloc (.cells (madeCells #[.int .i64 0] n) 3)) #[.int .i64 z0, .int .i64 p, .slice (some ⟨w.heap.size + 1, 0, none⟩) n n] 27)
  have L1 := Lib.hid ((hal.trans (hal2.mono (by simp))).trans (hal3.mono (by simp; omega)))
  simp only [World.size_alloc] at O1 Q1
  clear hK hs hal hal2 hal3 N0 O0
  go_enter Try.func20, Try.ntmps20
  go_wp2_with fail
  refine (impl_hasProbes z0 p n _).mono ?_; rintro e w1 ⟨rfl, rfl⟩
  rw [h]
  go_wp2_with fail
  refine (impl_areKeys KA k kc S _ hk HS.out HKa.out).mono ?_; rintro e w2 ⟨rfl, rfl⟩
  rw [hkb]
  go_wp2_with fail
  generalize hw2 : ((w.alloc (.cells #[.int .i64 0, .int .i64 0, .slice none 0 0] 27)).alloc (.cells (madeCells #[.int .i64 0] n) 3)).alloc (.cells #[.int .i64 z0, .int .i64 p, .slice (some ⟨w.heap.size + 1, 0, none⟩) n n] 27) = w2 at *
  have hs2 : w.heap.size + 3 ≤ w2.heap.size := by rw [← hw2]; simp
  clear hw2 hmk HKa
  go_loopw [31] (fun i wr => ∃ t : Nat, t ≤ k ∧ i = .int .i64 t ∧ Hid (ORow wr (w.heap.size + 1) n (upK z0 p n S t)) ∧ Hid (w2.grownBy wr (some (w.heap.size + 1)))) (fun i _ => k - (intOf i).toNat)
  case atStart => exact ⟨0, Nat.zero_le _, rfl, O1, Lib.hid (World.grownBy.refl w2 _)⟩
  case round =>
    obtain ⟨t, ht, rfl, HO, HGr⟩ := hrel
    have HQ : NBX (w.heap.size + 1 + 1) (w.heap.size + 1 + 1) #[.int .i64 z0, .int .i64 p, .slice (some ⟨w.heap.size + 1, 0, none⟩) n n] 27 wr := ⟨(HGr.out.block _ (by omega) (by intro e; injection e with e; omega)).trans Q1.out.blk, Q1.out.ge⟩
    have HN : NBX w.heap.size w.heap.size #[.int .i64 0, .int .i64 0, .slice none 0 0] 27 wr := ⟨(HGr.out.block _ (by omega) (by intro e; injection e with e; omega)).trans N1.out.blk, N1.out.ge⟩
    have HL := Lib.hid (L1.out.trans (below_of_grown HGr.out L1.out.size (by omega)))
    have q0 := HQ.cell 0 _ rfl
    have q1 := HQ.cell 1 _ rfl
    have q2 := HQ.cell 2 _ rfl
    clear HQ
    by_cases hlt : t < k
    · obtain ⟨bk, ok, hKA, _, hc⟩ := HK0.out.b HL.out (by omega)
      have hck := hc t hlt
      unfold strV at hck
      have HC := Lib.hid (impl_countUp (z0 := z0) (p := p) (n := n) (c := n) (s := S t) h (up_all (z0 := z0) (p := p) (S := S) (n := n) (by omega) t) (HS.out t hlt) HO.out)
      clear hc HN
      subst hKA
      go_wp2_with fail
      refine HC.out.mono ?_; rintro e w5 ⟨rfl, ho5, hg5⟩
      have HO5 := Lib.hid (show ORow w5 (w.heap.size + 1) n (upK z0 p n S (t + 1)) from ho5)
      have HG5 := Lib.hid (grown_two HGr.out hg5)
      clear ho5 hg5 q0 q1 q2 hck
      go_wp2_with fail
      go_roundw
      case rel => exact ⟨t + 1, by omega, by go_num, HO5, HG5⟩
      case measure => simp [intOf]; omega
    · obtain rfl : k = t := by omega
      have y0 := HN.cell 0 _ rfl
      have f0 := HN.free 0
      have y1 := HN.cell 1 _ rfl
      have f1 := HN.free 1
      have y2 := HN.cell 2 _ rfl
      have f2 := HN.free 2
      clear HN
      go_wp2_with fail
      refine bodyPost_ret (v := .tuple #[.agg #[.int .i64 z0, .int .i64 p, .slice (some ⟨w.heap.size + 1, 0, none⟩) n n], .bool true]) (by simp [results, Try.results20, go_sem, y0, y1, y2]) rfl ?_
      exact coAns_own rfl (by omega) ((((HO.out).setAt (by omega) _).setAt (by omega) _).setAt (by omega) _) (below_setAt (below_setAt (below_setAt (HL.out) (by omega) _) (by omega) _) (by omega) _)
end
end Go.Proofs.Ytpajbcgdoedleab
