/- UnionBloom: both sides. -/
import Derived.Test.YtpajbcgdoedleaaBlU
import Derived.Test.YtpajbcgdoedleaaBlO
namespace Go.Proofs.Ytpajbcgdoedleaa
open Go.RowKit

theorem or_word (a b : Nat) (ha : a < 65536) (hb : b < 65536) : bits .or .i64 (a : Int) (b : Int) = ((a ||| b : Nat) : Int) ∧ a ||| b < 65536 := by
  refine ⟨i64_or_nat a b (by omega) (by omega), Nat.or_lt_two_pow (n := 16) ha hb⟩
section
variable {w : World} {z0 z1 z2 y0 y1 y2 : Int} {p z : Nat} {A B : Option Addr} {n c m d : Nat} {X Y : Nat → Int}
set_option maxRecDepth 100000 in
set_option maxHeartbeats 4000000 in
theorem spec_union_no (h : ¬ AlP z0 z1 z2 n X y0 y1 y2 m Y) (hn : n ≤ 1048576) (hm : m ≤ 1048576) (hra : IRow w A n X) (hrb : IRow w B m Y) :
    Calls Try.prog 38 #[.agg #[.int .i64 z0, .int .i64 z1, .int .i64 z2, .slice A n c], .agg #[.int .i64 y0, .int .i64 y1, .int .i64 y2, .slice B m d]] w (BlAns 0 0 0 0 (fun _ => 0) false w) := by
  have S0 := Lib.hid (U2b.start (ca := #[.int .i64 z0, .int .i64 z1, .int .i64 z2, .slice A n c]) (cb := #[.int .i64 y0, .int .i64 y1, .int .i64 y2, .slice B m d]) (cr := #[.int .i64 0, .int .i64 0, .int .i64 0, .slice none 0 0]) (t := 31) hra hrb)
  clear hra hrb
  have x0 := S0.out.ba.cell 0 _ rfl
  have v0 := S0.out.bb.cell 0 _ rfl
  have x1 := S0.out.ba.cell 1 _ rfl
  have v1 := S0.out.bb.cell 1 _ rfl
  have x2 := S0.out.ba.cell 2 _ rfl
  have v2 := S0.out.bb.cell 2 _ rfl
  have x3 := S0.out.ba.cell 3 _ rfl
  have v3 := S0.out.bb.cell 3 _ rfl
  go_enter Try.func38, Try.ntmps38
  go_wp2_with fail
  refine (spec_alike (b := false) (by simp [h]) hn hm S0.out.ra S0.out.rb).mono ?_; rintro e w1 ⟨rfl, hw⟩
  have S1 := Lib.hid (S0.out.step hw)
  clear hw x0 x1 x2 x3 v0 v1 v2 v3 S0
  have y0 := S1.out.res.cell 0 _ rfl
  have f0 := S1.out.res.free 0
  have y1 := S1.out.res.cell 1 _ rfl
  have f1 := S1.out.res.free 1
  have y2 := S1.out.res.cell 2 _ rfl
  have f2 := S1.out.res.free 2
  have y3 := S1.out.res.cell 3 _ rfl
  have f3 := S1.out.res.free 3
  go_wp2_with fail
  refine bodyPost_ret (v := .tuple #[.agg #[.int .i64 0, .int .i64 0, .int .i64 0, .slice none 0 0], .bool false]) (by simp [results, Try.results38, go_sem, y0, y1, y2, y3]) rfl ?_
  exact blAns_none rfl (by first | exact S1.out.below | exact below_setAt (below_setAt (below_setAt (below_setAt (S1.out.below) (by omega) _) (by omega) _) (by omega) _) (by omega) _)
set_option maxRecDepth 100000 in
set_option maxHeartbeats 4000000 in
theorem impl_union_no (h : ¬ AlP z0 z1 z2 n X y0 y1 y2 m Y) (hn : n ≤ 1048576) (hm : m ≤ 1048576) (hra : IRow w A n X) (hrb : IRow w B m Y) :
    Calls Try.prog 39 #[.agg #[.int .i64 z0, .int .i64 z1, .int .i64 z2, .slice A n c], .agg #[.int .i64 y0, .int .i64 y1, .int .i64 y2, .slice B m d]] w (BlAns 0 0 0 0 (fun _ => 0) false w) := by
  have S0 := Lib.hid (U2b.start (ca := #[.int .i64 z0, .int .i64 z1, .int .i64 z2, .slice A n c]) (cb := #[.int .i64 y0, .int .i64 y1, .int .i64 y2, .slice B m d]) (cr := #[.int .i64 0, .int .i64 0, .int .i64 0, .slice none 0 0]) (t := 31) hra hrb)
  clear hra hrb
  have x0 := S0.out.ba.cell 0 _ rfl
  have v0 := S0.out.bb.cell 0 _ rfl
  have x1 := S0.out.ba.cell 1 _ rfl
  have v1 := S0.out.bb.cell 1 _ rfl
  have x2 := S0.out.ba.cell 2 _ rfl
  have v2 := S0.out.bb.cell 2 _ rfl
  have x3 := S0.out.ba.cell 3 _ rfl
  have v3 := S0.out.bb.cell 3 _ rfl
  go_enter Try.func39, Try.ntmps39
  go_wp2_with fail
  refine (impl_alike (b := false) (by simp [h]) hn hm S0.out.ra S0.out.rb).mono ?_; rintro e w1 ⟨rfl, hw⟩
  have S1 := Lib.hid (S0.out.step hw)
  clear hw x0 x1 x2 x3 v0 v1 v2 v3 S0
  have y0 := S1.out.res.cell 0 _ rfl
  have f0 := S1.out.res.free 0
  have y1 := S1.out.res.cell 1 _ rfl
  have f1 := S1.out.res.free 1
  have y2 := S1.out.res.cell 2 _ rfl
  have f2 := S1.out.res.free 2
  have y3 := S1.out.res.cell 3 _ rfl
  have f3 := S1.out.res.free 3
  go_wp2_with fail
  refine bodyPost_ret (v := .tuple #[.agg #[.int .i64 0, .int .i64 0, .int .i64 0, .slice none 0 0], .bool false]) (by simp [results, Try.results39, go_sem, y0, y1, y2, y3]) rfl ?_
  exact blAns_none rfl (by first | exact S1.out.below | exact below_setAt (below_setAt (below_setAt (below_setAt (S1.out.below) (by omega) _) (by omega) _) (by omega) _) (by omega) _)
set_option maxRecDepth 100000 in
set_option maxHeartbeats 4000000 in
theorem spec_union (h : fiB z0 p z = true) (hg : Good z n X) (hg2 : Good z n Y) (hn : n ≤ 1048576) (hra : IRow w A n X) (hrb : IRow w B n Y) :
    Calls Try.prog 38 #[.agg #[.int .i64 z0, .int .i64 p, .int .i64 z, .slice A n c], .agg #[.int .i64 z0, .int .i64 p, .int .i64 z, .slice B n d]] w (BlT z0 p z n (fun k => bitX X k || bitX Y k) w) := by
  obtain ⟨h0, h1, h2⟩ := fiB_out h
  have S0 := Lib.hid (U2b.start (ca := #[.int .i64 z0, .int .i64 p, .int .i64 z, .slice A n c]) (cb := #[.int .i64 z0, .int .i64 p, .int .i64 z, .slice B n d]) (cr := #[.int .i64 0, .int .i64 0, .int .i64 0, .slice none 0 0]) (t := 31) hra hrb)
  have HRA := Lib.hid hra
  have HRB := Lib.hid hrb
  clear hra hrb
  have HG := Lib.hid hg
  have HG2 := Lib.hid hg2
  have hn256 : n ≤ 256 := by have := hg.2.2.1; omega
  have hzn : z ≤ 16 * n := by have := hg.2.2.1; omega
  have HN := Lib.hid (show n = (z + 15) / 16 by have := hg.2.2.1; omega)
  have x0 := S0.out.ba.cell 0 _ rfl
  have v0 := S0.out.bb.cell 0 _ rfl
  have x1 := S0.out.ba.cell 1 _ rfl
  have v1 := S0.out.bb.cell 1 _ rfl
  have x2 := S0.out.ba.cell 2 _ rfl
  have v2 := S0.out.bb.cell 2 _ rfl
  have x3 := S0.out.ba.cell 3 _ rfl
  have v3 := S0.out.bb.cell 3 _ rfl
  have HAl := Lib.hid (show AlP z0 p z n X z0 p z n Y from ⟨⟨h, hg⟩, ⟨h, hg2⟩, rfl, rfl, rfl⟩)
  clear hg hg2
  go_enter Try.func38, Try.ntmps38
  go_wp2_with fail
  refine (spec_alike (b := true) (by simp [HAl.out]) hn hn S0.out.ra S0.out.rb).mono ?_; rintro e w1 ⟨rfl, hw⟩
  have S1 := Lib.hid (S0.out.step hw)
  have hs1 := S1.out.res.lt
  clear hw x0 x1 x2 x3 v0 v1 v2 v3 S0
  have x0 := S1.out.ba.cell 0 _ rfl
  have v0 := S1.out.bb.cell 0 _ rfl
  have x1 := S1.out.ba.cell 1 _ rfl
  have v1 := S1.out.bb.cell 1 _ rfl
  have x2 := S1.out.ba.cell 2 _ rfl
  have v2 := S1.out.bb.cell 2 _ rfl
  have x3 := S1.out.ba.cell 3 _ rfl
  have v3 := S1.out.bb.cell 3 _ rfl
  go_wp2_with fail
  refine (spec_fiNew (z0 := z0) (p := p) (z := z) (by omega)).mono ?_; rintro e w3 ⟨g, he, hgg, ho, hb⟩
  rw [← HN.out] at he ho
  subst he
  have hbl := (Below.refl w3.heap.size w3).alloc (Nat.le_refl _) (.cells #[.int .i64 z0, .int .i64 p, .int .i64 z, .slice (some ⟨g, 0, none⟩) n n] 31)
  have S4 := Lib.hid ((S1.out.step hb).step hbl)
  have hs3 := hb.size
  have B4 := Lib.hid (boxed w3 #[.int .i64 z0, .int .i64 p, .int .i64 z, .slice (some ⟨g, 0, none⟩) n n] 31)
  have O4 := Lib.hid ((ob_zero ho).alloc (.cells #[.int .i64 z0, .int .i64 p, .int .i64 z, .slice (some ⟨g, 0, none⟩) n n] 31))
  have hgl := ((ob_zero ho)).lt
  clear hb hbl ho x0 x1 x2 x3 v0 v1 v2 v3
  go_wp2_with fail
  generalize hw4 : w3.alloc (.cells #[.int .i64 z0, .int .i64 p, .int .i64 z, .slice (some ⟨g, 0, none⟩) n n] 31) = w4 at *
  have hs4 : w3.heap.size + 1 ≤ w4.heap.size := by rw [← hw4]; simp
  clear hw4
  go_loopw [7] (fun i wr => ∃ k : Nat, k ≤ z ∧ i = .int .i64 k ∧ Hid (OB wr g n (fun j => decide (j < k) && (bitX X j || bitX Y j))) ∧ Hid (w4.grownBy wr (some g))) (fun i _ => z - (intOf i).toNat)
  case atStart => exact ⟨0, Nat.zero_le _, rfl, Lib.hid (O4.out.congr (fun j _ => by simp)), Lib.hid (World.grownBy.refl w4 _)⟩
  case round =>
    obtain ⟨k, hk, rfl, HO, HGr⟩ := hrel
    have B5 := Lib.hid (B4.out.far (only_grown HGr.out) (by omega))
    have S2 := Lib.hid (S4.out.low (below_of_grown (B := w1.heap.size) HGr.out (by omega) (by omega)) HRA.out HRB.out (by omega))
    have x2 := S2.out.ba.cell 2 _ rfl
    have x3 := S2.out.ba.cell 3 _ rfl
    have v2 := S2.out.bb.cell 2 _ rfl
    have v3 := S2.out.bb.cell 3 _ rfl
    have q0 := B5.out.now 0 _ rfl
    have q1 := B5.out.now 1 _ rfl
    have q2 := B5.out.now 2 _ rfl
    have q3 := B5.out.now 3 _ rfl
    by_cases hlt : k < z
    · have RX := Lib.hid (wrow_good S2.out.ra HG.out)
      go_wp2_with fail
      refine (spec_biAt z A n c _ k wr hn RX.out (by omega)).mono ?_; rintro e w5 ⟨rfl, hb5⟩
      have HG5 := Lib.hid (grown_two HGr.out (grown_of_below hb5 (some g)))
      have HO5 := Lib.hid (HO.out.b hb5)
      have S5 := Lib.hid (S2.out.step hb5)
      have B6 := Lib.hid (B5.out.b hb5)
      clear hb5 x2 x3 v2 v3 q0 q1 q2 q3 HO
      have v2 := S5.out.bb.cell 2 _ rfl
      have v3 := S5.out.bb.cell 3 _ rfl
      have q0 := B6.out.now 0 _ rfl
      have q1 := B6.out.now 1 _ rfl
      have q2 := B6.out.now 2 _ rfl
      have q3 := B6.out.now 3 _ rfl
      cases hF : bitN (fun i => (X i).toNat) k with
      | true =>
        have HFk := Lib.hid hF
        clear hF
        go_wp2_with fail
        refine (spec_setOn (z := z) (c := n) (i := k) HO5.out hn256 (by omega)).mono ?_; rintro e w7 ⟨rfl, ho7, hg7⟩
        have HO7 := Lib.hid (ho7.congr (G := fun j => decide (j < k + 1) && (bitX X j || bitX Y j)) (fun j _ => by
          by_cases e : j = k
          · subst e; have : bitX X j = true := HFk.out; simp [this]
          · have e2 : decide (j < k + 1) = decide (j < k) := decide_eq_decide.2 (by omega)
            simp [e, e2]))
        have HG7 := Lib.hid (grown_two HG5.out hg7)
        clear ho7 hg7 v2 v3 q0 q1 q2 q3
        go_wp2_with fail
        go_roundw
        case rel => exact ⟨k + 1, by omega, by go_num, HO7, HG7⟩
        case measure => simp [intOf]; omega
      | false =>
        have HFk := Lib.hid hF
        have RY := Lib.hid (wrow_good S5.out.rb HG2.out)
        clear hF
        go_wp2_with fail
        refine (spec_biAt z B n d _ k w5 hn RY.out (by omega)).mono ?_; rintro e w6 ⟨rfl, hb6⟩
        have HG6 := Lib.hid (grown_two HG5.out (grown_of_below hb6 (some g)))
        have HO6 := Lib.hid (HO5.out.b hb6)
        have B7 := Lib.hid (B6.out.b hb6)
        clear hb6 v2 v3 q0 q1 q2 q3 HO5
        have q0 := B7.out.now 0 _ rfl
        have q1 := B7.out.now 1 _ rfl
        have q2 := B7.out.now 2 _ rfl
        have q3 := B7.out.now 3 _ rfl
        cases hE : bitN (fun i => (Y i).toNat) k with
        | true =>
          have HEk := Lib.hid hE
          clear hE
          go_wp2_with fail
          refine (spec_setOn (z := z) (c := n) (i := k) HO6.out hn256 (by omega)).mono ?_; rintro e w7 ⟨rfl, ho7, hg7⟩
          have HO7 := Lib.hid (ho7.congr (G := fun j => decide (j < k + 1) && (bitX X j || bitX Y j)) (fun j _ => by
            by_cases e : j = k
            · subst e; have : bitX Y j = true := HEk.out; simp [this]
            · have e2 : decide (j < k + 1) = decide (j < k) := decide_eq_decide.2 (by omega)
              simp [e, e2]))
          have HG7 := Lib.hid (grown_two HG6.out hg7)
          clear ho7 hg7 q0 q1 q2 q3
          go_wp2_with fail
          go_roundw
          case rel => exact ⟨k + 1, by omega, by go_num, HO7, HG7⟩
          case measure => simp [intOf]; omega
        | false =>
          have HO7 := Lib.hid (HO6.out.congr (G := fun j => decide (j < k + 1) && (bitX X j || bitX Y j)) (fun j _ => by
            by_cases e : j = k
            · subst e; have e1 : bitX Y j = false := hE; have e2 : bitX X j = false := HFk.out; simp [e1, e2]
            · have e2 : decide (j < k + 1) = decide (j < k) := decide_eq_decide.2 (by omega)
              simp [e2]))
          clear hE q0 q1 q2 q3
          go_wp2_with fail
          go_roundw
          case rel => exact ⟨k + 1, by omega, by go_num, HO7, HG6⟩
          case measure => simp [intOf]; omega
    · obtain rfl : z = k := by omega
      have HE := Lib.hid (HO.out.congr (G := fun j => bitX X j || bitX Y j) (fun j hj => by
        by_cases e : j < z
        · simp [e]
        · rw [bl_high HG.out hj (by omega), bl_high HG2.out hj (by omega)]; simp))
      have N2 := S2.out.res
      have y0 := N2.cell 0 _ rfl
      have f0 := N2.free 0
      have y1 := N2.cell 1 _ rfl
      have f1 := N2.free 1
      have y2 := N2.cell 2 _ rfl
      have f2 := N2.free 2
      have y3 := N2.cell 3 _ rfl
      have f3 := N2.free 3
      clear N2
      go_wp2_with fail
      refine bodyPost_ret (v := .tuple #[.agg #[.int .i64 z0, .int .i64 p, .int .i64 z, .slice (some ⟨g, 0, none⟩) n n], .bool true]) (by simp [results, Try.results38, go_sem, y0, y1, y2, y3]) rfl ?_
      exact ⟨g, n, rfl, by omega, (((HE.out.setAt (by omega) _).setAt (by omega) _).setAt (by omega) _).setAt (by omega) _, below_setAt (below_setAt (below_setAt (below_setAt (S2.out.below) (by omega) _) (by omega) _) (by omega) _) (by omega) _⟩
set_option maxRecDepth 100000 in
set_option maxHeartbeats 4000000 in
theorem impl_union (h : fiB z0 p z = true) (hg : Good z n X) (hg2 : Good z n Y) (hn : n ≤ 1048576) (hra : IRow w A n X) (hrb : IRow w B n Y) :
    Calls Try.prog 39 #[.agg #[.int .i64 z0, .int .i64 p, .int .i64 z, .slice A n c], .agg #[.int .i64 z0, .int .i64 p, .int .i64 z, .slice B n d]] w (BlT z0 p z n (fun k => bitX X k || bitX Y k) w) := by
  obtain ⟨h0, h1, h2⟩ := fiB_out h
  have S0 := Lib.hid (U2b.start (ca := #[.int .i64 z0, .int .i64 p, .int .i64 z, .slice A n c]) (cb := #[.int .i64 z0, .int .i64 p, .int .i64 z, .slice B n d]) (cr := #[.int .i64 0, .int .i64 0, .int .i64 0, .slice none 0 0]) (t := 31) hra hrb)
  have HRA := Lib.hid hra
  have HRB := Lib.hid hrb
  clear hra hrb
  have HG := Lib.hid hg
  have HG2 := Lib.hid hg2
  have hn256 : n ≤ 256 := by have := hg.2.2.1; omega
  have hzn : z ≤ 16 * n := by have := hg.2.2.1; omega
  have HN := Lib.hid (show n = (z + 15) / 16 by have := hg.2.2.1; omega)
  have x0 := S0.out.ba.cell 0 _ rfl
  have v0 := S0.out.bb.cell 0 _ rfl
  have x1 := S0.out.ba.cell 1 _ rfl
  have v1 := S0.out.bb.cell 1 _ rfl
  have x2 := S0.out.ba.cell 2 _ rfl
  have v2 := S0.out.bb.cell 2 _ rfl
  have x3 := S0.out.ba.cell 3 _ rfl
  have v3 := S0.out.bb.cell 3 _ rfl
  have HAl := Lib.hid (show AlP z0 p z n X z0 p z n Y from ⟨⟨h, hg⟩, ⟨h, hg2⟩, rfl, rfl, rfl⟩)
  clear hg hg2
  go_enter Try.func39, Try.ntmps39
  go_wp2_with fail
  refine (impl_alike (b := true) (by simp [HAl.out]) hn hn S0.out.ra S0.out.rb).mono ?_; rintro e w1 ⟨rfl, hw⟩
  have S1 := Lib.hid (S0.out.step hw)
  have hs1 := S1.out.res.lt
  clear hw x0 x1 x2 x3 v0 v1 v2 v3 S0
  have x0 := S1.out.ba.cell 0 _ rfl
  have v0 := S1.out.bb.cell 0 _ rfl
  have x1 := S1.out.ba.cell 1 _ rfl
  have v1 := S1.out.bb.cell 1 _ rfl
  have x2 := S1.out.ba.cell 2 _ rfl
  have v2 := S1.out.bb.cell 2 _ rfl
  have x3 := S1.out.ba.cell 3 _ rfl
  have v3 := S1.out.bb.cell 3 _ rfl
  go_wp2_with fail
  refine (impl_cloneBloom (by omega) HG.out S1.out.ra).mono ?_; rintro e w3 ⟨g, cc, rfl, hgg, ho, hb⟩
  have hbl := (Below.refl w3.heap.size w3).alloc (Nat.le_refl _) (.cells #[.int .i64 z0, .int .i64 p, .int .i64 z, .slice (some ⟨g, 0, none⟩) n cc] 31)
  have S4 := Lib.hid ((S1.out.step hb).step hbl)
  have hs3 := hb.size
  have B4 := Lib.hid (boxed w3 #[.int .i64 z0, .int .i64 p, .int .i64 z, .slice (some ⟨g, 0, none⟩) n cc] 31)
  have O4 := Lib.hid ((ho).alloc (.cells #[.int .i64 z0, .int .i64 p, .int .i64 z, .slice (some ⟨g, 0, none⟩) n cc] 31))
  have hgl := ((ho)).lt
  clear hb hbl ho x0 x1 x2 x3 v0 v1 v2 v3
  have hs4 : w3.heap.size + 1 ≤ (w3.alloc (.cells #[.int .i64 z0, .int .i64 p, .int .i64 z, .slice (some ⟨g, 0, none⟩) n cc] 31)).heap.size := by simp
  have v2 := S4.out.bb.cell 2 _ rfl
  have v3 := S4.out.bb.cell 3 _ rfl
  go_wp2_with fail
  generalize hw4 : w3.alloc (.cells #[.int .i64 z0, .int .i64 p, .int .i64 z, .slice (some ⟨g, 0, none⟩) n cc] 31) = w4 at *
  clear hw4 v2 v3
  go_loopw [20] (fun i wr => ∃ k : Nat, k ≤ n ∧ i = .int .i64 k ∧ Hid (OB wr g n (fun j => bitX X j || (decide (j < 16 * k) && bitX Y j))) ∧ Hid (w4.grownBy wr (some g))) (fun i _ => n - (intOf i).toNat)
  case atStart => exact ⟨0, Nat.zero_le _, rfl, Lib.hid (O4.out.congr (fun j _ => by simp)), Lib.hid (World.grownBy.refl w4 _)⟩
  case round =>
    obtain ⟨k, hk, rfl, HO, HGr⟩ := hrel
    have B5 := Lib.hid (B4.out.far (only_grown HGr.out) (by omega))
    have S2 := Lib.hid (S4.out.low (below_of_grown (B := w1.heap.size) HGr.out (by omega) (by omega)) HRA.out HRB.out (by omega))
    have q0 := B5.out.now 0 _ rfl
    have q1 := B5.out.now 1 _ rfl
    have q2 := B5.out.now 2 _ rfl
    have q3 := B5.out.now 3 _ rfl
    by_cases hlt : k < n
    · obtain ⟨bb, ob, hB, _, hcb⟩ := S2.out.rb (by omega)
      have hy := hcb k hlt
      obtain ⟨uy, huy⟩ : ∃ u : Nat, Y k = u := ⟨(Y k).toNat, by have := good_nat HG2.out k hlt; omega⟩
      have hby : uy < 65536 := by have := good_nat HG2.out k hlt; omega
      obtain ⟨W, hW1, hW2, hW3⟩ := HO.out
      have hx := hW3.cell hlt
      have hfx := hW3.frozen k
      obtain ⟨hor, hor2⟩ := or_word (W k) uy (hW1 k hlt) hby
      have HOr := Lib.hid hor
      have HU := Lib.hid huy
      have HW1 := Lib.hid hW1
      have HW2 := Lib.hid hW2
      have HW3 := Lib.hid hW3
      rw [huy] at hy
      generalize hwk : W k = wk at *
      clear hcb huy hW1 hW2 hW3 hor HO
      subst hB
      go_wp2_with fail
      rw [HOr.out]
      have HO7 := Lib.hid (show OB (wr.setCell ⟨g, k, none⟩ (.int .i64 ((wk ||| uy : Nat) : Int))) g n (fun j => bitX X j || (decide (j < 16 * (k + 1)) && bitX Y j)) from
        ⟨fun i => if i = k then wk ||| uy else W i, fun i hi => by
          by_cases e : i = k
          · simp [e, hor2]
          · simpa [e] using HW1.out i hi, fun j hj => by
          have h3 := HW2.out j hj
          by_cases e : j / 16 = k
          · have h4 : bitX Y j = uy.testBit (j % 16) := by unfold bitX bitN; dsimp only; rw [e, HU.out, Int.toNat_natCast]
            unfold bitN at h3 ⊢
            rw [e, hwk] at h3
            simp only [e, if_true]
            rw [Nat.testBit_or, h3, h4]
            dsimp only
            rw [decide_eq_false (show ¬ j < 16 * k by omega), decide_eq_true (show j < 16 * (k + 1) by omega)]
            simp
          · unfold bitN at h3 ⊢
            simp only [e, if_false]
            rw [h3]
            dsimp only
            rw [show decide (j < 16 * k) = decide (j < 16 * (k + 1)) from decide_eq_decide.2 (by omega)],
          (HW3.out.set k _).congr (fun i _ => by by_cases e : i = k <;> simp [e])⟩)
      have HG7 := Lib.hid (grown_setCell HGr.out k (.int .i64 ((wk ||| uy : Nat) : Int)))
      clear q0 q1 q2 q3 hx hfx hy
      go_roundw
      case rel => exact ⟨k + 1, by omega, by go_num, HO7, HG7⟩
      case measure => simp [intOf]; omega
    · obtain rfl : n = k := by omega
      have HE := Lib.hid (HO.out.congr (G := fun j => bitX X j || bitX Y j) (fun j hj => by simp [hj]))
      have N2 := S2.out.res
      have y0 := N2.cell 0 _ rfl
      have f0 := N2.free 0
      have y1 := N2.cell 1 _ rfl
      have f1 := N2.free 1
      have y2 := N2.cell 2 _ rfl
      have f2 := N2.free 2
      have y3 := N2.cell 3 _ rfl
      have f3 := N2.free 3
      clear N2
      go_wp2_with fail
      refine bodyPost_ret (v := .tuple #[.agg #[.int .i64 z0, .int .i64 p, .int .i64 z, .slice (some ⟨g, 0, none⟩) n cc], .bool true]) (by simp [results, Try.results39, go_sem, y0, y1, y2, y3]) rfl ?_
      exact ⟨g, cc, rfl, by omega, (((HE.out.setAt (by omega) _).setAt (by omega) _).setAt (by omega) _).setAt (by omega) _, below_setAt (below_setAt (below_setAt (below_setAt (S2.out.below) (by omega) _) (by omega) _) (by omega) _) (by omega) _⟩
end
end Go.Proofs.Ytpajbcgdoedleaa
