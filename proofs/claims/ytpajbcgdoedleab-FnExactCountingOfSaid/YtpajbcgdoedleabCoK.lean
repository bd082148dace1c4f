/- Counts changed at the probes of a key: both sides. -/
import Derived.Test.YtpajbcgdoedleabCoG
import Derived.Test.YtpajbcgdoedleabBlA
import Derived.Deep.DeepCutAuto
import Derived.Deep.RegionHeld3
import Derived.OrdersHeld
import Derived.Deep.RegionHeld
namespace Go.Proofs.Ytpajbcgdoedleab
open Go.RowKit

/-- A counting filter in its own memory. -/
def CoO (z0 p : Int) (n : Nat) (X : Nat → Int) (w : World) (e : Ending) (w' : World) : Prop :=
  ∃ g cc, e = .returned (.agg #[.int .i64 z0, .int .i64 p, .slice (some ⟨g, 0, none⟩) n cc]) ∧ w.heap.size ≤ g ∧ ORow w' g n X ∧ Below w.heap.size w w'
theorem cn_step1 {C : Nat → Int} {P : Nat → Nat} {n k : Nat} (hC : InAll n C 0 15) (hP : ∀ j, j < k + 1 → P j < n) : min (cnF 1 C P k (P k) + 1) 15 = cnF 1 C P (k + 1) (P k) := by
  have h1 := cn_all hC (.inl rfl) k (cn_ok1 hC k (fun j hj => hP j (by omega))) (P k) (hP k (by omega))
  show _ = (if P k = P k then _ else _)
  rw [if_pos rfl]
  by_cases e : cnF 1 C P k (P k) < 15
  · rw [if_pos e]; omega
  · rw [if_neg e]; omega
theorem cn_other {b : Int} {C : Nat → Int} {P : Nat → Nat} {k j : Nat} (h : j ≠ P k) : cnF b C P (k + 1) j = cnF b C P k j := by
  show (if j = P k then _ else _) = _
  rw [if_neg h]
theorem cn_low {b : Int} {C : Nat → Int} {P : Nat → Nat} {k : Nat} (h : cnF b C P k (P k) < 15) : cnF b C P (k + 1) (P k) = cnF b C P k (P k) + b := by
  show (if P k = P k then _ else _) = _
  rw [if_pos rfl, if_pos h]
theorem cn_full {b : Int} {C : Nat → Int} {P : Nat → Nat} {k : Nat} (h : ¬ cnF b C P k (P k) < 15) : cnF b C P (k + 1) (P k) = cnF b C P k (P k) := by
  show (if P k = P k then _ else _) = _
  rw [if_pos rfl, if_neg h]
theorem cn_set {w : World} {b : Int} {C : Nat → Int} {P : Nat → Nat} {k n g : Nat} {x : Int} (ho : ORow w g n (cnF b C P k)) (hx : x = cnF b C P (k + 1) (P k)) : ORow (w.setCell ⟨g, P k, none⟩ (.int .i64 x)) g n (cnF b C P (k + 1)) :=
  (ho.set (P k) x).congr (fun j _ => by
    by_cases e : j = P k
    · rw [if_pos e, hx, e]
    · rw [if_neg e, cn_other e])
theorem cn_same {w : World} {b : Int} {C : Nat → Int} {P : Nat → Nat} {k n g : Nat} (ho : ORow w g n (cnF b C P k)) (h : ¬ cnF b C P k (P k) < 15) : ORow w g n (cnF b C P (k + 1)) :=
  ho.congr (fun j _ => by
    by_cases e : j = P k
    · subst e; rw [cn_full h]
    · rw [cn_other e])
/-- What counting down answers. -/
def DownIs (C : Nat → Int) (P : Nat → Nat) (p g n : Nat) (w : World) (e : Ending) (w' : World) : Prop := ∃ r : Bool, e = .returned (.bool r) ∧ (r = true ↔ cnOk (-1) C P p) ∧ (r = true → ORow w' g n (cnF (-1) C P p)) ∧ w.grownBy w' (some g)
section
variable {z0 : Int} {p : Nat} {A : Option Addr} {n c : Nat} {X : Nat → Int} {s : ByteArray} {w : World}
set_option maxRecDepth 100000 in
set_option maxHeartbeats 4000000 in
theorem impl_countUp {g : Nat} {C : Nat → Int} (h : fiB z0 p n = true) (hC : InAll n C 0 15) (hs : s.size ≤ maxLen) (ho : ORow w g n C) :
    Calls Try.prog 59 #[.agg #[.int .i64 z0, .int .i64 p, .slice (some ⟨g, 0, none⟩) n c], .string s] w fun e w' => e = .returned (.tuple #[]) ∧ ORow w' g n (cnF 1 C (prN z0 s n) p) ∧ w.grownBy w' (some g) := by
  obtain ⟨h0, h1, h2⟩ := fiB_out h
  have B0 := Lib.hid (boxed w #[.int .i64 z0, .int .i64 p, .slice (some ⟨g, 0, none⟩) n c] 27)
  have L0 := Lib.hid ((Below.refl w.heap.size w).alloc (Nat.le_refl _) (.cells #[.int .i64 z0, .int .i64 p, .slice (some ⟨g, 0, none⟩) n c] 27))
  have O0 := Lib.hid (ho.alloc (.cells #[.int .i64 z0, .int .i64 p, .slice (some ⟨g, 0, none⟩) n c] 27))
  have HC := Lib.hid hC
  have hgl := ho.lt
  have x0 := B0.out.now 0 _ rfl
  have x1 := B0.out.now 1 _ rfl
  have x2 := B0.out.now 2 _ rfl
  have HP := Lib.hid (fun (j : Nat) (_ : j < p) => (prI_nat z0 s (z := n) (by omega) j).2)
  clear ho hC
  go_enter Try.func59, Try.ntmps59
  go_wp2_with fail
  refine (impl_probesForC h hs).mono ?_; rintro e w1 ⟨gp, rfl, hgp, hop, hb⟩
  rw [World.size_alloc] at hgp
  have R1 := Lib.hid hop
  have hgpl := hop.lt
  have B1 := Lib.hid (B0.out.b hb)
  have O1 := Lib.hid (O0.out.b hb)
  have G1 := Lib.hid (grown_of_below (L0.out.trans (hb.mono (by simp))) (some g))
  have hs1 := hb.size
  rw [World.size_alloc] at hs1
  clear hop hb x0 x1 x2 O0
  go_wp2_with fail
  go_loopw [10] (fun i wr => ∃ k : Nat, k ≤ p ∧ i = .int .i64 k ∧ Hid (ORow wr g n (cnF 1 C (prN z0 s n) k)) ∧ Hid (w1.grownBy wr (some g))) (fun i _ => p - (intOf i).toNat)
  case atStart => exact ⟨0, Nat.zero_le _, rfl, O1, Lib.hid (World.grownBy.refl w1 _)⟩
  case round =>
    obtain ⟨k, hk, rfl, HO, HG⟩ := hrel
    by_cases hlt : k < p
    · obtain ⟨v1, v2⟩ := prI_nat z0 s (z := n) (by omega) k
      have hx := (R1.out.grown HG.out (by intro e; injection e with e; omega)).cell hlt
      rw [v1] at hx
      have x2 := (World.cell?_of_block (a := ⟨w.heap.size, 2, none⟩) (HG.out.block w.heap.size (by omega) (by intro e; injection e with e; omega))).trans (B1.out.now 2 _ rfl)
      have hy := HO.out.cell (i := prN z0 s n k) v2
      have hfy := HO.out.frozen (prN z0 s n k)
      have hb := cn_all HC.out (.inl rfl) k (cn_ok1 HC.out k (fun j hj => HP.out j (by omega))) (prN z0 s n k) v2
      have HS := Lib.hid (cn_step1 (k := k) HC.out (fun j hj => HP.out j (by omega)))
      obtain ⟨q, hq⟩ : ∃ q : Nat, q = prN z0 s n k := ⟨_, rfl⟩
      obtain ⟨y, hyy⟩ : ∃ y : Int, y = cnF 1 C (prN z0 s n) k (prN z0 s n k) := ⟨_, rfl⟩
      obtain ⟨m, hmm⟩ : ∃ m : Int, m = min (y + 1) 15 := ⟨_, rfl⟩
      rw [← hyy] at hy hb HS
      rw [← hmm] at HS
      have HMM := Lib.hid hmm
      have e1 : IntKind.i64.wrap (y + 1) = y + 1 := IntWalk.i64_in _ (by omega)
      rw [← hq] at hx hy hfy v2
      have HQ := Lib.hid hq
      have hqn : (q : Int) < (n : Int) := by omega
      clear v1 hq hyy hmm
      go_upto_region 4 with fail
      have hmin : min (y + 1) 15 = m := HMM.out.symm
      have HO2 := Lib.hid (show ORow (wr.setCell ⟨g, q, none⟩ (.int .i64 m)) g n (cnF 1 C (prN z0 s n) (k + 1)) by
        have hh := cn_set HO.out (x := m) HS.out
        rw [← HQ.out] at hh; exact hh)
      have HG2 := Lib.hid (grown_setCell HG.out q (.int .i64 m))
      go_region
      go_wp2_with fail
      go_roundw
      case rel => exact ⟨k + 1, by omega, by go_num, Lib.hid (show ORow _ _ _ _ from HO2.out), Lib.hid (only_drew HG2.out)⟩
      case measure => simp [intOf]; omega
    · obtain rfl : k = p := by omega
      go_wp2_with fail
      go_end0
      exact ⟨rfl, HO.out, grown_two G1.out HG.out⟩
set_option maxRecDepth 100000 in
set_option maxHeartbeats 4000000 in
theorem impl_countDown {g : Nat} {C : Nat → Int} (h : fiB z0 p n = true) (hC : InAll n C 0 15) (hs : s.size ≤ maxLen) (ho : ORow w g n C) :
    Calls Try.prog 66 #[.agg #[.int .i64 z0, .int .i64 p, .slice (some ⟨g, 0, none⟩) n c], .string s] w fun e w' => DownIs C (prN z0 s n) p g n w e w' := by
  obtain ⟨h0, h1, h2⟩ := fiB_out h
  have B0 := Lib.hid (boxed w #[.int .i64 z0, .int .i64 p, .slice (some ⟨g, 0, none⟩) n c] 27)
  have L0 := Lib.hid ((Below.refl w.heap.size w).alloc (Nat.le_refl _) (.cells #[.int .i64 z0, .int .i64 p, .slice (some ⟨g, 0, none⟩) n c] 27))
  have O0 := Lib.hid (ho.alloc (.cells #[.int .i64 z0, .int .i64 p, .slice (some ⟨g, 0, none⟩) n c] 27))
  have HC := Lib.hid hC
  have hgl := ho.lt
  have x0 := B0.out.now 0 _ rfl
  have x1 := B0.out.now 1 _ rfl
  have x2 := B0.out.now 2 _ rfl
  have HP := Lib.hid (fun (j : Nat) (_ : j < p) => (prI_nat z0 s (z := n) (by omega) j).2)
  clear ho hC
  go_enter Try.func66, Try.ntmps66
  go_wp2_with fail
  refine (impl_probesForC h hs).mono ?_; rintro e w1 ⟨gp, rfl, hgp, hop, hb⟩
  rw [World.size_alloc] at hgp
  have R1 := Lib.hid hop
  have hgpl := hop.lt
  have B1 := Lib.hid (B0.out.b hb)
  have O1 := Lib.hid (O0.out.b hb)
  have G1 := Lib.hid (grown_of_below (L0.out.trans (hb.mono (by simp))) (some g))
  have hs1 := hb.size
  rw [World.size_alloc] at hs1
  clear hop hb x0 x1 x2 O0
  go_wp2_with fail
  go_loopw [11] (fun i wr => ∃ k : Nat, k ≤ p ∧ i = .int .i64 k ∧ Hid (cnOk (-1) C (prN z0 s n) k) ∧ Hid (ORow wr g n (cnF (-1) C (prN z0 s n) k)) ∧ Hid (w1.grownBy wr (some g))) (fun i _ => p - (intOf i).toNat)
  case atStart => exact ⟨0, Nat.zero_le _, rfl, Lib.hid trivial, O1, Lib.hid (World.grownBy.refl w1 _)⟩
  case round =>
    obtain ⟨k, hk, rfl, HK, HO, HG⟩ := hrel
    by_cases hlt : k < p
    · obtain ⟨v1, v2⟩ := prI_nat z0 s (z := n) (by omega) k
      have hx := (R1.out.grown HG.out (by intro e; injection e with e; omega)).cell hlt
      rw [v1] at hx
      have x2 := (World.cell?_of_block (a := ⟨w.heap.size, 2, none⟩) (HG.out.block w.heap.size (by omega) (by intro e; injection e with e; omega))).trans (B1.out.now 2 _ rfl)
      have hy := HO.out.cell (i := prN z0 s n k) v2
      have hfy := HO.out.frozen (prN z0 s n k)
      have hb := cn_all HC.out (.inr rfl) k HK.out (prN z0 s n k) v2
      have HST := Lib.hid (fun h => cn_stop (b := -1) (C := C) (P := prN z0 s n) (j := k) h p hlt)
      have HSM := Lib.hid (fun h => cn_same (b := -1) (C := C) (P := prN z0 s n) (k := k) HO.out h)
      have HLW := Lib.hid (fun h => cn_set HO.out (x := cnF (-1) C (prN z0 s n) k (prN z0 s n k) + -1) (cn_low (b := -1) (C := C) (P := prN z0 s n) (k := k) h).symm)
      have HKN := Lib.hid (show 0 ≤ cnF (-1) C (prN z0 s n) k (prN z0 s n k) + -1 → cnOk (-1) C (prN z0 s n) (k + 1) from fun h => ⟨HK.out, h⟩)
      obtain ⟨q, hq⟩ : ∃ q : Nat, q = prN z0 s n k := ⟨_, rfl⟩
      rw [← hq] at hx hy hfy v2 hb HST HSM HLW HKN
      obtain ⟨y, hyy⟩ : ∃ y : Int, y = cnF (-1) C (prN z0 s n) k q := ⟨_, rfl⟩
      rw [← hyy] at hy hb HST HSM HLW HKN
      have hqn : (q : Int) < (n : Int) := by omega
      clear v1 hq hyy
      by_cases hz : y = 0
      · have d : (y == 0) = true := by simpa using hz
        have HN := Lib.hid (HST.out (by omega))
        clear hz
        go_wp2_with fail
        go_ret
        exact ⟨false, rfl, by simp only [Bool.false_eq_true, false_iff]; exact HN.out, (fun h => by cases h), grown_two G1.out HG.out⟩
      · have d : (y == 0) = false := by simpa using hz
        have HKk := Lib.hid (HKN.out (by omega))
        by_cases hf : y = 15
        · have d2 : (y == 15) = true := by simpa using hf
          have HO2 := Lib.hid (HSM.out (by omega))
          clear hf hz
          go_wp2_with fail
          go_roundw
          case rel => exact ⟨k + 1, by omega, by go_num, HKk, HO2, HG⟩
          case measure => simp [intOf]; omega
        · have d2 : (y == 15) = false := by simpa using hf
          have hl := HLW.out (by omega)
          have e1 : IntKind.i64.wrap (y - 1) = y - 1 := IntWalk.i64_in _ (by omega)
          have HO2 := Lib.hid (show ORow (wr.setCell ⟨g, q, none⟩ (.int .i64 (y - 1))) g n (cnF (-1) C (prN z0 s n) (k + 1)) from hl)
          have HG2 := Lib.hid (grown_setCell HG.out q (.int .i64 (y - 1)))
          clear hf hz hl
          go_wp2_with fail
          go_roundw
          case rel => exact ⟨k + 1, by omega, by go_num, HKk, HO2, HG2⟩
          case measure => simp [intOf]; omega
    · obtain rfl : k = p := by omega
      go_wp2_with fail
      go_ret
      exact ⟨true, rfl, by simp only [true_iff]; exact HK.out, fun _ => HO.out, grown_two G1.out HG.out⟩
set_option linter.unusedSimpArgs false in
set_option maxRecDepth 100000 in
set_option maxHeartbeats 4000000 in
theorem impl_cloneCounting (hn0 : 0 < n) (hn1 : n ≤ 512) (hr : IRow w A n X) :
    Calls Try.prog 63 #[.agg #[.int .i64 z0, .int .i64 p, .slice A n c]] w (CoO z0 p n X w) := by
  have S0 := CoC.start (z0 := z0) (z1 := p) (c := c) hr
  have hal := (Below.refl (w.alloc (.cells #[.int .i64 z0, .int .i64 p, .slice A n c] 27)).heap.size (w.alloc (.cells #[.int .i64 z0, .int .i64 p, .slice A n c] 27))).alloc (Nat.le_refl _) (.cells #[.int .i64 0, .int .i64 0, .slice none 0 0] 27)
  have S1 := Lib.hid (S0.step hal)
  have N1 := Lib.hid (nbx0 (w.alloc (.cells #[.int .i64 z0, .int .i64 p, .slice A n c] 27)) #[.int .i64 0, .int .i64 0, .slice none 0 0] 27)
  clear hr hal S0
  rw [World.size_alloc] at N1
  go_enter Try.func63, Try.ntmps63
  go_wp2_with fail
  generalize hw1 : (w.alloc (.cells #[.int .i64 z0, .int .i64 p, .slice A n c] 27)).alloc (.cells #[.int .i64 0, .int .i64 0, .slice none 0 0] 27) = w1 at *
  have hs1 : w.heap.size + 2 ≤ w1.heap.size := by rw [← hw1]; simp
  clear hw1
  have hcur : w1.heap.size ≤ w1.heap.size := Nat.le_refl _
  have HK := Lib.hid (show ∀ W, Below w1.heap.size w1 W → (fun W => W.cell? ⟨w.heap.size, 0, none⟩ = some (.int .i64 z0) ∧ W.cell? ⟨w.heap.size, 1, none⟩ = some (.int .i64 p) ∧ W.cell? ⟨w.heap.size, 2, none⟩ = some (.slice A n c)) W from fun W hW => ⟨(S1.out.step hW).box.cell 0 _ rfl, (S1.out.step hW).box.cell 1 _ rfl, (S1.out.step hW).box.cell 2 _ rfl⟩)
  have SD := Lib.hid (S1.out.drew)
  have x0 := S1.out.box.cell 0 _ rfl
  have x1 := S1.out.box.cell 1 _ rfl
  have x2 := S1.out.box.cell 2 _ rfl
  go_region_held3 (fun W => W.cell? ⟨w.heap.size, 0, none⟩ = some (.int .i64 z0) ∧ W.cell? ⟨w.heap.size, 1, none⟩ = some (.int .i64 p) ∧ W.cell? ⟨w.heap.size, 2, none⟩ = some (.slice A n c))
    (first | with_reducible exact HK.out _ hb2 | (go_keep; done))
    (first
      | (go_at_call 95; refine (clone_row (by omega) hn0 SD.out.row).mono ?_; rintro e w2 ⟨A2, c2, rfl, ho2, hb2'⟩; obtain ⟨g, rfl, hgg, hgo⟩ := vec_posB ho2 hn0; have hb2 := of_drew hb2'; have O2 := Lib.hid hgo; have NB := N1.out.b hb2; have y0 := NB.cell 0 _ rfl; have y1 := NB.cell 1 _ rfl; have y2 := NB.cell 2 _ rfl; have f0 := NB.free 0; have f1 := NB.free 1; have f2 := NB.free 2; clear ho2 hb2' hgo))
  go_wp2_with fail
  refine bodyPost_ret (v := .agg #[.int .i64 z0, .int .i64 p, .slice (some ⟨g, 0, none⟩) n c2]) (by simp [results, Try.results63, go_sem, y0, y1, y2]) rfl ?_
  have hgw : w1.heap.size ≤ g := hgg
  exact ⟨g, c2, rfl, by omega, (show ORow _ g n X from (((O2.out).setAt (by omega) _).setAt (by omega) _).setAt (by omega) _), below_setAt (below_setAt (below_setAt (S1.out.below.trans (hb2.mono (by omega))) (by omega) _) (by omega) _) (by omega) _⟩
/-- What changing the counts answers. -/
def FcIs (b : Int) (z0 p : Int) (n : Nat) (C : Nat → Int) (P : Nat → Nat) (k : Nat) (w : World) (e : Ending) (w' : World) : Prop :=
  (cnOk b C P k → ∃ g cc, e = .returned (.tuple #[.agg #[.int .i64 z0, .int .i64 p, .slice (some ⟨g, 0, none⟩) n cc], .bool true]) ∧ w.heap.size ≤ g ∧ ORow w' g n (cnF b C P k)) ∧ (¬ cnOk b C P k → e = .returned (.tuple #[.agg #[.int .i64 0, .int .i64 0, .slice none 0 0], .bool false])) ∧ Below w.heap.size w w'
set_option linter.unusedSimpArgs false in
set_option maxRecDepth 100000 in
set_option maxHeartbeats 8000000 in
theorem spec_fiCount {b : Int} (hb : b = 1 ∨ b = -1) (h : fiB z0 p n = true) (hX : InAll n X 0 15) (hs : s.size ≤ maxLen) (hr : IRow w A n X) :
    Calls Try.prog 57 #[.agg #[.int .i64 z0, .int .i64 p, .slice A n c], .string s, .int .i64 b] w (FcIs b z0 p n X (prN z0 s n) p w) := by
  obtain ⟨h0, h1, h2⟩ := fiB_out h
  have hn0 : 0 < n := by omega
  have S0 := CoC.start (z0 := z0) (z1 := p) (c := c) hr
  have hal := (Below.refl (w.alloc (.cells #[.int .i64 z0, .int .i64 p, .slice A n c] 27)).heap.size (w.alloc (.cells #[.int .i64 z0, .int .i64 p, .slice A n c] 27))).alloc (Nat.le_refl _) (.cells #[.int .i64 0, .int .i64 0, .slice none 0 0] 27)
  have S1 := Lib.hid (S0.step hal)
  have N1 := Lib.hid (nbx0 (w.alloc (.cells #[.int .i64 z0, .int .i64 p, .slice A n c] 27)) #[.int .i64 0, .int .i64 0, .slice none 0 0] 27)
  have HX := Lib.hid hX
  have HBB := Lib.hid hb
  have hb1 : -1 ≤ b ∧ b ≤ 1 := by omega
  clear hr hal S0 hX hb
  rw [World.size_alloc] at N1
  go_enter Try.func57, Try.ntmps57
  go_wp2_with fail
  generalize hw1 : (w.alloc (.cells #[.int .i64 z0, .int .i64 p, .slice A n c] 27)).alloc (.cells #[.int .i64 0, .int .i64 0, .slice none 0 0] 27) = w1 at *
  have hs1 : w.heap.size + 2 ≤ w1.heap.size := by rw [← hw1]; simp
  clear hw1
  have hcur : w1.heap.size ≤ w1.heap.size := Nat.le_refl _
  have HK := Lib.hid (show ∀ W, Below w1.heap.size w1 W → (fun W => W.cell? ⟨w.heap.size, 0, none⟩ = some (.int .i64 z0) ∧ W.cell? ⟨w.heap.size, 1, none⟩ = some (.int .i64 p) ∧ W.cell? ⟨w.heap.size, 2, none⟩ = some (.slice A n c)) W from fun W hW => ⟨(S1.out.step hW).box.cell 0 _ rfl, (S1.out.step hW).box.cell 1 _ rfl, (S1.out.step hW).box.cell 2 _ rfl⟩)
  have SD := Lib.hid (S1.out.drew)
  have x0 := S1.out.box.cell 0 _ rfl
  have x1 := S1.out.box.cell 1 _ rfl
  have x2 := S1.out.box.cell 2 _ rfl
  go_cut [8] (fun s8 wx => ∃ (q g cc : Nat), s8 = .pointer (some ⟨q, 0, none⟩) ∧ w1.heap.size ≤ q ∧ w1.heap.size ≤ g ∧ q ≠ g ∧ At q (q + 1) (BoxC q [.int .i64 z0, .int .i64 p, .slice (some ⟨g, 0, none⟩) n cc]) wx ∧ ORow wx g n X ∧ Below w1.heap.size w1 wx)
  case first =>
    have hmix : Try.prog.follows .mixedOrders = true := by kernel_rfl
    refine wp_region_held_drew (S := fun W => W.cell? ⟨w.heap.size, 0, none⟩ = some (.int .i64 z0) ∧ W.cell? ⟨w.heap.size, 1, none⟩ = some (.int .i64 p) ∧ W.cell? ⟨w.heap.size, 2, none⟩ = some (.slice A n c)) hmix ⟨x0, x1, x2⟩ (fun hHeld => ?_)
    refine wpAnyH_take (i := 0) (v := ?_) rfl (by kernel_rfl) (by kernel_rfl) (by kernel_rfl) (fun _ _ _ h => h) (Or.inl ⟨by rfl, ?_⟩) hHeld ?_
    rotate_left
    · (intro w hSw; (try dsimp only at hSw); go_simp; try with_reducible rfl)
    try simp only [Act.put, List.setIfInBounds_toArray, List.set_cons_zero, List.set_cons_succ]
    refine wpAnyH_take (i := 1) (v := ?_) rfl (by kernel_rfl) (by kernel_rfl) (by kernel_rfl) (fun _ _ _ h => h) (Or.inl ⟨by rfl, ?_⟩) hHeld ?_
    rotate_left
    · (intro w hSw; (try dsimp only at hSw); go_simp; try with_reducible rfl)
    try simp only [Act.put, List.setIfInBounds_toArray, List.set_cons_zero, List.set_cons_succ]
    refine wpAnyH_take (i := 2) (v := ?_) rfl (by kernel_rfl) (by kernel_rfl) (by kernel_rfl) (fun _ _ _ h => h) (Or.inl ⟨by rfl, ?_⟩) hHeld ?_
    rotate_left
    · (intro w hSw; (try dsimp only at hSw); go_simp; try with_reducible rfl)
    try simp only [Act.put, List.setIfInBounds_toArray, List.set_cons_zero, List.set_cons_succ]
    refine wpAnyH_take (i := 3) (v := ?_) rfl (by kernel_rfl) (by kernel_rfl) (by kernel_rfl) (fun _ _ _ h => h) (Or.inl ⟨by rfl, ?_⟩) hHeld ?_
    rotate_left
    · (intro w hSw; (try dsimp only at hSw); go_simp; try with_reducible rfl)
    try simp only [Act.put, List.setIfInBounds_toArray, List.set_cons_zero, List.set_cons_succ]
    refine wpAnyH_take (i := 4) (v := ?_) rfl (by kernel_rfl) (by kernel_rfl) (by kernel_rfl) (fun _ _ _ h => h) (Or.inl ⟨by rfl, ?_⟩) hHeld ?_
    rotate_left
    · (intro w hSw; (try dsimp only at hSw); go_simp; try with_reducible rfl)
    try simp only [Act.put, List.setIfInBounds_toArray, List.set_cons_zero, List.set_cons_succ]
    refine wpAnyH_take (i := 5) (v := ?_) rfl (by kernel_rfl) (by kernel_rfl) (by kernel_rfl) (fun _ _ _ h => h) (Or.inl ⟨by rfl, ?_⟩) hHeld ?_
    rotate_left
    · (intro w hSw; (try dsimp only at hSw); go_simp; try with_reducible rfl)
    try simp only [Act.put, List.setIfInBounds_toArray, List.set_cons_zero, List.set_cons_succ]
    refine wpAnyH_ready (rs := [6, 8]) (by kernel_rfl) (by simp) ?_
    refine AllReadyH.cons rfl (fun K hK => ?_) (AllReadyH.cons rfl (fun K hK => ?_) AllReadyH.nil)
    · go_simp
      go_at_call 92
      refine (spec_l1Own A n c X _ (by omega) SD.out.row).mono ?_
      rintro e w4 ⟨A', cc, rfl, ho, hb'⟩
      obtain ⟨g, rfl, hgg, hgo⟩ := gvec_pos ho hn0
      have hgs := hgo.lt
      have hq1 := of_drew hb'
      have hgg2 : w1.heap.size ≤ g := hgg
      clear hb' ho
      refine hK.out _ _ (HK.out _ hq1) (fun hHeld => ?_)
      clear hK K
      try simp only [Act.put, List.setIfInBounds_toArray, List.set_cons_zero, List.set_cons_succ]
      refine wpAnyH_take (i := 7) (v := ?_) rfl (by kernel_rfl) (by kernel_rfl) (by kernel_rfl) (fun _ _ _ h => h) (Or.inl ⟨by rfl, ?_⟩) hHeld ?_
      rotate_left
      · (intro w hSw; (try dsimp only at hSw); go_simp; try with_reducible rfl)
      try simp only [Act.put, List.setIfInBounds_toArray, List.set_cons_zero, List.set_cons_succ]
      refine wpAnyH_ready (rs := [8]) (by kernel_rfl) (by simp) ?_
      refine AllReadyH.cons rfl (fun K hK => ?_) AllReadyH.nil
      go_simp
      refine hK.out _ _ (HK.out _ (hq1.alloc hq1.size _)) (fun hHeld => ?_)
      clear hK K
      try simp only [Act.put, List.setIfInBounds_toArray, List.set_cons_zero, List.set_cons_succ]
      refine wpAnyH_ready (rs := [9]) (by kernel_rfl) (by simp) ?_
      refine AllReadyH.cons rfl (fun K hK => ?_) AllReadyH.nil
      go_simp
      refine hK.out _ _ (HK.out _ (hq1.alloc hq1.size _)) (fun hHeld => ?_)
      clear hK K
      try simp only [Act.put, List.setIfInBounds_toArray, List.set_cons_zero, List.set_cons_succ]
      refine wpAnyH_done (by kernel_rfl) ?_ _
      go_wp2_with fail
      go_meet
      exact ⟨_, _, _, rfl, hq1.size, by omega, by omega, boxed _ _ _, hgo.alloc _, hq1.alloc hq1.size _⟩
    · go_simp
      refine hK.out _ _ (HK.out _ ((Below.refl w1.heap.size w1).alloc (Nat.le_refl _) _).drew) (fun hHeld => ?_)
      clear hK K
      try simp only [Act.put, List.setIfInBounds_toArray, List.set_cons_zero, List.set_cons_succ]
      refine wpAnyH_ready (rs := [6]) (by kernel_rfl) (by simp) ?_
      refine AllReadyH.cons rfl (fun K hK => ?_) AllReadyH.nil
      go_simp
      go_at_call 92
      refine (spec_l1Own A n c X _ (by omega) (irow_alD S1.out.row _)).mono ?_
      rintro e w4 ⟨A', cc, rfl, ho, hb'⟩
      obtain ⟨g, rfl, hgg, hgo⟩ := gvec_pos ho hn0
      have hgs := hgo.lt
      have NB := NBX.new hcur (show Below (w1.alloc (.cells #[.int .i64 0, .int .i64 0, .slice none 0 0] 27)).heap.size (w1.alloc (.cells #[.int .i64 0, .int .i64 0, .slice none 0 0] 27)) w4 from of_drew hb')
      have hq1 : Below w1.heap.size w1 w4 := below_al (show Below (w1.alloc (.cells #[.int .i64 0, .int .i64 0, .slice none 0 0] 27)).heap.size (w1.alloc (.cells #[.int .i64 0, .int .i64 0, .slice none 0 0] 27)) w4 from of_drew hb')
      have hgg2 : w1.heap.size + 1 ≤ g := by have h := hgg; simp at h; exact h
      clear hb' ho
      have dd0 := NB.cell 0 _ rfl
      have ff0 := NB.free 0
      have dd1 := NB.cell 1 _ rfl
      have ff1 := NB.free 1
      have dd2 := NB.cell 2 _ rfl
      have ff2 := NB.free 2
      refine hK.out _ _ (HK.out _ hq1) (fun hHeld => ?_)
      clear hK K
      try simp only [Act.put, List.setIfInBounds_toArray, List.set_cons_zero, List.set_cons_succ]
      refine wpAnyH_take (i := 7) (v := ?_) rfl (by kernel_rfl) (by kernel_rfl) (by kernel_rfl) (fun _ _ _ h => h) (Or.inl ⟨by rfl, ?_⟩) hHeld ?_
      rotate_left
      · (intro w hSw; (try dsimp only at hSw); go_simp; try with_reducible rfl)
      try simp only [Act.put, List.setIfInBounds_toArray, List.set_cons_zero, List.set_cons_succ]
      refine wpAnyH_ready (rs := [9]) (by kernel_rfl) (by simp) ?_
      refine AllReadyH.cons rfl (fun K hK => ?_) AllReadyH.nil
      go_simp
      refine hK.out _ _ (HK.out _ (below_setAt (below_setAt (below_setAt (hq1) NB.ge _) NB.ge _) NB.ge _)) (fun hHeld => ?_)
      clear hK K
      try simp only [Act.put, List.setIfInBounds_toArray, List.set_cons_zero, List.set_cons_succ]
      refine wpAnyH_done (by kernel_rfl) ?_ _
      go_wp2_with fail
      go_meet
      exact ⟨_, _, _, rfl, NB.ge, by omega, by omega, (((NB.set 0 _).set 1 _).set 2 _).box, (((hgo).setAt (by omega) _).setAt (by omega) _).setAt (by omega) _, below_setAt (below_setAt (below_setAt (hq1) NB.ge _) NB.ge _) NB.ge _⟩
  case rest =>
  obtain ⟨q, g, cc, rfl, hq, hg, hqg, hbx, hgo, hbl⟩ := hcut
  have BX := Lib.hid hbx
  have HO := Lib.hid hgo
  have S2 := Lib.hid (S1.out.step hbl)
  have N2 := Lib.hid (N1.out.b hbl)
  have HL := Lib.hid hbl
  have hqt := hbx.top
  have hgt := hgo.lt
  clear hbx hgo hbl HK SD x0 x1 x2 hcur
  have x0 := S2.out.box.cell 0 _ rfl
  have x1 := S2.out.box.cell 1 _ rfl
  have x2 := S2.out.box.cell 2 _ rfl
  go_wp2_with fail
  refine (spec_fiProbes (p := p) (z := n) (s := s) h0 (by omega) (by omega) hs).mono ?_; rintro e w5 ⟨PA, pc, rfl, hop, hb⟩
  obtain ⟨gp, rfl, hgp, hop⟩ := vec_posB hop (by omega)
  have hgpl := hop.lt
  have R5 := Lib.hid hop
  have O5 := Lib.hid (HO.out.b hb)
  have BX5 := Lib.hid (BX.out.b hb)
  have S5 := Lib.hid (S2.out.step hb)
  have N5 := Lib.hid (N2.out.b hb)
  have hs5 := hb.size
  clear hop hb x0 x1 x2 HO BX S2 N2 HL
  have HP := Lib.hid (fun (j : Nat) (_ : j < p) => (prI_nat z0 s (z := n) (by omega) j).2)
  go_wp2_with fail
  go_loopw [29] (fun i wr => ∃ k : Nat, k ≤ p ∧ i = .int .i64 k ∧ Hid (cnOk b X (prN z0 s n) k) ∧ Hid (ORow wr g n (cnF b X (prN z0 s n) k)) ∧ Hid (w5.grownBy wr (some g))) (fun i _ => p - (intOf i).toNat)
  case atStart => exact ⟨0, Nat.zero_le _, rfl, Lib.hid trivial, O5, Lib.hid (World.grownBy.refl w5 _)⟩
  case round =>
    obtain ⟨k, hk, rfl, HK, HO, HG⟩ := hrel
    have BX6 := Lib.hid (BX5.out.far (only_grown HG.out) (by omega))
    have LB := Lib.hid (S5.out.below.trans (below_of_grown HG.out S5.out.below.size (by omega)))
    have N2 : NBX (w.heap.size + 1) (w.heap.size + 1) #[.int .i64 0, .int .i64 0, .slice none 0 0] 27 wr := ⟨(HG.out.block _ (by have := N5.out.lt; omega) (by intro e; injection e with e; omega)).trans N5.out.blk, N5.out.ge⟩
    by_cases hlt : k < p
    · obtain ⟨v1, v2⟩ := prI_nat z0 s (z := n) (by omega) k
      have hx := (R5.out.grown HG.out (by intro e; injection e with e; omega)).cell hlt
      unfold intV at hx
      rw [v1] at hx
      have y2 := BX6.out.now 2 _ rfl
      have hy := HO.out.cell (i := prN z0 s n k) v2
      have hfy := HO.out.frozen (prN z0 s n k)
      have hbd := cn_all HX.out HBB.out k HK.out (prN z0 s n k) v2
      have HST := Lib.hid (fun h => cn_stop (b := b) (C := X) (P := prN z0 s n) (j := k) h p hlt)
      have HSM := Lib.hid (fun h => cn_same (b := b) (C := X) (P := prN z0 s n) (k := k) HO.out h)
      have HLW := Lib.hid (fun h => cn_set HO.out (x := cnF b X (prN z0 s n) k (prN z0 s n k) + b) (cn_low (b := b) (C := X) (P := prN z0 s n) (k := k) h).symm)
      have HKN := Lib.hid (show 0 ≤ cnF b X (prN z0 s n) k (prN z0 s n k) + b → cnOk b X (prN z0 s n) (k + 1) from fun h => ⟨HK.out, h⟩)
      obtain ⟨r, hq⟩ : ∃ r : Nat, r = prN z0 s n k := ⟨_, rfl⟩
      rw [← hq] at hx hy hfy v2 hbd HST HSM HLW HKN
      obtain ⟨y, hyy⟩ : ∃ y : Int, y = cnF b X (prN z0 s n) k r := ⟨_, rfl⟩
      rw [← hyy] at hy hbd HST HSM HLW HKN
      have hqn : (r : Int) < (n : Int) := by omega
      have e1 : IntKind.i64.wrap (y + b) = y + b := IntWalk.i64_in _ (by omega)
      clear v1 hq hyy
      by_cases hz : y + b < 0
      · have d : decide (y + b < 0) = true := by simpa using hz
        have HN := Lib.hid (HST.out (by omega))
        have y0 := N2.cell 0 _ rfl
        have f0 := N2.free 0
        have y1 := N2.cell 1 _ rfl
        have f1 := N2.free 1
        have y2 := N2.cell 2 _ rfl
        have f2 := N2.free 2
        clear hz N2
        go_wp2_with fail
        refine bodyPost_ret (v := .tuple #[.agg #[.int .i64 0, .int .i64 0, .slice none 0 0], .bool false]) (by simp [results, Try.results57, go_sem, y0, y1, y2]) rfl ?_
        exact ⟨fun h => absurd h HN.out, fun _ => rfl, by first | exact LB.out | exact below_setAt (below_setAt (below_setAt (LB.out) (by omega) _) (by omega) _) (by omega) _⟩
      · have d : decide (y + b < 0) = false := by simpa using hz
        have HKk := Lib.hid (HKN.out (by omega))
        by_cases hf : y < 15
        · have d2 : decide (y < 15) = true := by simpa using hf
          have hl := HLW.out (by omega)
          have HO2 := Lib.hid (show ORow (wr.setCell ⟨g, r, none⟩ (.int .i64 (y + b))) g n (cnF b X (prN z0 s n) (k + 1)) from hl)
          have HG2 := Lib.hid (grown_setCell HG.out r (.int .i64 (y + b)))
          clear hf hz hl N2
          go_wp2_with fail
          go_roundw
          case rel => exact ⟨k + 1, by omega, by go_num, HKk, HO2, HG2⟩
          case measure => simp [intOf]; omega
        · have d2 : decide (y < 15) = false := by simpa using hf
          have HO2 := Lib.hid (HSM.out (by omega))
          clear hf hz N2
          go_wp2_with fail
          go_roundw
          case rel => exact ⟨k + 1, by omega, by go_num, HKk, HO2, HG⟩
          case measure => simp [intOf]; omega
    · obtain rfl : k = p := by omega
      have q0 := BX6.out.now 0 _ rfl
      have q1 := BX6.out.now 1 _ rfl
      have q2 := BX6.out.now 2 _ rfl
      have y0 := N2.cell 0 _ rfl
      have f0 := N2.free 0
      have y1 := N2.cell 1 _ rfl
      have f1 := N2.free 1
      have y2 := N2.cell 2 _ rfl
      have f2 := N2.free 2
      clear N2
      go_wp2_with fail
      refine bodyPost_ret (v := .tuple #[.agg #[.int .i64 z0, .int .i64 k, .slice (some ⟨g, 0, none⟩) n cc], .bool true]) (by simp [results, Try.results57, go_sem, y0, y1, y2]) rfl ?_
      exact ⟨fun _ => ⟨g, cc, rfl, by omega, (((HO.out).setAt (by omega) _).setAt (by omega) _).setAt (by omega) _⟩, fun h => absurd HK.out h, below_setAt (below_setAt (below_setAt (LB.out) (by omega) _) (by omega) _) (by omega) _⟩
end
end Go.Proofs.Ytpajbcgdoedleab
