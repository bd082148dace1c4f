/- HyperOf: both sides. -/
import Derived.Test.YtpajbcgdoedleabHypM
import Derived.Test.YtpajbcgdoedleabIsHyp
import Derived.Test.YtpajbcgdoedleabIdxF
namespace Go.Proofs.Ytpajbcgdoedleab
open Go.RowKit

/-- What HyperOf holds: the result's box, the row of edges, its own box, the edges made so far. -/
structure HI (w : World) (z : Int) (V : Nat → Nat → Int) (n rb ob hb k : Nat) (G : Nat → Nat) (wr : World) : Prop where
  below : Below w.heap.size w wr
  res : NBX w.heap.size rb #[.int .i64 0, .slice none 0 0] 109 wr
  box : NBX w.heap.size hb #[.int .i64 z, .slice (some ⟨ob, 0, none⟩) n n] 109 wr
  out : GOwn wr 22 ob n (fun j => if j < k then .slice (some ⟨G j, 0, none⟩) 3 3 else .slice none 0 0)
  inn : ∀ j, j < k → hb < G j ∧ GOwn wr 3 (G j) 3 (intV (V j))
  inc : ∀ i j, i < j → j < k → G i < G j
  lo : w.heap.size ≤ rb ∧ rb < ob ∧ ob < hb
section
variable {w wr wj : World} {z : Int} {V : Nat → Nat → Int} {n rb ob hb k : Nat} {G : Nat → Nat}
theorem HI.b (h : HI w z V n rb ob hb k G wr) (hw : Below wr.heap.size wr wj) : HI w z V n rb ob hb k G wj :=
  ⟨h.below.trans (hw.mono h.below.size), h.res.b hw, h.box.b hw, h.out.b hw, fun j hj => ⟨(h.inn j hj).1, (h.inn j hj).2.b hw⟩, h.inc, h.lo⟩
/-- A block behind all that it holds turns. -/
theorem HI.far (h : HI w z V n rb ob hb k G wr) {b : Nat} (hon : Only b (b + 1) wr wj) (hb1 : hb < b) (hb2 : ∀ j, j < k → G j < b) : HI w z V n rb ob hb k G wj := by
  have hlo := h.lo
  exact ⟨h.below.trans (hon.below h.below.size (by omega)), nbx_farG h.res hon (.inl (by omega)), nbx_farG h.box hon (.inl (by omega)), h.out.of_block (hon.block ob h.out.lt (.inl (by omega))), fun j hj => ⟨(h.inn j hj).1, (h.inn j hj).2.of_block (hon.block _ (h.inn j hj).2.lt (.inl (hb2 j hj)))⟩, h.inc, h.lo⟩
theorem HI.store (h : HI w z V n rb ob hb k G wr) {b : Nat} (hb1 : hb < b) (hb2 : ∀ j, j < k → G j < b) (hx : GOwn wr 3 b 3 (intV (V k))) : HI w z V n rb ob hb (k + 1) (upd G k b) (wr.setCell ⟨ob, k, none⟩ (.slice (some ⟨b, 0, none⟩) 3 3)) := by
  have hlo := h.lo
  have hon := only_set wr ob k (.slice (some ⟨b, 0, none⟩) 3 3)
  refine ⟨h.below.trans (hon.below h.below.size (by omega)), nbx_farG h.res hon (.inl (by omega)), nbx_farG h.box hon (.inr (by omega)), (h.out.set k _).congr (fun i _ => ?_), fun j hj => ?_, fun i j hij hj => ?_, h.lo⟩
  · unfold upd
    by_cases e : i = k
    · subst e; simp
    · by_cases e2 : i < k <;> simp [e, e2] <;> omega
  · unfold upd
    by_cases e : j = k
    · subst e; simp only [if_true]; exact ⟨hb1, hx.of_block (hon.block _ hx.lt (.inr (by omega)))⟩
    · simp only [e, if_false]
      have := h.inn j (by omega)
      exact ⟨this.1, this.2.of_block (hon.block _ this.2.lt (.inr (by omega)))⟩
  · unfold upd
    by_cases e : j = k
    · subst e; simp only [if_true, show ¬ i = j by omega, if_false]; exact hb2 i hij
    · simp only [e, show ¬ i = k by omega, if_false]; exact h.inc i j hij (by omega)
theorem HI.top (h : HI w z V n rb ob hb k G wr) : hb < wr.heap.size ∧ ∀ j, j < k → G j < wr.heap.size := ⟨h.box.lt, fun j hj => (h.inn j hj).2.lt⟩
theorem HI.fin (h : HI w z V n rb ob hb n G wr) (v0 v1 : Value) : Ow2 w.heap.size ((wr.setCell ⟨rb, 0, none⟩ v0).setCell ⟨rb, 1, none⟩ v1).heap.size (some ⟨ob, 0, none⟩) n (fun _ => 3) V ((wr.setCell ⟨rb, 0, none⟩ v0).setCell ⟨rb, 1, none⟩ v1) := by
  have hlo := h.lo
  refine ⟨fun j => some ⟨G j, 0, none⟩, fun _ => 3, ow_of_own (m := n) (((h.out.congr (fun j hj => by rw [if_pos hj]; rfl)).setAt (by omega) v0).setAt (by omega) v1) (by omega) (Nat.le_refl _), fun i hi => ?_, fun i j hij hj => fun _ _ b o c p hA hB e => ?_⟩
  · have := h.inn i hi
    exact ow_of_own (m := 3) ((this.2.setAt (by omega) v0).setAt (by omega) v1) (by omega) (Nat.le_refl _)
  · injection hA with hA; injection hA with hA
    injection hB with hB; injection hB with hB
    have := h.inc i j hij hj
    omega
end
theorem HI.start (w : World) (z : Int) (V : Nat → Nat → Int) (n : Nat) : HI w z V n w.heap.size (w.heap.size + 1) (w.heap.size + 1 + 1) 0 (fun _ => 0)
    (((w.alloc (.cells #[.int .i64 0, .slice none 0 0] 109)).alloc (.cells (madeCells #[.slice none 0 0] n) 22)).alloc (.cells #[.int .i64 z, .slice (some ⟨w.heap.size + 1, 0, none⟩) n n] 109)) := by
  have hb0 := (Below.refl w.heap.size w).alloc (Nat.le_refl _) (.cells #[.int .i64 0, .slice none 0 0] 109)
  have hb1 := (Below.refl (w.alloc (.cells #[.int .i64 0, .slice none 0 0] 109)).heap.size (w.alloc (.cells #[.int .i64 0, .slice none 0 0] 109))).alloc (Nat.le_refl _) (.cells (madeCells #[.slice none 0 0] n) 22)
  have hb2 := (Below.refl ((w.alloc (.cells #[.int .i64 0, .slice none 0 0] 109)).alloc (.cells (madeCells #[.slice none 0 0] n) 22)).heap.size ((w.alloc (.cells #[.int .i64 0, .slice none 0 0] 109)).alloc (.cells (madeCells #[.slice none 0 0] n) 22))).alloc (Nat.le_refl _) (.cells #[.int .i64 z, .slice (some ⟨w.heap.size + 1, 0, none⟩) n n] 109)
  have hm := GOwn.made (w.alloc (.cells #[.int .i64 0, .slice none 0 0] 109)) 22 (.slice none 0 0) n
  simp only [World.size_alloc] at hm
  refine ⟨hb0.trans ((hb1.mono (by simp)).trans (hb2.mono (by simp; omega))), NBX.b (NBX.b ⟨Go.Deep.blk_alloc_new _ _, Nat.le_refl _⟩ hb1) hb2, ⟨by have := Go.Deep.blk_alloc_new ((w.alloc (.cells #[.int .i64 0, .slice none 0 0] 109)).alloc (.cells (madeCells #[.slice none 0 0] n) 22)) (.cells #[.int .i64 z, .slice (some ⟨w.heap.size + 1, 0, none⟩) n n] 109); simpa using this, by omega⟩, (hm.b hb2).congr (fun j _ => by simp), fun j hj => absurd hj (by omega), fun i j _ hj => absurd hj (by omega), by omega⟩

set_option maxRecDepth 100000 in
set_option maxHeartbeats 2000000 in
theorem impl_edgeOf (seed : Int) (g : Nat) (S : Nat → ByteArray) (k : Nat) (w : World) (hs : (S k).size ≤ maxLen) (hsd : seedB seed 0 = true) (h1 : 1 ≤ g) (h2 : g ≤ 24) :
    Calls Try.prog 122 #[.int .i64 seed, .string (S k), .int .i64 g] w fun e w' => ∃ b, e = .returned (.slice (some ⟨b, 0, none⟩) 3 3) ∧ w.heap.size ≤ b ∧ ORow w' b 3 (eH seed g S k) ∧ Below w.heap.size w w' := by
  have hmk3 : ∀ W, (Instr.makeSlice 22 (.int .i64 3) (.int .i64 3)).run Try.prog W = .ok (.slice (some ⟨W.heap.size, 0, none⟩) 3 3) (W.alloc (.cells (madeCells #[.int .i64 0] 3) 3)) := fun W => run_make_row' (P := Try.prog) 22 3 (.int .i64 0) 8 Try.underlying22 infoI rfl .i64 .i64 3 (by omega) (by omega) W
  have O1 := Lib.hid (ORow.made w 3)
  have B1 := Lib.hid ((Below.refl w.heap.size w).alloc (Nat.le_refl _) (.cells (madeCells #[.int .i64 0] 3) 3))
  go_enter Try.func122, Try.ntmps122
  go_wp2_with fail
  go_loopw [12] (fun i wi => ∃ j : Nat, j ≤ 3 ∧ i = .int .i64 j ∧ Hid (ORow wi w.heap.size 3 (fun t => if t < j then eH seed g S k t else 0)) ∧ Hid (Below w.heap.size w wi)) (fun i _ => 3 - (intOf i).toNat)
  case atStart => exact ⟨0, by omega, rfl, Lib.hid (O1.out.congr (fun i _ => by simp)), B1⟩
  case round =>
    obtain ⟨j, hj, rfl, HO, HI2⟩ := hrel
    by_cases hlj : j < 3
    · obtain ⟨p0, p1, p2, p3⟩ := eH_bd (seed := seed) (S := S) (i := k) h1 h2 hlj
      have hsj := seedB_part hsd j hlj
      have e2 : IntKind.i64.wrap ((j : Int) * (g : Int)) = ((j * g : Nat) : Int) := by rw [← Int.natCast_mul]; exact IntWalk.i64_in _ (by omega)
      have HV := Lib.hid (show eH seed g S k j = placeI seed j (S k).data.toList g + ((j * g : Nat) : Int) by unfold eH; push_cast; rfl)
      have HC := Lib.hid (fun W => impl_placeKey seed j g (S k) W hs hsj (by omega) (by omega))
      generalize placeI seed (j : Int) (S k).data.toList (g : Int) = v at HV HC p0 p1
      generalize j * g = u at HV e2 p2 p3
      have e3 : IntKind.i64.wrap (v + (u : Int)) = v + (u : Int) := IntWalk.i64_in _ (by omega)
      have hco := HO.out.cell hlj
      have hfo := HO.out.frozen j
      go_wp2_with fail
      refine (HC.out _).mono ?_; rintro e w2 ⟨rfl, rfl⟩
      go_wp2_with fail
      go_roundw
      case rel =>
        refine ⟨j + 1, by omega, by go_num, Lib.hid ((HO.out.set j _).congr (fun i _ => ?_)), Lib.hid (below_setAt HI2.out (Nat.le_refl _) _)⟩
        by_cases e : i = j
        · subst e; rw [if_pos rfl, if_pos (by omega), HV.out]
        · rw [if_neg e]
          by_cases e2 : i < j
          · rw [if_pos e2, if_pos (by omega)]
          · rw [if_neg e2, if_neg (by omega)]
      case measure => simp [intOf]; omega
    · obtain rfl : j = 3 := by omega
      go_wp2_with fail
      go_ret
      exact ⟨_, rfl, Nat.le_refl _, HO.out.congr (fun i hi => by rw [if_pos hi]), HI2.out⟩

set_option maxRecDepth 100000 in
set_option maxHeartbeats 4000000 in
theorem impl_hyperOf (seed : Int) (g : Nat) (KA : Option Addr) (n kc : Nat) (S : Nat → ByteArray) (w : World) (hs : ∀ i, i < n → (S i).size ≤ maxLen) (hr : GRow w KA n (strV S)) (hsd : seedB seed 0 = true) (hk : keysB S n = true) (h1 : 1 ≤ g) (h2 : g ≤ 24) :
    Calls Try.prog 128 #[.int .i64 seed, .slice KA n kc, .int .i64 g] w fun e w' => ∃ A c, e = .returned (.tuple #[.agg #[.int .i64 ((3 * g : Nat) : Int), .slice A n c], .bool true]) ∧ Ow2 w.heap.size w'.heap.size A n (fun _ => 3) (eH seed g S) w' ∧ Below w.heap.size w w' := by
  have hn := keysB_size hk
  have hmk := fun W => run_make_row' (P := Try.prog) 107 22 (.slice none 0 0) 24 Try.underlying107 infoSl rfl .i64 .i64 n (by omega) (by omega) W
  have HS := Lib.hid hs
  have HR := Lib.hid hr
  have HR1 := Lib.hid (hr.al (.cells #[.int .i64 0, .slice none 0 0] 109))
  have P0 := Lib.hid (HI.start w ((3 * g : Nat) : Int) (eH seed g S) n)
  have e1 : IntKind.i64.wrap ((3 : Int) * (g : Int)) = ((3 * g : Nat) : Int) := by rw [show (3 : Int) * (g : Int) = ((3 * g : Nat) : Int) by push_cast; rfl]; exact IntWalk.i64_in _ (by omega)
  have E0 := Lib.hid (show heB seed g = true by unfold heB; rw [hsd]; simp; omega)
  have HE := Lib.hid (fun k (hk : k < n) W => impl_edgeOf seed g S k W (hs k hk) hsd h1 h2)
  clear hr hs
  go_enter Try.func128, Try.ntmps128
  go_wp2_with fail
  refine (impl_hasEdges seed g _).mono ?_; rintro e w1 ⟨rfl, rfl⟩
  rw [E0.out]
  go_wp2_with fail
  refine (impl_areKeys KA n kc S _ (by omega) HS.out HR1.out).mono ?_; rintro e w1 ⟨rfl, rfl⟩
  rw [hk]
  go_wp2_with fail
  go_loopw [29] (fun i wr => ∃ (k : Nat) (G : Nat → Nat), k ≤ n ∧ i = .int .i64 k ∧ Hid (HI w ((3 * g : Nat) : Int) (eH seed g S) n w.heap.size (w.heap.size + 1) (w.heap.size + 1 + 1) k G wr)) (fun i _ => n - (intOf i).toNat)
  case atStart => exact ⟨0, _, Nat.zero_le _, rfl, P0⟩
  case round =>
    obtain ⟨k, G, hk2, rfl, HP⟩ := hrel
    obtain ⟨ht1, ht2⟩ := HP.out.top
    by_cases hlt : k < n
    · obtain ⟨b, off, rfl, _, hc⟩ := (HR.out.b HP.out.below) (by omega)
      have hcq := hc k hlt
      unfold strV at hcq
      have HT2 := Lib.hid ht2
      have HEk := Lib.hid (HE.out k hlt)
      have hbx := HP.out.box.cell 1 _ rfl
      clear hc ht2
      go_wp2_with fail
      go_region_held3 (fun w' => w'.cell? ⟨w.heap.size + 1 + 1, 1, none⟩ = some (.slice (some ⟨w.heap.size + 1, 0, none⟩) n n))
        (first | with_reducible exact R2.box.cell 1 _ rfl | (go_keep; done) | exact (HI.store R2 hbl hgl hog).box.cell 1 _ rfl)
        (first
          | (go_at_call 122; (refine (HEk.out _).mono ?_); rintro e w2 ⟨bg, rfl, hge, ho, hq1'⟩; have hq1 := of_drew hq1'; have R2 := HI.b HP.out hq1; have hco := R2.out.cell hlt; have hfo := R2.out.frozen k; rw [if_neg (Nat.lt_irrefl k)] at hco; have hog := (show GOwn w2 3 bg 3 (intV (eH seed g S k)) from ho); have hbl : w.heap.size + 1 + 1 < bg := Nat.lt_of_lt_of_le ht1 hge; have hgl := fun j (hj : j < k) => Nat.lt_of_lt_of_le (HT2.out j hj) hge; clear hq1' ho))
      all_goals
        have HP2 := Lib.hid (HI.store R2 hbl hgl hog)
        go_wp2_with fail
        go_roundw
        case rel => exact ⟨k + 1, _, by omega, by go_num, HP2⟩
        case measure => simp [intOf]; omega
    · obtain rfl : k = n := by omega
      have r0 := HP.out.box.cell 0 _ rfl
      have r1 := HP.out.box.cell 1 _ rfl
      have r2 := HP.out.res.cell 0 _ rfl
      have r3 := HP.out.res.cell 1 _ rfl
      have f2 := HP.out.res.free 0
      have f3 := HP.out.res.free 1
      have hrl := HP.out.res.lt
      go_wp2_with fail
      refine bodyPost_ret (v := .tuple #[.agg #[.int .i64 ((3 * g : Nat) : Int), .slice (some ⟨w.heap.size + 1, 0, none⟩) k k], .bool true]) (by simp [results, Try.results128, go_sem, r2, r3]) rfl ?_
      exact ⟨_, _, rfl, HP.out.fin _ _, below_setAt (below_setAt HP.out.below (Nat.le_refl _) _) (Nat.le_refl _) _⟩
end Go.Proofs.Ytpajbcgdoedleab
