/- What is drawn for two vectors that differ. -/
import Derived.Test.YtglccgpiakadbaaCur4
namespace Go.Proofs.Ytglccgpiakadbaa
open Go.RowKit

theorem NBX.setN {base q r : Nat} {cs : Array Value} {t : TypeId} {w : World} (h : NBX base q cs t w) (hne : q ≠ r) (i : Nat) (v : Value) : NBX base q cs t (w.setCell ⟨r, i, none⟩ v) := h.only (only_set w r i v) hne
theorem NBX.grown {base q g : Nat} {cs : Array Value} {t : TypeId} {w w' : World} (h : NBX base q cs t w) (hg : w.grownBy w' (some g)) (hne : q ≠ g) : NBX base q cs t w' := h.only (only_grown hg) hne

theorem and_intro4 {a b c d : Prop} (h : a ∧ b) (k : c ∧ d) : a ∧ b ∧ c ∧ d := ⟨h.1, h.2, k.1, k.2⟩
theorem two_cells {base q : Nat} {u v : Value} {t : TypeId} {w : World} (h : NBX base q #[u, v] t w) : w.cell? ⟨q, 0, none⟩ = some u ∧ w.cell? ⟨q, 1, none⟩ = some v := ⟨h.cell 0 _ rfl, h.cell 1 _ rfl⟩

set_option maxRecDepth 100000 in
set_option maxHeartbeats 4000000 in
theorem draw_xorBits (A : Option Addr) (n c : Nat) (D : Nat → Int) (w : World) (hn : n ≤ 1048576) (hr : GRow w A n (u8V D)) (hD : ∀ i, i < n → 0 ≤ D i ∧ D i < 256) :
    Calls Try.prog 39 #[.slice A n c] w fun e w' => ∃ (z : Int) (B : Option Addr) (m d : Nat) (X : Nat → Int) (y : Int) (C : Option Addr) (p q : Nat) (Y : Nat → Int),
      e = .returned (.tuple #[.agg #[.int .i64 z, .slice B m d], .agg #[.int .i64 y, .slice C p q]]) ∧ VecIn w z B m d X w' ∧ VecIn w y C p q Y w' ∧ Below w.heap.size w w' := by
  have h0 := (CurS.start (w := (w.alloc (.cells #[.int .i64 0, .slice none 0 0] 26)).alloc (.cells #[.int .i64 0, .slice none 0 0] 26)) c ((hr.al _).al _) hD).still
  have hx := (NBX.mk0 w #[.int .i64 0, .slice none 0 0] 26).at1 (.cells #[.int .i64 0, .slice none 0 0] 26)
  have hy := NBX.mk0 (w.alloc (.cells #[.int .i64 0, .slice none 0 0] 26)) #[.int .i64 0, .slice none 0 0] 26
  simp only [World.size_alloc] at h0 hy
  have H0 := Lib.hid h0
  have HX := Lib.hid (hx.at1 (.cells #[.slice A n c, .int .i64 0, .int .u64 0] 81))
  have HY := Lib.hid (hy.at1 (.cells #[.slice A n c, .int .i64 0, .int .u64 0] 81))
  have FB := Lib.hid ((((At.start w).alloc (.cells #[.int .i64 0, .slice none 0 0] 26)).alloc (.cells #[.int .i64 0, .slice none 0 0] 26)).alloc (.cells #[.slice A n c, .int .i64 0, .int .u64 0] 81))
  clear h0 hx hy hr hD
  go_enter Try.func39, Try.ntmps39
  go_wp2_with fail
  refine (cur_anyBits H0.out.1 (by omega) hn).mono ?_; rintro e w1 ⟨z, m, d, B, X, z0, z1, hm, hmd, hdm, rfl, ho, hd⟩
  have hs1 := hd.2.size
  simp only [World.size_alloc] at ho hs1
  have H1 := Lib.hid (hd.alloc (.cells #[.int .i64 z, .slice B m d] 26))
  have HX1 := Lib.hid ((HX.out.only hd.2 (by omega)).at1 (.cells #[.int .i64 z, .slice B m d] 26))
  have HY1 := Lib.hid ((HY.out.only hd.2 (by omega)).at1 (.cells #[.int .i64 z, .slice B m d] 26))
  have HB1 := Lib.hid (NBX.mk0 w1 #[.int .i64 z, .slice B m d] 26)
  have F1 := Lib.hid ((FB.out.far hd.2 (.inl (by omega))).alloc (.cells #[.int .i64 z, .slice B m d] 26))
  have HO1 := Lib.hid ((owned ho).alloc (.cells #[.int .i64 z, .slice B m d] 26))
  clear hd ho H0 HX HY FB
  go_wp2_with fail
  refine (cur_one H1.out.1 (by omega) hn).mono ?_; rintro e w2 ⟨bb, rfl, hd⟩
  have H2 := Lib.hid hd
  have HX2 := Lib.hid (HX1.out.only hd.2 (by omega))
  have HY2 := Lib.hid (HY1.out.only hd.2 (by omega))
  have HB2 := Lib.hid (HB1.out.only hd.2 (by omega))
  have F2 := Lib.hid (F1.out.far hd.2 (.inl (by omega)))
  have HO2 := Lib.hid (HO1.out.far hd.2 (.inr (by omega)))
  have hs2 := hd.2.size
  simp only [World.size_alloc] at hs2
  clear hd H1 HX1 HY1 HB1 F1 HO1
  have hnx : w.heap.size ≠ w.heap.size + 2 := by omega
  have hny : w.heap.size + 1 ≠ w.heap.size + 2 := by omega
  have hnb : w1.heap.size ≠ w.heap.size + 2 := by omega
  have hn5x : w1.heap.size ≠ w.heap.size := by omega
  have hn5y : w1.heap.size ≠ w.heap.size + 1 := by omega
  have hnf : w.heap.size ≤ w.heap.size + 2 ∨ w.heap.size + 2 + 1 ≤ 0 := .inl (by omega)
  have hno : w1.heap.size ≤ w.heap.size + 2 ∨ w.heap.size + 2 + 1 ≤ w.heap.size + 3 := .inr (by omega)
  cases bb with
  | true =>
    have b0 := HB2.out.cell 0 _ rfl
    have b1 := HB2.out.cell 1 _ rfl
    have HD := Lib.hid H2.out.1.drew
    have hk9 : 0 + 100 + 2 ≤ 1000000 := by omega
    go_wp2_with fail
    go_region_held3 (fun w' => w'.cell? ⟨w1.heap.size, 0, none⟩ = some (.int .i64 z) ∧ w'.cell? ⟨w1.heap.size, 1, none⟩ = some (.slice B m d))
      (first | with_reducible exact K0 | with_reducible exact K2 _ _ | with_reducible exact K4 _ _ _ _ | (go_keep; done))
      (first | (go_at_call 84; (first | refine (cur_anyBits HD.out hk9 hn).mono ?_ | refine (cur_anyBits H2.out.1 hk9 hn).mono ?_); rintro e w9 ⟨y, p, q, C, Y, y0, y1, hp, hpq, hqm, rfl, ho, hd'⟩; have hd := undrew hd'; have HX9 := Lib.hid (HX2.out.only hd.2 hnx); have HY9 := Lib.hid (HY2.out.only hd.2 hny); have HB9 := Lib.hid (HB2.out.only hd.2 hnb); have F9 := Lib.hid (F2.out.far hd.2 hnf); have HO9 := Lib.hid (HO2.out.far hd.2 hno); have hs9 := hd.2.size; have HP9 := Lib.hid (show Ow w2.heap.size w9.heap.size 3 C p (intV Y) w9 from ho); have d0 := HX9.out.cell 0 _ rfl; have d1 := HX9.out.cell 1 _ rfl; have g0 := HX9.out.free 0; have g1 := HX9.out.free 1; have d2 := HY9.out.cell 0 _ rfl; have d3 := HY9.out.cell 1 _ rfl; have g2 := HY9.out.free 0; have g3 := HY9.out.free 1; have K0 : w9.cell? ⟨w1.heap.size, 0, none⟩ = some (.int .i64 z) ∧ w9.cell? ⟨w1.heap.size, 1, none⟩ = some (.slice B m d) := ⟨HB9.out.cell 0 _ rfl, HB9.out.cell 1 _ rfl⟩; have K2 := fun u v => two_cells ((HB9.out.setN hn5x 0 u).setN hn5x 1 v); have K4 := fun u v u' v' => two_cells ((((HB9.out.setN hn5x 0 u).setN hn5x 1 v).setN hn5y 0 u').setN hn5y 1 v'); clear hd hd' ho))
    go_wp2_with fail
    refine bodyPost_ret (v := .tuple #[.agg #[.int .i64 z, .slice B m d], .agg #[.int .i64 y, .slice C p q]]) (by simp [results, Try.results39, go_sem, d0, d1, d2, d3]) rfl ?_
    have HP := Lib.hid (owned HP9.out)
    have HF := (((HO9.out.setC (q := w.heap.size) (by omega) 0 (.int .i64 z)).setC (q := w.heap.size) (by omega) 1 (.slice B m d)).setC (q := w.heap.size + 1) (by omega) 0 (.int .i64 y)).setC (q := w.heap.size + 1) (by omega) 1 (.slice C p q)
    have HG := (((HP.out.setC (q := w.heap.size) (by omega) 0 (.int .i64 z)).setC (q := w.heap.size) (by omega) 1 (.slice B m d)).setC (q := w.heap.size + 1) (by omega) 0 (.int .i64 y)).setC (q := w.heap.size + 1) (by omega) 1 (.slice C p q)
    exact ⟨z, B, m, d, X, y, C, p, q, Y, rfl, ⟨z0, z1, hm, hmd, hdm, HF.now.mono (by omega) HF.top⟩, ⟨y0, y1, hp, hpq, hqm, HG.now.mono (by omega) HG.top⟩, below_setAt (below_setAt (below_setAt (below_setAt F9.out.now (by omega) _) (by omega) _) (by omega) _) (by omega) _⟩
  | false =>
    have b0 := HB2.out.cell 0 _ rfl
    have b1 := HB2.out.cell 1 _ rfl
    go_wp2_with fail
    refine (l1Clip_is z 4096 _).mono ?_; rintro e w' ⟨v, hv, rfl, rfl⟩
    go_wp2_with fail
    refine (spec_biNew v _ w2 hv rfl).mono ?_; rintro e w3 ⟨g, rfl, hg, ho, hb⟩
    obtain ⟨M, hM⟩ : ∃ M, M = (v + 15) / 16 := ⟨_, rfl⟩
    rw [← hM] at ho
    rw [← hM]
    have HM := Lib.hid hM
    have hgl := ho.lt
    have HX3 := Lib.hid ((HX2.out.b hb).at1 (.cells #[.int .i64 v, .slice (some ⟨g, 0, none⟩) M M] 26))
    have HY3 := Lib.hid ((HY2.out.b hb).at1 (.cells #[.int .i64 v, .slice (some ⟨g, 0, none⟩) M M] 26))
    have HB3 := Lib.hid ((HB2.out.b hb).at1 (.cells #[.int .i64 v, .slice (some ⟨g, 0, none⟩) M M] 26))
    have HC3 := Lib.hid (NBX.mk0 w3 #[.int .i64 v, .slice (some ⟨g, 0, none⟩) M M] 26)
    have F3 := Lib.hid ((F2.out.b hb).alloc (.cells #[.int .i64 v, .slice (some ⟨g, 0, none⟩) M M] 26))
    have HO3 := Lib.hid ((HO2.out.b hb).alloc (.cells #[.int .i64 v, .slice (some ⟨g, 0, none⟩) M M] 26))
    have H3 := Lib.hid ((H2.out.1.b hb).b ((Below.refl _ _).alloc (Nat.le_refl _) (.cells #[.int .i64 v, .slice (some ⟨g, 0, none⟩) M M] 26)))
    have HW3 := Lib.hid (ho.alloc (.cells #[.int .i64 v, .slice (some ⟨g, 0, none⟩) M M] 26))
    have hs3 := hb.size
    clear hM ho hb HX2 HY2 HB2 F2 HO2 H2 b0 b1
    go_wp2_with fail
    refine (cur_pick H3.out (by omega) hn).mono ?_; rintro e w4 ⟨x, x0, x1, rfl, hd⟩
    have HX4 := Lib.hid (HX3.out.only hd.2 hnx)
    have HY4 := Lib.hid (HY3.out.only hd.2 hny)
    have HB4 := Lib.hid (HB3.out.only hd.2 hnb)
    have HC4 := Lib.hid (HC3.out.only hd.2 (by omega))
    have F4 := Lib.hid (F3.out.far hd.2 hnf)
    have HO4 := Lib.hid (HO3.out.far hd.2 hno)
    have H4 := Lib.hid hd.1
    have HW4 := Lib.hid (HW3.out.grown (grown_of_only hd.2) (by intro e; injection e with e; omega))
    have hs4 := hd.2.size
    simp only [World.size_alloc] at hs4
    clear hd HX3 HY3 HB3 HC3 F3 HO3 H3 HW3
    obtain ⟨x, rfl⟩ : ∃ t : Nat, x = t := ⟨x.toNat, (Int.toNat_of_nonneg x0).symm⟩
    have hx9 : x ≤ 9 := by omega
    clear x0 x1
    go_wp2_with fail
    go_loopw [7] (fun r wr => ∃ (j : Nat) (W : Nat → Nat) (kk : Nat), j ≤ 9 ∧ kk + 2 * j ≤ 1000 ∧ r = .int .i64 j ∧ (∀ i, i < M → W i < 65536) ∧ ORow wr g M (fun i => (W i : Int)) ∧ CurS (w.heap.size + 2) A n c kk D wr ∧
        NBX w.heap.size w.heap.size #[.int .i64 0, .slice none 0 0] 26 wr ∧ NBX (w.heap.size + 1) (w.heap.size + 1) #[.int .i64 0, .slice none 0 0] 26 wr ∧ NBX w1.heap.size w1.heap.size #[.int .i64 z, .slice B m d] 26 wr ∧ NBX w3.heap.size w3.heap.size #[.int .i64 v, .slice (some ⟨g, 0, none⟩) M M] 26 wr ∧
        At 0 w.heap.size (fun wi => Below w.heap.size w wi) wr ∧ At (w.heap.size + 3) w1.heap.size (Ow (w.heap.size + 3) w1.heap.size 3 B m (intV X)) wr ∧ w4.heap.size ≤ wr.heap.size) (fun r _ => (intOf r).toNat)
    case atStart => exact ⟨x, fun _ => 0, _, hx9, by omega, rfl, fun _ _ => (by show 0 < 65536; omega), HW4.out, H4.out, HX4.out, HY4.out, HB4.out, HC4.out, F4.out, HO4.out, Nat.le_refl _⟩
    case round =>
      obtain ⟨j, W, kk, hj, hkk, rfl, hW, ho, hcur, hx, hy, hb, hc, hf, hox, hsz⟩ := hrel
      have HW := Lib.hid hW
      have HO := Lib.hid ho
      have H5 := Lib.hid hcur
      have HX5 := Lib.hid hx
      have HY5 := Lib.hid hy
      have HB5 := Lib.hid hb
      have HC5 := Lib.hid hc
      have F5 := Lib.hid hf
      have HO5 := Lib.hid hox
      have c0 := hc.cell 0 _ rfl
      have c1 := hc.cell 1 _ rfl
      clear hW ho hcur hx hy hb hc hf hox HX4 HY4 HB4 HC4 F4 HO4 H4 HW4
      by_cases hgo : 0 < j ∧ 0 < v
      · obtain ⟨hj0, hv0⟩ := hgo
        have HD := Lib.hid H5.out.drew
        have hk9 : kk ≤ 1000000000000 := by omega
        have hM2 : M ≤ 256 := by have := HM.out; omega
        have hMv : v ≤ 16 * M := by have := HM.out; omega
        have hnc : w3.heap.size ≠ w.heap.size + 2 := by omega
        have hng : w3.heap.size ≠ g := by omega
        have hgb : g ≠ w.heap.size + 2 := by omega
        go_wp2_with fail
        go_region_held3 (fun w' => w'.cell? ⟨w3.heap.size, 0, none⟩ = some (.int .i64 v) ∧ w'.cell? ⟨w3.heap.size, 1, none⟩ = some (.slice (some ⟨g, 0, none⟩) M M))
          (first | with_reducible exact K7 | with_reducible exact K6 | (go_keep; done))
          (first
            | (have hz := K6; clear hz; go_at_call 104; refine (spec_biSet v g M M i6 W _ hM2 HO6.out HW.out hi6).mono ?_; rintro e w7 ⟨rfl, ⟨W1, hW1, hW2, hW3⟩, hgr⟩; have K7 := two_cells (HC6.out.grown hgr hng); have HG7 := Lib.hid hgr; have HW1 := Lib.hid hW1; have HW3 := Lib.hid hW3; clear hW1 hW2 hW3 hgr)
            | (go_at_call 86; (first | refine (cur_pick HD.out hk9 hn).mono ?_ | refine (cur_pick H5.out hk9 hn).mono ?_); rintro e w6 ⟨y, y0, y1, rfl, hd'⟩; have hd := undrew hd'; obtain ⟨i6, rfl⟩ : ∃ t : Nat, y = t := ⟨y.toNat, (Int.toNat_of_nonneg y0).symm⟩; have hi6 : i6 < 16 * M := (by omega); have HD6 := Lib.hid hd; have HC6 := Lib.hid (HC5.out.only hd.2 hnc); have HO6 := Lib.hid (HO.out.grown (grown_of_only hd.2) (fun e => hgb (by injection e))); have K6 := two_cells HC6.out; clear hd hd'))
        have H7 := Lib.hid (HD6.out.1.same (w' := w7) (fun j hj => HG7.out.block j (by have := HD6.out.1.lt; omega) (fun e => by injection e with e; omega)))
        have HX7 := Lib.hid ((HX5.out.only HD6.out.2 hnx).grown HG7.out (by omega))
        have HY7 := Lib.hid ((HY5.out.only HD6.out.2 hny).grown HG7.out (by omega))
        have HB7 := Lib.hid ((HB5.out.only HD6.out.2 hnb).grown HG7.out (by omega))
        have HC7 := Lib.hid (HC6.out.grown HG7.out hng)
        have F7 := Lib.hid ((F5.out.far HD6.out.2 hnf).far (only_grown HG7.out) (.inl (by omega)))
        have HO7 := Lib.hid ((HO5.out.far HD6.out.2 hno).far (only_grown HG7.out) (.inl (by omega)))
        have hsz7 := Nat.le_trans hsz (Nat.le_trans HD6.out.2.size HG7.out.size)
        clear HX5 HY5 HB5 HC5 HC6 F5 HO5 H5 HD HO HO6 HD6 HG7 c0 c1 K6 K7 HW
        go_wp2_with fail
        go_roundw
        case rel => exact ⟨j - 1, W1, kk + 2, by omega, by omega, by go_num, HW1.out, HW3.out, H7.out, HX7.out, HY7.out, HB7.out, HC7.out, F7.out, HO7.out, hsz7⟩
        case measure => simp [intOf]; omega
      · have d0 := HX5.out.cell 0 _ rfl
        have d1 := HX5.out.cell 1 _ rfl
        have d2 := HY5.out.cell 0 _ rfl
        have d3 := HY5.out.cell 1 _ rfl
        have g0 := HX5.out.free 0
        have g1 := HX5.out.free 1
        have g2 := HY5.out.free 0
        have g3 := HY5.out.free 1
        have b0 := HB5.out.cell 0 _ rfl
        have b1 := HB5.out.cell 1 _ rfl
        have hn6x : w3.heap.size ≠ w.heap.size := by omega
        have hn6y : w3.heap.size ≠ w.heap.size + 1 := by omega
        have K2 := fun a b => and_intro4 (two_cells ((HB5.out.setN hn5x 0 a).setN hn5x 1 b)) (two_cells ((HC5.out.setN hn6x 0 a).setN hn6x 1 b))
        have K3 := fun a b => and_intro4 (two_cells ((HB5.out.setN hn5y 0 a).setN hn5y 1 b)) (two_cells ((HC5.out.setN hn6y 0 a).setN hn6y 1 b))
        have K4 := fun a b a' b' => and_intro4 (two_cells ((((HB5.out.setN hn5x 0 a).setN hn5x 1 b).setN hn5y 0 a').setN hn5y 1 b')) (two_cells ((((HC5.out.setN hn6x 0 a).setN hn6x 1 b).setN hn6y 0 a').setN hn6y 1 b'))
        by_cases hj0 : j = 0
        · subst hj0
          go_wp2_with fail
          go_region_held3 (fun w' => w'.cell? ⟨w1.heap.size, 0, none⟩ = some (.int .i64 z) ∧ w'.cell? ⟨w1.heap.size, 1, none⟩ = some (.slice B m d) ∧ w'.cell? ⟨w3.heap.size, 0, none⟩ = some (.int .i64 v) ∧ w'.cell? ⟨w3.heap.size, 1, none⟩ = some (.slice (some ⟨g, 0, none⟩) M M))
            (first | with_reducible exact K2 _ _ | with_reducible exact K4 _ _ _ _ | with_reducible exact K3 _ _ | (go_keep; done))
            (fail)
          go_wp2_with fail
          refine bodyPost_ret (v := .tuple #[.agg #[.int .i64 z, .slice B m d], .agg #[.int .i64 v, .slice (some ⟨g, 0, none⟩) M M]]) (by simp [results, Try.results39, go_sem, d0, d1, d2, d3]) rfl ?_
          have HQ := Lib.hid (show At g (g + 1) (Ow g (g + 1) 3 (some ⟨g, 0, none⟩) M (intV fun i => (W i : Int))) wr from ⟨fun hn => let ⟨c', h3, h4, h5⟩ := HO.out; ⟨g, 0, c', rfl, Nat.le_refl _, by omega, h3, by omega, fun t ht => by rw [Nat.zero_add]; exact h5 t ht⟩, HO.out.lt, Ow.lives _ _ _ _ _ _⟩)
          have HF := (((HO5.out.setC (q := w.heap.size) (by omega) 0 (.int .i64 z)).setC (q := w.heap.size) (by omega) 1 (.slice B m d)).setC (q := w.heap.size + 1) (by omega) 0 (.int .i64 v)).setC (q := w.heap.size + 1) (by omega) 1 (.slice (some ⟨g, 0, none⟩) M M)
          have HG := (((HQ.out.setC (q := w.heap.size) (by omega) 0 (.int .i64 z)).setC (q := w.heap.size) (by omega) 1 (.slice B m d)).setC (q := w.heap.size + 1) (by omega) 0 (.int .i64 v)).setC (q := w.heap.size + 1) (by omega) 1 (.slice (some ⟨g, 0, none⟩) M M)
          have HH := below_setAt (below_setAt (below_setAt (below_setAt F5.out.now (Nat.le_refl w.heap.size) (o := 0) (.int .i64 z)) (Nat.le_refl w.heap.size) (o := 1) (.slice B m d)) (show w.heap.size ≤ w.heap.size + 1 by omega) (o := 0) (.int .i64 v)) (show w.heap.size ≤ w.heap.size + 1 by omega) (o := 1) (.slice (some ⟨g, 0, none⟩) M M)
          exact ⟨z, B, m, d, X, v, some ⟨g, 0, none⟩, M, M, _, rfl, ⟨z0, z1, hm, hmd, hdm, HF.now.mono (by omega) HF.top⟩, ⟨by omega, by omega, by have := HM.out; omega, Nat.le_refl _, by have := HM.out; unfold maxLen; omega, HG.now.mono (by omega) HG.top⟩, HH.os, HH.tape, HH.output, HH.size, HH.block⟩
        · have hv1 : ¬ ((0 : Int) < (v : Int)) := by omega
          have hj1 : (0 : Int) < (j : Int) := by omega
          go_wp2_with fail
          go_region_held3 (fun w' => w'.cell? ⟨w1.heap.size, 0, none⟩ = some (.int .i64 z) ∧ w'.cell? ⟨w1.heap.size, 1, none⟩ = some (.slice B m d) ∧ w'.cell? ⟨w3.heap.size, 0, none⟩ = some (.int .i64 v) ∧ w'.cell? ⟨w3.heap.size, 1, none⟩ = some (.slice (some ⟨g, 0, none⟩) M M))
            (first | with_reducible exact K2 _ _ | with_reducible exact K4 _ _ _ _ | with_reducible exact K3 _ _ | (go_keep; done))
            (fail)
          go_wp2_with fail
          refine bodyPost_ret (v := .tuple #[.agg #[.int .i64 z, .slice B m d], .agg #[.int .i64 v, .slice (some ⟨g, 0, none⟩) M M]]) (by simp [results, Try.results39, go_sem, d0, d1, d2, d3]) rfl ?_
          have HQ := Lib.hid (show At g (g + 1) (Ow g (g + 1) 3 (some ⟨g, 0, none⟩) M (intV fun i => (W i : Int))) wr from ⟨fun hn => let ⟨c', h3, h4, h5⟩ := HO.out; ⟨g, 0, c', rfl, Nat.le_refl _, by omega, h3, by omega, fun t ht => by rw [Nat.zero_add]; exact h5 t ht⟩, HO.out.lt, Ow.lives _ _ _ _ _ _⟩)
          have HF := (((HO5.out.setC (q := w.heap.size) (by omega) 0 (.int .i64 z)).setC (q := w.heap.size) (by omega) 1 (.slice B m d)).setC (q := w.heap.size + 1) (by omega) 0 (.int .i64 v)).setC (q := w.heap.size + 1) (by omega) 1 (.slice (some ⟨g, 0, none⟩) M M)
          have HG := (((HQ.out.setC (q := w.heap.size) (by omega) 0 (.int .i64 z)).setC (q := w.heap.size) (by omega) 1 (.slice B m d)).setC (q := w.heap.size + 1) (by omega) 0 (.int .i64 v)).setC (q := w.heap.size + 1) (by omega) 1 (.slice (some ⟨g, 0, none⟩) M M)
          have HH := below_setAt (below_setAt (below_setAt (below_setAt F5.out.now (Nat.le_refl w.heap.size) (o := 0) (.int .i64 z)) (Nat.le_refl w.heap.size) (o := 1) (.slice B m d)) (show w.heap.size ≤ w.heap.size + 1 by omega) (o := 0) (.int .i64 v)) (show w.heap.size ≤ w.heap.size + 1 by omega) (o := 1) (.slice (some ⟨g, 0, none⟩) M M)
          exact ⟨z, B, m, d, X, v, some ⟨g, 0, none⟩, M, M, _, rfl, ⟨z0, z1, hm, hmd, hdm, HF.now.mono (by omega) HF.top⟩, ⟨by omega, by omega, by have := HM.out; omega, Nat.le_refl _, by have := HM.out; unfold maxLen; omega, HG.now.mono (by omega) HG.top⟩, HH.os, HH.tape, HH.output, HH.size, HH.block⟩
end Go.Proofs.Ytglccgpiakadbaa
