/- What is drawn for a field that is put. -/
import Derived.Test.YtglccgpiakadbaaVecGen
import Derived.Deep.RegionHeld3
namespace Go.Proofs.Ytglccgpiakadbaa
open Go.RowKit

theorem l1Most_is (a b : Int) (w : World) : Calls Try.prog 135 #[.int .i64 a, .int .i64 b] w fun e w' => e = .returned (.int .i64 (max a b)) ∧ w = w' := by
  by_cases h : b < a
  · rw [show max a b = a by omega]
    go_enter Try.func135, Try.ntmps135
    go_wp2_with fail
    go_ret
    exact ⟨rfl, rfl⟩
  · rw [show max a b = b by omega]
    go_enter Try.func135, Try.ntmps135
    go_wp2_with fail
    go_ret
    exact ⟨rfl, rfl⟩
theorem l1Least_is (a b : Int) (w : World) : Calls Try.prog 136 #[.int .i64 a, .int .i64 b] w fun e w' => e = .returned (.int .i64 (min a b)) ∧ w = w' := by
  by_cases h : a < b
  · rw [show min a b = a by omega]
    go_enter Try.func136, Try.ntmps136
    go_wp2_with fail
    go_ret
    exact ⟨rfl, rfl⟩
  · rw [show min a b = b by omega]
    go_enter Try.func136, Try.ntmps136
    go_wp2_with fail
    go_ret
    exact ⟨rfl, rfl⟩
theorem l1Clip_is (a : Int) (most : Nat) (w : World) : Calls Try.prog 87 #[.int .i64 a, .int .i64 most] w fun e w' => ∃ v : Nat, v ≤ most ∧ e = .returned (.int .i64 v) ∧ w = w' := by
  go_enter Try.func87, Try.ntmps87
  go_wp2_with fail
  refine (l1Least_is _ _ _).mono ?_; rintro e w' ⟨rfl, rfl⟩
  go_wp2_with fail
  refine (l1Most_is _ _ _).mono ?_; rintro e w' ⟨rfl, rfl⟩
  go_wp2_with fail
  go_ret
  exact ⟨(max 0 (min a most)).toNat, by omega, congrArg Ending.returned (congrArg (Value.int .i64) (Int.toNat_of_nonneg (by omega)).symm), rfl⟩

set_option maxHeartbeats 1000000 in
theorem cur_place {b n c k : Nat} {A : Option Addr} {D : Nat → Int} {z : Int} {w : World} (h : CurS b A n c k D w) (hk : k ≤ 100000000000) (hn : n ≤ 1048576) (hz : z ≤ 1048576) :
    Calls Try.prog 89 #[.pointer (some ⟨b, 0, none⟩), .int .i64 z] w fun e w' => ∃ x : Int, -1 ≤ x ∧ x ≤ 1048580 ∧ e = .returned (.int .i64 x) ∧ Drawn b A n c (k + 2) D w w' := by
  have H := Lib.hid h
  clear h
  go_enter Try.func89, Try.ntmps89
  go_wp2_with fail
  refine (l1Most_is _ _ _).mono ?_; rintro e w' ⟨rfl, rfl⟩
  obtain ⟨q, hq⟩ : ∃ q, max z 0 = q := ⟨_, rfl⟩
  rw [hq]
  have q0 : 0 ≤ q := by omega
  have q1 : q ≤ 1048576 := by omega
  clear hq
  go_wp2_with fail
  refine (cur_pick H.out (by omega) hn).mono ?_; rintro e w1 ⟨x, x0, x1, rfl, hd⟩
  have H1 := Lib.hid hd
  clear hd
  go_wp2_with fail
  go_ret
  exact ⟨x - 1, by omega, by omega, rfl, H1.out⟩

set_option maxHeartbeats 1000000 in
theorem cur_width {b n c k : Nat} {A : Option Addr} {D : Nat → Int} {w : World} (h : CurS b A n c k D w) (hk : k ≤ 100000000000) (hn : n ≤ 1048576) :
    Calls Try.prog 85 #[.pointer (some ⟨b, 0, none⟩)] w fun e w' => ∃ x : Int, -1 ≤ x ∧ x ≤ 25 ∧ e = .returned (.int .i64 x) ∧ Drawn b A n c (k + 4) D w w' := by
  have H := Lib.hid h
  clear h
  go_enter Try.func85, Try.ntmps85
  go_wp2_with fail
  refine (cur_one H.out (by omega) hn).mono ?_; rintro e w1 ⟨x, rfl, hd⟩
  have H1 := Lib.hid hd
  have hlt := hd.1.lt
  clear hd
  cases x with
  | true =>
    have HA := Lib.hid (H1.out.alloc (.cells #[.int .i64 (-1), .int .i64 24, .int .i64 25] 3))
    have hrow := int_row w1 [-1, 24, 25] 3
    have HM := Lib.hid (cur_among (d := 3) (lo := -1) (hi := 25) HA.out.1 (by omega) hn (by decide) (by decide) hrow (ne_of_blk hlt) (fun i hi => by
      have hi3 : i < 3 := hi
      have : i = 0 ∨ i = 1 ∨ i = 2 := by omega
      rcases this with rfl | rfl | rfl <;> decide))
    clear hrow
    go_wp2_with fail
    refine HM.out.mono ?_; rintro e w2 ⟨y, y0, y1, rfl, hd⟩
    have H2 := Lib.hid (HA.out.trans hd)
    clear hd
    go_wp2_with fail
    go_ret
    exact ⟨y, y0, y1, rfl, H2.out.low (by omega)⟩
  | false =>
    go_wp2_with fail
    refine (cur_pick H1.out.1 (by omega) hn).mono ?_; rintro e w2 ⟨y, y0, y1, rfl, hd⟩
    have H2 := Lib.hid (H1.out.trans hd)
    clear hd
    go_wp2_with fail
    go_ret
    exact ⟨y, by omega, by omega, rfl, H2.out.low (by omega)⟩

set_option maxRecDepth 100000 in
set_option maxHeartbeats 2000000 in
theorem draw_putField (A : Option Addr) (n c : Nat) (D : Nat → Int) (w : World) (hn : n ≤ 1048576) (hr : GRow w A n (u8V D)) (hD : ∀ i, i < n → 0 ≤ D i ∧ D i < 256) :
    Calls Try.prog 28 #[.slice A n c] w fun e w' => ∃ (z : Int) (B : Option Addr) (m d : Nat) (X : Nat → Int) (p q v : Int),
      e = .returned (.tuple #[.agg #[.int .i64 z, .slice B m d], .int .i64 p, .int .i64 q, .int .i64 v]) ∧ VecIn w z B m d X w' ∧ Below w.heap.size w w' := by
  have h0 := (CurS.start (w := w.alloc (.cells #[.int .i64 0, .slice none 0 0] 26)) c (hr.al _) hD).still
  have hx := NBX.mk0 w #[.int .i64 0, .slice none 0 0] 26
  simp only [World.size_alloc] at h0
  have H0 := Lib.hid h0
  have HX := Lib.hid (hx.at1 (.cells #[.slice A n c, .int .i64 0, .int .u64 0] 81))
  have FB := Lib.hid (((At.start w).alloc (.cells #[.int .i64 0, .slice none 0 0] 26)).alloc (.cells #[.slice A n c, .int .i64 0, .int .u64 0] 81))
  clear h0 hx hr hD
  go_enter Try.func28, Try.ntmps28
  go_wp2_with fail
  refine (cur_anyBits H0.out.1 (by omega) hn).mono ?_; rintro e w1 ⟨z, m, d, B, X, z0, z1, hm, hmd, hdm, rfl, ho, hd⟩
  have hs1 := hd.2.size
  simp only [World.size_alloc] at ho hs1
  have H1 := Lib.hid (hd.alloc (.cells #[.int .i64 z, .slice B m d] 26))
  have HX1 := Lib.hid ((HX.out.only hd.2 (by omega)).at1 (.cells #[.int .i64 z, .slice B m d] 26))
  have HB1 := Lib.hid (NBX.mk0 w1 #[.int .i64 z, .slice B m d] 26)
  have F1 := Lib.hid ((FB.out.far hd.2 (.inl (by omega))).alloc (.cells #[.int .i64 z, .slice B m d] 26))
  have HO1 := Lib.hid ((owned ho).alloc (.cells #[.int .i64 z, .slice B m d] 26))
  clear hd ho H0 HX FB
  go_wp2_with fail
  refine (cur_width H1.out.1 (by omega) hn).mono ?_; rintro e w2 ⟨q, q0, q1, rfl, hd⟩
  have H2 := Lib.hid hd
  have HX2 := Lib.hid (HX1.out.only hd.2 (by omega))
  have HB2 := Lib.hid (HB1.out.only hd.2 (by omega))
  have F2 := Lib.hid (F1.out.far hd.2 (.inl (by omega)))
  have HO2 := Lib.hid (HO1.out.far hd.2 (.inr (by omega)))
  have hs2 := hd.2.size
  simp only [World.size_alloc] at hs2
  clear hd H1 HX1 HB1 F1 HO1
  go_wp2_with fail
  refine (l1Clip_is q 12 _).mono ?_; rintro e w' ⟨v, hv, rfl, rfl⟩
  obtain ⟨p0, p1⟩ := two_bd (m := v) (k := 12) hv
  have p2 : (2 : Int) ^ v ≤ 4096 := by simpa using p1
  go_wp2_with fail
  refine (cur_pick H2.out.1 (by omega) hn).mono ?_; rintro e w3 ⟨x, x0, x1, rfl, hd⟩
  have H3 := Lib.hid (H2.out.trans hd)
  have HX3 := Lib.hid (HX2.out.only hd.2 (by omega))
  have HB3 := Lib.hid (HB2.out.only hd.2 (by omega))
  have F3 := Lib.hid (F2.out.far hd.2 (.inl (by omega)))
  have HO3 := Lib.hid (HO2.out.far hd.2 (.inr (by omega)))
  have hs3 := hd.2.size
  clear hd H2 HX2 HB2 F2 HO2
  have x2 : x ≤ 4096 := by omega
  clear p0 p1 p2 x1
  go_wp2_with fail
  refine (cur_pick H3.out.1 (by omega) hn).mono ?_; rintro e w4 ⟨y, y0, y1, rfl, hd⟩
  have H4 := Lib.hid (H3.out.trans hd)
  have HX4 := Lib.hid (HX3.out.only hd.2 (by omega))
  have HB4 := Lib.hid (HB3.out.only hd.2 (by omega))
  have F4 := Lib.hid (F3.out.far hd.2 (.inl (by omega)))
  have HO4 := Lib.hid (HO3.out.far hd.2 (.inr (by omega)))
  have hs4 := hd.2.size
  clear hd H3 HX3 HB3 F3 HO3
  go_wp2_with fail
  refine (cur_one H4.out.1 (by omega) hn).mono ?_; rintro e w5 ⟨bb, rfl, hd⟩
  have H5 := Lib.hid (H4.out.trans hd)
  have HX5 := Lib.hid (HX4.out.only hd.2 (by omega))
  have HB5 := Lib.hid (HB4.out.only hd.2 (by omega))
  have F5 := Lib.hid (F4.out.far hd.2 (.inl (by omega)))
  have HO5 := Lib.hid (HO4.out.far hd.2 (.inr (by omega)))
  have hs5 := hd.2.size
  clear hd H4 HX4 HB4 F4 HO4
  have hz2 : z ≤ 1048576 := by omega
  cases bb with
  | false =>
    have hkk : 0 + 100 + 4 + 2 + 2 + 2 ≤ 1000 := by omega
    have hnx : w.heap.size ≠ w.heap.size + 1 := by omega
    have hnb : w1.heap.size ≠ w.heap.size + 1 := by omega
    have hnw : w1.heap.size ≠ w.heap.size := by omega
    have hnf : w.heap.size ≤ w.heap.size + 1 ∨ w.heap.size + 1 + 1 ≤ 0 := .inl (by omega)
    have hno : w1.heap.size ≤ w.heap.size + 1 ∨ w.heap.size + 1 + 1 ≤ w.heap.size + 2 := .inr (by omega)
    have b0 := HB5.out.cell 0 _ rfl
    have b1 := HB5.out.cell 1 _ rfl
    have HK : ∀ w', Only (w.heap.size + 1) (w.heap.size + 1 + 1) w5 w' → w'.cell? ⟨w1.heap.size, 0, none⟩ = some (.int .i64 z) ∧ w'.cell? ⟨w1.heap.size, 1, none⟩ = some (.slice B m d) := fun w' ho => ⟨(HB5.out.only ho (by omega)).cell 0 _ rfl, (HB5.out.only ho (by omega)).cell 1 _ rfl⟩
    have HD := Lib.hid H5.out.1.drew
    have hk9 : 1000 ≤ 100000000000 := by omega
    have hne1 : ¬ (w.heap.size = w1.heap.size) := by omega
    have hne2 : ¬ (w1.heap.size = w.heap.size) := by omega
    go_wp2_with fail
    go_region_held3 (fun w' => w'.cell? ⟨w1.heap.size, 0, none⟩ = some (.int .i64 z) ∧ w'.cell? ⟨w1.heap.size, 1, none⟩ = some (.slice B m d))
      (first | exact HKS _ _ | (go_keep; done) | exact HK _ ho9)
      (first | (go_at_call 89; (first | refine (cur_place (HD.out.mono hkk) hk9 hn hz2).mono ?_ | refine (cur_place (H5.out.1.mono hkk) hk9 hn hz2).mono ?_); rintro e w9 ⟨r, r0, r1, rfl, hd'⟩; have hd := undrew hd'; have ho9 := hd.2; have H9 := Lib.hid hd; have HX9 := Lib.hid (HX5.out.only hd.2 hnx); have HB9 := Lib.hid (HB5.out.only hd.2 hnb); have F9 := Lib.hid (F5.out.far hd.2 hnf); have HO9 := Lib.hid (HO5.out.far hd.2 hno); have d0 := HX9.out.cell 0 _ rfl; have d1 := HX9.out.cell 1 _ rfl; have g0 := HX9.out.free 0; have g1 := HX9.out.free 1; have HKS := fun u v : Value => (show ((w9.setCell ⟨w.heap.size, 0, none⟩ u).setCell ⟨w.heap.size, 1, none⟩ v).cell? ⟨w1.heap.size, 0, none⟩ = some (.int .i64 z) ∧ ((w9.setCell ⟨w.heap.size, 0, none⟩ u).setCell ⟨w.heap.size, 1, none⟩ v).cell? ⟨w1.heap.size, 1, none⟩ = some (.slice B m d) from ⟨((HB9.out.only (only_set w9 w.heap.size 0 u) hnw).only (only_set _ w.heap.size 1 v) hnw).cell 0 _ rfl, ((HB9.out.only (only_set w9 w.heap.size 0 u) hnw).only (only_set _ w.heap.size 1 v) hnw).cell 1 _ rfl⟩); clear hd hd'))
    go_wp2_with fail
    refine bodyPost_ret (v := .tuple #[.agg #[.int .i64 z, .slice B m d], .int .i64 r, .int .i64 q, .int .i64 (x - y)]) (by simp [results, Try.results28, go_sem, d0, d1]) rfl ?_
    have HF := (HO9.out.setC (q := w.heap.size) (by omega) 0 (.int .i64 z)).setC (q := w.heap.size) (by omega) 1 (.slice B m d)
    exact ⟨z, B, m, d, X, r, q, _, rfl, ⟨z0, z1, hm, hmd, hdm, HF.now.mono (by omega) HF.top⟩, below_setAt (below_setAt F9.out.now (by omega) _) (by omega) _⟩
  | true =>
    have HD5 := Lib.hid H5.out.1.drew
    have hk5 : 0 + 100 + 4 + 2 + 2 + 2 ≤ 1000000000000 := by omega
    clear x0 x2 y0 y1
    go_wp2_with fail
    go_region_held3 (fun _ => True)
      (trivial)
      (first
        | (have hz := hv6; clear hz; go_at_call 86; (first | refine (cur_pick HD5.out hk5 hn).mono ?_ | refine (cur_pick H5.out.1 hk5 hn).mono ?_); rintro e w6 ⟨y6, y60, y61, rfl, hd'⟩; have hd := undrew hd'; clear hd')
        | (go_at_call 87; refine (l1Clip_is q 24 _).mono ?_; rintro e w' ⟨v6, hv6, rfl, rfl⟩; obtain ⟨p0, p1⟩ := two_bd (m := v6) (k := 24) hv6; have p2 : (2 : Int) ^ v6 ≤ 16777216 := (by simpa using p1); clear p1))
    have H6 := Lib.hid (H5.out.trans hd)
    have HX6 := Lib.hid (HX5.out.only hd.2 (by omega))
    have HB6 := Lib.hid (HB5.out.only hd.2 (by omega))
    have F6 := Lib.hid (F5.out.far hd.2 (.inl (by omega)))
    have HO6 := Lib.hid (HO5.out.far hd.2 (.inr (by omega)))
    have hs6 := hd.2.size
    clear hd H5 HX5 HB5 F5 HO5
    clear p0 p2 HD5 hk5
    have hkk : 0 + 100 + 4 + 2 + 2 + 2 + 2 ≤ 1000 := by omega
    have hnx : w.heap.size ≠ w.heap.size + 1 := by omega
    have hnb : w1.heap.size ≠ w.heap.size + 1 := by omega
    have hnw : w1.heap.size ≠ w.heap.size := by omega
    have hnf : w.heap.size ≤ w.heap.size + 1 ∨ w.heap.size + 1 + 1 ≤ 0 := .inl (by omega)
    have hno : w1.heap.size ≤ w.heap.size + 1 ∨ w.heap.size + 1 + 1 ≤ w.heap.size + 2 := .inr (by omega)
    have b0 := HB6.out.cell 0 _ rfl
    have b1 := HB6.out.cell 1 _ rfl
    have HK : ∀ w', Only (w.heap.size + 1) (w.heap.size + 1 + 1) w6 w' → w'.cell? ⟨w1.heap.size, 0, none⟩ = some (.int .i64 z) ∧ w'.cell? ⟨w1.heap.size, 1, none⟩ = some (.slice B m d) := fun w' ho => ⟨(HB6.out.only ho (by omega)).cell 0 _ rfl, (HB6.out.only ho (by omega)).cell 1 _ rfl⟩
    have HD := Lib.hid H6.out.1.drew
    have hk9 : 1000 ≤ 100000000000 := by omega
    have hne1 : ¬ (w.heap.size = w1.heap.size) := by omega
    have hne2 : ¬ (w1.heap.size = w.heap.size) := by omega
    go_wp2_with fail
    go_region_held3 (fun w' => w'.cell? ⟨w1.heap.size, 0, none⟩ = some (.int .i64 z) ∧ w'.cell? ⟨w1.heap.size, 1, none⟩ = some (.slice B m d))
      (first | exact HKS _ _ | (go_keep; done) | exact HK _ ho9)
      (first | (go_at_call 89; (first | refine (cur_place (HD.out.mono hkk) hk9 hn hz2).mono ?_ | refine (cur_place (H6.out.1.mono hkk) hk9 hn hz2).mono ?_); rintro e w9 ⟨r, r0, r1, rfl, hd'⟩; have hd := undrew hd'; have ho9 := hd.2; have H9 := Lib.hid hd; have HX9 := Lib.hid (HX6.out.only hd.2 hnx); have HB9 := Lib.hid (HB6.out.only hd.2 hnb); have F9 := Lib.hid (F6.out.far hd.2 hnf); have HO9 := Lib.hid (HO6.out.far hd.2 hno); have d0 := HX9.out.cell 0 _ rfl; have d1 := HX9.out.cell 1 _ rfl; have g0 := HX9.out.free 0; have g1 := HX9.out.free 1; have HKS := fun u v : Value => (show ((w9.setCell ⟨w.heap.size, 0, none⟩ u).setCell ⟨w.heap.size, 1, none⟩ v).cell? ⟨w1.heap.size, 0, none⟩ = some (.int .i64 z) ∧ ((w9.setCell ⟨w.heap.size, 0, none⟩ u).setCell ⟨w.heap.size, 1, none⟩ v).cell? ⟨w1.heap.size, 1, none⟩ = some (.slice B m d) from ⟨((HB9.out.only (only_set w9 w.heap.size 0 u) hnw).only (only_set _ w.heap.size 1 v) hnw).cell 0 _ rfl, ((HB9.out.only (only_set w9 w.heap.size 0 u) hnw).only (only_set _ w.heap.size 1 v) hnw).cell 1 _ rfl⟩); clear hd hd'))
    go_wp2_with fail
    refine bodyPost_ret (v := .tuple #[.agg #[.int .i64 z, .slice B m d], .int .i64 r, .int .i64 q, .int .i64 (IntKind.i64.wrap (IntKind.i64.wrap (2 ^ v6) - y6))]) (by simp [results, Try.results28, go_sem, d0, d1]) rfl ?_
    have HF := (HO9.out.setC (q := w.heap.size) (by omega) 0 (.int .i64 z)).setC (q := w.heap.size) (by omega) 1 (.slice B m d)
    exact ⟨z, B, m, d, X, r, q, _, rfl, ⟨z0, z1, hm, hmd, hdm, HF.now.mono (by omega) HF.top⟩, below_setAt (below_setAt F9.out.now (by omega) _) (by omega) _⟩

end Go.Proofs.Ytglccgpiakadbaa
