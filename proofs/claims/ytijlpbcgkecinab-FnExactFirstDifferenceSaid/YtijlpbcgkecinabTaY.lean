/- FirstDifference: both sides. -/
import Derived.Test.YtijlpbcgkecinabTaX
import Derived.Test.YtijlpbcgkecinabFstI
import Derived.Test.YtijlpbcgkecinabKeyRow
namespace Go.Proofs.Ytijlpbcgkecinab
open Go.RowKit

/-- Two tables in boxes, and a row of keys. -/
structure TT (w : World) (z0 z1 z2 : Int) (A : Option Addr) (n c : Nat) (X : Nat → Int) (y0 y1 y2 : Int) (B : Option Addr) (m d : Nat) (Y : Nat → Int) (K : Option Addr) (k : Nat) (S : Nat → ByteArray) (W : World) : Prop where
  below : Below w.heap.size w W
  ba : NBX w.heap.size w.heap.size #[.int .i64 z0, .int .i64 z1, .int .i64 z2, .slice A n c] 27 W
  bb : NBX w.heap.size (w.heap.size + 1) #[.int .i64 y0, .int .i64 y1, .int .i64 y2, .slice B m d] 27 W
  ra : IRow W A n X
  rb : IRow W B m Y
  rk : GRow W K k (strV S)
section
variable {w W W2 : World} {z0 z1 z2 y0 y1 y2 : Int} {A B K : Option Addr} {n c m d k kc : Nat} {X Y : Nat → Int} {S : Nat → ByteArray}
theorem TT.step (h : TT w z0 z1 z2 A n c X y0 y1 y2 B m d Y K k S W) (hb : Below W.heap.size W W2) : TT w z0 z1 z2 A n c X y0 y1 y2 B m d Y K k S W2 :=
  ⟨h.below.trans (hb.mono h.below.size), h.ba.b hb, h.bb.b hb, h.ra.b hb, h.rb.b hb, h.rk.b hb⟩
theorem TT.start (ha : IRow w A n X) (hb : IRow w B m Y) (hk : GRow w K k (strV S)) : TT w z0 z1 z2 A n c X y0 y1 y2 B m d Y K k S ((w.alloc (.cells #[.int .i64 z0, .int .i64 z1, .int .i64 z2, .slice A n c] 27)).alloc (.cells #[.int .i64 y0, .int .i64 y1, .int .i64 y2, .slice B m d] 27)) := by
  have h0 := (Below.refl w.heap.size w).alloc (Nat.le_refl _) (.cells #[.int .i64 z0, .int .i64 z1, .int .i64 z2, .slice A n c] 27)
  have h1 := (Below.refl (w.alloc (.cells #[.int .i64 z0, .int .i64 z1, .int .i64 z2, .slice A n c] 27)).heap.size _).alloc (Nat.le_refl _) (.cells #[.int .i64 y0, .int .i64 y1, .int .i64 y2, .slice B m d] 27)
  have n1 := nbx0 (w.alloc (.cells #[.int .i64 z0, .int .i64 z1, .int .i64 z2, .slice A n c] 27)) #[.int .i64 y0, .int .i64 y1, .int .i64 y2, .slice B m d] 27
  simp only [World.size_alloc] at n1
  exact ⟨h0.trans (h1.mono (by simp)), (nbx0 w _ _).b h1, ⟨n1.blk, by omega⟩, (ha.b h0).b h1, (hb.b h0).b h1, (hk.al _).al _⟩
/-- Where the values of both tables differ. -/
def DifK (z0 z1 : Int) (X : Nat → Int) (y0 y1 : Int) (Y : Nat → Int) (S : Nat → ByteArray) (u : Int) : Prop := taN z0 z1.toNat (S u.toNat) X ≠ taN y0 y1.toNat (S u.toNat) Y

set_option maxRecDepth 100000 in
set_option maxHeartbeats 4000000 in
theorem firstDif_fn {g v h x : Nat} (hs : ∀ i, i < k → (S i).size ≤ maxLen) (ha : TaV z0 g v n X) (hb : TaV y0 h x m Y) (u : Nat) (hu : u < k) (W : World) (T : TT w z0 g v A n c X y0 h x B m d Y K k S W) (bk : NBX w.heap.size (w.heap.size + 2) #[.slice K k kc] 38 W) :
    Calls Try.prog 56 #[.int .i64 u, .pointer (some ⟨w.heap.size, 0, none⟩), .pointer (some ⟨w.heap.size + 2, 0, none⟩), .pointer (some ⟨w.heap.size + 1, 0, none⟩)] W fun e W' => ∃ r : Bool, e = .returned (.bool r) ∧ (r = true ↔ DifK z0 g X y0 h Y S u) ∧ TT w z0 g v A n c X y0 h x B m d Y K k S W' ∧ NBX w.heap.size (w.heap.size + 2) #[.slice K k kc] 38 W' := by
  have T0 := Lib.hid T
  have K0 := Lib.hid bk
  have HA := Lib.hid ha
  have HB := Lib.hid hb
  have hsu := hs u hu
  clear T bk ha hb hs
  obtain ⟨b, off, rfl, hkl, hc⟩ := T0.out.rk (by omega)
  have hcu := hc u hu
  unfold strV at hcu
  have HC := Lib.hid hcu
  have HKL := Lib.hid hkl
  clear hc hkl
  have x0 := T0.out.ba.cell 0 _ rfl
  have x1 := T0.out.ba.cell 1 _ rfl
  have x2 := T0.out.ba.cell 2 _ rfl
  have x3 := T0.out.ba.cell 3 _ rfl
  have v0 := T0.out.bb.cell 0 _ rfl
  have v1 := T0.out.bb.cell 1 _ rfl
  have v2 := T0.out.bb.cell 2 _ rfl
  have v3 := T0.out.bb.cell 3 _ rfl
  have k0 := K0.out.cell 0 _ rfl
  have HK := Lib.hid (fun (W' : World) (hw : Below W.heap.size W W') => (show W'.cell? ⟨w.heap.size, 0, none⟩ = some (.int .i64 z0) ∧ W'.cell? ⟨w.heap.size, 1, none⟩ = some (.int .i64 g) ∧ W'.cell? ⟨w.heap.size, 2, none⟩ = some (.int .i64 v) ∧ W'.cell? ⟨w.heap.size, 3, none⟩ = some (.slice A n c) ∧ W'.cell? ⟨w.heap.size + 1, 0, none⟩ = some (.int .i64 y0) ∧ W'.cell? ⟨w.heap.size + 1, 1, none⟩ = some (.int .i64 h) ∧ W'.cell? ⟨w.heap.size + 1, 2, none⟩ = some (.int .i64 x) ∧ W'.cell? ⟨w.heap.size + 1, 3, none⟩ = some (.slice B m d) ∧ W'.cell? ⟨w.heap.size + 2, 0, none⟩ = some (.slice (some ⟨b, off, none⟩) k kc) ∧ W'.cell? ⟨b, off + u, none⟩ = some (.string (S u)) from
    ⟨(T0.out.step hw).ba.cell 0 _ rfl, (T0.out.step hw).ba.cell 1 _ rfl, (T0.out.step hw).ba.cell 2 _ rfl, (T0.out.step hw).ba.cell 3 _ rfl, (T0.out.step hw).bb.cell 0 _ rfl, (T0.out.step hw).bb.cell 1 _ rfl, (T0.out.step hw).bb.cell 2 _ rfl, (T0.out.step hw).bb.cell 3 _ rfl, (K0.out.b hw).cell 0 _ rfl, (hw.cell (p := ⟨b, off + u, none⟩) HKL.out).trans HC.out⟩))
  go_enter Try.func56, Try.ntmps56
  go_wp2_with fail
  go_region_held3 (fun W' => W'.cell? ⟨w.heap.size, 0, none⟩ = some (.int .i64 z0) ∧ W'.cell? ⟨w.heap.size, 1, none⟩ = some (.int .i64 g) ∧ W'.cell? ⟨w.heap.size, 2, none⟩ = some (.int .i64 v) ∧ W'.cell? ⟨w.heap.size, 3, none⟩ = some (.slice A n c) ∧ W'.cell? ⟨w.heap.size + 1, 0, none⟩ = some (.int .i64 y0) ∧ W'.cell? ⟨w.heap.size + 1, 1, none⟩ = some (.int .i64 h) ∧ W'.cell? ⟨w.heap.size + 1, 2, none⟩ = some (.int .i64 x) ∧ W'.cell? ⟨w.heap.size + 1, 3, none⟩ = some (.slice B m d) ∧ W'.cell? ⟨w.heap.size + 2, 0, none⟩ = some (.slice (some ⟨b, off, none⟩) k kc) ∧ W'.cell? ⟨b, off + u, none⟩ = some (.string (S u)))
    (first | with_reducible exact HK.out _ hq1 | with_reducible exact HK.out _ hq2 | (go_keep; done))
    (first
      | (have hqz := hq1; clear hqz; go_at_call 50; refine (impl_valueFor hsu (T0.out.step hq1).rb HB.out).mono ?_; rintro e W2 ⟨rfl, hq2'⟩; have hq2 := hq1.trans (hq2'.mono hq1.size); clear hq2')
      | (go_at_call 50; refine (impl_valueFor hsu (show IRow W.drew A n X from T0.out.ra) HA.out).mono ?_; rintro e W1 ⟨rfl, hq1'⟩; have hq1 := of_drew hq1'; clear hq1'))
  have T1 := Lib.hid (T0.out.step hq2)
  have K1 := Lib.hid (K0.out.b hq2)
  clear x0 x1 x2 x3 v0 v1 v2 v3 k0 hcu hq1 hq2 HK
  have HD := Lib.hid (show DifK z0 g X y0 h Y S u ↔ taN z0 g (S u) X ≠ taN y0 h (S u) Y from by unfold DifK; simp)
  generalize taN z0 g (S u) X = p at *
  generalize taN y0 h (S u) Y = q at *
  go_wp2_with fail
  go_ret
  exact ⟨_, rfl, by rw [HD.out]; simp [Int.natCast_inj], T1.out, K1.out⟩
/-- Both tables and the keys are valid. -/
def DfOk (z0 z1 z2 : Int) (n : Nat) (X : Nat → Int) (y0 y1 y2 : Int) (m : Nat) (Y : Nat → Int) (k : Nat) (S : Nat → ByteArray) : Prop := TaV z0 z1 z2 n X ∧ TaV y0 y1 y2 m Y ∧ keysB S k = true
set_option maxRecDepth 100000 in
set_option maxHeartbeats 4000000 in
theorem impl_firstDif_no (hn : n ≤ 1048576) (hm : m ≤ 1048576) (hk : k ≤ 1048576) (hs : ∀ i, i < k → (S i).size ≤ maxLen) (hra : IRow w A n X) (hrb : IRow w B m Y) (hrk : GRow w K k (strV S)) (hno : ¬ DfOk z0 z1 z2 n X y0 y1 y2 m Y k S) :
    Calls Try.prog 24 #[.agg #[.int .i64 z0, .int .i64 z1, .int .i64 z2, .slice A n c], .agg #[.int .i64 y0, .int .i64 y1, .int .i64 y2, .slice B m d], .slice K k kc] w fun e w' => e = .returned (.tuple #[.int .i64 0, .bool false]) ∧ Below w.heap.size w w' := by
  have T0 := Lib.hid ((TT.start (z0 := z0) (z1 := z1) (z2 := z2) (c := c) (y0 := y0) (y1 := y1) (y2 := y2) (d := d) hra hrb hrk).step ((Below.refl _ _).alloc (Nat.le_refl _) (.cells #[.slice K k kc] 38)))
  have K0 := Lib.hid (show NBX w.heap.size (w.heap.size + 2) #[.slice K k kc] 38 _ from by
    have h9 := nbx0 ((w.alloc (.cells #[.int .i64 z0, .int .i64 z1, .int .i64 z2, .slice A n c] 27)).alloc (.cells #[.int .i64 y0, .int .i64 y1, .int .i64 y2, .slice B m d] 27)) #[.slice K k kc] 38
    simp only [World.size_alloc] at h9
    exact ⟨h9.blk, by omega⟩)
  have HS := Lib.hid hs
  clear hra hrb hrk hs
  by_cases h1 : TaV z0 z1 z2 n X
  rotate_left
  · have x0 := T0.out.ba.cell 0 _ rfl
    have x1 := T0.out.ba.cell 1 _ rfl
    have x2 := T0.out.ba.cell 2 _ rfl
    have x3 := T0.out.ba.cell 3 _ rfl
    have v0 := T0.out.bb.cell 0 _ rfl
    have v1 := T0.out.bb.cell 1 _ rfl
    have v2 := T0.out.bb.cell 2 _ rfl
    have v3 := T0.out.bb.cell 3 _ rfl
    have k0 := K0.out.cell 0 _ rfl
    go_enter Try.func24, Try.ntmps24
    go_wp2_with fail
    refine (impl_isTable (b := false) (by simp [h1]) hn T0.out.ra).mono ?_; rintro e w1 ⟨rfl, hw⟩
    have T1 := Lib.hid (T0.out.step hw)
    have K1 := Lib.hid (K0.out.b hw)
    clear x0 x1 x2 x3 v0 v1 v2 v3 k0 hw
    have x0 := T1.out.ba.cell 0 _ rfl
    have x1 := T1.out.ba.cell 1 _ rfl
    have x2 := T1.out.ba.cell 2 _ rfl
    have x3 := T1.out.ba.cell 3 _ rfl
    have v0 := T1.out.bb.cell 0 _ rfl
    have v1 := T1.out.bb.cell 1 _ rfl
    have v2 := T1.out.bb.cell 2 _ rfl
    have v3 := T1.out.bb.cell 3 _ rfl
    have k0 := K1.out.cell 0 _ rfl
    go_wp2_with fail
    go_ret2
    exact ⟨rfl, T1.out.below⟩
  by_cases h2 : TaV y0 y1 y2 m Y
  rotate_left
  · have x0 := T0.out.ba.cell 0 _ rfl
    have x1 := T0.out.ba.cell 1 _ rfl
    have x2 := T0.out.ba.cell 2 _ rfl
    have x3 := T0.out.ba.cell 3 _ rfl
    have v0 := T0.out.bb.cell 0 _ rfl
    have v1 := T0.out.bb.cell 1 _ rfl
    have v2 := T0.out.bb.cell 2 _ rfl
    have v3 := T0.out.bb.cell 3 _ rfl
    have k0 := K0.out.cell 0 _ rfl
    go_enter Try.func24, Try.ntmps24
    go_wp2_with fail
    refine (impl_isTable (b := true) (by simp [h1]) hn T0.out.ra).mono ?_; rintro e w1 ⟨rfl, hw⟩
    have T1 := Lib.hid (T0.out.step hw)
    have K1 := Lib.hid (K0.out.b hw)
    clear x0 x1 x2 x3 v0 v1 v2 v3 k0 hw
    have x0 := T1.out.ba.cell 0 _ rfl
    have x1 := T1.out.ba.cell 1 _ rfl
    have x2 := T1.out.ba.cell 2 _ rfl
    have x3 := T1.out.ba.cell 3 _ rfl
    have v0 := T1.out.bb.cell 0 _ rfl
    have v1 := T1.out.bb.cell 1 _ rfl
    have v2 := T1.out.bb.cell 2 _ rfl
    have v3 := T1.out.bb.cell 3 _ rfl
    have k0 := K1.out.cell 0 _ rfl
    go_wp2_with fail
    refine (impl_isTable (b := false) (by simp [h2]) hm T1.out.rb).mono ?_; rintro e w2 ⟨rfl, hw⟩
    have T2 := Lib.hid (T1.out.step hw)
    have K2 := Lib.hid (K1.out.b hw)
    clear x0 x1 x2 x3 v0 v1 v2 v3 k0 hw
    have x0 := T2.out.ba.cell 0 _ rfl
    have x1 := T2.out.ba.cell 1 _ rfl
    have x2 := T2.out.ba.cell 2 _ rfl
    have x3 := T2.out.ba.cell 3 _ rfl
    have v0 := T2.out.bb.cell 0 _ rfl
    have v1 := T2.out.bb.cell 1 _ rfl
    have v2 := T2.out.bb.cell 2 _ rfl
    have v3 := T2.out.bb.cell 3 _ rfl
    have k0 := K2.out.cell 0 _ rfl
    go_wp2_with fail
    go_ret2
    exact ⟨rfl, T2.out.below⟩
  have h3 : keysB S k = false := by
    cases e : keysB S k
    · rfl
    · exact absurd ⟨h1, h2, e⟩ hno
  have x0 := T0.out.ba.cell 0 _ rfl
  have x1 := T0.out.ba.cell 1 _ rfl
  have x2 := T0.out.ba.cell 2 _ rfl
  have x3 := T0.out.ba.cell 3 _ rfl
  have v0 := T0.out.bb.cell 0 _ rfl
  have v1 := T0.out.bb.cell 1 _ rfl
  have v2 := T0.out.bb.cell 2 _ rfl
  have v3 := T0.out.bb.cell 3 _ rfl
  have k0 := K0.out.cell 0 _ rfl
  go_enter Try.func24, Try.ntmps24
  go_wp2_with fail
  refine (impl_isTable (b := true) (by simp [h1]) hn T0.out.ra).mono ?_; rintro e w1 ⟨rfl, hw⟩
  have T1 := Lib.hid (T0.out.step hw)
  have K1 := Lib.hid (K0.out.b hw)
  clear x0 x1 x2 x3 v0 v1 v2 v3 k0 hw
  have x0 := T1.out.ba.cell 0 _ rfl
  have x1 := T1.out.ba.cell 1 _ rfl
  have x2 := T1.out.ba.cell 2 _ rfl
  have x3 := T1.out.ba.cell 3 _ rfl
  have v0 := T1.out.bb.cell 0 _ rfl
  have v1 := T1.out.bb.cell 1 _ rfl
  have v2 := T1.out.bb.cell 2 _ rfl
  have v3 := T1.out.bb.cell 3 _ rfl
  have k0 := K1.out.cell 0 _ rfl
  go_wp2_with fail
  refine (impl_isTable (b := true) (by simp [h2]) hm T1.out.rb).mono ?_; rintro e w2 ⟨rfl, hw⟩
  have T2 := Lib.hid (T1.out.step hw)
  have K2 := Lib.hid (K1.out.b hw)
  clear x0 x1 x2 x3 v0 v1 v2 v3 k0 hw
  have x0 := T2.out.ba.cell 0 _ rfl
  have x1 := T2.out.ba.cell 1 _ rfl
  have x2 := T2.out.ba.cell 2 _ rfl
  have x3 := T2.out.ba.cell 3 _ rfl
  have v0 := T2.out.bb.cell 0 _ rfl
  have v1 := T2.out.bb.cell 1 _ rfl
  have v2 := T2.out.bb.cell 2 _ rfl
  have v3 := T2.out.bb.cell 3 _ rfl
  have k0 := K2.out.cell 0 _ rfl
  go_wp2_with fail
  refine (impl_areKeys K k kc S _ hk HS.out T2.out.rk).mono ?_; rintro e w3 ⟨rfl, rfl⟩
  rw [show keysB S k = false from h3]
  go_wp2_with fail
  go_ret2
  exact ⟨rfl, T2.out.below⟩
set_option maxRecDepth 100000 in
set_option maxHeartbeats 4000000 in
theorem spec_firstDif_no (hn : n ≤ 1048576) (hm : m ≤ 1048576) (hk : k ≤ 1048576) (hs : ∀ i, i < k → (S i).size ≤ maxLen) (hra : IRow w A n X) (hrb : IRow w B m Y) (hrk : GRow w K k (strV S)) (hno : ¬ DfOk z0 z1 z2 n X y0 y1 y2 m Y k S) :
    Calls Try.prog 22 #[.agg #[.int .i64 z0, .int .i64 z1, .int .i64 z2, .slice A n c], .agg #[.int .i64 y0, .int .i64 y1, .int .i64 y2, .slice B m d], .slice K k kc] w fun e w' => e = .returned (.tuple #[.int .i64 0, .bool false]) ∧ Below w.heap.size w w' := by
  have T0 := Lib.hid (TT.start (z0 := z0) (z1 := z1) (z2 := z2) (c := c) (y0 := y0) (y1 := y1) (y2 := y2) (d := d) hra hrb hrk)
  have HS := Lib.hid hs
  clear hra hrb hrk hs
  by_cases h1 : TaV z0 z1 z2 n X
  rotate_left
  · have x0 := T0.out.ba.cell 0 _ rfl
    have x1 := T0.out.ba.cell 1 _ rfl
    have x2 := T0.out.ba.cell 2 _ rfl
    have x3 := T0.out.ba.cell 3 _ rfl
    have v0 := T0.out.bb.cell 0 _ rfl
    have v1 := T0.out.bb.cell 1 _ rfl
    have v2 := T0.out.bb.cell 2 _ rfl
    have v3 := T0.out.bb.cell 3 _ rfl
    go_enter Try.func22, Try.ntmps22
    go_wp2_with fail
    refine (spec_reTable (b := false) (by simp [h1]) hn T0.out.ra).mono ?_; rintro e w1 ⟨rfl, hw⟩
    have T1 := Lib.hid (T0.out.step hw)
    clear x0 x1 x2 x3 v0 v1 v2 v3 hw
    have x0 := T1.out.ba.cell 0 _ rfl
    have x1 := T1.out.ba.cell 1 _ rfl
    have x2 := T1.out.ba.cell 2 _ rfl
    have x3 := T1.out.ba.cell 3 _ rfl
    have v0 := T1.out.bb.cell 0 _ rfl
    have v1 := T1.out.bb.cell 1 _ rfl
    have v2 := T1.out.bb.cell 2 _ rfl
    have v3 := T1.out.bb.cell 3 _ rfl
    go_wp2_with fail
    go_ret2
    exact ⟨rfl, T1.out.below⟩
  by_cases h2 : TaV y0 y1 y2 m Y
  rotate_left
  · have x0 := T0.out.ba.cell 0 _ rfl
    have x1 := T0.out.ba.cell 1 _ rfl
    have x2 := T0.out.ba.cell 2 _ rfl
    have x3 := T0.out.ba.cell 3 _ rfl
    have v0 := T0.out.bb.cell 0 _ rfl
    have v1 := T0.out.bb.cell 1 _ rfl
    have v2 := T0.out.bb.cell 2 _ rfl
    have v3 := T0.out.bb.cell 3 _ rfl
    go_enter Try.func22, Try.ntmps22
    go_wp2_with fail
    refine (spec_reTable (b := true) (by simp [h1]) hn T0.out.ra).mono ?_; rintro e w1 ⟨rfl, hw⟩
    have T1 := Lib.hid (T0.out.step hw)
    clear x0 x1 x2 x3 v0 v1 v2 v3 hw
    have x0 := T1.out.ba.cell 0 _ rfl
    have x1 := T1.out.ba.cell 1 _ rfl
    have x2 := T1.out.ba.cell 2 _ rfl
    have x3 := T1.out.ba.cell 3 _ rfl
    have v0 := T1.out.bb.cell 0 _ rfl
    have v1 := T1.out.bb.cell 1 _ rfl
    have v2 := T1.out.bb.cell 2 _ rfl
    have v3 := T1.out.bb.cell 3 _ rfl
    go_wp2_with fail
    refine (spec_reTable (b := false) (by simp [h2]) hm T1.out.rb).mono ?_; rintro e w2 ⟨rfl, hw⟩
    have T2 := Lib.hid (T1.out.step hw)
    clear x0 x1 x2 x3 v0 v1 v2 v3 hw
    have x0 := T2.out.ba.cell 0 _ rfl
    have x1 := T2.out.ba.cell 1 _ rfl
    have x2 := T2.out.ba.cell 2 _ rfl
    have x3 := T2.out.ba.cell 3 _ rfl
    have v0 := T2.out.bb.cell 0 _ rfl
    have v1 := T2.out.bb.cell 1 _ rfl
    have v2 := T2.out.bb.cell 2 _ rfl
    have v3 := T2.out.bb.cell 3 _ rfl
    go_wp2_with fail
    go_ret2
    exact ⟨rfl, T2.out.below⟩
  have h3 : keysB S k = false := by
    cases e : keysB S k
    · rfl
    · exact absurd ⟨h1, h2, e⟩ hno
  have x0 := T0.out.ba.cell 0 _ rfl
  have x1 := T0.out.ba.cell 1 _ rfl
  have x2 := T0.out.ba.cell 2 _ rfl
  have x3 := T0.out.ba.cell 3 _ rfl
  have v0 := T0.out.bb.cell 0 _ rfl
  have v1 := T0.out.bb.cell 1 _ rfl
  have v2 := T0.out.bb.cell 2 _ rfl
  have v3 := T0.out.bb.cell 3 _ rfl
  go_enter Try.func22, Try.ntmps22
  go_wp2_with fail
  refine (spec_reTable (b := true) (by simp [h1]) hn T0.out.ra).mono ?_; rintro e w1 ⟨rfl, hw⟩
  have T1 := Lib.hid (T0.out.step hw)
  clear x0 x1 x2 x3 v0 v1 v2 v3 hw
  have x0 := T1.out.ba.cell 0 _ rfl
  have x1 := T1.out.ba.cell 1 _ rfl
  have x2 := T1.out.ba.cell 2 _ rfl
  have x3 := T1.out.ba.cell 3 _ rfl
  have v0 := T1.out.bb.cell 0 _ rfl
  have v1 := T1.out.bb.cell 1 _ rfl
  have v2 := T1.out.bb.cell 2 _ rfl
  have v3 := T1.out.bb.cell 3 _ rfl
  go_wp2_with fail
  refine (spec_reTable (b := true) (by simp [h2]) hm T1.out.rb).mono ?_; rintro e w2 ⟨rfl, hw⟩
  have T2 := Lib.hid (T1.out.step hw)
  clear x0 x1 x2 x3 v0 v1 v2 v3 hw
  have x0 := T2.out.ba.cell 0 _ rfl
  have x1 := T2.out.ba.cell 1 _ rfl
  have x2 := T2.out.ba.cell 2 _ rfl
  have x3 := T2.out.ba.cell 3 _ rfl
  have v0 := T2.out.bb.cell 0 _ rfl
  have v1 := T2.out.bb.cell 1 _ rfl
  have v2 := T2.out.bb.cell 2 _ rfl
  have v3 := T2.out.bb.cell 3 _ rfl
  go_wp2_with fail
  refine (spec_biKeys K k kc S _ hk HS.out T2.out.rk).mono ?_; rintro e w3 ⟨rfl, rfl⟩
  rw [show keysB S k = false from h3]
  go_wp2_with fail
  go_ret2
  exact ⟨rfl, T2.out.below⟩
set_option maxRecDepth 100000 in
set_option maxHeartbeats 4000000 in
theorem impl_firstDif {g v h x : Nat} (hn : n ≤ 1048576) (hm : m ≤ 1048576) (hk : k ≤ 1048576) (hs : ∀ i, i < k → (S i).size ≤ maxLen) (hra : IRow w A n X) (hrb : IRow w B m Y) (hrk : GRow w K k (strV S)) (hok : DfOk z0 g v n X y0 h x m Y k S) :
    Calls Try.prog 24 #[.agg #[.int .i64 z0, .int .i64 g, .int .i64 v, .slice A n c], .agg #[.int .i64 y0, .int .i64 h, .int .i64 x, .slice B m d], .slice K k kc] w (FindI (DifK z0 g X y0 h Y S) 0 k w) := by
  have T0 := Lib.hid ((TT.start (z0 := z0) (z1 := g) (z2 := v) (c := c) (y0 := y0) (y1 := h) (y2 := x) (d := d) hra hrb hrk).step ((Below.refl _ _).alloc (Nat.le_refl _) (.cells #[.slice K k kc] 38)))
  have K0 := Lib.hid (show NBX w.heap.size (w.heap.size + 2) #[.slice K k kc] 38 _ from by
    have h9 := nbx0 ((w.alloc (.cells #[.int .i64 z0, .int .i64 g, .int .i64 v, .slice A n c] 27)).alloc (.cells #[.int .i64 y0, .int .i64 h, .int .i64 x, .slice B m d] 27)) #[.slice K k kc] 38
    simp only [World.size_alloc] at h9
    exact ⟨h9.blk, by omega⟩)
  have HS := Lib.hid hs
  have HOK := Lib.hid hok
  obtain ⟨h1, h2, h3⟩ := hok
  have hk40 := keysB_size h3
  clear hra hrb hrk hs
  have x0 := T0.out.ba.cell 0 _ rfl
  have x1 := T0.out.ba.cell 1 _ rfl
  have x2 := T0.out.ba.cell 2 _ rfl
  have x3 := T0.out.ba.cell 3 _ rfl
  have v0 := T0.out.bb.cell 0 _ rfl
  have v1 := T0.out.bb.cell 1 _ rfl
  have v2 := T0.out.bb.cell 2 _ rfl
  have v3 := T0.out.bb.cell 3 _ rfl
  have k0 := K0.out.cell 0 _ rfl
  go_enter Try.func24, Try.ntmps24
  go_wp2_with fail
  refine (impl_isTable (b := true) (by simp [h1]) hn T0.out.ra).mono ?_; rintro e w1 ⟨rfl, hw⟩
  have T1 := Lib.hid (T0.out.step hw)
  have K1 := Lib.hid (K0.out.b hw)
  clear x0 x1 x2 x3 v0 v1 v2 v3 k0 hw
  have x0 := T1.out.ba.cell 0 _ rfl
  have x1 := T1.out.ba.cell 1 _ rfl
  have x2 := T1.out.ba.cell 2 _ rfl
  have x3 := T1.out.ba.cell 3 _ rfl
  have v0 := T1.out.bb.cell 0 _ rfl
  have v1 := T1.out.bb.cell 1 _ rfl
  have v2 := T1.out.bb.cell 2 _ rfl
  have v3 := T1.out.bb.cell 3 _ rfl
  have k0 := K1.out.cell 0 _ rfl
  go_wp2_with fail
  refine (impl_isTable (b := true) (by simp [h2]) hm T1.out.rb).mono ?_; rintro e w2 ⟨rfl, hw⟩
  have T2 := Lib.hid (T1.out.step hw)
  have K2 := Lib.hid (K1.out.b hw)
  clear x0 x1 x2 x3 v0 v1 v2 v3 k0 hw
  have x0 := T2.out.ba.cell 0 _ rfl
  have x1 := T2.out.ba.cell 1 _ rfl
  have x2 := T2.out.ba.cell 2 _ rfl
  have x3 := T2.out.ba.cell 3 _ rfl
  have v0 := T2.out.bb.cell 0 _ rfl
  have v1 := T2.out.bb.cell 1 _ rfl
  have v2 := T2.out.bb.cell 2 _ rfl
  have v3 := T2.out.bb.cell 3 _ rfl
  have k0 := K2.out.cell 0 _ rfl
  go_wp2_with fail
  refine (impl_areKeys K k kc S _ hk HS.out T2.out.rk).mono ?_; rintro e w3 ⟨rfl, rfl⟩
  rw [show keysB S k = true from h3]
  go_wp2_with fail
  refine (first_any 56 (enters_of Try.func56 (by kernel_rfl) rfl) #[.pointer (some ⟨w.heap.size, 0, none⟩), .pointer (some ⟨w.heap.size + 2, 0, none⟩), .pointer (some ⟨w.heap.size + 1, 0, none⟩)] (DifK z0 g X y0 h Y S) 0 k (fun W => TT w z0 g v A n c X y0 h x B m d Y K k S W ∧ NBX w.heap.size (w.heap.size + 2) #[.slice K k kc] 38 W) _ (by omega) (by omega) (by omega) ⟨T2.out, K2.out⟩ (fun u W q1 q2 hW => ?_)).mono ?_
  · obtain ⟨t, rfl⟩ := Int.eq_ofNat_of_zero_le q1
    exact firstDif_fn HS.out HOK.out.1 HOK.out.2.1 t (by omega) W hW.1 hW.2
  rintro e w3 ⟨⟨q, rfl, hv1, hv2, hv3, hv4⟩ | ⟨rfl, hN⟩, hW⟩
  · have HV := Lib.hid (And.intro hv3 hv4)
    have HW := Lib.hid hW.1.below
    clear hv3 hv4 hW x0 x1 x2 x3 v0 v1 v2 v3 k0
    go_wp2_with fail
    go_ret2
    exact ⟨HW.out, .inl ⟨q, rfl, hv1, hv2, HV.out.1, HV.out.2⟩⟩
  · have HV := Lib.hid hN
    have HW := Lib.hid hW.1.below
    clear hN hW x0 x1 x2 x3 v0 v1 v2 v3 k0
    go_wp2_with fail
    go_ret2
    exact ⟨HW.out, .inr ⟨rfl, HV.out⟩⟩
set_option maxRecDepth 100000 in
set_option maxHeartbeats 4000000 in
theorem spec_firstDif {g v h x : Nat} (hn : n ≤ 1048576) (hm : m ≤ 1048576) (hk : k ≤ 1048576) (hs : ∀ i, i < k → (S i).size ≤ maxLen) (hra : IRow w A n X) (hrb : IRow w B m Y) (hrk : GRow w K k (strV S)) (hok : DfOk z0 g v n X y0 h x m Y k S) :
    Calls Try.prog 22 #[.agg #[.int .i64 z0, .int .i64 g, .int .i64 v, .slice A n c], .agg #[.int .i64 y0, .int .i64 h, .int .i64 x, .slice B m d], .slice K k kc] w (FindI (DifK z0 g X y0 h Y S) 0 k w) := by
  have T0 := Lib.hid (TT.start (z0 := z0) (z1 := g) (z2 := v) (c := c) (y0 := y0) (y1 := h) (y2 := x) (d := d) hra hrb hrk)
  have HS := Lib.hid hs
  have HOK := Lib.hid hok
  obtain ⟨h1, h2, h3⟩ := hok
  have hk40 := keysB_size h3
  clear hra hrb hrk hs
  have x0 := T0.out.ba.cell 0 _ rfl
  have x1 := T0.out.ba.cell 1 _ rfl
  have x2 := T0.out.ba.cell 2 _ rfl
  have x3 := T0.out.ba.cell 3 _ rfl
  have v0 := T0.out.bb.cell 0 _ rfl
  have v1 := T0.out.bb.cell 1 _ rfl
  have v2 := T0.out.bb.cell 2 _ rfl
  have v3 := T0.out.bb.cell 3 _ rfl
  go_enter Try.func22, Try.ntmps22
  go_wp2_with fail
  refine (spec_reTable (b := true) (by simp [h1]) hn T0.out.ra).mono ?_; rintro e w1 ⟨rfl, hw⟩
  have T1 := Lib.hid (T0.out.step hw)
  clear x0 x1 x2 x3 v0 v1 v2 v3 hw
  have x0 := T1.out.ba.cell 0 _ rfl
  have x1 := T1.out.ba.cell 1 _ rfl
  have x2 := T1.out.ba.cell 2 _ rfl
  have x3 := T1.out.ba.cell 3 _ rfl
  have v0 := T1.out.bb.cell 0 _ rfl
  have v1 := T1.out.bb.cell 1 _ rfl
  have v2 := T1.out.bb.cell 2 _ rfl
  have v3 := T1.out.bb.cell 3 _ rfl
  go_wp2_with fail
  refine (spec_reTable (b := true) (by simp [h2]) hm T1.out.rb).mono ?_; rintro e w2 ⟨rfl, hw⟩
  have T2 := Lib.hid (T1.out.step hw)
  clear x0 x1 x2 x3 v0 v1 v2 v3 hw
  have x0 := T2.out.ba.cell 0 _ rfl
  have x1 := T2.out.ba.cell 1 _ rfl
  have x2 := T2.out.ba.cell 2 _ rfl
  have x3 := T2.out.ba.cell 3 _ rfl
  have v0 := T2.out.bb.cell 0 _ rfl
  have v1 := T2.out.bb.cell 1 _ rfl
  have v2 := T2.out.bb.cell 2 _ rfl
  have v3 := T2.out.bb.cell 3 _ rfl
  go_wp2_with fail
  refine (spec_biKeys K k kc S _ hk HS.out T2.out.rk).mono ?_; rintro e w3 ⟨rfl, rfl⟩
  rw [show keysB S k = true from h3]
  clear x0 x1 x2 x3 v0 v1 v2 v3
  go_wp2_with fail
  go_loopw [25] (fun i wr => ∃ q : Nat, q ≤ k ∧ i = .int .i64 q ∧ Hid (NoneP (DifK z0 g X y0 h Y S) 0 q) ∧ Hid (TT w z0 g v A n c X y0 h x B m d Y K k S wr)) (fun i _ => k - (intOf i).toNat)
  case atStart => exact ⟨0, Nat.zero_le _, rfl, Lib.hid (fun u g1 g2 => by omega), T2⟩
  case round =>
    obtain ⟨q, hq, rfl, HN, HT⟩ := hrel
    by_cases hlt : q < k
    · obtain ⟨b1, o1, rfl, _, hc⟩ := HT.out.rk (by omega)
      have hcq := hc q hlt
      have hsq := HS.out q hlt
      unfold strV at hcq
      clear hc
      have x0 := HT.out.ba.cell 0 _ rfl
      have x1 := HT.out.ba.cell 1 _ rfl
      have x2 := HT.out.ba.cell 2 _ rfl
      have x3 := HT.out.ba.cell 3 _ rfl
      have v0 := HT.out.bb.cell 0 _ rfl
      have v1 := HT.out.bb.cell 1 _ rfl
      have v2 := HT.out.bb.cell 2 _ rfl
      have v3 := HT.out.bb.cell 3 _ rfl
      have HK := Lib.hid (fun (W' : World) (hw : Below wr.heap.size wr W') => (show W'.cell? ⟨w.heap.size, 0, none⟩ = some (.int .i64 z0) ∧ W'.cell? ⟨w.heap.size, 1, none⟩ = some (.int .i64 g) ∧ W'.cell? ⟨w.heap.size, 2, none⟩ = some (.int .i64 v) ∧ W'.cell? ⟨w.heap.size, 3, none⟩ = some (.slice A n c) ∧ W'.cell? ⟨w.heap.size + 1, 0, none⟩ = some (.int .i64 y0) ∧ W'.cell? ⟨w.heap.size + 1, 1, none⟩ = some (.int .i64 h) ∧ W'.cell? ⟨w.heap.size + 1, 2, none⟩ = some (.int .i64 x) ∧ W'.cell? ⟨w.heap.size + 1, 3, none⟩ = some (.slice B m d) from
        ⟨(HT.out.step hw).ba.cell 0 _ rfl, (HT.out.step hw).ba.cell 1 _ rfl, (HT.out.step hw).ba.cell 2 _ rfl, (HT.out.step hw).ba.cell 3 _ rfl, (HT.out.step hw).bb.cell 0 _ rfl, (HT.out.step hw).bb.cell 1 _ rfl, (HT.out.step hw).bb.cell 2 _ rfl, (HT.out.step hw).bb.cell 3 _ rfl⟩))
      go_wp2_with fail
      go_region_held3 (fun W' => W'.cell? ⟨w.heap.size, 0, none⟩ = some (.int .i64 z0) ∧ W'.cell? ⟨w.heap.size, 1, none⟩ = some (.int .i64 g) ∧ W'.cell? ⟨w.heap.size, 2, none⟩ = some (.int .i64 v) ∧ W'.cell? ⟨w.heap.size, 3, none⟩ = some (.slice A n c) ∧ W'.cell? ⟨w.heap.size + 1, 0, none⟩ = some (.int .i64 y0) ∧ W'.cell? ⟨w.heap.size + 1, 1, none⟩ = some (.int .i64 h) ∧ W'.cell? ⟨w.heap.size + 1, 2, none⟩ = some (.int .i64 x) ∧ W'.cell? ⟨w.heap.size + 1, 3, none⟩ = some (.slice B m d))
        (first | with_reducible exact HK.out _ hq1 | with_reducible exact HK.out _ hq2 | (go_keep; done))
        (first
          | (have hqz := hq1; clear hqz; go_at_call 48; refine (spec_reValue hsq (HT.out.step hq1).rb HOK.out.2.1).mono ?_; rintro e W2 ⟨rfl, hq2'⟩; have hq2 := hq1.trans (hq2'.mono hq1.size); clear hq2')
          | (go_at_call 48; refine (spec_reValue hsq (show IRow wr.drew A n X from HT.out.ra) HOK.out.1).mono ?_; rintro e W1 ⟨rfl, hq1'⟩; have hq1 := of_drew hq1'; clear hq1'))
      have T3 := Lib.hid (HT.out.step hq2)
      clear x0 x1 x2 x3 v0 v1 v2 v3 hcq hq1 hq2 HK
      have HD := Lib.hid (show DifK z0 g X y0 h Y S q ↔ taN z0 g (S q) X ≠ taN y0 h (S q) Y from by unfold DifK; simp)
      generalize taN z0 g (S q) X = p1 at *
      generalize taN y0 h (S q) Y = p2 at *
      by_cases hpp : p1 = p2
      · have hne : ((p1 : Int) != (p2 : Int)) = false := by simp [hpp]
        have HNE := Lib.hid hpp
        clear hpp
        go_wp2_with fail
        go_roundw
        case rel => exact ⟨q + 1, by omega, by go_num, Lib.hid (fun u g1 g2 => by
          by_cases e : u = q
          · subst e; rw [HD.out]; exact fun hh => hh HNE.out
          · exact HN.out u g1 (by omega)), T3⟩
        case measure => simp [intOf]; omega
      · have hne : ((p1 : Int) != (p2 : Int)) = true := by simp [Int.natCast_inj, hpp]
        have HNE := Lib.hid hpp
        clear hpp
        go_wp2_with fail
        go_ret2
        exact ⟨T3.out.below, .inl ⟨q, rfl, by omega, by omega, HD.out.2 HNE.out, HN.out⟩⟩
    · obtain rfl : q = k := by omega
      go_wp2_with fail
      go_ret2
      exact ⟨HT.out.below, .inr ⟨rfl, HN.out⟩⟩
end
end Go.Proofs.Ytijlpbcgkecinab
