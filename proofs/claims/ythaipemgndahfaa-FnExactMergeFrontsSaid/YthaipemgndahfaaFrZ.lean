/- MergeFronts: both sides. -/
import Derived.Test.YthaipemgndahfaaFrY
import Derived.Test.YthaipemgndahfaaTrN
namespace Go.Proofs.Ythaipemgndahfaa
open Go.RowKit

/-- The keys of two fronts, each once. -/
def mgL (n : Nat) (K : Nat → Int) (T : Nat → ByteArray) (p : Nat) (J : Nat → Int) (U : Nat → ByteArray) : List Byt := addS (lsOf (frK K T) n) (lsOf (frK J U) p)
def MgV (z : Int) (n : Nat) (K : Nat → Int) (m : Nat) (T : Nat → ByteArray) (y : Int) (p : Nat) (J : Nat → Int) (q : Nat) (U : Nat → ByteArray) : Prop :=
  FrV z n K m T ∧ FrV y p J q U ∧ (mgL n K T p J U).length ≤ 40
/-- Two fronts in boxes of the call's own, and the answer's box. -/
structure ML (w : World) (z : Int) (A : Option Addr) (n c : Nat) (K : Nat → Int) (B : Option Addr) (m d : Nat) (T : Nat → ByteArray) (y : Int) (A' : Option Addr) (p c' : Nat) (J : Nat → Int) (B' : Option Addr) (q d' : Nat) (U : Nat → ByteArray) (wr : World) : Prop where
  below : Below w.heap.size w wr
  a : NBX w.heap.size w.heap.size #[.int .i64 z, .slice A n c, .slice B m d] 26 wr
  b : NBX w.heap.size (w.heap.size + 1) #[.int .i64 y, .slice A' p c', .slice B' q d'] 26 wr
  res : NBX w.heap.size (w.heap.size + 1 + 1) #[.int .i64 0, .slice none 0 0, .slice none 0 0] 26 wr
  r1 : IRow wr A n K
  r2 : GRow wr B m (strV T)
  r3 : IRow wr A' p J
  r4 : GRow wr B' q (strV U)
section
variable {w wr wj : World} {z : Int} {A : Option Addr} {n c : Nat} {K : Nat → Int} {B : Option Addr} {m d : Nat} {T : Nat → ByteArray} {y : Int} {A' : Option Addr} {p c' : Nat} {J : Nat → Int} {B' : Option Addr} {q d' : Nat} {U : Nat → ByteArray}
theorem ML.bb (h : ML w z A n c K B m d T y A' p c' J B' q d' U wr) (hb : Below wr.heap.size wr wj) : ML w z A n c K B m d T y A' p c' J B' q d' U wj :=
  ⟨h.below.trans (hb.mono h.below.size), h.a.b hb, h.b.b hb, h.res.b hb, (grow_of h.r1).b hb, h.r2.b hb, (grow_of h.r3).b hb, h.r4.b hb⟩
theorem ML.size (h : ML w z A n c K B m d T y A' p c' J B' q d' U wr) : w.heap.size + 1 + 1 + 1 ≤ wr.heap.size := h.res.lt
theorem ML.start (h1 : IRow w A n K) (h2 : GRow w B m (strV T)) (h3 : IRow w A' p J) (h4 : GRow w B' q (strV U)) :
    ML w z A n c K B m d T y A' p c' J B' q d' U (((w.alloc (.cells #[.int .i64 z, .slice A n c, .slice B m d] 26)).alloc (.cells #[.int .i64 y, .slice A' p c', .slice B' q d'] 26)).alloc (.cells #[.int .i64 0, .slice none 0 0, .slice none 0 0] 26)) := by
  have hb := ((((Below.refl w.heap.size w).alloc (Nat.le_refl _) (.cells #[.int .i64 z, .slice A n c, .slice B m d] 26))).alloc (by simp) (.cells #[.int .i64 y, .slice A' p c', .slice B' q d'] 26)).alloc (by simp; omega) (.cells #[.int .i64 0, .slice none 0 0, .slice none 0 0] 26)
  have n1 := nbx0 w #[.int .i64 z, .slice A n c, .slice B m d] 26
  have n2 := nbx0 (w.alloc (.cells #[.int .i64 z, .slice A n c, .slice B m d] 26)) #[.int .i64 y, .slice A' p c', .slice B' q d'] 26
  have n3 := nbx0 ((w.alloc (.cells #[.int .i64 z, .slice A n c, .slice B m d] 26)).alloc (.cells #[.int .i64 y, .slice A' p c', .slice B' q d'] 26)) #[.int .i64 0, .slice none 0 0, .slice none 0 0] 26
  simp only [World.size_alloc] at n2 n3
  refine ⟨hb, (n1.b ((Below.refl _ _).alloc (Nat.le_refl _) _)).b ((Below.refl _ _).alloc (Nat.le_refl _) _), ?_, ⟨n3.blk, by omega⟩, (grow_of h1).b hb, h2.b hb, (grow_of h3).b hb, h4.b hb⟩
  have := n2.b ((Below.refl _ _).alloc (Nat.le_refl _) (.cells #[.int .i64 0, .slice none 0 0, .slice none 0 0] 26))
  exact ⟨this.blk, by omega⟩
end
theorem mgL_mem {z y : Int} {n : Nat} {K : Nat → Int} {m : Nat} {T : Nat → ByteArray} {p : Nat} {J : Nat → Int} {q : Nat} {U : Nat → ByteArray} (h1 : FrV z n K m T) (h2 : FrV y p J q U) {x : Byt} (h : x ∈ lsOf (frK K T) n ∨ x ∈ lsOf (frK J U) p) : isKeyB x = true := by
  rcases h with h | h
  · exact (keysB_inc.1 h1.2.2.2.2.1).2.1 x h
  · exact (keysB_inc.1 h2.2.2.2.2.1).2.1 x h
theorem mgL_keys {z y : Int} {n : Nat} {K : Nat → Int} {m : Nat} {T : Nat → ByteArray} {p : Nat} {J : Nat → Int} {q : Nat} {U : Nat → ByteArray} (h1 : FrV z n K m T) (h2 : FrV y p J q U) :
    keysB (rowS (mgL n K T p J U)) (mgL n K T p J U).length = true ↔ (mgL n K T p J U).length ≤ 40 := by
  rw [keysB_inc, rowS_ls]
  exact ⟨fun h => h.1, fun h => ⟨h, fun x hx => mgL_mem h1 h2 (addS_mem.1 hx), addS_inc h1.inc⟩⟩
theorem mgL_size {z y : Int} {n : Nat} {K : Nat → Int} {m : Nat} {T : Nat → ByteArray} {p : Nat} {J : Nat → Int} {q : Nat} {U : Nat → ByteArray} (h1 : FrV z n K m T) (h2 : FrV y p J q U) : ∀ i, i < (mgL n K T p J U).length → (rowS (mgL n K T p J U) i).size ≤ 12 := fun i hi => by
  have hx : (rowS (mgL n K T p J U) i).data.toList ∈ mgL n K T p J U := by
    rw [rowS_at, List.getD_eq_getElem?_getD, List.getElem?_eq_getElem hi]; exact List.getElem_mem hi
  have := (isKeyB_size (mgL_mem h1 h2 (addS_mem.1 hx))).2
  exact this
theorem mgL_le (n : Nat) (K : Nat → Int) (T : Nat → ByteArray) (p : Nat) (J : Nat → Int) (U : Nat → ByteArray) (h : Inc (lsOf (frK K T) n)) : (mgL n K T p J U).length ≤ n + p := by
  have := addS_le (l := lsOf (frK J U) p) h
  rw [lsOf_len, lsOf_len] at this
  exact this
section
variable {z : Int} {A : Option Addr} {n c : Nat} {K : Nat → Int} {B : Option Addr} {m d : Nat} {T : Nat → ByteArray} {y : Int} {A' : Option Addr} {p c' : Nat} {J : Nat → Int} {B' : Option Addr} {q d' : Nat} {U : Nat → ByteArray} {w : World}
set_option maxRecDepth 100000 in
set_option maxHeartbeats 4000000 in
theorem impl_mergeFronts_bad (hn : n ≤ 1048576) (hm : m ≤ 1048576) (hp : p ≤ 1048576) (hq : q ≤ 1048576) (hs : ∀ i, i < m → (T i).size ≤ 1048576) (hu : ∀ i, i < q → (U i).size ≤ 1048576) (h1 : IRow w A n K) (h2 : GRow w B m (strV T)) (h3 : IRow w A' p J) (h4 : GRow w B' q (strV U)) (h : ¬ (FrV z n K m T ∧ FrV y p J q U)) :
    Calls Try.prog 33 #[.agg #[.int .i64 z, .slice A n c, .slice B m d], .agg #[.int .i64 y, .slice A' p c', .slice B' q d']] w (NoFr w) := by
  have C0 := Lib.hid (ML.start (z := z) (c := c) (d := d) (y := y) (c' := c') (d' := d') h1 h2 h3 h4)
  have a0 := C0.out.a.cell 0 _ rfl
  have a1 := C0.out.a.cell 1 _ rfl
  have a2 := C0.out.a.cell 2 _ rfl
  have b0 := C0.out.b.cell 0 _ rfl
  have b1 := C0.out.b.cell 1 _ rfl
  have b2 := C0.out.b.cell 2 _ rfl
  clear h1 h2 h3 h4
  go_enter Try.func33, Try.ntmps33
  go_wp2_with fail
  generalize ((w.alloc (.cells #[.int .i64 z, .slice A n c, .slice B m d] 26)).alloc (.cells #[.int .i64 y, .slice A' p c', .slice B' q d'] 26)).alloc (.cells #[.int .i64 0, .slice none 0 0, .slice none 0 0] 26) = w1 at *
  refine (impl_frontKeys hn hm hs C0.out.r1 C0.out.r2).mono ?_; rintro e w2 hF
  rcases hF with ⟨hV, A1, c1, rfl, o1, hc1, hb1⟩ | ⟨hV, ⟨v, rfl⟩, hb1⟩
  · have C1 := Lib.hid (C0.out.bb hb1)
    clear hb1 o1 a0 a1 a2 b0 b1 b2
    have b0 := C1.out.b.cell 0 _ rfl
    have b1 := C1.out.b.cell 1 _ rfl
    have b2 := C1.out.b.cell 2 _ rfl
    go_wp2_with fail
    refine (impl_frontKeys hp hq hu C1.out.r3 C1.out.r4).mono ?_; rintro e w3 hF
    rcases hF with ⟨hV2, _⟩ | ⟨hV2, ⟨v, rfl⟩, hb2⟩
    · exact absurd ⟨hV, hV2⟩ h
    have C2 := Lib.hid (C1.out.bb hb2)
    have r0 := C2.out.res.cell 0 _ rfl
    have r1 := C2.out.res.cell 1 _ rfl
    have r2 := C2.out.res.cell 2 _ rfl
    have f0 := C2.out.res.free 0
    have f1 := C2.out.res.free 1
    have f2 := C2.out.res.free 2
    clear hb2 hV hV2 b0 b1 b2
    go_wp2_with fail
    refine bodyPost_ret (v := .tuple #[.agg #[.int .i64 0, .slice none 0 0, .slice none 0 0], .bool false]) (by simp [results, Try.results33, go_sem, r0, r1, r2]) rfl ?_
    exact ⟨rfl, below_setAt (below_setAt (below_setAt C2.out.below (by omega) _) (by omega) _) (by omega) _⟩
  · have C1 := Lib.hid (C0.out.bb hb1)
    clear hb1 a0 a1 a2 b0 b1 b2
    have b0 := C1.out.b.cell 0 _ rfl
    have b1 := C1.out.b.cell 1 _ rfl
    have b2 := C1.out.b.cell 2 _ rfl
    go_wp2_with fail
    refine (impl_frontKeys hp hq hu C1.out.r3 C1.out.r4).mono ?_; rintro e w3 hF
    rcases hF with ⟨hV2, A2, c2, rfl, o2, hc2, hb2⟩ | ⟨hV2, ⟨v, rfl⟩, hb2⟩
    all_goals
      have C2 := Lib.hid (C1.out.bb hb2)
      have r0 := C2.out.res.cell 0 _ rfl
      have r1 := C2.out.res.cell 1 _ rfl
      have r2 := C2.out.res.cell 2 _ rfl
      have f0 := C2.out.res.free 0
      have f1 := C2.out.res.free 1
      have f2 := C2.out.res.free 2
      clear hb2 hV hV2 b0 b1 b2
      go_wp2_with fail
      refine bodyPost_ret (v := .tuple #[.agg #[.int .i64 0, .slice none 0 0, .slice none 0 0], .bool false]) (by simp [results, Try.results33, go_sem, r0, r1, r2]) rfl ?_
      exact ⟨rfl, below_setAt (below_setAt (below_setAt C2.out.below (by omega) _) (by omega) _) (by omega) _⟩

set_option maxRecDepth 100000 in
set_option maxHeartbeats 4000000 in
theorem spec_mergeFronts_bad (hn : n ≤ 1048576) (hm : m ≤ 1048576) (hp : p ≤ 1048576) (hq : q ≤ 1048576) (_hs : ∀ i, i < m → (T i).size ≤ 1048576) (_hu : ∀ i, i < q → (U i).size ≤ 1048576) (h1 : IRow w A n K) (h2 : GRow w B m (strV T)) (h3 : IRow w A' p J) (h4 : GRow w B' q (strV U)) (h : ¬ (FrV z n K m T ∧ FrV y p J q U)) :
    Calls Try.prog 32 #[.agg #[.int .i64 z, .slice A n c, .slice B m d], .agg #[.int .i64 y, .slice A' p c', .slice B' q d']] w (NoFr w) := by
  have C0 := Lib.hid (ML.start (z := z) (c := c) (d := d) (y := y) (c' := c') (d' := d') h1 h2 h3 h4)
  have a0 := C0.out.a.cell 0 _ rfl
  have a1 := C0.out.a.cell 1 _ rfl
  have a2 := C0.out.a.cell 2 _ rfl
  have b0 := C0.out.b.cell 0 _ rfl
  have b1 := C0.out.b.cell 1 _ rfl
  have b2 := C0.out.b.cell 2 _ rfl
  clear h1 h2 h3 h4
  go_enter Try.func32, Try.ntmps32
  go_wp2_with fail
  generalize ((w.alloc (.cells #[.int .i64 z, .slice A n c, .slice B m d] 26)).alloc (.cells #[.int .i64 y, .slice A' p c', .slice B' q d'] 26)).alloc (.cells #[.int .i64 0, .slice none 0 0, .slice none 0 0] 26) = w1 at *
  refine (spec_trFronted hn hm C0.out.r1 C0.out.r2).mono ?_; rintro e w2 hF
  rcases hF with ⟨hV, A1, c1, rfl, o1, hc1, hb1⟩ | ⟨hV, ⟨v, rfl⟩, hb1⟩
  · have C1 := Lib.hid (C0.out.bb hb1)
    clear hb1 o1 a0 a1 a2 b0 b1 b2
    have b0 := C1.out.b.cell 0 _ rfl
    have b1 := C1.out.b.cell 1 _ rfl
    have b2 := C1.out.b.cell 2 _ rfl
    go_wp2_with fail
    refine (spec_trFronted hp hq C1.out.r3 C1.out.r4).mono ?_; rintro e w3 hF
    rcases hF with ⟨hV2, _⟩ | ⟨hV2, ⟨v, rfl⟩, hb2⟩
    · exact absurd ⟨hV, hV2⟩ h
    have C2 := Lib.hid (C1.out.bb hb2)
    have r0 := C2.out.res.cell 0 _ rfl
    have r1 := C2.out.res.cell 1 _ rfl
    have r2 := C2.out.res.cell 2 _ rfl
    have f0 := C2.out.res.free 0
    have f1 := C2.out.res.free 1
    have f2 := C2.out.res.free 2
    clear hb2 hV hV2 b0 b1 b2
    go_wp2_with fail
    refine bodyPost_ret (v := .tuple #[.agg #[.int .i64 0, .slice none 0 0, .slice none 0 0], .bool false]) (by simp [results, Try.results32, go_sem, r0, r1, r2]) rfl ?_
    exact ⟨rfl, below_setAt (below_setAt (below_setAt C2.out.below (by omega) _) (by omega) _) (by omega) _⟩
  · have C1 := Lib.hid (C0.out.bb hb1)
    clear hb1 a0 a1 a2 b0 b1 b2
    have b0 := C1.out.b.cell 0 _ rfl
    have b1 := C1.out.b.cell 1 _ rfl
    have b2 := C1.out.b.cell 2 _ rfl
    go_wp2_with fail
    refine (spec_trFronted hp hq C1.out.r3 C1.out.r4).mono ?_; rintro e w3 hF
    rcases hF with ⟨hV2, A2, c2, rfl, o2, hc2, hb2⟩ | ⟨hV2, ⟨v, rfl⟩, hb2⟩
    all_goals
      have C2 := Lib.hid (C1.out.bb hb2)
      have r0 := C2.out.res.cell 0 _ rfl
      have r1 := C2.out.res.cell 1 _ rfl
      have r2 := C2.out.res.cell 2 _ rfl
      have f0 := C2.out.res.free 0
      have f1 := C2.out.res.free 1
      have f2 := C2.out.res.free 2
      clear hb2 hV hV2 b0 b1 b2
      go_wp2_with fail
      refine bodyPost_ret (v := .tuple #[.agg #[.int .i64 0, .slice none 0 0, .slice none 0 0], .bool false]) (by simp [results, Try.results32, go_sem, r0, r1, r2]) rfl ?_
      exact ⟨rfl, below_setAt (below_setAt (below_setAt C2.out.below (by omega) _) (by omega) _) (by omega) _⟩

set_option maxRecDepth 100000 in
set_option maxHeartbeats 4000000 in
theorem spec_mergeFronts_keys {b : Nat} (hn : n ≤ 1048576) (hm : m ≤ 1048576) (hp : p ≤ 1048576) (hq : q ≤ 1048576) (_hs : ∀ i, i < m → (T i).size ≤ 1048576) (_hu : ∀ i, i < q → (U i).size ≤ 1048576) (h1 : IRow w A n K) (h2 : GRow w B m (strV T)) (h3 : IRow w A' p J) (h4 : GRow w B' q (strV U)) (hVa : FrV (b : Int) n K m T) (hVb : FrV y p J q U) :
    Calls Try.prog 32 #[.agg #[.int .i64 b, .slice A n c, .slice B m d], .agg #[.int .i64 y, .slice A' p c', .slice B' q d']] w fun e w' => ((mgL n K T p J U).length ≤ 40 ∧ FrIs b (mgL n K T p J U).length (rowS (mgL n K T p J U)) w e w') ∨ (¬ (mgL n K T p J U).length ≤ 40 ∧ NoFr w e w') := by
  have hW := Lib.hid (mgL_keys hVa hVb)
  have HSZ := Lib.hid (mgL_size hVa hVb)
  have hb1 : 1 ≤ b := by have := hVa.1; omega
  have hb16 : b ≤ 16 := by have := hVa.2.1; omega
  obtain ⟨R, hR⟩ : ∃ R, R = mgL n K T p J U := ⟨_, rfl⟩
  rw [← hR] at hW HSZ ⊢
  have HRR := Lib.hid hR
  clear hR
  have C0 := Lib.hid (ML.start (z := (b : Int)) (c := c) (d := d) (y := y) (c' := c') (d' := d') h1 h2 h3 h4)
  have a0 := C0.out.a.cell 0 _ rfl
  have a1 := C0.out.a.cell 1 _ rfl
  have a2 := C0.out.a.cell 2 _ rfl
  have b0 := C0.out.b.cell 0 _ rfl
  have b1 := C0.out.b.cell 1 _ rfl
  have b2 := C0.out.b.cell 2 _ rfl
  clear h1 h2 h3 h4
  go_enter Try.func32, Try.ntmps32
  go_wp2_with fail
  generalize ((w.alloc (.cells #[.int .i64 b, .slice A n c, .slice B m d] 26)).alloc (.cells #[.int .i64 y, .slice A' p c', .slice B' q d'] 26)).alloc (.cells #[.int .i64 0, .slice none 0 0, .slice none 0 0] 26) = w1 at *
  refine (spec_trFronted hn hm C0.out.r1 C0.out.r2).mono ?_; rintro e w2 hF
  rcases hF with ⟨hV, A1, c1, rfl, o1, hc1, hbb1⟩ | ⟨hV, _⟩
  rotate_left
  · exact absurd hVa hV
  have C1 := Lib.hid (C0.out.bb hbb1)
  have HO1 := Lib.hid o1
  clear hbb1 o1 a0 a1 a2 b0 b1 b2 hV
  have b0 := C1.out.b.cell 0 _ rfl
  have b1 := C1.out.b.cell 1 _ rfl
  have b2 := C1.out.b.cell 2 _ rfl
  go_wp2_with fail
  refine (spec_trFronted hp hq C1.out.r3 C1.out.r4).mono ?_; rintro e w3 hF
  rcases hF with ⟨hV, A2, c2, rfl, o2, hc2, hb2⟩ | ⟨hV, _⟩
  rotate_left
  · exact absurd hVb hV
  have C2 := Lib.hid (C1.out.bb hb2)
  have HR1 := Lib.hid ((HO1.out.rd.row (Nat.le_refl _)).b hb2)
  have HR2 := Lib.hid (o2.rd.row (Nat.le_refl _))
  have hn40 := hVa.n40
  have hp40 := hVb.n40
  clear hb2 o2 b0 b1 b2 hV HO1

  have hR40 : R.length ≤ 80 := by have := mgL_le n K T p J U hVa.inc; rw [HRR.out]; omega
  go_wp2_with fail
  go_loopw [6, 31] (fun s i wr => ∃ (t k1 : Nat) (A3 : Option Addr) (c3 : Nat) (S3 : Nat → ByteArray), t ≤ p ∧ i = .int .i64 t ∧ s = .slice A3 k1 c3 ∧ k1 ≤ 40 + t ∧ k1 ≤ c3 ∧ Hid (lsOf S3 k1 = addS (lsOf (frK K T) n) (lsOf (frK J U) t)) ∧ Hid (GRow wr A3 k1 (strV S3)) ∧ Hid (Below w3.heap.size w3 wr)) (fun _ i _ => p - (intOf i).toNat)
  case atStart => exact ⟨0, n, A1, c1, frK K T, Nat.zero_le _, rfl, rfl, by omega, hc1, Lib.hid rfl, HR1, Lib.hid (Below.refl _ _)⟩
  case round =>
    obtain ⟨t, k1, A3, c3, S3, ht, rfl, rfl, hk1, hkc, HL, HG, HB⟩ := hrel
    by_cases hlt : t < p
    · obtain ⟨g, off, rfl, hbl, hcc⟩ := HR2.out (by omega)
      have hx : wr.cell? ⟨g, off + t, none⟩ = some (.string (frK J U t)) := (HB.out.cell (p := ⟨g, off + t, none⟩) hbl).trans (hcc t hlt)
      clear hcc
      go_wp2_with fail
      refine (spec_l1PutS_is A3 k1 c3 S3 (frK J U t) wr (by omega) hkc HG.out).mono ?_; rintro e w4 ⟨A5, c5, k5, S5, rfl, hl5, hg5, hc5, hb5⟩
      have HL5 := Lib.hid (show lsOf S5 k5 = addS (lsOf (frK K T) n) (lsOf (frK J U) (t + 1)) by rw [hl5, HL.out, lsOf_succ]; unfold addS; rw [List.foldl_append]; rfl)
      have hk5 : k5 ≤ 40 + (t + 1) := by
        have h1 := addS_le (l := lsOf (frK J U) (t + 1)) hVa.inc
        rw [← HL5.out, lsOf_len, lsOf_len, lsOf_len] at h1
        omega
      have HG5 := Lib.hid hg5
      have HB5 := Lib.hid (HB.out.trans (hb5.mono HB.out.size))
      clear hl5 hg5 hb5
      go_wp2_with fail
      go_roundw
      case rel => exact ⟨t + 1, k5, A5, c5, S5, by omega, by go_num, rfl, hk5, hc5, HL5, HG5, HB5⟩
      case measure => simp [intOf]; omega
    · obtain rfl : t = p := by omega
      have hkR : k1 = R.length := by rw [HRR.out]; show k1 = (addS _ _).length; rw [← HL.out, lsOf_len]
      have HG2 := Lib.hid (show GRow wr A3 R.length (strV (rowS R)) from by
        rw [hkR] at HL
        have h := HG.out
        rw [hkR] at h
        refine h.congr (fun i hi => ?_)
        unfold strV
        rw [row_of_ls (S := S3) (S' := rowS R) (n := R.length) (by rw [HL.out, rowS_ls, HRR.out]; rfl) i hi])
      have C3 := Lib.hid (C2.out.bb HB.out)
      subst hkR
      clear HG HL
      go_wp2_with fail
      refine (spec_biKeys A3 R.length c3 (rowS R) wr (by omega) (fun i hi => by have := HSZ.out i hi; unfold maxLen; omega) HG2.out).mono ?_; rintro e w' ⟨rfl, rfl⟩
      have r0 := C3.out.res.cell 0 _ rfl
      have r1 := C3.out.res.cell 1 _ rfl
      have r2 := C3.out.res.cell 2 _ rfl
      have f0 := C3.out.res.free 0
      have f1 := C3.out.res.free 1
      have f2 := C3.out.res.free 2
      cases hkb : keysB (rowS R) R.length with
      | false =>
        have HN := Lib.hid (show ¬ R.length ≤ 40 from fun h => by have := hW.out.2 h; rw [hkb] at this; cases this)
        clear hkb
        go_wp2_with fail
        refine bodyPost_ret (v := .tuple #[.agg #[.int .i64 0, .slice none 0 0, .slice none 0 0], .bool false]) (by simp [results, Try.results32, go_sem, r0, r1, r2]) rfl ?_
        exact .inr ⟨HN.out, rfl, below_setAt (below_setAt (below_setAt C3.out.below (by omega) _) (by omega) _) (by omega) _⟩
      | true =>
        have HY := Lib.hid (hW.out.1 hkb)
        have a0 := C3.out.a.cell 0 _ rfl
        have a1 := C3.out.a.cell 1 _ rfl
        have a2 := C3.out.a.cell 2 _ rfl
        clear hkb
        go_wp2_with fail
        refine (spec_trFront b ⟨hb1, hb16⟩ (by have := HY.out; omega) (fun i hi => by have := HSZ.out i hi; omega) HG2.out).mono ?_; rintro e w4 ⟨A5, c5, B5, d5, rfl, o1, o2, hap, hb4⟩
        have C4 := Lib.hid (C3.out.bb hb4)
        have hs4 := C3.out.size
        have O1 := Lib.hid ((((owned (o1.mono (lo' := w.heap.size + 1 + 1 + 1) hs4 (Nat.le_refl _))).setC (Nat.le_refl _) 0 (.int .i64 b)).setC (Nat.le_refl _) 1 (.slice A5 R.length c5)).setC (Nat.le_refl _) 2 (.slice B5 R.length d5))
        have O2 := Lib.hid ((((owned (o2.mono (lo' := w.heap.size + 1 + 1 + 1) hs4 (Nat.le_refl _))).setC (Nat.le_refl _) 0 (.int .i64 b)).setC (Nat.le_refl _) 1 (.slice A5 R.length c5)).setC (Nat.le_refl _) 2 (.slice B5 R.length d5))
        have HAP := Lib.hid hap
        clear r0 r1 r2 f0 f1 f2 a0 a1 a2 o1 o2 hap hb4
        have r0 := C4.out.res.cell 0 _ rfl
        have r1 := C4.out.res.cell 1 _ rfl
        have r2 := C4.out.res.cell 2 _ rfl
        have f0 := C4.out.res.free 0
        have f1 := C4.out.res.free 1
        have f2 := C4.out.res.free 2
        go_wp2_with fail
        refine bodyPost_ret (v := .tuple #[.agg #[.int .i64 b, .slice A5 R.length c5, .slice B5 R.length d5], .bool true]) (by simp [results, Try.results32, go_sem, r0, r1, r2]) rfl ?_
        exact .inl ⟨HY.out, A5, c5, B5, d5, rfl, O1.out.now.mono (by omega) O1.out.top, O2.out.now.mono (by omega) O2.out.top, HAP.out, below_setAt (below_setAt (below_setAt C4.out.below (by omega) _) (by omega) _) (by omega) _⟩

set_option maxRecDepth 100000 in
set_option maxHeartbeats 8000000 in
theorem impl_mergeFronts_keys {b : Nat} (hn : n ≤ 1048576) (hm : m ≤ 1048576) (hp : p ≤ 1048576) (hq : q ≤ 1048576) (hs : ∀ i, i < m → (T i).size ≤ 1048576) (hu : ∀ i, i < q → (U i).size ≤ 1048576) (h1 : IRow w A n K) (h2 : GRow w B m (strV T)) (h3 : IRow w A' p J) (h4 : GRow w B' q (strV U)) (hVa : FrV (b : Int) n K m T) (hVb : FrV y p J q U) :
    Calls Try.prog 33 #[.agg #[.int .i64 b, .slice A n c, .slice B m d], .agg #[.int .i64 y, .slice A' p c', .slice B' q d']] w fun e w' => ((mgL n K T p J U).length ≤ 40 ∧ FrIs b (mgL n K T p J U).length (rowS (mgL n K T p J U)) w e w') ∨ (¬ (mgL n K T p J U).length ≤ 40 ∧ NoFr w e w') := by
  have hW := Lib.hid (mgL_keys hVa hVb)
  have HSZ := Lib.hid (mgL_size hVa hVb)
  have hb1 : 1 ≤ b := by have := hVa.1; omega
  have hb16 : b ≤ 16 := by have := hVa.2.1; omega
  obtain ⟨R, hR⟩ : ∃ R, R = mgL n K T p J U := ⟨_, rfl⟩
  rw [← hR] at hW HSZ ⊢
  have HRR := Lib.hid hR
  clear hR
  have C0 := Lib.hid (ML.start (z := (b : Int)) (c := c) (d := d) (y := y) (c' := c') (d' := d') h1 h2 h3 h4)
  have a0 := C0.out.a.cell 0 _ rfl
  have a1 := C0.out.a.cell 1 _ rfl
  have a2 := C0.out.a.cell 2 _ rfl
  have b0 := C0.out.b.cell 0 _ rfl
  have b1 := C0.out.b.cell 1 _ rfl
  have b2 := C0.out.b.cell 2 _ rfl
  clear h1 h2 h3 h4
  go_enter Try.func33, Try.ntmps33
  go_wp2_with fail
  generalize ((w.alloc (.cells #[.int .i64 b, .slice A n c, .slice B m d] 26)).alloc (.cells #[.int .i64 y, .slice A' p c', .slice B' q d'] 26)).alloc (.cells #[.int .i64 0, .slice none 0 0, .slice none 0 0] 26) = w1 at *
  refine (impl_frontKeys hn hm hs C0.out.r1 C0.out.r2).mono ?_; rintro e w2 hF
  rcases hF with ⟨hV, A1, c1, rfl, o1, hc1, hbb1⟩ | ⟨hV, _⟩
  rotate_left
  · exact absurd hVa hV
  have C1 := Lib.hid (C0.out.bb hbb1)
  have HO1 := Lib.hid o1
  clear hbb1 o1 a0 a1 a2 b0 b1 b2 hV
  have b0 := C1.out.b.cell 0 _ rfl
  have b1 := C1.out.b.cell 1 _ rfl
  have b2 := C1.out.b.cell 2 _ rfl
  go_wp2_with fail
  refine (impl_frontKeys hp hq hu C1.out.r3 C1.out.r4).mono ?_; rintro e w3 hF
  rcases hF with ⟨hV, A2, c2, rfl, o2, hc2, hb2⟩ | ⟨hV, _⟩
  rotate_left
  · exact absurd hVb hV
  have C2 := Lib.hid (C1.out.bb hb2)
  have HR1 := Lib.hid ((HO1.out.rd.row (Nat.le_refl _)).b hb2)
  have HR2 := Lib.hid (o2.rd.row (Nat.le_refl _))
  have hn40 := hVa.n40
  have hp40 := hVb.n40
  clear hb2 o2 b0 b1 b2 hV HO1

  have hR40 : R.length ≤ 80 := by have := mgL_le n K T p J U hVa.inc; rw [HRR.out]; omega
  have hs1 : (lsOf (frK K T) n).Pairwise (· ≤ ·) := inc_le hVa.inc
  have hs2 : (lsOf (frK J U) p).Pairwise (· ≤ ·) := inc_le hVb.inc
  have HI := Lib.hid hVa.inc
  have HS1 := Lib.hid hs1
  have HS2 := Lib.hid hs2
  have HRD1 := Lib.hid HR1.out.drew
  have HRD2 := Lib.hid HR2.out.drew
  have HKK := Lib.hid (show ∀ W, Below w3.heap.size w3 W → W.cell? ⟨w.heap.size, 0, none⟩ = some (.int .i64 b) from fun W hW => (C2.out.bb hW).a.cell 0 _ rfl)
  have HKS := Lib.hid (show ∀ W v0 v1 v2, Below w3.heap.size w3 W → (((W.setCell ⟨w.heap.size + 1 + 1, 0, none⟩ v0).setCell ⟨w.heap.size + 1 + 1, 1, none⟩ v1).setCell ⟨w.heap.size + 1 + 1, 2, none⟩ v2).cell? ⟨w.heap.size, 0, none⟩ = some (.int .i64 b) from fun W v0 v1 v2 hW => ((below_setAt (below_setAt (below_setAt (Below.refl (w.heap.size + 1) W) (by omega) _) (by omega) _) (by omega) _).cell (p := ⟨w.heap.size, 0, none⟩) (show w.heap.size < w.heap.size + 1 by omega)).trans ((C2.out.bb hW).a.cell 0 _ rfl))
  have a0 := C2.out.a.cell 0 _ rfl
  have hsz3 := C2.out.size
  have hsw : w3.heap.size ≤ w3.heap.size := Nat.le_refl _
  clear hs1 hs2 hVa hVb
  by_cases hK : R.length ≤ 40
  · have HKB := Lib.hid (hW.out.2 hK)
    go_upto_region 5 with fail
    go_region_held3 (fun W => W.cell? ⟨w.heap.size, 0, none⟩ = some (.int .i64 b))
      (first | with_reducible exact HKS.out _ _ _ _ hb8 | with_reducible exact HKK.out _ hb8 | with_reducible exact HKK.out _ hb6 | with_reducible exact HKK.out _ hb5 | (go_keep; done))
      (first
        | (have hz := O6; clear hz; go_at_call 14; refine (impl_buildFront b HKB.out ⟨hb1, hb16⟩ (fun i hi => by have := HSZ.out i hi; omega) (owned_vec O6.out).row).mono ?_; rintro e w7 ⟨A7, c7, B7, d7, rfl, o1, o2, hap, hb7⟩; have hb8 := hb6.trans (hb7.mono hb6.size); have hs6 := hb6.size; have C7 := Lib.hid (C2.out.bb hb8); have r0 := C7.out.res.cell 0 _ rfl; have f0 := C7.out.res.free 0; have r1 := C7.out.res.cell 1 _ rfl; have f1 := C7.out.res.free 1; have r2 := C7.out.res.cell 2 _ rfl; have f2 := C7.out.res.free 2; have Q1 := Lib.hid o1; have Q2 := Lib.hid o2; have HAP := Lib.hid hap; clear o1 o2 hap; clear hb7)
        | (have hz := O5; clear hz; go_at_call 57; refine (compact_strs w3.heap.size A5 c5 R5 _ hb5.size hl5' O5.out).mono ?_; rintro e w6 ⟨he, ho6, hb6'⟩; rw [HE5.out] at he ho6; subst he; have hb6 := hb5.trans hb6'; have O6 := Lib.hid ho6; clear ho6 hb6')
        | (go_at_call 58; refine (impl_mergeSortedS A1 n c1 (frK K T) A2 p c2 (frK J U) _ (by omega) (by omega) HRD1.out HRD2.out hc1 hc2 HS1.out HS2.out).mono ?_; rintro e w5 ⟨A5, c5, R5, rfl, ho5, hs5, hm5, hl5, hb5'⟩; have hl5' : R5.length ≤ 1048576 := (by rw [lsOf_len, lsOf_len] at hl5; omega); clear hl5; have hb5 := of_drew hb5'; have O5 := Lib.hid ho5; have HE5 := Lib.hid (show Go.Lib.compact R5 = R by rw [HRR.out]; exact addS_compact HI.out hs5 hm5); clear ho5 hb5' hs5 hm5))
    have O1 := Lib.hid ((((owned (Q1.out.mono (lo' := w.heap.size + 1 + 1 + 1) (by omega) (Nat.le_refl _))).setC (Nat.le_refl _) 0 (.int .i64 b)).setC (Nat.le_refl _) 1 (.slice A7 R.length c7)).setC (Nat.le_refl _) 2 (.slice B7 R.length d7))
    have O2 := Lib.hid ((((owned (Q2.out.mono (lo' := w.heap.size + 1 + 1 + 1) (by omega) (Nat.le_refl _))).setC (Nat.le_refl _) 0 (.int .i64 b)).setC (Nat.le_refl _) 1 (.slice A7 R.length c7)).setC (Nat.le_refl _) 2 (.slice B7 R.length d7))
    go_wp2_with fail
    refine bodyPost_ret (v := .tuple #[.agg #[.int .i64 b, .slice A7 R.length c7, .slice B7 R.length d7], .bool true]) (by simp [results, Try.results33, go_sem, r0, r1, r2]) rfl ?_
    exact .inl ⟨hK, A7, c7, B7, d7, rfl, O1.out.now.mono (by omega) O1.out.top, O2.out.now.mono (by omega) O2.out.top, HAP.out, below_setAt (below_setAt (below_setAt C7.out.below (by omega) _) (by omega) _) (by omega) _⟩
  · have HKB := Lib.hid (show ¬ (keysB (rowS R) R.length = true ∧ 1 ≤ (b : Int) ∧ (b : Int) ≤ 16) from fun h => hK (hW.out.1 h.1))
    go_upto_region 5 with fail
    go_region_held3 (fun W => W.cell? ⟨w.heap.size, 0, none⟩ = some (.int .i64 b))
      (first | with_reducible exact HKS.out _ _ _ _ hb8 | with_reducible exact HKK.out _ hb8 | with_reducible exact HKK.out _ hb6 | with_reducible exact HKK.out _ hb5 | (go_keep; done))
      (first
        | (have hz := O6; clear hz; go_at_call 14; refine (impl_buildFront_no b HKB.out (by omega) (fun i hi => by have := HSZ.out i hi; unfold maxLen; omega) (owned_vec O6.out).row).mono ?_; rintro e w7 ⟨rfl, hb7⟩; have hb8 := hb6.trans (hb7.mono hb6.size); have hs6 := hb6.size; have C7 := Lib.hid (C2.out.bb hb8); have r0 := C7.out.res.cell 0 _ rfl; have f0 := C7.out.res.free 0; have r1 := C7.out.res.cell 1 _ rfl; have f1 := C7.out.res.free 1; have r2 := C7.out.res.cell 2 _ rfl; have f2 := C7.out.res.free 2; clear hb7)
        | (have hz := O5; clear hz; go_at_call 57; refine (compact_strs w3.heap.size A5 c5 R5 _ hb5.size hl5' O5.out).mono ?_; rintro e w6 ⟨he, ho6, hb6'⟩; rw [HE5.out] at he ho6; subst he; have hb6 := hb5.trans hb6'; have O6 := Lib.hid ho6; clear ho6 hb6')
        | (go_at_call 58; refine (impl_mergeSortedS A1 n c1 (frK K T) A2 p c2 (frK J U) _ (by omega) (by omega) HRD1.out HRD2.out hc1 hc2 HS1.out HS2.out).mono ?_; rintro e w5 ⟨A5, c5, R5, rfl, ho5, hs5, hm5, hl5, hb5'⟩; have hl5' : R5.length ≤ 1048576 := (by rw [lsOf_len, lsOf_len] at hl5; omega); clear hl5; have hb5 := of_drew hb5'; have O5 := Lib.hid ho5; have HE5 := Lib.hid (show Go.Lib.compact R5 = R by rw [HRR.out]; exact addS_compact HI.out hs5 hm5); clear ho5 hb5' hs5 hm5))
    go_wp2_with fail
    refine bodyPost_ret (v := .tuple #[.agg #[.int .i64 0, .slice none 0 0, .slice none 0 0], .bool false]) (by simp [results, Try.results33, go_sem, r0, r1, r2]) rfl ?_
    exact .inr ⟨hK, rfl, below_setAt (below_setAt (below_setAt C7.out.below (by omega) _) (by omega) _) (by omega) _⟩
end
theorem FrIs.ow {z n : Nat} {S : Nat → ByteArray} {w w' : World} {e : Ending} (h : FrIs z n S w e w') : ∃ A c B d, e = .returned (.tuple #[.agg #[.int .i64 z, .slice A n c, .slice B n d], .bool true]) ∧ Ow w.heap.size w'.heap.size 3 A n (intV (keepI z S)) w' ∧ Ow w.heap.size w'.heap.size 9 B n (strV (tailF z S)) w' ∧ Below w.heap.size w w' := by
  obtain ⟨A, c, B, d, he, o1, o2, _, hb⟩ := h
  exact ⟨A, c, B, d, he, o1, o2, hb⟩
theorem NoFr.ow2 {w w' : World} {e : Ending} (h : NoFr w e w') : ∃ A c B d, e = .returned (.tuple #[.agg #[.int .i64 0, .slice A 0 c, .slice B 0 d], .bool false]) ∧ Ow w.heap.size w'.heap.size 3 A 0 (intV fun _ => 0) w' ∧ Ow w.heap.size w'.heap.size 9 B 0 (strV fun _ => ByteArray.empty) w' ∧ Below w.heap.size w w' :=
  ⟨none, 0, none, 0, h.1, ow_zero _ _ _ _ _ _, ow_zero _ _ _ _ _ _, h.2⟩
end Go.Proofs.Ythaipemgndahfaa
