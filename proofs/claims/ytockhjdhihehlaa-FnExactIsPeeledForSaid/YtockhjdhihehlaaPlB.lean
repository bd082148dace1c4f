/- The ordinal of a key in an Ordered, the slot of a key in a Displaced: both sides. -/
import Derived.Test.YtockhjdhihehlaaPlA
import Derived.Handy
namespace Go.Proofs.Ytockhjdhihehlaa
open Go.RowKit

/-- The ordinal of a key. -/
def orI (seed : Int) (g q : Nat) (s : ByteArray) (X : Nat → Int) : Nat := (sumE X (eH seed g (fun _ => s) 0) 3).toNat % q
set_option maxRecDepth 100000 in
set_option maxHeartbeats 2000000 in
theorem spec_pfOrdinal (z0 : Int) (g q : Nat) (A : Option Addr) (n c : Nat) (X : Nat → Int) (s : ByteArray) (w : World) (hs : s.size ≤ maxLen) (hr : IRow w A n X) (hv : OrV z0 g q n X) :
    Calls Try.prog 48 #[.agg #[.int .i64 z0, .int .i64 g, .int .i64 q, .slice A n c], .string s] w fun e w' => e = .returned (.int .i64 (orI z0 g q s X)) ∧ Below w.heap.size w w' := by
  have S0 := Lib.hid (BX1.start (cs := #[.int .i64 z0, .int .i64 g, .int .i64 q, .slice A n c]) (t := 48) hr)
  have h1 : 1 ≤ g := by have := hv.2.1; omega
  have h2 : g ≤ 24 := by have := hv.2.1; omega
  have hq1 : 1 ≤ q := by have := hv.2.2.1; omega
  have hq2 : q ≤ 40 := by have := hv.2.2.1; omega
  have hn : n = 3 * g := by have := hv.2.2.2.1; omega
  have HA : InAll n X 0 (40 : Nat) := fun i hi => by have := hv.2.2.2.2 i hi; omega
  have HIN : ∀ j, j < 3 → 0 ≤ eH z0 g (fun _ => s) 0 j ∧ eH z0 g (fun _ => s) 0 j < n := fun j hj => by have := eH_in (seed := z0) (S := fun _ => s) (k := 0) h1 h2 j hj; omega
  have HC := Lib.hid (fun W EA ec (k1 : IRow W A n X) (k2 : IRow W EA 3 (eH z0 g (fun _ => s) 0)) => spec_pfSum A n c X EA 3 ec (eH z0 g (fun _ => s) 0) 40 W (by omega) (by omega) (by omega) k1 k2 HA HIN)
  have HT := Lib.hid (fun W => spec_peTriple z0 g (fun _ => s) 0 W hs (seedB_dec (decide_eq_true hv.1)) h1 h2)
  have hb3 : 0 ≤ sumE X (eH z0 g (fun _ => s) 0) 3 := (sumE_bd HA 3 HIN).1
  have hrem : (sumE X (eH z0 g (fun _ => s) 0) 3).tmod (q : Int) = ((orI z0 g q s X : Nat) : Int) := tmod_pos (m := q) hb3
  have HK := Lib.hid (fun (w' : World) (h : Below (w.alloc (.cells #[.int .i64 z0, .int .i64 g, .int .i64 q, .slice A n c] 48)).heap.size (w.alloc (.cells #[.int .i64 z0, .int .i64 g, .int .i64 q, .slice A n c] 48)) w') => (show w'.cell? ⟨w.heap.size, 0, none⟩ = some (.int .i64 z0) ∧ w'.cell? ⟨w.heap.size, 1, none⟩ = some (.int .i64 g) ∧ w'.cell? ⟨w.heap.size, 2, none⟩ = some (.int .i64 q) ∧ w'.cell? ⟨w.heap.size, 3, none⟩ = some (.slice A n c) from ⟨(S0.out.step h).box.cell 0 _ rfl, (S0.out.step h).box.cell 1 _ rfl, (S0.out.step h).box.cell 2 _ rfl, (S0.out.step h).box.cell 3 _ rfl⟩))
  have d0 : ¬ q = 0 := by omega
  have x0 := S0.out.box.cell 0 _ rfl
  have x1 := S0.out.box.cell 1 _ rfl
  have x2 := S0.out.box.cell 2 _ rfl
  have x3 := S0.out.box.cell 3 _ rfl
  have HE := Lib.hid (rfl : orI z0 g q s X = orI z0 g q s X)
  clear hr hn HA HIN hb3 hv
  generalize sumE X (eH z0 g (fun _ => s) 0) 3 = sv at HC hrem
  generalize hov : orI z0 g q s X = ov at hrem ⊢
  clear HE hov
  go_enter Try.func48, Try.ntmps48
  go_wp2_with fail
  go_region_held3 (fun w' => w'.cell? ⟨w.heap.size, 0, none⟩ = some (.int .i64 z0) ∧ w'.cell? ⟨w.heap.size, 1, none⟩ = some (.int .i64 g) ∧ w'.cell? ⟨w.heap.size, 2, none⟩ = some (.int .i64 q) ∧ w'.cell? ⟨w.heap.size, 3, none⟩ = some (.slice A n c))
    (first | with_reducible exact HK.out _ hq1' | (go_keep; done))
    (first
      | (have hqz := HEr; clear hqz; go_at_call 70; refine (HC.out _ _ _ (S0.out.step hq1').row HEr.out).mono ?_; rintro e w2 ⟨rfl, rfl⟩)
      | (go_at_call 71; refine (HT.out _).mono ?_; rintro e w1 ⟨EA, ec, rfl, ho, hb⟩; have hq1' := of_drew hb; have HEr := Lib.hid (show IRow w1 EA 3 (eH z0 g (fun _ => s) 0) from (owned_vec ho).row); clear hb ho))
  all_goals
    have S1 := Lib.hid (S0.out.step hq1')
    go_wp2_with fail
    go_ret
    exact ⟨rfl, S1.out.below⟩
set_option maxRecDepth 100000 in
set_option maxHeartbeats 2000000 in
theorem impl_numberOf_Ordered (z0 : Int) (g q : Nat) (A : Option Addr) (n c : Nat) (X : Nat → Int) (s : ByteArray) (w : World) (hs : s.size ≤ maxLen) (hr : IRow w A n X) (hv : OrV z0 g q n X) :
    Calls Try.prog 125 #[.agg #[.int .i64 z0, .int .i64 g, .int .i64 q, .slice A n c], .string s] w fun e w' => e = .returned (.tuple #[.int .i64 (orI z0 g q s X), .bool true]) ∧ Below w.heap.size w w' := by
  have S0 := Lib.hid (BX1.start (cs := #[.int .i64 z0, .int .i64 g, .int .i64 q, .slice A n c]) (t := 48) hr)
  have h1 : 1 ≤ g := by have := hv.2.1; omega
  have h2 : g ≤ 24 := by have := hv.2.1; omega
  have hq1 : 1 ≤ q := by have := hv.2.2.1; omega
  have hq2 : q ≤ 40 := by have := hv.2.2.1; omega
  have hn : n = 3 * g := by have := hv.2.2.2.1; omega
  have HA : InAll n X 0 (40 : Nat) := fun i hi => by have := hv.2.2.2.2 i hi; omega
  have HIN : ∀ j, j < 3 → 0 ≤ eH z0 g (fun _ => s) 0 j ∧ eH z0 g (fun _ => s) 0 j < n := fun j hj => by have := eH_in (seed := z0) (S := fun _ => s) (k := 0) h1 h2 j hj; omega
  have HC := Lib.hid (fun W EA ec (k1 : IRow W A n X) (k2 : IRow W EA 3 (eH z0 g (fun _ => s) 0)) => impl_sumAt A n c X EA 3 ec (eH z0 g (fun _ => s) 0) 40 W (by omega) (by omega) (by omega) k1 k2 HA HIN)
  have HT := Lib.hid (fun W => impl_edgeOf z0 g (fun _ => s) 0 W hs (seedB_dec (decide_eq_true hv.1)) h1 h2)
  have hb3 : 0 ≤ sumE X (eH z0 g (fun _ => s) 0) 3 := (sumE_bd HA 3 HIN).1
  have hrem : (sumE X (eH z0 g (fun _ => s) 0) 3).tmod (q : Int) = ((orI z0 g q s X : Nat) : Int) := tmod_pos (m := q) hb3
  have HK := Lib.hid (fun (w' : World) (h : Below (w.alloc (.cells #[.int .i64 z0, .int .i64 g, .int .i64 q, .slice A n c] 48)).heap.size (w.alloc (.cells #[.int .i64 z0, .int .i64 g, .int .i64 q, .slice A n c] 48)) w') => (show w'.cell? ⟨w.heap.size, 0, none⟩ = some (.int .i64 z0) ∧ w'.cell? ⟨w.heap.size, 1, none⟩ = some (.int .i64 g) ∧ w'.cell? ⟨w.heap.size, 2, none⟩ = some (.int .i64 q) ∧ w'.cell? ⟨w.heap.size, 3, none⟩ = some (.slice A n c) from ⟨(S0.out.step h).box.cell 0 _ rfl, (S0.out.step h).box.cell 1 _ rfl, (S0.out.step h).box.cell 2 _ rfl, (S0.out.step h).box.cell 3 _ rfl⟩))
  have d0 : ¬ q = 0 := by omega
  have x0 := S0.out.box.cell 0 _ rfl
  have x1 := S0.out.box.cell 1 _ rfl
  have x2 := S0.out.box.cell 2 _ rfl
  have x3 := S0.out.box.cell 3 _ rfl
  have HE := Lib.hid (rfl : orI z0 g q s X = orI z0 g q s X)
  clear hr hn HA HIN hb3 hv
  generalize sumE X (eH z0 g (fun _ => s) 0) 3 = sv at HC hrem
  generalize hov : orI z0 g q s X = ov at hrem ⊢
  clear HE hov
  go_enter Try.func125, Try.ntmps125
  go_wp2_with fail
  go_region_held3 (fun w' => w'.cell? ⟨w.heap.size, 0, none⟩ = some (.int .i64 z0) ∧ w'.cell? ⟨w.heap.size, 1, none⟩ = some (.int .i64 g) ∧ w'.cell? ⟨w.heap.size, 2, none⟩ = some (.int .i64 q) ∧ w'.cell? ⟨w.heap.size, 3, none⟩ = some (.slice A n c))
    (first | with_reducible exact HK.out _ hq1' | (go_keep; done))
    (first
      | (have hqz := HEr; clear hqz; go_at_call 118; refine (HC.out _ _ _ (S0.out.step hq1').row HEr.out).mono ?_; rintro e w2 ⟨rfl, rfl⟩)
      | (go_at_call 117; refine (HT.out _).mono ?_; rintro e w1 ⟨eb, rfl, _, ho, hb⟩; have hq1' := of_drew hb; have HEr := Lib.hid (show IRow w1 (some ⟨eb, 0, none⟩) 3 (eH z0 g (fun _ => s) 0) from ho.row); clear hb ho))
  all_goals
    have S1 := Lib.hid (S0.out.step hq1')
    go_wp2_with fail
    go_ret2
    exact ⟨rfl, S1.out.below⟩
/-- The slot of a key with a shift. -/
def swI (seed : Int) (q : Nat) (s : ByteArray) (x : Int) : Nat := (hashI seed 1 s.data.toList + x * (hashI seed 2 s.data.toList + 1)).toNat % q
/-- The slot of a key. -/
def slI (seed : Int) (g q : Nat) (s : ByteArray) (X : Nat → Int) : Nat := swI seed q s (X (placeI seed 0 s.data.toList g).toNat)
theorem sw_facts {seed : Int} {q : Nat} {s : ByteArray} {x : Int} (h0 : 0 ≤ x) (h1 : x ≤ 999) : ∃ a b : Int, hashI seed 1 s.data.toList = a ∧ hashI seed 2 s.data.toList = b ∧ IntKind.i64.wrap (b + 1) = b + 1 ∧ IntKind.i64.wrap (x * (b + 1)) = x * (b + 1) ∧ IntKind.i64.wrap (a + x * (b + 1)) = a + x * (b + 1) ∧
    (a + x * (b + 1)).tmod (q : Int) = ((swI seed q s x : Nat) : Int) := by
  obtain ⟨a0, a1⟩ := hashI_bd seed 1 s.data.toList
  obtain ⟨b0, b1⟩ := hashI_bd seed 2 s.data.toList
  have hm0 : 0 ≤ x * (hashI seed 2 s.data.toList + 1) := Int.mul_nonneg h0 (by omega)
  have hm1 : x * (hashI seed 2 s.data.toList + 1) ≤ 999 * 65521 := Int.mul_le_mul h1 (by omega) (by omega) (by omega)
  refine ⟨_, _, rfl, rfl, IntWalk.i64_in _ (by omega), IntWalk.i64_in _ (by omega), IntWalk.i64_in _ (by omega), ?_⟩
  unfold swI
  exact tmod_pos (m := q) (by omega)
set_option maxRecDepth 100000 in
set_option maxHeartbeats 2000000 in
theorem spec_pfSlot (z0 : Int) (q : Nat) (s : ByteArray) (x : Int) (w : World) (hs : s.size ≤ maxLen) (h0 : 0 ≤ z0 ∧ z0 ≤ 9999) (hq : 1 ≤ q) (hx : 0 ≤ x ∧ x ≤ 999) :
    Calls Try.prog 87 #[.int .i64 z0, .int .i64 q, .string s, .int .i64 x] w fun e w' => e = .returned (.int .i64 (swI z0 q s x)) ∧ w = w' := by
  obtain ⟨a, b, ha, hb, e1, e2, e3, e4⟩ := sw_facts (seed := z0) (q := q) (s := s) hx.1 hx.2
  have d0 : ¬ q = 0 := by omega
  have H1 := Lib.hid (fun W => spec_biHash z0 1 s W hs h0.1 h0.2 (by omega) (by omega))
  have H2 := Lib.hid (fun W => spec_biHash z0 2 s W hs h0.1 h0.2 (by omega) (by omega))
  rw [ha] at H1
  rw [hb] at H2
  clear ha hb
  generalize swI z0 q s x = ov at *
  go_enter Try.func87, Try.ntmps87
  go_wp2_with fail
  refine (H1.out _).mono ?_; rintro e w1 ⟨rfl, rfl⟩
  go_wp2_with fail
  refine (H2.out _).mono ?_; rintro e w1 ⟨rfl, rfl⟩
  go_wp2_with fail
  go_ret
  exact ⟨rfl, rfl⟩
set_option maxRecDepth 100000 in
set_option maxHeartbeats 2000000 in
theorem impl_slotWith (z0 z1 : Int) (q : Nat) (A : Option Addr) (n c : Nat) (X : Nat → Int) (s : ByteArray) (x : Int) (w : World) (hs : s.size ≤ maxLen) (hr : IRow w A n X) (h0 : 0 ≤ z0 ∧ z0 ≤ 9999) (hq : 1 ≤ q) (hx : 0 ≤ x ∧ x ≤ 999) :
    Calls Try.prog 123 #[.agg #[.int .i64 z0, .int .i64 z1, .int .i64 q, .slice A n c], .string s, .int .i64 x] w fun e w' => e = .returned (.int .i64 (swI z0 q s x)) ∧ Below w.heap.size w w' := by
  have S0 := Lib.hid (BX1.start (cs := #[.int .i64 z0, .int .i64 z1, .int .i64 q, .slice A n c]) (t := 40) hr)
  obtain ⟨_, _, rfl, rfl, e1, e2, e3, e4⟩ := sw_facts (seed := z0) (q := q) (s := s) hx.1 hx.2
  have d0 : ¬ q = 0 := by omega
  have HH := Lib.hid h0
  have x0 := S0.out.box.cell 0 _ rfl
  have x2 := S0.out.box.cell 2 _ rfl
  clear hr h0 hx
  generalize swI z0 q s x = ov at *
  go_enter Try.func123, Try.ntmps123
  go_wp2_with fail
  go_quiet ((go_at_call 120; exact quiet_left (impl_hashKey _ _ _ _ hs HH.out.1 HH.out.2 (by omega) (by omega))))
  have S1 := Lib.hid (S0.out.drewN nq)
  go_wp2_with fail
  go_ret
  exact ⟨rfl, S1.out.below⟩
theorem place_nat {seed : Int} {g : Nat} {s : ByteArray} (h : 1 ≤ g) : ∃ b : Nat, placeI seed 0 s.data.toList (g : Int) = (b : Int) ∧ b < g ∧ (placeI seed 0 s.data.toList (g : Int)).toNat = b := by
  obtain ⟨h1, h2⟩ := placeI_bd seed 0 s.data.toList g (by omega)
  exact ⟨(placeI seed 0 s.data.toList (g : Int)).toNat, by omega, by omega, rfl⟩
set_option maxRecDepth 100000 in
set_option maxHeartbeats 2000000 in
theorem spec_pfSlotOf (z0 : Int) (g q : Nat) (A : Option Addr) (n c : Nat) (X : Nat → Int) (s : ByteArray) (w : World) (hs : s.size ≤ maxLen) (hr : IRow w A n X) (hv : DiV z0 g q n X) :
    Calls Try.prog 69 #[.agg #[.int .i64 z0, .int .i64 g, .int .i64 q, .slice A n c], .string s] w fun e w' => e = .returned (.int .i64 (slI z0 g q s X)) ∧ Below w.heap.size w w' := by
  have S0 := Lib.hid (BX1.start (cs := #[.int .i64 z0, .int .i64 g, .int .i64 q, .slice A n c]) (t := 40) hr)
  have h1 : 1 ≤ g := by have := hv.2.1; omega
  have h2 : g ≤ 24 := by have := hv.2.1; omega
  have hq1 : 1 ≤ q := by have := hv.2.2.1; omega
  obtain ⟨bi, hb1, hb2, hb3⟩ := place_nat (seed := z0) (s := s) h1
  have hn : bi < n := by have := hv.2.2.2.1; omega
  have hx := hv.2.2.2.2 bi hn
  have HE : slI z0 g q s X = swI z0 q s (X bi) := by unfold slI; rw [hb3]
  rw [HE]
  have HP := Lib.hid (fun W => spec_biPlace z0 0 g s W hs (seedB_dec (decide_eq_true hv.1)) (by omega) (by omega))
  rw [hb1] at HP
  have HS := Lib.hid (fun W => spec_pfSlot z0 q s (X bi) W hs hv.1 hq1 hx)
  obtain ⟨b, off, rfl, hbl, hc⟩ := S0.out.row (by omega)
  have hcb := hc bi hn
  have x0 := S0.out.box.cell 0 _ rfl
  have x1 := S0.out.box.cell 1 _ rfl
  have x2 := S0.out.box.cell 2 _ rfl
  have x3 := S0.out.box.cell 3 _ rfl
  have i0 : (0 : Int) ≤ (bi : Int) := by omega
  have i1 : (bi : Int) < (n : Int) := by omega
  clear hr hc hb1 hb3 HE hv hx
  generalize X bi = xv at *
  generalize swI z0 q s xv = ov at *
  go_enter Try.func69, Try.ntmps69
  go_wp2_with fail
  go_quiet ((first
    | (go_at_call 88; exact quiet_left (HP.out _))
    | (go_at_call 87; exact quiet_left (HS.out _))))
  have S1 := Lib.hid (S0.out.drewN nq)
  go_wp2_with fail
  go_ret
  exact ⟨rfl, S1.out.below⟩
set_option maxRecDepth 100000 in
set_option maxHeartbeats 2000000 in
theorem impl_numberOf_Displaced (z0 : Int) (g q : Nat) (A : Option Addr) (n c : Nat) (X : Nat → Int) (s : ByteArray) (w : World) (hs : s.size ≤ maxLen) (hr : IRow w A n X) (hv : DiV z0 g q n X) :
    Calls Try.prog 122 #[.agg #[.int .i64 z0, .int .i64 g, .int .i64 q, .slice A n c], .string s] w fun e w' => e = .returned (.tuple #[.int .i64 (slI z0 g q s X), .bool true]) ∧ Below w.heap.size w w' := by
  have S0 := Lib.hid (BX1.start (cs := #[.int .i64 z0, .int .i64 g, .int .i64 q, .slice A n c]) (t := 40) hr)
  have h1 : 1 ≤ g := by have := hv.2.1; omega
  have h2 : g ≤ 24 := by have := hv.2.1; omega
  have hq1 : 1 ≤ q := by have := hv.2.2.1; omega
  obtain ⟨bi, hb1, hb2, hb3⟩ := place_nat (seed := z0) (s := s) h1
  have hn : bi < n := by have := hv.2.2.2.1; omega
  have hx := hv.2.2.2.2 bi hn
  have HE : slI z0 g q s X = swI z0 q s (X bi) := by unfold slI; rw [hb3]
  rw [HE]
  have HP := Lib.hid (fun W => impl_placeKey z0 0 g s W hs (seedB_dec (decide_eq_true hv.1)) (by omega) (by omega))
  rw [hb1] at HP
  have HS := Lib.hid (fun W (h : IRow W A n X) => impl_slotWith z0 g q A n c X s (X bi) W hs h hv.1 hq1 hx)
  have HROW := Lib.hid S0.out.row
  obtain ⟨b, off, hA, hbl, hc⟩ := S0.out.row (by omega)
  have hcb := hc bi hn
  have x0 := S0.out.box.cell 0 _ rfl
  have x1 := S0.out.box.cell 1 _ rfl
  have x2 := S0.out.box.cell 2 _ rfl
  have x3 := S0.out.box.cell 3 _ rfl
  have i0 : (0 : Int) ≤ (bi : Int) := by omega
  have i1 : (bi : Int) < (n : Int) := by omega
  have HK := Lib.hid (fun (w' : World) (h : Below (w.alloc (.cells #[.int .i64 z0, .int .i64 g, .int .i64 q, .slice A n c] 40)).heap.size (w.alloc (.cells #[.int .i64 z0, .int .i64 g, .int .i64 q, .slice A n c] 40)) w') => (show w'.cell? ⟨w.heap.size, 0, none⟩ = some (.int .i64 z0) ∧ w'.cell? ⟨w.heap.size, 1, none⟩ = some (.int .i64 g) ∧ w'.cell? ⟨w.heap.size, 2, none⟩ = some (.int .i64 q) ∧ w'.cell? ⟨w.heap.size, 3, none⟩ = some (.slice A n c) ∧ w'.cell? ⟨b, off + bi, none⟩ = some (.int .i64 (X bi)) from ⟨(S0.out.step h).box.cell 0 _ rfl, (S0.out.step h).box.cell 1 _ rfl, (S0.out.step h).box.cell 2 _ rfl, (S0.out.step h).box.cell 3 _ rfl, (World.cell?_of_block (a := ⟨b, off + bi, none⟩) (h.block b hbl)).trans hcb⟩))
  subst hA
  clear hr hc hb1 hb3 HE hv hx
  generalize X bi = xv at *
  generalize swI z0 q s xv = ov at *
  go_enter Try.func122, Try.ntmps122
  go_wp2_with fail
  refine (HP.out _).mono ?_; rintro e w1 ⟨rfl, rfl⟩
  go_wp2_with fail
  go_region_held3 (fun w' => w'.cell? ⟨w.heap.size, 0, none⟩ = some (.int .i64 z0) ∧ w'.cell? ⟨w.heap.size, 1, none⟩ = some (.int .i64 g) ∧ w'.cell? ⟨w.heap.size, 2, none⟩ = some (.int .i64 q) ∧ w'.cell? ⟨w.heap.size, 3, none⟩ = some (.slice (some ⟨b, off, none⟩) n c) ∧ w'.cell? ⟨b, off + bi, none⟩ = some (.int .i64 xv))
    (first | with_reducible exact HK.out _ hq1' | (go_keep; done))
    (first
      | (go_at_call 123; (first | refine (HS.out _ HROW.out).mono ?_ | refine (HS.out _ (irow (GRow.drew (grow_of HROW.out)))).mono ?_); rintro e w1 ⟨rfl, hb⟩; have hq1' := of_drew hb; clear hb))
  all_goals
    have S1 := Lib.hid (S0.out.step hq1')
    go_wp2_with fail
    go_ret2
    exact ⟨rfl, S1.out.below⟩

end Go.Proofs.Ytockhjdhihehlaa
