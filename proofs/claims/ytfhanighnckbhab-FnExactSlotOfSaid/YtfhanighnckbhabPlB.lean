/- The ordinal of a key in an Ordered, the slot of a key in a Displaced: both sides. -/
import Derived.Test.YtfhanighnckbhabPlA
import Derived.Handy
namespace Go.Proofs.Ytfhanighnckbhab
open Go.RowKit

/-- The ordinal of a key. -/
def orI (seed : Int) (g q : Nat) (s : ByteArray) (X : Nat → Int) : Nat := (sumE X (eH seed g (fun _ => s) 0) 3).toNat % q
set_option maxRecDepth 100000 in
set_option maxHeartbeats 2000000 in
theorem spec_pfOrdinal (z0 : Int) (g q : Nat) (A : Option Addr) (n c : Nat) (X : Nat → Int) (s : ByteArray) (w : World) (hs : s.size ≤ maxLen) (hr : IRow w A n X) (hv : OrV z0 g q n X) :
    Calls Try.prog 79 #[.agg #[.int .i64 z0, .int .i64 g, .int .i64 q, .slice A n c], .string s] w fun e w' => e = .returned (.int .i64 (orI z0 g q s X)) ∧ Below w.heap.size w w' := by
  have S0 := Lib.hid (BX1.start (cs := #[.int .i64 z0, .int .i64 g, .int .i64 q, .slice A n c]) (t := 61) hr)
  have h1 : 1 ≤ g := by have := hv.2.1; omega
  have h2 : g ≤ 24 := by have := hv.2.1; omega
  have hq1 : 1 ≤ q := by have := hv.2.2.1; omega
  have hq2 : q ≤ 40 := by have := hv.2.2.1; omega
  have hn : n = 3 * g := by have := hv.2.2.2.1; omega
  have HA : InAll n X 0 (40 : Nat) := fun i hi => by have := hv.2.2.2.2 i hi; omega
  have HIN : ∀ j, j < 3 → 0 ≤ eH z0 g (fun _ => s) 0 j ∧ eH z0 g (fun _ => s) 0 j < n := fun j hj => by have := eH_in (seed := z0) (S := fun _ => s) (k := 0) h1 h2 j hj; omega
  have HC := Lib.hid (fun W EA ec (k1 : IRow W A n X) (k2 : IRow W EA 3 (eH z0 g (fun _ => s) 0)) => spec_pfSum A n c X EA 3 ec (eH z0 g (fun _ => s) 0) 40 W (by omega) (by omega) (by omega) k1 k2 HA HIN)
  have HT := Lib.hid (fun W => spec_peTriple z0 g (fun _ => s) 0 W hs (seedB_dec (decide_eq_true hv.1)) h1 h2)
  have hb3 : 0 ≤ sumE X (eH z0 g (fun _ => s) 0) 3 := (sumE_bd HA 3 HIN).1
  have hrem : (sumE X (eH z0 g (fun _ => s) 0) 3).tmod (q : Int) = ((orI z0 g q s X : Nat) : Int) := tmod_pos (m := q) hb3
  have HK := Lib.hid (fun (w' : World) (h : Below (w.alloc (.cells #[.int .i64 z0, .int .i64 g, .int .i64 q, .slice A n c] 61)).heap.size (w.alloc (.cells #[.int .i64 z0, .int .i64 g, .int .i64 q, .slice A n c] 61)) w') => (show w'.cell? ⟨w.heap.size, 0, none⟩ = some (.int .i64 z0) ∧ w'.cell? ⟨w.heap.size, 1, none⟩ = some (.int .i64 g) ∧ w'.cell? ⟨w.heap.size, 2, none⟩ = some (.int .i64 q) ∧ w'.cell? ⟨w.heap.size, 3, none⟩ = some (.slice A n c) from ⟨(S0.out.step h).box.cell 0 _ rfl, (S0.out.step h).box.cell 1 _ rfl, (S0.out.step h).box.cell 2 _ rfl, (S0.out.step h).box.cell 3 _ rfl⟩))
  have d0 : ¬ q = 0 := by omega
  have x0 := S0.out.box.cell 0 _ rfl
  have x1 := S0.out.box.cell 1 _ rfl
  have x2 := S0.out.box.cell 2 _ rfl
  have x3 := S0.out.box.cell 3 _ rfl
  have HE := Lib.hid (rfl : orI z0 g q s X = orI z0 g q s X)
  clear hr hn HA HIN hb3 hv
  generalize sumE X (eH z0 g (fun _ => s) 0) 3 = sv at HC hrem
  generalize hov : orI z0 g q s X = ov at hrem ⊢
  clear HE hov
  go_enter Try.func79, Try.ntmps79
  go_wp2_with fail
  go_region_held3 (fun w' => w'.cell? ⟨w.heap.size, 0, none⟩ = some (.int .i64 z0) ∧ w'.cell? ⟨w.heap.size, 1, none⟩ = some (.int .i64 g) ∧ w'.cell? ⟨w.heap.size, 2, none⟩ = some (.int .i64 q) ∧ w'.cell? ⟨w.heap.size, 3, none⟩ = some (.slice A n c))
    (first | with_reducible exact HK.out _ hq1' | (go_keep; done))
    (first
      | (have hqz := HEr; clear hqz; go_at_call 89; refine (HC.out _ _ _ (S0.out.step hq1').row HEr.out).mono ?_; rintro e w2 ⟨rfl, rfl⟩)
      | (go_at_call 88; refine (HT.out _).mono ?_; rintro e w1 ⟨EA, ec, rfl, ho, hb⟩; have hq1' := of_drew hb; have HEr := Lib.hid (show IRow w1 EA 3 (eH z0 g (fun _ => s) 0) from (owned_vec ho).row); clear hb ho))
  all_goals
    have S1 := Lib.hid (S0.out.step hq1')
    go_wp2_with fail
    go_ret
    exact ⟨rfl, S1.out.below⟩
set_option maxRecDepth 100000 in
set_option maxHeartbeats 2000000 in
theorem impl_numberOf_Ordered (z0 : Int) (g q : Nat) (A : Option Addr) (n c : Nat) (X : Nat → Int) (s : ByteArray) (w : World) (hs : s.size ≤ maxLen) (hr : IRow w A n X) (hv : OrV z0 g q n X) :
    Calls Try.prog 130 #[.agg #[.int .i64 z0, .int .i64 g, .int .i64 q, .slice A n c], .string s] w fun e w' => e = .returned (.tuple #[.int .i64 (orI z0 g q s X), .bool true]) ∧ Below w.heap.size w w' := by
  have S0 := Lib.hid (BX1.start (cs := #[.int .i64 z0, .int .i64 g, .int .i64 q, .slice A n c]) (t := 61) hr)
  have h1 : 1 ≤ g := by have := hv.2.1; omega
  have h2 : g ≤ 24 := by have := hv.2.1; omega
  have hq1 : 1 ≤ q := by have := hv.2.2.1; omega
  have hq2 : q ≤ 40 := by have := hv.2.2.1; omega
  have hn : n = 3 * g := by have := hv.2.2.2.1; omega
  have HA : InAll n X 0 (40 : Nat) := fun i hi => by have := hv.2.2.2.2 i hi; omega
  have HIN : ∀ j, j < 3 → 0 ≤ eH z0 g (fun _ => s) 0 j ∧ eH z0 g (fun _ => s) 0 j < n := fun j hj => by have := eH_in (seed := z0) (S := fun _ => s) (k := 0) h1 h2 j hj; omega
  have HC := Lib.hid (fun W EA ec (k1 : IRow W A n X) (k2 : IRow W EA 3 (eH z0 g (fun _ => s) 0)) => impl_sumAt A n c X EA 3 ec (eH z0 g (fun _ => s) 0) 40 W (by omega) (by omega) (by omega) k1 k2 HA HIN)
  have HT := Lib.hid (fun W => impl_edgeOf z0 g (fun _ => s) 0 W hs (seedB_dec (decide_eq_true hv.1)) h1 h2)
  have hb3 : 0 ≤ sumE X (eH z0 g (fun _ => s) 0) 3 := (sumE_bd HA 3 HIN).1
  have hrem : (sumE X (eH z0 g (fun _ => s) 0) 3).tmod (q : Int) = ((orI z0 g q s X : Nat) : Int) := tmod_pos (m := q) hb3
  have HK := Lib.hid (fun (w' : World) (h : Below (w.alloc (.cells #[.int .i64 z0, .int .i64 g, .int .i64 q, .slice A n c] 61)).heap.size (w.alloc (.cells #[.int .i64 z0, .int .i64 g, .int .i64 q, .slice A n c] 61)) w') => (show w'.cell? ⟨w.heap.size, 0, none⟩ = some (.int .i64 z0) ∧ w'.cell? ⟨w.heap.size, 1, none⟩ = some (.int .i64 g) ∧ w'.cell? ⟨w.heap.size, 2, none⟩ = some (.int .i64 q) ∧ w'.cell? ⟨w.heap.size, 3, none⟩ = some (.slice A n c) from ⟨(S0.out.step h).box.cell 0 _ rfl, (S0.out.step h).box.cell 1 _ rfl, (S0.out.step h).box.cell 2 _ rfl, (S0.out.step h).box.cell 3 _ rfl⟩))
  have d0 : ¬ q = 0 := by omega
  have x0 := S0.out.box.cell 0 _ rfl
  have x1 := S0.out.box.cell 1 _ rfl
  have x2 := S0.out.box.cell 2 _ rfl
  have x3 := S0.out.box.cell 3 _ rfl
  have HE := Lib.hid (rfl : orI z0 g q s X = orI z0 g q s X)
  clear hr hn HA HIN hb3 hv
  generalize sumE X (eH z0 g (fun _ => s) 0) 3 = sv at HC hrem
  generalize hov : orI z0 g q s X = ov at hrem ⊢
  clear HE hov
  go_enter Try.func130, Try.ntmps130
  go_wp2_with fail
  go_region_held3 (fun w' => w'.cell? ⟨w.heap.size, 0, none⟩ = some (.int .i64 z0) ∧ w'.cell? ⟨w.heap.size, 1, none⟩ = some (.int .i64 g) ∧ w'.cell? ⟨w.heap.size, 2, none⟩ = some (.int .i64 q) ∧ w'.cell? ⟨w.heap.size, 3, none⟩ = some (.slice A n c))
    (first | with_reducible exact HK.out _ hq1' | (go_keep; done))
    (first
      | (have hqz := HEr; clear hqz; go_at_call 91; refine (HC.out _ _ _ (S0.out.step hq1').row HEr.out).mono ?_; rintro e w2 ⟨rfl, rfl⟩)
      | (go_at_call 90; refine (HT.out _).mono ?_; rintro e w1 ⟨eb, rfl, _, ho, hb⟩; have hq1' := of_drew hb; have HEr := Lib.hid (show IRow w1 (some ⟨eb, 0, none⟩) 3 (eH z0 g (fun _ => s) 0) from ho.row); clear hb ho))
  all_goals
    have S1 := Lib.hid (S0.out.step hq1')
    go_wp2_with fail
    go_ret2
    exact ⟨rfl, S1.out.below⟩
/-- The slot of a key with a shift. -/
def swI (seed : Int) (q : Nat) (s : ByteArray) (x : Int) : Nat := (hashI seed 1 s.data.toList + x * (hashI seed 2 s.data.toList + 1)).toNat % q
/-- The slot of a key. -/
def slI (seed : Int) (g q : Nat) (s : ByteArray) (X : Nat → Int) : Nat := swI seed q s (X (placeI seed 0 s.data.toList g).toNat)
theorem sw_facts {seed : Int} {q : Nat} {s : ByteArray} {x : Int} (h0 : 0 ≤ x) (h1 : x ≤ 999) : ∃ a b : Int, hashI seed 1 s.data.toList = a ∧ hashI seed 2 s.data.toList = b ∧ IntKind.i64.wrap (b + 1) = b + 1 ∧ IntKind.i64.wrap (x * (b + 1)) = x * (b + 1) ∧ IntKind.i64.wrap (a + x * (b + 1)) = a + x * (b + 1) ∧
    (a + x * (b + 1)).tmod (q : Int) = ((swI seed q s x : Nat) : Int) := by
  obtain ⟨a0, a1⟩ := hashI_bd seed 1 s.data.toList
  obtain ⟨b0, b1⟩ := hashI_bd seed 2 s.data.toList
  have hm0 : 0 ≤ x * (hashI seed 2 s.data.toList + 1) := Int.mul_nonneg h0 (by omega)
  have hm1 : x * (hashI seed 2 s.data.toList + 1) ≤ 999 * 65521 := Int.mul_le_mul h1 (by omega) (by omega) (by omega)
  refine ⟨_, _, rfl, rfl, IntWalk.i64_in _ (by omega), IntWalk.i64_in _ (by omega), IntWalk.i64_in _ (by omega), ?_⟩
  unfold swI
  exact tmod_pos (m := q) (by omega)
set_option maxRecDepth 100000 in
set_option maxHeartbeats 2000000 in
theorem spec_pfSlot (z0 : Int) (q : Nat) (s : ByteArray) (x : Int) (w : World) (hs : s.size ≤ maxLen) (h0 : 0 ≤ z0 ∧ z0 ≤ 9999) (hq : 1 ≤ q) (hx : 0 ≤ x ∧ x ≤ 999) :
    Calls Try.prog 98 #[.int .i64 z0, .int .i64 q, .string s, .int .i64 x] w fun e w' => e = .returned (.int .i64 (swI z0 q s x)) ∧ w = w' := by
  obtain ⟨a, b, ha, hb, e1, e2, e3, e4⟩ := sw_facts (seed := z0) (q := q) (s := s) hx.1 hx.2
  have d0 : ¬ q = 0 := by omega
  have H1 := Lib.hid (fun W => spec_biHash z0 1 s W hs h0.1 h0.2 (by omega) (by omega))
  have H2 := Lib.hid (fun W => spec_biHash z0 2 s W hs h0.1 h0.2 (by omega) (by omega))
  rw [ha] at H1
  rw [hb] at H2
  clear ha hb
  generalize swI z0 q s x = ov at *
  go_enter Try.func98, Try.ntmps98
  go_wp2_with fail
  refine (H1.out _).mono ?_; rintro e w1 ⟨rfl, rfl⟩
  go_wp2_with fail
  refine (H2.out _).mono ?_; rintro e w1 ⟨rfl, rfl⟩
  go_wp2_with fail
  go_ret
  exact ⟨rfl, rfl⟩
set_option maxRecDepth 100000 in
set_option maxHeartbeats 2000000 in
theorem impl_slotWith (z0 z1 : Int) (q : Nat) (A : Option Addr) (n c : Nat) (X : Nat → Int) (s : ByteArray) (x : Int) (w : World) (hs : s.size ≤ maxLen) (hr : IRow w A n X) (h0 : 0 ≤ z0 ∧ z0 ≤ 9999) (hq : 1 ≤ q) (hx : 0 ≤ x ∧ x ≤ 999) :
    Calls Try.prog 129 #[.agg #[.int .i64 z0, .int .i64 z1, .int .i64 q, .slice A n c], .string s, .int .i64 x] w fun e w' => e = .returned (.int .i64 (swI z0 q s x)) ∧ Below w.heap.size w w' := by
  have S0 := Lib.hid (BX1.start (cs := #[.int .i64 z0, .int .i64 z1, .int .i64 q, .slice A n c]) (t := 51) hr)
  obtain ⟨_, _, rfl, rfl, e1, e2, e3, e4⟩ := sw_facts (seed := z0) (q := q) (s := s) hx.1 hx.2
  have d0 : ¬ q = 0 := by omega
  have HH := Lib.hid h0
  have x0 := S0.out.box.cell 0 _ rfl
  have x2 := S0.out.box.cell 2 _ rfl
  clear hr h0 hx
  generalize swI z0 q s x = ov at *
  go_enter Try.func129, Try.ntmps129
  go_wp2_with fail
  go_quiet ((go_at_call 109; exact quiet_left (impl_hashKey _ _ _ _ hs HH.out.1 HH.out.2 (by omega) (by omega))))
  have S1 := Lib.hid (S0.out.drewN nq)
  go_wp2_with fail
  go_ret
  exact ⟨rfl, S1.out.below⟩
theorem place_nat {seed : Int} {g : Nat} {s : ByteArray} (h : 1 ≤ g) : ∃ b : Nat, placeI seed 0 s.data.toList (g : Int) = (b : Int) ∧ b < g ∧ (placeI seed 0 s.data.toList (g : Int)).toNat = b := by
  obtain ⟨h1, h2⟩ := placeI_bd seed 0 s.data.toList g (by omega)
  exact ⟨(placeI seed 0 s.data.toList (g : Int)).toNat, by omega, by omega, rfl⟩
set_option maxRecDepth 100000 in
set_option maxHeartbeats 2000000 in
theorem spec_pfSlotOf (z0 : Int) (g q : Nat) (A : Option Addr) (n c : Nat) (X : Nat → Int) (s : ByteArray) (w : World) (hs : s.size ≤ maxLen) (hr : IRow w A n X) (hv : DiV z0 g q n X) :
    Calls Try.prog 76 #[.agg #[.int .i64 z0, .int .i64 g, .int .i64 q, .slice A n c], .string s] w fun e w' => e = .returned (.int .i64 (slI z0 g q s X)) ∧ Below w.heap.size w w' := by
  have S0 := Lib.hid (BX1.start (cs := #[.int .i64 z0, .int .i64 g, .int .i64 q, .slice A n c]) (t := 51) hr)
  have h1 : 1 ≤ g := by have := hv.2.1; omega
  have h2 : g ≤ 24 := by have := hv.2.1; omega
  have hq1 : 1 ≤ q := by have := hv.2.2.1; omega
  obtain ⟨bi, hb1, hb2, hb3⟩ := place_nat (seed := z0) (s := s) h1
  have hn : bi < n := by have := hv.2.2.2.1; omega
  have hx := hv.2.2.2.2 bi hn
  have HE : slI z0 g q s X = swI z0 q s (X bi) := by unfold slI; rw [hb3]
  rw [HE]
  have HP := Lib.hid (fun W => spec_biPlace z0 0 g s W hs (seedB_dec (decide_eq_true hv.1)) (by omega) (by omega))
  rw [hb1] at HP
  have HS := Lib.hid (fun W => spec_pfSlot z0 q s (X bi) W hs hv.1 hq1 hx)
  obtain ⟨b, off, rfl, hbl, hc⟩ := S0.out.row (by omega)
  have hcb := hc bi hn
  have x0 := S0.out.box.cell 0 _ rfl
  have x1 := S0.out.box.cell 1 _ rfl
  have x2 := S0.out.box.cell 2 _ rfl
  have x3 := S0.out.box.cell 3 _ rfl
  have i0 : (0 : Int) ≤ (bi : Int) := by omega
  have i1 : (bi : Int) < (n : Int) := by omega
  clear hr hc hb1 hb3 HE hv hx
  generalize X bi = xv at *
  generalize swI z0 q s xv = ov at *
  go_enter Try.func76, Try.ntmps76
  go_wp2_with fail
  go_quiet ((first
    | (go_at_call 99; exact quiet_left (HP.out _))
    | (go_at_call 98; exact quiet_left (HS.out _))))
  have S1 := Lib.hid (S0.out.drewN nq)
  go_wp2_with fail
  go_ret
  exact ⟨rfl, S1.out.below⟩
set_option maxRecDepth 100000 in
set_option maxHeartbeats 2000000 in
theorem impl_numberOf_Displaced (z0 : Int) (g q : Nat) (A : Option Addr) (n c : Nat) (X : Nat → Int) (s : ByteArray) (w : World) (hs : s.size ≤ maxLen) (hr : IRow w A n X) (hv : DiV z0 g q n X) :
    Calls Try.prog 128 #[.agg #[.int .i64 z0, .int .i64 g, .int .i64 q, .slice A n c], .string s] w fun e w' => e = .returned (.tuple #[.int .i64 (slI z0 g q s X), .bool true]) ∧ Below w.heap.size w w' := by
  have S0 := Lib.hid (BX1.start (cs := #[.int .i64 z0, .int .i64 g, .int .i64 q, .slice A n c]) (t := 51) hr)
  have h1 : 1 ≤ g := by have := hv.2.1; omega
  have h2 : g ≤ 24 := by have := hv.2.1; omega
  have hq1 : 1 ≤ q := by have := hv.2.2.1; omega
  obtain ⟨bi, hb1, hb2, hb3⟩ := place_nat (seed := z0) (s := s) h1
  have hn : bi < n := by have := hv.2.2.2.1; omega
  have hx := hv.2.2.2.2 bi hn
  have HE : slI z0 g q s X = swI z0 q s (X bi) := by unfold slI; rw [hb3]
  rw [HE]
  have HP := Lib.hid (fun W => impl_placeKey z0 0 g s W hs (seedB_dec (decide_eq_true hv.1)) (by omega) (by omega))
  rw [hb1] at HP
  have HS := Lib.hid (fun W (h : IRow W A n X) => impl_slotWith z0 g q A n c X s (X bi) W hs h hv.1 hq1 hx)
  have HROW := Lib.hid S0.out.row
  obtain ⟨b, off, hA, hbl, hc⟩ := S0.out.row (by omega)
  have hcb := hc bi hn
  have x0 := S0.out.box.cell 0 _ rfl
  have x1 := S0.out.box.cell 1 _ rfl
  have x2 := S0.out.box.cell 2 _ rfl
  have x3 := S0.out.box.cell 3 _ rfl
  have i0 : (0 : Int) ≤ (bi : Int) := by omega
  have i1 : (bi : Int) < (n : Int) := by omega
  have HK := Lib.hid (fun (w' : World) (h : Below (w.alloc (.cells #[.int .i64 z0, .int .i64 g, .int .i64 q, .slice A n c] 51)).heap.size (w.alloc (.cells #[.int .i64 z0, .int .i64 g, .int .i64 q, .slice A n c] 51)) w') => (show w'.cell? ⟨w.heap.size, 0, none⟩ = some (.int .i64 z0) ∧ w'.cell? ⟨w.heap.size, 1, none⟩ = some (.int .i64 g) ∧ w'.cell? ⟨w.heap.size, 2, none⟩ = some (.int .i64 q) ∧ w'.cell? ⟨w.heap.size, 3, none⟩ = some (.slice A n c) ∧ w'.cell? ⟨b, off + bi, none⟩ = some (.int .i64 (X bi)) from ⟨(S0.out.step h).box.cell 0 _ rfl, (S0.out.step h).box.cell 1 _ rfl, (S0.out.step h).box.cell 2 _ rfl, (S0.out.step h).box.cell 3 _ rfl, (World.cell?_of_block (a := ⟨b, off + bi, none⟩) (h.block b hbl)).trans hcb⟩))
  subst hA
  clear hr hc hb1 hb3 HE hv hx
  generalize X bi = xv at *
  generalize swI z0 q s xv = ov at *
  go_enter Try.func128, Try.ntmps128
  go_wp2_with fail
  refine (HP.out _).mono ?_; rintro e w1 ⟨rfl, rfl⟩
  go_wp2_with fail
  go_region_held3 (fun w' => w'.cell? ⟨w.heap.size, 0, none⟩ = some (.int .i64 z0) ∧ w'.cell? ⟨w.heap.size, 1, none⟩ = some (.int .i64 g) ∧ w'.cell? ⟨w.heap.size, 2, none⟩ = some (.int .i64 q) ∧ w'.cell? ⟨w.heap.size, 3, none⟩ = some (.slice (some ⟨b, off, none⟩) n c) ∧ w'.cell? ⟨b, off + bi, none⟩ = some (.int .i64 xv))
    (first | with_reducible exact HK.out _ hq1' | (go_keep; done))
    (first
      | (go_at_call 129; (first | refine (HS.out _ HROW.out).mono ?_ | refine (HS.out _ (irow (GRow.drew (grow_of HROW.out)))).mono ?_); rintro e w1 ⟨rfl, hb⟩; have hq1' := of_drew hb; clear hb))
  all_goals
    have S1 := Lib.hid (S0.out.step hq1')
    go_wp2_with fail
    go_ret2
    exact ⟨rfl, S1.out.below⟩

set_option maxRecDepth 100000 in
set_option maxHeartbeats 2000000 in
theorem impl_numberIn_Ordered (z0 z1 z2 : Int) (A : Option Addr) (n c : Nat) (X : Nat → Int) (s : ByteArray) (w : World) (hn : n ≤ 1048576) (hs : s.size ≤ maxLen) (hr : IRow w A n X) (h : OrV z0 z1 z2 n X ∧ isKeyB s.data.toList = true) :
    Calls Try.prog 62 #[.iface 61 (.agg #[.int .i64 z0, .int .i64 z1, .int .i64 z2, .slice A n c]), .string s] w fun e w' => e = .returned (.tuple #[.int .i64 (orI z0 z1.toNat z2.toNat s X), .bool true]) ∧ Below w.heap.size w w' := by
  obtain ⟨g, rfl⟩ : ∃ g : Nat, z1 = g := ⟨z1.toNat, by have := h.1.2.1; omega⟩
  obtain ⟨q, rfl⟩ : ∃ q : Nat, z2 = q := ⟨z2.toNat, by have := h.1.2.2.1; omega⟩
  rw [Int.toNat_natCast, Int.toNat_natCast]
  have HR := Lib.hid hr
  clear hr
  go_enter Try.func62, Try.ntmps62
  go_wp2_with fail
  refine (impl_isValid_Ordered z0 g q A n c X _ hn HR.out).mono ?_; rintro e w1 ⟨b, rfl, hb, hw⟩
  obtain rfl : b = true := hb.2 h.1
  have HB := Lib.hid hw
  clear hb hw
  go_wp2_with fail
  refine (impl_isKey _ _ hs).mono ?_; rintro e w2 ⟨rfl, rfl⟩
  rw [h.2]
  go_wp2_with fail
  refine (impl_numberOf_Ordered z0 g q A n c X s _ hs (HR.out.b HB.out) h.1).mono ?_; rintro e w3 ⟨rfl, hw⟩
  have HB2 := Lib.hid (HB.out.trans (hw.mono HB.out.size))
  clear hw
  go_wp2_with fail
  go_ret2
  exact ⟨rfl, HB2.out⟩
set_option maxRecDepth 100000 in
set_option maxHeartbeats 2000000 in
theorem impl_numberIn_Ordered_no (z0 z1 z2 : Int) (A : Option Addr) (n c : Nat) (X : Nat → Int) (s : ByteArray) (w : World) (hn : n ≤ 1048576) (hs : s.size ≤ maxLen) (hr : IRow w A n X) (h : ¬ (OrV z0 z1 z2 n X ∧ isKeyB s.data.toList = true)) :
    Calls Try.prog 62 #[.iface 61 (.agg #[.int .i64 z0, .int .i64 z1, .int .i64 z2, .slice A n c]), .string s] w fun e w' => e = .returned (.tuple #[.int .i64 0, .bool false]) ∧ Below w.heap.size w w' := by
  have HR := Lib.hid hr
  clear hr
  by_cases hv : OrV z0 z1 z2 n X
  · have hk : isKeyB s.data.toList = false := by
      cases e : isKeyB s.data.toList
      · rfl
      · exact absurd ⟨hv, e⟩ h
    go_enter Try.func62, Try.ntmps62
    go_wp2_with fail
    refine (impl_isValid_Ordered z0 z1 z2 A n c X _ hn HR.out).mono ?_; rintro e w1 ⟨b, rfl, hb, hw⟩
    obtain rfl : b = true := hb.2 hv
    have HB := Lib.hid hw
    clear hb hw
    go_wp2_with fail
    refine (impl_isKey _ _ hs).mono ?_; rintro e w2 ⟨rfl, rfl⟩
    rw [hk]
    go_wp2_with fail
    go_ret2
    exact ⟨rfl, HB.out⟩
  · go_enter Try.func62, Try.ntmps62
    go_wp2_with fail
    refine (impl_isValid_Ordered z0 z1 z2 A n c X _ hn HR.out).mono ?_; rintro e w1 ⟨b, rfl, hb, hw⟩
    obtain rfl : b = false := by
      cases b
      · rfl
      · exact absurd (hb.1 rfl) hv
    have HB := Lib.hid hw
    clear hb hw
    go_wp2_with fail
    go_ret2
    exact ⟨rfl, HB.out⟩
set_option maxRecDepth 100000 in
set_option maxHeartbeats 1000000 in
theorem impl_OrdinalOf (z0 z1 z2 : Int) (A : Option Addr) (n c : Nat) (X : Nat → Int) (s : ByteArray) (w : World) (hn : n ≤ 1048576) (hs : s.size ≤ maxLen) (hr : IRow w A n X) (h : OrV z0 z1 z2 n X ∧ isKeyB s.data.toList = true) :
    Calls Try.prog 46 #[.agg #[.int .i64 z0, .int .i64 z1, .int .i64 z2, .slice A n c], .string s] w fun e w' => e = .returned (.tuple #[.int .i64 (orI z0 z1.toNat z2.toNat s X), .bool true]) ∧ Below w.heap.size w w' := by
  have S0 := Lib.hid (BX1.start (cs := #[.int .i64 z0, .int .i64 z1, .int .i64 z2, .slice A n c]) (t := 61) hr)
  have x0 := S0.out.box.cell 0 _ rfl
  have x1 := S0.out.box.cell 1 _ rfl
  have x2 := S0.out.box.cell 2 _ rfl
  have x3 := S0.out.box.cell 3 _ rfl
  clear hr
  go_enter Try.func46, Try.ntmps46
  go_wp2_with fail
  refine (impl_numberIn_Ordered z0 z1 z2 A n c X s _ hn hs S0.out.row h).mono ?_; rintro e w1 ⟨rfl, hw⟩
  have S1 := Lib.hid (S0.out.step hw)
  clear hw
  go_wp2_with fail
  go_ret2
  exact ⟨rfl, S1.out.below⟩
set_option maxRecDepth 100000 in
set_option maxHeartbeats 1000000 in
theorem impl_OrdinalOf_no (z0 z1 z2 : Int) (A : Option Addr) (n c : Nat) (X : Nat → Int) (s : ByteArray) (w : World) (hn : n ≤ 1048576) (hs : s.size ≤ maxLen) (hr : IRow w A n X) (h : ¬ (OrV z0 z1 z2 n X ∧ isKeyB s.data.toList = true)) :
    Calls Try.prog 46 #[.agg #[.int .i64 z0, .int .i64 z1, .int .i64 z2, .slice A n c], .string s] w fun e w' => e = .returned (.tuple #[.int .i64 0, .bool false]) ∧ Below w.heap.size w w' := by
  have S0 := Lib.hid (BX1.start (cs := #[.int .i64 z0, .int .i64 z1, .int .i64 z2, .slice A n c]) (t := 61) hr)
  have x0 := S0.out.box.cell 0 _ rfl
  have x1 := S0.out.box.cell 1 _ rfl
  have x2 := S0.out.box.cell 2 _ rfl
  have x3 := S0.out.box.cell 3 _ rfl
  clear hr
  go_enter Try.func46, Try.ntmps46
  go_wp2_with fail
  refine (impl_numberIn_Ordered_no z0 z1 z2 A n c X s _ hn hs S0.out.row h).mono ?_; rintro e w1 ⟨rfl, hw⟩
  have S1 := Lib.hid (S0.out.step hw)
  clear hw
  go_wp2_with fail
  go_ret2
  exact ⟨rfl, S1.out.below⟩
set_option maxRecDepth 100000 in
set_option maxHeartbeats 1000000 in
theorem spec_OrdinalOf (z0 z1 z2 : Int) (A : Option Addr) (n c : Nat) (X : Nat → Int) (s : ByteArray) (w : World) (hn : n ≤ 1048576) (hs : s.size ≤ maxLen) (hr : IRow w A n X) (h : OrV z0 z1 z2 n X ∧ isKeyB s.data.toList = true) :
    Calls Try.prog 45 #[.agg #[.int .i64 z0, .int .i64 z1, .int .i64 z2, .slice A n c], .string s] w fun e w' => e = .returned (.tuple #[.int .i64 (orI z0 z1.toNat z2.toNat s X), .bool true]) ∧ Below w.heap.size w w' := by
  have S0 := Lib.hid (BX1.start (cs := #[.int .i64 z0, .int .i64 z1, .int .i64 z2, .slice A n c]) (t := 61) hr)
  have x0 := S0.out.box.cell 0 _ rfl
  have x1 := S0.out.box.cell 1 _ rfl
  have x2 := S0.out.box.cell 2 _ rfl
  have x3 := S0.out.box.cell 3 _ rfl
  clear hr
  obtain ⟨g, rfl⟩ : ∃ g : Nat, z1 = g := ⟨z1.toNat, by have := h.1.2.1; omega⟩
  obtain ⟨q, rfl⟩ : ∃ q : Nat, z2 = q := ⟨z2.toNat, by have := h.1.2.2.1; omega⟩
  rw [Int.toNat_natCast, Int.toNat_natCast]
  go_enter Try.func45, Try.ntmps45
  go_wp2_with fail
  refine (spec_pfOrdered z0 g q A n c X _ hn S0.out.row).mono ?_; rintro e w1 ⟨b, rfl, hb, hw⟩
  obtain rfl : b = true := hb.2 h.1
  have S1 := Lib.hid (S0.out.step hw)
  clear hb hw x0 x1 x2 x3 S0
  have x0 := S1.out.box.cell 0 _ rfl
  have x1 := S1.out.box.cell 1 _ rfl
  have x2 := S1.out.box.cell 2 _ rfl
  have x3 := S1.out.box.cell 3 _ rfl
  go_wp2_with fail
  refine (spec_isKey _ _ hs).mono ?_; rintro e w2 ⟨rfl, rfl⟩
  rw [h.2]
  go_wp2_with fail
  refine (spec_pfOrdinal z0 g q A n c X s _ hs S1.out.row h.1).mono ?_; rintro e w3 ⟨rfl, hw⟩
  have S2 := Lib.hid (S1.out.step hw)
  clear hw
  go_wp2_with fail
  go_ret2
  exact ⟨rfl, S2.out.below⟩
set_option maxRecDepth 100000 in
set_option maxHeartbeats 1000000 in
theorem spec_OrdinalOf_no (z0 z1 z2 : Int) (A : Option Addr) (n c : Nat) (X : Nat → Int) (s : ByteArray) (w : World) (hn : n ≤ 1048576) (hs : s.size ≤ maxLen) (hr : IRow w A n X) (h : ¬ (OrV z0 z1 z2 n X ∧ isKeyB s.data.toList = true)) :
    Calls Try.prog 45 #[.agg #[.int .i64 z0, .int .i64 z1, .int .i64 z2, .slice A n c], .string s] w fun e w' => e = .returned (.tuple #[.int .i64 0, .bool false]) ∧ Below w.heap.size w w' := by
  have S0 := Lib.hid (BX1.start (cs := #[.int .i64 z0, .int .i64 z1, .int .i64 z2, .slice A n c]) (t := 61) hr)
  have x0 := S0.out.box.cell 0 _ rfl
  have x1 := S0.out.box.cell 1 _ rfl
  have x2 := S0.out.box.cell 2 _ rfl
  have x3 := S0.out.box.cell 3 _ rfl
  clear hr
  by_cases hv : OrV z0 z1 z2 n X
  · have hk : isKeyB s.data.toList = false := by
      cases e : isKeyB s.data.toList
      · rfl
      · exact absurd ⟨hv, e⟩ h
    go_enter Try.func45, Try.ntmps45
    go_wp2_with fail
    refine (spec_pfOrdered z0 z1 z2 A n c X _ hn S0.out.row).mono ?_; rintro e w1 ⟨b, rfl, hb, hw⟩
    obtain rfl : b = true := hb.2 hv
    have S1 := Lib.hid (S0.out.step hw)
    clear hb hw x0 x1 x2 x3 S0
    go_wp2_with fail
    refine (spec_isKey _ _ hs).mono ?_; rintro e w2 ⟨rfl, rfl⟩
    rw [hk]
    go_wp2_with fail
    go_ret2
    exact ⟨rfl, S1.out.below⟩
  · go_enter Try.func45, Try.ntmps45
    go_wp2_with fail
    refine (spec_pfOrdered z0 z1 z2 A n c X _ hn S0.out.row).mono ?_; rintro e w1 ⟨b, rfl, hb, hw⟩
    obtain rfl : b = false := by
      cases b
      · rfl
      · exact absurd (hb.1 rfl) hv
    have S1 := Lib.hid (S0.out.step hw)
    clear hb hw x0 x1 x2 x3 S0
    go_wp2_with fail
    go_ret2
    exact ⟨rfl, S1.out.below⟩
set_option maxRecDepth 100000 in
set_option maxHeartbeats 2000000 in
theorem impl_numberIn_Displaced (z0 z1 z2 : Int) (A : Option Addr) (n c : Nat) (X : Nat → Int) (s : ByteArray) (w : World) (hn : n ≤ 1048576) (hs : s.size ≤ maxLen) (hr : IRow w A n X) (h : DiV z0 z1 z2 n X ∧ isKeyB s.data.toList = true) :
    Calls Try.prog 62 #[.iface 51 (.agg #[.int .i64 z0, .int .i64 z1, .int .i64 z2, .slice A n c]), .string s] w fun e w' => e = .returned (.tuple #[.int .i64 (slI z0 z1.toNat z2.toNat s X), .bool true]) ∧ Below w.heap.size w w' := by
  obtain ⟨g, rfl⟩ : ∃ g : Nat, z1 = g := ⟨z1.toNat, by have := h.1.2.1; omega⟩
  obtain ⟨q, rfl⟩ : ∃ q : Nat, z2 = q := ⟨z2.toNat, by have := h.1.2.2.1; omega⟩
  rw [Int.toNat_natCast, Int.toNat_natCast]
  have HR := Lib.hid hr
  clear hr
  go_enter Try.func62, Try.ntmps62
  go_wp2_with fail
  refine (impl_isValid_Displaced z0 g q A n c X _ hn HR.out).mono ?_; rintro e w1 ⟨b, rfl, hb, hw⟩
  obtain rfl : b = true := hb.2 h.1
  have HB := Lib.hid hw
  clear hb hw
  go_wp2_with fail
  refine (impl_isKey _ _ hs).mono ?_; rintro e w2 ⟨rfl, rfl⟩
  rw [h.2]
  go_wp2_with fail
  refine (impl_numberOf_Displaced z0 g q A n c X s _ hs (HR.out.b HB.out) h.1).mono ?_; rintro e w3 ⟨rfl, hw⟩
  have HB2 := Lib.hid (HB.out.trans (hw.mono HB.out.size))
  clear hw
  go_wp2_with fail
  go_ret2
  exact ⟨rfl, HB2.out⟩
set_option maxRecDepth 100000 in
set_option maxHeartbeats 2000000 in
theorem impl_numberIn_Displaced_no (z0 z1 z2 : Int) (A : Option Addr) (n c : Nat) (X : Nat → Int) (s : ByteArray) (w : World) (hn : n ≤ 1048576) (hs : s.size ≤ maxLen) (hr : IRow w A n X) (h : ¬ (DiV z0 z1 z2 n X ∧ isKeyB s.data.toList = true)) :
    Calls Try.prog 62 #[.iface 51 (.agg #[.int .i64 z0, .int .i64 z1, .int .i64 z2, .slice A n c]), .string s] w fun e w' => e = .returned (.tuple #[.int .i64 0, .bool false]) ∧ Below w.heap.size w w' := by
  have HR := Lib.hid hr
  clear hr
  by_cases hv : DiV z0 z1 z2 n X
  · have hk : isKeyB s.data.toList = false := by
      cases e : isKeyB s.data.toList
      · rfl
      · exact absurd ⟨hv, e⟩ h
    go_enter Try.func62, Try.ntmps62
    go_wp2_with fail
    refine (impl_isValid_Displaced z0 z1 z2 A n c X _ hn HR.out).mono ?_; rintro e w1 ⟨b, rfl, hb, hw⟩
    obtain rfl : b = true := hb.2 hv
    have HB := Lib.hid hw
    clear hb hw
    go_wp2_with fail
    refine (impl_isKey _ _ hs).mono ?_; rintro e w2 ⟨rfl, rfl⟩
    rw [hk]
    go_wp2_with fail
    go_ret2
    exact ⟨rfl, HB.out⟩
  · go_enter Try.func62, Try.ntmps62
    go_wp2_with fail
    refine (impl_isValid_Displaced z0 z1 z2 A n c X _ hn HR.out).mono ?_; rintro e w1 ⟨b, rfl, hb, hw⟩
    obtain rfl : b = false := by
      cases b
      · rfl
      · exact absurd (hb.1 rfl) hv
    have HB := Lib.hid hw
    clear hb hw
    go_wp2_with fail
    go_ret2
    exact ⟨rfl, HB.out⟩
set_option maxRecDepth 100000 in
set_option maxHeartbeats 1000000 in
theorem impl_SlotOf (z0 z1 z2 : Int) (A : Option Addr) (n c : Nat) (X : Nat → Int) (s : ByteArray) (w : World) (hn : n ≤ 1048576) (hs : s.size ≤ maxLen) (hr : IRow w A n X) (h : DiV z0 z1 z2 n X ∧ isKeyB s.data.toList = true) :
    Calls Try.prog 39 #[.agg #[.int .i64 z0, .int .i64 z1, .int .i64 z2, .slice A n c], .string s] w fun e w' => e = .returned (.tuple #[.int .i64 (slI z0 z1.toNat z2.toNat s X), .bool true]) ∧ Below w.heap.size w w' := by
  have S0 := Lib.hid (BX1.start (cs := #[.int .i64 z0, .int .i64 z1, .int .i64 z2, .slice A n c]) (t := 51) hr)
  have x0 := S0.out.box.cell 0 _ rfl
  have x1 := S0.out.box.cell 1 _ rfl
  have x2 := S0.out.box.cell 2 _ rfl
  have x3 := S0.out.box.cell 3 _ rfl
  clear hr
  go_enter Try.func39, Try.ntmps39
  go_wp2_with fail
  refine (impl_numberIn_Displaced z0 z1 z2 A n c X s _ hn hs S0.out.row h).mono ?_; rintro e w1 ⟨rfl, hw⟩
  have S1 := Lib.hid (S0.out.step hw)
  clear hw
  go_wp2_with fail
  go_ret2
  exact ⟨rfl, S1.out.below⟩
set_option maxRecDepth 100000 in
set_option maxHeartbeats 1000000 in
theorem impl_SlotOf_no (z0 z1 z2 : Int) (A : Option Addr) (n c : Nat) (X : Nat → Int) (s : ByteArray) (w : World) (hn : n ≤ 1048576) (hs : s.size ≤ maxLen) (hr : IRow w A n X) (h : ¬ (DiV z0 z1 z2 n X ∧ isKeyB s.data.toList = true)) :
    Calls Try.prog 39 #[.agg #[.int .i64 z0, .int .i64 z1, .int .i64 z2, .slice A n c], .string s] w fun e w' => e = .returned (.tuple #[.int .i64 0, .bool false]) ∧ Below w.heap.size w w' := by
  have S0 := Lib.hid (BX1.start (cs := #[.int .i64 z0, .int .i64 z1, .int .i64 z2, .slice A n c]) (t := 51) hr)
  have x0 := S0.out.box.cell 0 _ rfl
  have x1 := S0.out.box.cell 1 _ rfl
  have x2 := S0.out.box.cell 2 _ rfl
  have x3 := S0.out.box.cell 3 _ rfl
  clear hr
  go_enter Try.func39, Try.ntmps39
  go_wp2_with fail
  refine (impl_numberIn_Displaced_no z0 z1 z2 A n c X s _ hn hs S0.out.row h).mono ?_; rintro e w1 ⟨rfl, hw⟩
  have S1 := Lib.hid (S0.out.step hw)
  clear hw
  go_wp2_with fail
  go_ret2
  exact ⟨rfl, S1.out.below⟩
set_option maxRecDepth 100000 in
set_option maxHeartbeats 1000000 in
theorem spec_SlotOf (z0 z1 z2 : Int) (A : Option Addr) (n c : Nat) (X : Nat → Int) (s : ByteArray) (w : World) (hn : n ≤ 1048576) (hs : s.size ≤ maxLen) (hr : IRow w A n X) (h : DiV z0 z1 z2 n X ∧ isKeyB s.data.toList = true) :
    Calls Try.prog 38 #[.agg #[.int .i64 z0, .int .i64 z1, .int .i64 z2, .slice A n c], .string s] w fun e w' => e = .returned (.tuple #[.int .i64 (slI z0 z1.toNat z2.toNat s X), .bool true]) ∧ Below w.heap.size w w' := by
  have S0 := Lib.hid (BX1.start (cs := #[.int .i64 z0, .int .i64 z1, .int .i64 z2, .slice A n c]) (t := 51) hr)
  have x0 := S0.out.box.cell 0 _ rfl
  have x1 := S0.out.box.cell 1 _ rfl
  have x2 := S0.out.box.cell 2 _ rfl
  have x3 := S0.out.box.cell 3 _ rfl
  clear hr
  obtain ⟨g, rfl⟩ : ∃ g : Nat, z1 = g := ⟨z1.toNat, by have := h.1.2.1; omega⟩
  obtain ⟨q, rfl⟩ : ∃ q : Nat, z2 = q := ⟨z2.toNat, by have := h.1.2.2.1; omega⟩
  rw [Int.toNat_natCast, Int.toNat_natCast]
  go_enter Try.func38, Try.ntmps38
  go_wp2_with fail
  refine (spec_pfDisplaced z0 g q A n c X _ hn S0.out.row).mono ?_; rintro e w1 ⟨b, rfl, hb, hw⟩
  obtain rfl : b = true := hb.2 h.1
  have S1 := Lib.hid (S0.out.step hw)
  clear hb hw x0 x1 x2 x3 S0
  have x0 := S1.out.box.cell 0 _ rfl
  have x1 := S1.out.box.cell 1 _ rfl
  have x2 := S1.out.box.cell 2 _ rfl
  have x3 := S1.out.box.cell 3 _ rfl
  go_wp2_with fail
  refine (spec_isKey _ _ hs).mono ?_; rintro e w2 ⟨rfl, rfl⟩
  rw [h.2]
  go_wp2_with fail
  refine (spec_pfSlotOf z0 g q A n c X s _ hs S1.out.row h.1).mono ?_; rintro e w3 ⟨rfl, hw⟩
  have S2 := Lib.hid (S1.out.step hw)
  clear hw
  go_wp2_with fail
  go_ret2
  exact ⟨rfl, S2.out.below⟩
set_option maxRecDepth 100000 in
set_option maxHeartbeats 1000000 in
theorem spec_SlotOf_no (z0 z1 z2 : Int) (A : Option Addr) (n c : Nat) (X : Nat → Int) (s : ByteArray) (w : World) (hn : n ≤ 1048576) (hs : s.size ≤ maxLen) (hr : IRow w A n X) (h : ¬ (DiV z0 z1 z2 n X ∧ isKeyB s.data.toList = true)) :
    Calls Try.prog 38 #[.agg #[.int .i64 z0, .int .i64 z1, .int .i64 z2, .slice A n c], .string s] w fun e w' => e = .returned (.tuple #[.int .i64 0, .bool false]) ∧ Below w.heap.size w w' := by
  have S0 := Lib.hid (BX1.start (cs := #[.int .i64 z0, .int .i64 z1, .int .i64 z2, .slice A n c]) (t := 51) hr)
  have x0 := S0.out.box.cell 0 _ rfl
  have x1 := S0.out.box.cell 1 _ rfl
  have x2 := S0.out.box.cell 2 _ rfl
  have x3 := S0.out.box.cell 3 _ rfl
  clear hr
  by_cases hv : DiV z0 z1 z2 n X
  · have hk : isKeyB s.data.toList = false := by
      cases e : isKeyB s.data.toList
      · rfl
      · exact absurd ⟨hv, e⟩ h
    go_enter Try.func38, Try.ntmps38
    go_wp2_with fail
    refine (spec_pfDisplaced z0 z1 z2 A n c X _ hn S0.out.row).mono ?_; rintro e w1 ⟨b, rfl, hb, hw⟩
    obtain rfl : b = true := hb.2 hv
    have S1 := Lib.hid (S0.out.step hw)
    clear hb hw x0 x1 x2 x3 S0
    go_wp2_with fail
    refine (spec_isKey _ _ hs).mono ?_; rintro e w2 ⟨rfl, rfl⟩
    rw [hk]
    go_wp2_with fail
    go_ret2
    exact ⟨rfl, S1.out.below⟩
  · go_enter Try.func38, Try.ntmps38
    go_wp2_with fail
    refine (spec_pfDisplaced z0 z1 z2 A n c X _ hn S0.out.row).mono ?_; rintro e w1 ⟨b, rfl, hb, hw⟩
    obtain rfl : b = false := by
      cases b
      · rfl
      · exact absurd (hb.1 rfl) hv
    have S1 := Lib.hid (S0.out.step hw)
    clear hb hw x0 x1 x2 x3 S0
    go_wp2_with fail
    go_ret2
    exact ⟨rfl, S1.out.below⟩
end Go.Proofs.Ytfhanighnckbhab
