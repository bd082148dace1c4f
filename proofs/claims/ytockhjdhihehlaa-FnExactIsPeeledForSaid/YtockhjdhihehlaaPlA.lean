/- Sums of values at places; the place to which a Peeled leads a key: both sides. -/
import Derived.Test.YtockhjdhihehlaaPeV
import Derived.Test.YtockhjdhihehlaaHypI
namespace Go.Proofs.Ytockhjdhihehlaa
open Go.RowKit

def sumE (X E : Nat → Int) : Nat → Int
  | 0 => 0
  | m + 1 => sumE X E m + X (E m).toNat
theorem sumE_bd {X E : Nat → Int} {n : Nat} {hi : Nat} (hx : InAll n X 0 hi) : ∀ m, (∀ j, j < m → 0 ≤ E j ∧ E j < n) → 0 ≤ sumE X E m ∧ sumE X E m ≤ ((m * hi : Nat) : Int)
  | 0, _ => by simp [sumE]
  | m + 1, he => by
    obtain ⟨h1, h2⟩ := sumE_bd hx m (fun j hj => he j (by omega))
    have h3 := he m (by omega)
    have h4 := hx (E m).toNat (by omega)
    rw [sumE, Nat.succ_mul]
    push_cast at *
    omega
theorem eH_in {seed : Int} {g : Nat} {S : Nat → ByteArray} {k : Nat} (h1 : 1 ≤ g) (h2 : g ≤ 24) : ∀ j, j < 3 → 0 ≤ eH seed g S k j ∧ eH seed g S k j < ((3 * g : Nat) : Int) := fun j hj => by
  obtain ⟨p0, p1, p2, p3⟩ := eH_bd (seed := seed) (S := S) (i := k) h1 h2 hj
  have h5 : eH seed g S k j = placeI seed j (S k).data.toList g + ((j * g : Nat) : Int) := by unfold eH; push_cast; rfl
  rw [h5]
  have h6 : j * g ≤ 2 * g := Nat.mul_le_mul (by omega) (Nat.le_refl _)
  omega
theorem tmod_pos {v : Int} {m : Nat} (h : 0 ≤ v) : v.tmod (m : Int) = ((v.toNat % m : Nat) : Int) := by
  obtain ⟨u, rfl⟩ := Int.eq_ofNat_of_zero_le h
  rfl
/-- The index of the place, and the place to which a key is led. -/
def plJ (seed : Int) (g : Nat) (s : ByteArray) (X : Nat → Int) : Nat := (sumE X (eH seed g (fun _ => s) 0) 3).toNat % 3
def plP (seed : Int) (g : Nat) (s : ByteArray) (X : Nat → Int) : Int := eH seed g (fun _ => s) 0 (plJ seed g s X)
theorem plP_in {seed : Int} {g : Nat} {s : ByteArray} {X : Nat → Int} (h1 : 1 ≤ g) (h2 : g ≤ 24) : 0 ≤ plP seed g s X ∧ plP seed g s X < ((3 * g : Nat) : Int) := eH_in h1 h2 _ (Nat.mod_lt _ (by omega))

set_option maxRecDepth 100000 in
set_option maxHeartbeats 1000000 in
theorem spec_pfSum (A : Option Addr) (n c : Nat) (X : Nat → Int) (B : Option Addr) (m d : Nat) (E : Nat → Int) (hi : Nat) (w : World) (hn : n ≤ 1048576) (hm : m ≤ 3) (hi9 : hi ≤ 1000) (hr : IRow w A n X) (he : IRow w B m E) (hx : InAll n X 0 hi) (hb : ∀ j, j < m → 0 ≤ E j ∧ E j < n) :
    Calls Try.prog 70 #[.slice A n c, .slice B m d] w fun e w' => e = .returned (.int .i64 (sumE X E m)) ∧ w = w' := by
  have HR := Lib.hid hr
  have HE := Lib.hid he
  have HX := Lib.hid hx
  have HB := Lib.hid hb
  clear hr he hx hb
  go_enter Try.func70, Try.ntmps70
  go_wp2_with fail
  go_loop [5, 10] (fun s i => ∃ q : Nat, q ≤ m ∧ i = .int .i64 q ∧ s = .int .i64 (sumE X E q)) (fun _ i => m - (intOf i).toNat)
  case atStart => exact ⟨0, Nat.zero_le _, rfl, rfl⟩
  case round =>
    obtain ⟨q, hq, rfl, rfl⟩ := hrel
    by_cases hlt : q < m
    · obtain ⟨b1, o1, rfl, _, hc1⟩ := HE.out (by omega)
      have hy := hc1 q hlt
      have hEq := HB.out q hlt
      obtain ⟨b2, o2, rfl, _, hc2⟩ := HR.out (by omega)
      have hx := hc2 (E q).toNat (by omega)
      have hsb := sumE_bd HX.out q (fun j hj => HB.out j (by omega))
      have hxq := HX.out (E q).toNat (by omega)
      have hS := Lib.hid (show sumE X E (q + 1) = sumE X E q + X (E q).toNat from rfl)
      have h9 : q * hi ≤ 2 * 1000 := Nat.mul_le_mul (by omega) hi9
      obtain ⟨u, hu⟩ : ∃ u : Nat, E q = u := ⟨(E q).toNat, by omega⟩
      rw [hu] at hy hEq hx hxq hS
      rw [Int.toNat_natCast] at hx hxq hS
      generalize hx' : X u = xv at *
      generalize hs' : sumE X E q = sv at *
      have hun : u < n := by omega
      clear hc1 hc2 hu
      go_wp2_with fail
      go_round
      case rel => exact ⟨q + 1, by omega, by go_num, by rw [hS.out]⟩
      case measure => simp [intOf]; omega
    · obtain rfl : q = m := by omega
      go_wp2_with fail
      go_ret
      exact ⟨rfl, rfl⟩
set_option maxRecDepth 100000 in
set_option maxHeartbeats 1000000 in
theorem impl_sumAt (A : Option Addr) (n c : Nat) (X : Nat → Int) (B : Option Addr) (m d : Nat) (E : Nat → Int) (hi : Nat) (w : World) (hn : n ≤ 1048576) (hm : m ≤ 3) (hi9 : hi ≤ 1000) (hr : IRow w A n X) (he : IRow w B m E) (hx : InAll n X 0 hi) (hb : ∀ j, j < m → 0 ≤ E j ∧ E j < n) :
    Calls Try.prog 118 #[.slice A n c, .slice B m d] w fun e w' => e = .returned (.int .i64 (sumE X E m)) ∧ w = w' := by
  have HR := Lib.hid hr
  have HE := Lib.hid he
  have HX := Lib.hid hx
  have HB := Lib.hid hb
  clear hr he hx hb
  go_enter Try.func118, Try.ntmps118
  go_wp2_with fail
  go_loop [5, 10] (fun s i => ∃ q : Nat, q ≤ m ∧ i = .int .i64 q ∧ s = .int .i64 (sumE X E q)) (fun _ i => m - (intOf i).toNat)
  case atStart => exact ⟨0, Nat.zero_le _, rfl, rfl⟩
  case round =>
    obtain ⟨q, hq, rfl, rfl⟩ := hrel
    by_cases hlt : q < m
    · obtain ⟨b1, o1, rfl, _, hc1⟩ := HE.out (by omega)
      have hy := hc1 q hlt
      have hEq := HB.out q hlt
      obtain ⟨b2, o2, rfl, _, hc2⟩ := HR.out (by omega)
      have hx := hc2 (E q).toNat (by omega)
      have hsb := sumE_bd HX.out q (fun j hj => HB.out j (by omega))
      have hxq := HX.out (E q).toNat (by omega)
      have hS := Lib.hid (show sumE X E (q + 1) = sumE X E q + X (E q).toNat from rfl)
      have h9 : q * hi ≤ 2 * 1000 := Nat.mul_le_mul (by omega) hi9
      obtain ⟨u, hu⟩ : ∃ u : Nat, E q = u := ⟨(E q).toNat, by omega⟩
      rw [hu] at hy hEq hx hxq hS
      rw [Int.toNat_natCast] at hx hxq hS
      generalize hx' : X u = xv at *
      generalize hs' : sumE X E q = sv at *
      have hun : u < n := by omega
      clear hc1 hc2 hu
      go_wp2_with fail
      go_round
      case rel => exact ⟨q + 1, by omega, by go_num, by rw [hS.out]⟩
      case measure => simp [intOf]; omega
    · obtain rfl : q = m := by omega
      go_wp2_with fail
      go_ret
      exact ⟨rfl, rfl⟩
set_option maxRecDepth 100000 in
set_option maxHeartbeats 1000000 in
theorem spec_pfPlace (z0 : Int) (g : Nat) (A : Option Addr) (n c : Nat) (X : Nat → Int) (s : ByteArray) (w : World) (hs : s.size ≤ maxLen) (hr : IRow w A n X) (hv : PeV z0 g n X) :
    Calls Try.prog 65 #[.agg #[.int .i64 z0, .int .i64 g, .slice A n c], .string s] w fun e w' => e = .returned (.int .i64 (plP z0 g s X)) ∧ Below w.heap.size w w' := by
  have S0 := Lib.hid (BX1.start (cs := #[.int .i64 z0, .int .i64 g, .slice A n c]) (t := 30) hr)
  have h1 : 1 ≤ g := by have := hv.2.1; omega
  have h2 : g ≤ 24 := by have := hv.2.1; omega
  have HN := Lib.hid (show n = 3 * g by have := hv.2.2.1; omega)
  have hn72 : n ≤ 72 := by have := HN.out; omega
  have HA := Lib.hid (show InAll n X 0 (3 : Nat) from hv.2.2.2)
  have x0 := S0.out.box.cell 0 _ rfl
  have x1 := S0.out.box.cell 1 _ rfl
  clear hr
  go_enter Try.func65, Try.ntmps65
  go_wp2_with fail
  refine (spec_peTriple z0 g (fun _ => s) 0 _ hs (seedB_dec (decide_eq_true hv.1)) h1 h2).mono ?_; rintro e w1 ⟨EA, ec, rfl, ho, hb⟩
  have HEr := Lib.hid (show IRow w1 EA 3 (eH z0 g (fun _ => s) 0) from (owned_vec ho).row)
  have S1 := Lib.hid (S0.out.step hb)
  have y2 := S1.out.box.cell 2 _ rfl
  clear x0 x1 hb ho S0
  go_wp2_with fail
  refine (spec_pfSum A n c X EA 3 ec (eH z0 g (fun _ => s) 0) 3 _ (by omega) (by omega) (by omega) S1.out.row HEr.out HA.out (fun j hj => by have := eH_in (seed := z0) (S := fun _ => s) (k := 0) h1 h2 j hj; have := HN.out; omega)).mono ?_; rintro e w2 ⟨rfl, rfl⟩
  have hb3 : 0 ≤ sumE X (eH z0 g (fun _ => s) 0) 3 ∧ sumE X (eH z0 g (fun _ => s) 0) 3 ≤ ((3 * 3 : Nat) : Int) := sumE_bd HA.out 3 (fun j hj => by have := eH_in (seed := z0) (S := fun _ => s) (k := 0) h1 h2 j hj; have := HN.out; omega)
  have hj3 : plJ z0 g s X < 3 := Nat.mod_lt _ (by omega)
  have HP := Lib.hid (show plP z0 g s X = eH z0 g (fun _ => s) 0 (plJ z0 g s X) from rfl)
  have hrem : (sumE X (eH z0 g (fun _ => s) 0) 3).tmod 3 = ((plJ z0 g s X : Nat) : Int) := tmod_pos (m := 3) hb3.1
  obtain ⟨b, off, he1, _, hce⟩ := HEr.out (by omega)
  have hcp := hce (plJ z0 g s X) hj3
  subst he1
  rw [← HP.out] at hcp
  generalize plJ z0 g s X = r at *
  generalize sumE X (eH z0 g (fun _ => s) 0) 3 = sv at *
  generalize hpv : plP z0 g s X = pv at *
  clear hce
  go_wp2_with fail
  go_ret
  exact ⟨by rw [hpv]; rfl, S1.out.below⟩
set_option maxRecDepth 100000 in
set_option maxHeartbeats 1000000 in
theorem impl_placeFor (z0 : Int) (g : Nat) (A : Option Addr) (n c : Nat) (X : Nat → Int) (s : ByteArray) (w : World) (hs : s.size ≤ maxLen) (hr : IRow w A n X) (hv : PeV z0 g n X) :
    Calls Try.prog 116 #[.agg #[.int .i64 z0, .int .i64 g, .slice A n c], .string s] w fun e w' => e = .returned (.int .i64 (plP z0 g s X)) ∧ Below w.heap.size w w' := by
  have S0 := Lib.hid (BX1.start (cs := #[.int .i64 z0, .int .i64 g, .slice A n c]) (t := 30) hr)
  have h1 : 1 ≤ g := by have := hv.2.1; omega
  have h2 : g ≤ 24 := by have := hv.2.1; omega
  have HN := Lib.hid (show n = 3 * g by have := hv.2.2.1; omega)
  have hn72 : n ≤ 72 := by have := HN.out; omega
  have HA := Lib.hid (show InAll n X 0 (3 : Nat) from hv.2.2.2)
  have x0 := S0.out.box.cell 0 _ rfl
  have x1 := S0.out.box.cell 1 _ rfl
  clear hr
  go_enter Try.func116, Try.ntmps116
  go_wp2_with fail
  refine (impl_edgeOf z0 g (fun _ => s) 0 _ hs (seedB_dec (decide_eq_true hv.1)) h1 h2).mono ?_; rintro e w1 ⟨eb, rfl, _, ho, hb⟩
  have HEr := Lib.hid (show IRow w1 (some ⟨eb, 0, none⟩) 3 (eH z0 g (fun _ => s) 0) from ho.row)
  have S1 := Lib.hid (S0.out.step hb)
  have y2 := S1.out.box.cell 2 _ rfl
  clear x0 x1 hb ho S0
  go_wp2_with fail
  refine (impl_sumAt A n c X (some ⟨eb, 0, none⟩) 3 3 (eH z0 g (fun _ => s) 0) 3 _ (by omega) (by omega) (by omega) S1.out.row HEr.out HA.out (fun j hj => by have := eH_in (seed := z0) (S := fun _ => s) (k := 0) h1 h2 j hj; have := HN.out; omega)).mono ?_; rintro e w2 ⟨rfl, rfl⟩
  have hb3 : 0 ≤ sumE X (eH z0 g (fun _ => s) 0) 3 ∧ sumE X (eH z0 g (fun _ => s) 0) 3 ≤ ((3 * 3 : Nat) : Int) := sumE_bd HA.out 3 (fun j hj => by have := eH_in (seed := z0) (S := fun _ => s) (k := 0) h1 h2 j hj; have := HN.out; omega)
  have hj3 : plJ z0 g s X < 3 := Nat.mod_lt _ (by omega)
  have HP := Lib.hid (show plP z0 g s X = eH z0 g (fun _ => s) 0 (plJ z0 g s X) from rfl)
  have hrem : (sumE X (eH z0 g (fun _ => s) 0) 3).tmod 3 = ((plJ z0 g s X : Nat) : Int) := tmod_pos (m := 3) hb3.1
  obtain ⟨b, off, he1, _, hce⟩ := HEr.out (by omega)
  have hcp := hce (plJ z0 g s X) hj3
  injection he1 with he1; injection he1 with he1 he2; subst he1 he2; rw [Nat.zero_add] at hcp
  rw [← HP.out] at hcp
  generalize plJ z0 g s X = r at *
  generalize sumE X (eH z0 g (fun _ => s) 0) 3 = sv at *
  generalize hpv : plP z0 g s X = pv at *
  clear hce
  go_wp2_with fail
  go_ret
  exact ⟨by rw [hpv]; rfl, S1.out.below⟩
end Go.Proofs.Ytockhjdhihehlaa
