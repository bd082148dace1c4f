/- The value of a table for a key: both sides. -/
import Derived.Test.YtpajbcgdoedleabTaV
import Derived.Test.YtpajbcgdoedleabHypI
import Derived.Test.YtpajbcgdoedleabEhIn
import Derived.Deep.RegionHeld3
namespace Go.Proofs.Ytpajbcgdoedleab
open Go.RowKit

/-- The sum over two elements of the values at m places. -/
def xorN (X E : Nat → Int) : Nat → Nat
  | 0 => 0
  | m + 1 => xorN X E m ^^^ (X (E m).toNat).toNat
theorem xorN_bd {X E : Nat → Int} {n : Nat} (hx : InAll n X 0 255) : ∀ m, (∀ j, j < m → 0 ≤ E j ∧ E j < n) → xorN X E m < 256
  | 0, _ => by simp [xorN]
  | m + 1, he => by
    have h1 := xorN_bd hx m (fun j hj => he j (by omega))
    have h3 := he m (by omega)
    have h4 := hx (E m).toNat (by omega)
    rw [xorN]
    exact Nat.xor_lt_two_pow (n := 8) (by omega) (by omega)
theorem TaV.all {z0 z1 z2 : Int} {n : Nat} {X : Nat → Int} (h : TaV z0 z1 z2 n X) : InAll n X 0 255 := fun i hi => by
  have h1 := h.2.2.2.2 i hi
  have h2 := h.2.2.1
  have h3 : (2 : Int) ^ z2.toNat ≤ 2 ^ 8 := (two_bd (m := z2.toNat) (k := 8) (by omega)).2
  have h4 : (2 : Int) ^ 8 = 256 := by decide
  omega
/-- The value of a table for a key. -/
def taN (z0 : Int) (g : Nat) (s : ByteArray) (X : Nat → Int) : Nat := xorN X (eH z0 g (fun _ => s) 0) 3
theorem xor_i (a : Nat) (x : Int) (ha : a < 256) (hx : 0 ≤ x) (hx2 : x ≤ 255) : bits .xor .i64 (a : Int) x = ((a ^^^ x.toNat : Nat) : Int) := by
  obtain ⟨u, rfl⟩ := Int.eq_ofNat_of_zero_le hx
  rw [Int.toNat_natCast]
  exact i64_xor_nat a u (by omega) (by omega)

set_option maxRecDepth 100000 in
set_option maxHeartbeats 1000000 in
theorem impl_addAt (A : Option Addr) (n c : Nat) (X : Nat → Int) (B : Option Addr) (m d : Nat) (E : Nat → Int) (w : World) (hn : n ≤ 1048576) (hm : m ≤ 3) (hr : IRow w A n X) (he : IRow w B m E) (hx : InAll n X 0 255) (hb : ∀ j, j < m → 0 ≤ E j ∧ E j < n) :
    Calls Try.prog 113 #[.slice A n c, .slice B m d] w fun e w' => e = .returned (.int .i64 (xorN X E m : Nat)) ∧ w = w' := by
  have HR := Lib.hid hr
  have HE := Lib.hid he
  have HX := Lib.hid hx
  have HB := Lib.hid hb
  clear hr he hx hb
  go_enter Try.func113, Try.ntmps113
  go_wp2_with fail
  go_loop [5, 10] (fun s i => ∃ q : Nat, q ≤ m ∧ i = .int .i64 q ∧ s = .int .i64 (xorN X E q : Nat)) (fun _ i => m - (intOf i).toNat)
  case atStart => exact ⟨0, Nat.zero_le _, rfl, rfl⟩
  case round =>
    obtain ⟨q, hq, rfl, rfl⟩ := hrel
    by_cases hlt : q < m
    · obtain ⟨b1, o1, rfl, _, hc1⟩ := HE.out (by omega)
      have hy := hc1 q hlt
      have hEq := HB.out q hlt
      obtain ⟨b2, o2, rfl, _, hc2⟩ := HR.out (by omega)
      have hx := hc2 (E q).toNat (by omega)
      have hsb := xorN_bd HX.out q (fun j hj => HB.out j (by omega))
      have hxq := HX.out (E q).toNat (by omega)
      have hS := Lib.hid ((xor_i (xorN X E q) (X (E q).toNat) hsb hxq.1 hxq.2).trans (show _ = ((xorN X E (q + 1) : Nat) : Int) from rfl))
      obtain ⟨u, hu⟩ : ∃ u : Nat, E q = u := ⟨(E q).toNat, by omega⟩
      rw [hu] at hy hEq hx hxq hS
      rw [Int.toNat_natCast] at hx hxq hS
      generalize hx' : X u = xv at *
      generalize hs' : xorN X E q = sv at *
      have hun : u < n := by omega
      clear hc1 hc2 hu
      go_wp2_with fail
      rw [hS.out]
      go_round
      case rel => exact ⟨q + 1, by omega, by go_num, rfl⟩
      case measure => simp [intOf]; omega
    · obtain rfl : q = m := by omega
      go_wp2_with fail
      go_ret
      exact ⟨rfl, rfl⟩
section
variable {z0 : Int} {g v : Nat} {A : Option Addr} {n c : Nat} {X : Nat → Int} {s : ByteArray} {w : World}
set_option maxRecDepth 100000 in
set_option maxHeartbeats 4000000 in
theorem impl_valueFor (hs : s.size ≤ maxLen) (hr : IRow w A n X) (hv : TaV z0 g v n X) :
    Calls Try.prog 106 #[.agg #[.int .i64 z0, .int .i64 g, .int .i64 v, .slice A n c], .string s] w fun e w' => e = .returned (.int .i64 (taN z0 g s X : Nat)) ∧ Below w.heap.size w w' := by
  have S0 := Lib.hid (BX1.start (cs := #[.int .i64 z0, .int .i64 g, .int .i64 v, .slice A n c]) (t := 57) hr)
  have h1 : 1 ≤ g := by have := hv.2.1; omega
  have h2 : g ≤ 24 := by have := hv.2.1; omega
  have HN := Lib.hid (show n = 3 * g by have := hv.2.2.2.1; omega)
  have hn72 : n ≤ 72 := by have := HN.out; omega
  have HA := Lib.hid hv.all
  have HS := Lib.hid (seedB_dec (decide_eq_true hv.1))
  have HE := Lib.hid (fun j (hj : j < 3) => show 0 ≤ eH z0 g (fun _ => s) 0 j ∧ eH z0 g (fun _ => s) 0 j < (n : Int) from by have := eH_in (seed := z0) (S := fun _ => s) (k := 0) h1 h2 j hj; have := HN.out; omega)
  have x0 := S0.out.box.cell 0 _ rfl
  have x1 := S0.out.box.cell 1 _ rfl
  have x3 := S0.out.box.cell 3 _ rfl
  have HK := Lib.hid (fun (w' : World) (h : Below (w.alloc (.cells #[.int .i64 z0, .int .i64 g, .int .i64 v, .slice A n c] 57)).heap.size (w.alloc (.cells #[.int .i64 z0, .int .i64 g, .int .i64 v, .slice A n c] 57)) w') => (show w'.cell? ⟨w.heap.size, 0, none⟩ = some (.int .i64 z0) ∧ w'.cell? ⟨w.heap.size, 1, none⟩ = some (.int .i64 g) ∧ w'.cell? ⟨w.heap.size, 3, none⟩ = some (.slice A n c) from
    ⟨(S0.out.step h).box.cell 0 _ rfl, (S0.out.step h).box.cell 1 _ rfl, (S0.out.step h).box.cell 3 _ rfl⟩))
  clear hr hv
  go_enter Try.func106, Try.ntmps106
  go_wp2_with fail
  go_region_held3 (fun w' => w'.cell? ⟨w.heap.size, 0, none⟩ = some (.int .i64 z0) ∧ w'.cell? ⟨w.heap.size, 1, none⟩ = some (.int .i64 g) ∧ w'.cell? ⟨w.heap.size, 3, none⟩ = some (.slice A n c))
    (first | with_reducible exact HK.out _ hq1 | (go_keep; done))
    (first
      | (have hqz := hq1; clear hqz; go_at_call 113; refine (impl_addAt A n c X (some ⟨eb, 0, none⟩) 3 3 (eH z0 g (fun _ => s) 0) _ (by omega) (by omega) (S0.out.step hq1).row HEr.out HA.out HE.out).mono ?_; rintro e w2 ⟨rfl, rfl⟩)
      | (go_at_call 122; refine (impl_edgeOf z0 g (fun _ => s) 0 _ hs HS.out h1 h2).mono ?_; rintro e w1 ⟨eb, rfl, _, ho, hq1'⟩; have hq1 := of_drew hq1'; clear hq1'; have HEr := Lib.hid (show IRow w1 (some ⟨eb, 0, none⟩) 3 (eH z0 g (fun _ => s) 0) from ho.row); clear ho))
  have S1 := Lib.hid (S0.out.step hq1)
  clear x0 x1 x3 HK hq1
  go_wp2_with fail
  go_ret
  exact ⟨rfl, S1.out.below⟩
set_option maxRecDepth 100000 in
set_option maxHeartbeats 4000000 in
theorem spec_reValue (hs : s.size ≤ maxLen) (hr : IRow w A n X) (hv : TaV z0 g v n X) :
    Calls Try.prog 104 #[.agg #[.int .i64 z0, .int .i64 g, .int .i64 v, .slice A n c], .string s] w fun e w' => e = .returned (.int .i64 (taN z0 g s X : Nat)) ∧ Below w.heap.size w w' := by
  have S0 := Lib.hid (BX1.start (cs := #[.int .i64 z0, .int .i64 g, .int .i64 v, .slice A n c]) (t := 57) hr)
  have h1 : 1 ≤ g := by have := hv.2.1; omega
  have h2 : g ≤ 24 := by have := hv.2.1; omega
  have HN := Lib.hid (show n = 3 * g by have := hv.2.2.2.1; omega)
  have hn72 : n ≤ 72 := by have := HN.out; omega
  have HX := Lib.hid hv.all
  have HB := Lib.hid (fun j (hj : j < 3) => show 0 ≤ eH z0 g (fun _ => s) 0 j ∧ eH z0 g (fun _ => s) 0 j < (n : Int) from by have := eH_in (seed := z0) (S := fun _ => s) (k := 0) h1 h2 j hj; have := HN.out; omega)
  have x0 := S0.out.box.cell 0 _ rfl
  have x1 := S0.out.box.cell 1 _ rfl
  go_enter Try.func104, Try.ntmps104
  go_wp2_with fail
  refine (spec_peTriple z0 g (fun _ => s) 0 _ hs (seedB_dec (decide_eq_true hv.1)) h1 h2).mono ?_; rintro e w1 ⟨EA, ec, rfl, ho, hb⟩
  have HE := Lib.hid (show IRow w1 EA 3 (eH z0 g (fun _ => s) 0) from (owned_vec ho).row)
  have S1 := Lib.hid (S0.out.step hb)
  have y3 := S1.out.box.cell 3 _ rfl
  have HR := Lib.hid S1.out.row
  clear x0 x1 hb ho S0 hr hv
  have HT := Lib.hid (show taN z0 g s X = xorN X (eH z0 g (fun _ => s) 0) 3 from rfl)
  go_wp2_with fail
  generalize eH z0 g (fun _ => s) 0 = E at *
  go_loop [5, 15] (fun q i => ∃ k : Nat, k ≤ 3 ∧ i = .int .i64 k ∧ q = .int .i64 (xorN X E k : Nat)) (fun _ i => 3 - (intOf i).toNat)
  case atStart => exact ⟨0, Nat.zero_le _, rfl, rfl⟩
  case round =>
    obtain ⟨q, hq, rfl, rfl⟩ := hrel
    by_cases hlt : q < 3
    · obtain ⟨b1, o1, rfl, _, hc1⟩ := HE.out (by omega)
      have hy := hc1 q hlt
      have hEq := HB.out q hlt
      obtain ⟨b2, o2, rfl, _, hc2⟩ := HR.out (by omega)
      have hx := hc2 (E q).toNat (by omega)
      have hsb := xorN_bd HX.out q (fun j hj => HB.out j (by omega))
      have hxq := HX.out (E q).toNat (by omega)
      have hS := Lib.hid ((xor_i (xorN X E q) (X (E q).toNat) hsb hxq.1 hxq.2).trans (show _ = ((xorN X E (q + 1) : Nat) : Int) from rfl))
      obtain ⟨u, hu⟩ : ∃ u : Nat, E q = u := ⟨(E q).toNat, by omega⟩
      rw [hu] at hy hEq hx hxq hS
      rw [Int.toNat_natCast] at hx hxq hS
      generalize hx' : X u = xv at *
      generalize hs' : xorN X E q = sv at *
      have hun : u < n := by omega
      clear hc1 hc2 hu
      go_wp2_with fail
      rw [hS.out]
      go_round
      case rel => exact ⟨q + 1, by omega, by go_num, rfl⟩
      case measure => simp [intOf]; omega
    · obtain rfl : q = 3 := by omega
      go_wp2_with fail
      go_ret
      exact ⟨by rw [HT.out]; rfl, S1.out.below⟩
end
end Go.Proofs.Ytpajbcgdoedleab
