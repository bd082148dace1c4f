/- Several texts in one: ObjPe, EhIn, Sum3, TaW, HypO, PeelK, OwnPl, ObjPS, PelO, PkI, TpM, WnP, SeF, BackI, RndH, SeP, RepI, TaO, PdI, PdS, ExactBuildPeeledWalk. -/
import Derived.Test.YtijlpbcgkecinabObjTch
import Derived.Test.YtijlpbcgkecinabHypM
import Derived.Test.YtijlpbcgkecinabHypI
import Derived.Test.YtijlpbcgkecinabTaV
import Derived.Deep.RegionHeld3
import Derived.Test.YtijlpbcgkecinabPeelN
import Derived.Test.YtijlpbcgkecinabObjSS
import Derived.Test.YtijlpbcgkecinabPush
import Derived.OrdersHeld
import Derived.Deep.RegionHeld
import Derived.RangeFuncNested
import Derived.RangeFuncBound
import Derived.RangeFuncCalls
import Derived.RangeFuncLeaves
import Derived.Shelf.Abstract
import Derived.Shelf.RegionOpen
import Derived.WalkKit
import Derived.OwnWalkIn
import Derived.TacticsInMore
import Derived.LoopNIn
import Derived.LoopIn
import Derived.Test.YtijlpbcgkecinabGen
import Derived.Test.YtijlpbcgkecinabObj
import Derived.Test.YtijlpbcgkecinabGrow

/- The laws' small functions on Peeled. -/
namespace Go.Proofs.Ytijlpbcgkecinab
open Go.RowKit

set_option maxRecDepth 100000 in
set_option maxHeartbeats 2000000 in
theorem eq_Peeled {z0 : Int} {z1 : Int} {n2 : Nat} {X2 : Nat → Int} {A2 : Option Addr} {c2 : Nat} {dA2 : Option Addr} {dc2 : Nat} {w : World} (hn2 : n2 ≤ 1048576) (hx2 : GRow w A2 n2 (intV X2)) (hy2 : GRow w dA2 n2 (intV X2)) :
    Calls Try.prog 39 #[.agg #[.int .i64 z0, .int .i64 z1, .slice A2 n2 c2], .agg #[.int .i64 z0, .int .i64 z1, .slice dA2 n2 dc2]] w (SameRow w true) := by
  have FB := Lib.hid (((At.start w).alloc (.cells #[.int .i64 z0, .int .i64 z1, .slice A2 n2 c2] 57)).alloc (.cells #[.int .i64 z0, .int .i64 z1, .slice dA2 n2 dc2] 57))
  have P2 := Lib.hid (((rd_of_row hx2).alloc (.cells #[.int .i64 z0, .int .i64 z1, .slice A2 n2 c2] 57)).alloc (.cells #[.int .i64 z0, .int .i64 z1, .slice dA2 n2 dc2] 57))
  have Q2 := Lib.hid (((rd_of_row hy2).alloc (.cells #[.int .i64 z0, .int .i64 z1, .slice A2 n2 c2] 57)).alloc (.cells #[.int .i64 z0, .int .i64 z1, .slice dA2 n2 dc2] 57))
  have BX := Lib.hid ((boxed w #[.int .i64 z0, .int .i64 z1, .slice A2 n2 c2] 57).alloc (.cells #[.int .i64 z0, .int .i64 z1, .slice dA2 n2 dc2] 57))
  have BY := Lib.hid (boxed_at (w.alloc (.cells #[.int .i64 z0, .int .i64 z1, .slice A2 n2 c2] 57)) (w.heap.size + 1) (by simp) #[.int .i64 z0, .int .i64 z1, .slice dA2 n2 dc2] 57)
  clear hx2 hy2
  go_enter Try.func39, Try.ntmps39
  go_wp2_with fail
  refine (eq_IntS hn2 P2.out.row Q2.out.row).mono ?_; rintro e w1 ⟨rfl, hb⟩
  replace FB := Lib.hid (FB.out.b hb)
  replace P2 := Lib.hid (P2.out.b hb)
  replace Q2 := Lib.hid (Q2.out.b hb)
  replace BX := Lib.hid (BX.out.b hb)
  replace BY := Lib.hid (BY.out.b hb)
  have z_w1 : w.heap.size + 2 ≤ w1.heap.size := by have hsz := hb.size; first | omega | (simp at hsz; omega)
  clear hb
  go_wp2_with fail
  go_ret
  exact ⟨rfl, FB.out.now⟩

set_option maxRecDepth 100000 in
set_option maxHeartbeats 2000000 in
theorem markF_Peeled {z0 : Int} {z1 : Int} {n2 : Nat} {X2 : Nat → Int} {A2 : Option Addr} {c2 : Nat} {lo hi : Nat} {k0 : Int} {w : World} (hn2 : n2 ≤ 1048576) (hx2 : Ow lo hi 3 A2 n2 (intV X2) w) (ht : hi ≤ w.heap.size)  (h0 : 1 ≤ k0) (h1 : k0 ≤ 8388608) :
    Calls Try.prog 40 #[.agg #[.int .i64 z0, .int .i64 z1, .slice A2 n2 c2], .int .i64 k0] w fun e w' => e = .returned (.int .i64 (k0 + (n2 : Int))) ∧ Ow lo hi 3 A2 n2 (intV fun i => k0 + i) w' ∧ Tch (fun k => Blk n2 A2 k) w w' := by
  have P2 := Lib.hid (At.alloc ⟨hx2, ht, Ow.lives _ _ _ _ _ _⟩ (.cells #[.int .i64 z0, .int .i64 z1, .slice A2 n2 c2] 57))
  have BX := Lib.hid (boxed w #[.int .i64 z0, .int .i64 z1, .slice A2 n2 c2] 57)
  have HT := Lib.hid ((Tch.refl (fun k => Blk n2 A2 k) w).alloc (.cells #[.int .i64 z0, .int .i64 z1, .slice A2 n2 c2] 57))
  have hb2 : ∀ k, Blk n2 A2 k → k < w.heap.size := fun k h => Nat.lt_of_lt_of_le (hx2.blk_lt h).2 ht
  clear hx2
  go_enter Try.func40, Try.ntmps40
  go_wp2_with fail
  refine (markF_IntS hn2 P2.out.now P2.out.top (by omega) (by omega)).mono ?_; rintro e v0 ⟨rfl, hm2, ht0⟩
  replace P2 := Lib.hid (At.mk hm2 (Nat.le_trans P2.out.top ht0.size) (Ow.lives _ _ _ _ _ _))
  replace BX := Lib.hid (BX.out.tch ht0 (fun k h1 h2 h3 => by first | (have := hb2 k h3; omega)))
  replace HT := Lib.hid (HT.out.trans (ht0.mono (fun k h => by simp [h])))
  clear ht0 hm2
  go_wp2_with fail
  go_ret
  exact ⟨rfl, P2.out.now, HT.out⟩

theorem mark_Peeled {z0 : Int} {z1 : Int} {n2 : Nat} {X2 : Nat → Int} {A2 : Option Addr} {c2 : Nat} {lo hi : Nat} {k0 : Int} {w : World} (hn2 : n2 ≤ 1048576) (hx2 : Ow lo hi 3 A2 n2 (intV X2) w) (ht : hi ≤ w.heap.size)  (h0 : 1 ≤ k0) (h1 : k0 ≤ 8388608) :
    Calls Try.prog 40 #[.agg #[.int .i64 z0, .int .i64 z1, .slice A2 n2 c2], .int .i64 k0] w fun e w' => e = .returned (.int .i64 (k0 + (n2 : Int))) ∧ Ow lo hi 3 A2 n2 (intV fun i => k0 + i) w' ∧ Only lo hi w w' := by
  refine (markF_Peeled hn2 hx2 ht  h0 h1).mono ?_
  rintro e w' ⟨he, hm2, htch⟩
  exact ⟨he, hm2, htch.only (fun k h => by rcases h with h <;> first | exact hx2.blk_lt h)⟩

set_option maxRecDepth 100000 in
set_option maxHeartbeats 2000000 in
theorem held_Peeled {z0 : Int} {z1 : Int} {n2 : Nat} {A2 : Option Addr} {c2 : Nat} {k0 : Int} {w : World} (hn2 : n2 ≤ 1048576) (hx2 : GRow w A2 n2 (intV fun i => k0 + i)) (h0 : 1 ≤ k0) (h1 : k0 ≤ 8388608) :
    Calls Try.prog 41 #[.agg #[.int .i64 z0, .int .i64 z1, .slice A2 n2 c2], .int .i64 k0] w fun e w' => e = .returned (.int .i64 (k0 + (n2 : Int))) ∧ Below w.heap.size w w' := by
  have FB := Lib.hid ((At.start w).alloc (.cells #[.int .i64 z0, .int .i64 z1, .slice A2 n2 c2] 57))
  have P2 := Lib.hid ((rd_of_row hx2).alloc (.cells #[.int .i64 z0, .int .i64 z1, .slice A2 n2 c2] 57))
  have BX := Lib.hid (boxed w #[.int .i64 z0, .int .i64 z1, .slice A2 n2 c2] 57)
  clear hx2
  go_enter Try.func41, Try.ntmps41
  go_wp2_with fail
  refine (held_IntS hn2 P2.out.row (by omega) (by omega)).mono ?_; rintro e w1 ⟨rfl, hb⟩
  replace FB := Lib.hid (FB.out.b hb)
  replace P2 := Lib.hid (P2.out.b hb)
  replace BX := Lib.hid (BX.out.b hb)
  have z_w1 : w.heap.size + 1 ≤ w1.heap.size := by have hsz := hb.size; first | omega | (simp at hsz; omega)
  clear hb
  go_wp2_with fail
  go_ret
  exact ⟨rfl, FB.out.now⟩

end Go.Proofs.Ytijlpbcgkecinab

/- The places of a key lie below three segments. -/
namespace Go.Proofs.Ytijlpbcgkecinab
open Go.RowKit

theorem eH_in {seed : Int} {g : Nat} {S : Nat → ByteArray} {k : Nat} (h1 : 1 ≤ g) (h2 : g ≤ 24) : ∀ j, j < 3 → 0 ≤ eH seed g S k j ∧ eH seed g S k j < ((3 * g : Nat) : Int) := fun j hj => by
  obtain ⟨p0, p1, p2, p3⟩ := eH_bd (seed := seed) (S := S) (i := k) h1 h2 hj
  have h5 : eH seed g S k j = placeI seed j (S k).data.toList g + ((j * g : Nat) : Int) := by unfold eH; push_cast; rfl
  rw [h5]
  have h6 : j * g ≤ 2 * g := Nat.mul_le_mul (by omega) (Nat.le_refl _)
  omega
end Go.Proofs.Ytijlpbcgkecinab

/- Sums of values at places: both sides. -/
namespace Go.Proofs.Ytijlpbcgkecinab
open Go.RowKit

def sumE (X E : Nat → Int) : Nat → Int
  | 0 => 0
  | m + 1 => sumE X E m + X (E m).toNat
theorem sumE_bd {X E : Nat → Int} {n : Nat} {hi : Nat} (hx : InAll n X 0 hi) : ∀ m, (∀ j, j < m → 0 ≤ E j ∧ E j < n) → 0 ≤ sumE X E m ∧ sumE X E m ≤ ((m * hi : Nat) : Int)
  | 0, _ => by simp [sumE]
  | m + 1, he => by
    obtain ⟨h1, h2⟩ := sumE_bd hx m (fun j hj => he j (by omega))
    have h3 := he m (by omega)
    have h4 := hx (E m).toNat (by omega)
    rw [sumE, Nat.succ_mul]
    push_cast at *
    omega
theorem tmod_pos {v : Int} {m : Nat} (h : 0 ≤ v) : v.tmod (m : Int) = ((v.toNat % m : Nat) : Int) := by
  obtain ⟨u, rfl⟩ := Int.eq_ofNat_of_zero_le h
  rfl
set_option maxRecDepth 100000 in
set_option maxHeartbeats 1000000 in
theorem spec_pfSum (A : Option Addr) (n c : Nat) (X : Nat → Int) (B : Option Addr) (m d : Nat) (E : Nat → Int) (hi : Nat) (w : World) (hn : n ≤ 1048576) (hm : m ≤ 3) (hi9 : hi ≤ 1000) (hr : IRow w A n X) (he : IRow w B m E) (hx : InAll n X 0 hi) (hb : ∀ j, j < m → 0 ≤ E j ∧ E j < n) :
    Calls Try.prog 68 #[.slice A n c, .slice B m d] w fun e w' => e = .returned (.int .i64 (sumE X E m)) ∧ w = w' := by
  have HR := Lib.hid hr
  have HE := Lib.hid he
  have HX := Lib.hid hx
  have HB := Lib.hid hb
  clear hr he hx hb
  go_enter Try.func68, Try.ntmps68
  go_wp2_with fail
  go_loop [5, 10] (fun s i => ∃ q : Nat, q ≤ m ∧ i = .int .i64 q ∧ s = .int .i64 (sumE X E q)) (fun _ i => m - (intOf i).toNat)
  case atStart => exact ⟨0, Nat.zero_le _, rfl, rfl⟩
  case round =>
    obtain ⟨q, hq, rfl, rfl⟩ := hrel
    by_cases hlt : q < m
    · obtain ⟨b1, o1, rfl, _, hc1⟩ := HE.out (by omega)
      have hy := hc1 q hlt
      have hEq := HB.out q hlt
      obtain ⟨b2, o2, rfl, _, hc2⟩ := HR.out (by omega)
      have hx := hc2 (E q).toNat (by omega)
      have hsb := sumE_bd HX.out q (fun j hj => HB.out j (by omega))
      have hxq := HX.out (E q).toNat (by omega)
      have hS := Lib.hid (show sumE X E (q + 1) = sumE X E q + X (E q).toNat from rfl)
      have h9 : q * hi ≤ 2 * 1000 := Nat.mul_le_mul (by omega) hi9
      obtain ⟨u, hu⟩ : ∃ u : Nat, E q = u := ⟨(E q).toNat, by omega⟩
      rw [hu] at hy hEq hx hxq hS
      rw [Int.toNat_natCast] at hx hxq hS
      generalize hx' : X u = xv at *
      generalize hs' : sumE X E q = sv at *
      have hun : u < n := by omega
      clear hc1 hc2 hu
      go_wp2_with fail
      go_round
      case rel => exact ⟨q + 1, by omega, by go_num, by rw [hS.out]⟩
      case measure => simp [intOf]; omega
    · obtain rfl : q = m := by omega
      go_wp2_with fail
      go_ret
      exact ⟨rfl, rfl⟩
set_option maxRecDepth 100000 in
set_option maxHeartbeats 1000000 in
theorem impl_sumAt (A : Option Addr) (n c : Nat) (X : Nat → Int) (B : Option Addr) (m d : Nat) (E : Nat → Int) (hi : Nat) (w : World) (hn : n ≤ 1048576) (hm : m ≤ 3) (hi9 : hi ≤ 1000) (hr : IRow w A n X) (he : IRow w B m E) (hx : InAll n X 0 hi) (hb : ∀ j, j < m → 0 ≤ E j ∧ E j < n) :
    Calls Try.prog 92 #[.slice A n c, .slice B m d] w fun e w' => e = .returned (.int .i64 (sumE X E m)) ∧ w = w' := by
  have HR := Lib.hid hr
  have HE := Lib.hid he
  have HX := Lib.hid hx
  have HB := Lib.hid hb
  clear hr he hx hb
  go_enter Try.func92, Try.ntmps92
  go_wp2_with fail
  go_loop [5, 10] (fun s i => ∃ q : Nat, q ≤ m ∧ i = .int .i64 q ∧ s = .int .i64 (sumE X E q)) (fun _ i => m - (intOf i).toNat)
  case atStart => exact ⟨0, Nat.zero_le _, rfl, rfl⟩
  case round =>
    obtain ⟨q, hq, rfl, rfl⟩ := hrel
    by_cases hlt : q < m
    · obtain ⟨b1, o1, rfl, _, hc1⟩ := HE.out (by omega)
      have hy := hc1 q hlt
      have hEq := HB.out q hlt
      obtain ⟨b2, o2, rfl, _, hc2⟩ := HR.out (by omega)
      have hx := hc2 (E q).toNat (by omega)
      have hsb := sumE_bd HX.out q (fun j hj => HB.out j (by omega))
      have hxq := HX.out (E q).toNat (by omega)
      have hS := Lib.hid (show sumE X E (q + 1) = sumE X E q + X (E q).toNat from rfl)
      have h9 : q * hi ≤ 2 * 1000 := Nat.mul_le_mul (by omega) hi9
      obtain ⟨u, hu⟩ : ∃ u : Nat, E q = u := ⟨(E q).toNat, by omega⟩
      rw [hu] at hy hEq hx hxq hS
      rw [Int.toNat_natCast] at hx hxq hS
      generalize hx' : X u = xv at *
      generalize hs' : sumE X E q = sv at *
      have hun : u < n := by omega
      clear hc1 hc2 hu
      go_wp2_with fail
      go_round
      case rel => exact ⟨q + 1, by omega, by go_num, by rw [hS.out]⟩
      case measure => simp [intOf]; omega
    · obtain rfl : q = m := by omega
      go_wp2_with fail
      go_ret
      exact ⟨rfl, rfl⟩
end Go.Proofs.Ytijlpbcgkecinab

/- The value of a table for a key: both sides. -/
namespace Go.Proofs.Ytijlpbcgkecinab
open Go.RowKit

/-- The sum over two elements of the values at m places. -/
def xorN (X E : Nat → Int) : Nat → Nat
  | 0 => 0
  | m + 1 => xorN X E m ^^^ (X (E m).toNat).toNat
theorem xorN_bd {X E : Nat → Int} {n : Nat} (hx : InAll n X 0 255) : ∀ m, (∀ j, j < m → 0 ≤ E j ∧ E j < n) → xorN X E m < 256
  | 0, _ => by simp [xorN]
  | m + 1, he => by
    have h1 := xorN_bd hx m (fun j hj => he j (by omega))
    have h3 := he m (by omega)
    have h4 := hx (E m).toNat (by omega)
    rw [xorN]
    exact Nat.xor_lt_two_pow (n := 8) (by omega) (by omega)
theorem TaV.all {z0 z1 z2 : Int} {n : Nat} {X : Nat → Int} (h : TaV z0 z1 z2 n X) : InAll n X 0 255 := fun i hi => by
  have h1 := h.2.2.2.2 i hi
  have h2 := h.2.2.1
  have h3 : (2 : Int) ^ z2.toNat ≤ 2 ^ 8 := (two_bd (m := z2.toNat) (k := 8) (by omega)).2
  have h4 : (2 : Int) ^ 8 = 256 := by decide
  omega
/-- The value of a table for a key. -/
def taN (z0 : Int) (g : Nat) (s : ByteArray) (X : Nat → Int) : Nat := xorN X (eH z0 g (fun _ => s) 0) 3
theorem xor_i (a : Nat) (x : Int) (ha : a < 256) (hx : 0 ≤ x) (hx2 : x ≤ 255) : bits .xor .i64 (a : Int) x = ((a ^^^ x.toNat : Nat) : Int) := by
  obtain ⟨u, rfl⟩ := Int.eq_ofNat_of_zero_le hx
  rw [Int.toNat_natCast]
  exact i64_xor_nat a u (by omega) (by omega)

set_option maxRecDepth 100000 in
set_option maxHeartbeats 1000000 in
theorem impl_addAt (A : Option Addr) (n c : Nat) (X : Nat → Int) (B : Option Addr) (m d : Nat) (E : Nat → Int) (w : World) (hn : n ≤ 1048576) (hm : m ≤ 3) (hr : IRow w A n X) (he : IRow w B m E) (hx : InAll n X 0 255) (hb : ∀ j, j < m → 0 ≤ E j ∧ E j < n) :
    Calls Try.prog 62 #[.slice A n c, .slice B m d] w fun e w' => e = .returned (.int .i64 (xorN X E m : Nat)) ∧ w = w' := by
  have HR := Lib.hid hr
  have HE := Lib.hid he
  have HX := Lib.hid hx
  have HB := Lib.hid hb
  clear hr he hx hb
  go_enter Try.func62, Try.ntmps62
  go_wp2_with fail
  go_loop [5, 10] (fun s i => ∃ q : Nat, q ≤ m ∧ i = .int .i64 q ∧ s = .int .i64 (xorN X E q : Nat)) (fun _ i => m - (intOf i).toNat)
  case atStart => exact ⟨0, Nat.zero_le _, rfl, rfl⟩
  case round =>
    obtain ⟨q, hq, rfl, rfl⟩ := hrel
    by_cases hlt : q < m
    · obtain ⟨b1, o1, rfl, _, hc1⟩ := HE.out (by omega)
      have hy := hc1 q hlt
      have hEq := HB.out q hlt
      obtain ⟨b2, o2, rfl, _, hc2⟩ := HR.out (by omega)
      have hx := hc2 (E q).toNat (by omega)
      have hsb := xorN_bd HX.out q (fun j hj => HB.out j (by omega))
      have hxq := HX.out (E q).toNat (by omega)
      have hS := Lib.hid ((xor_i (xorN X E q) (X (E q).toNat) hsb hxq.1 hxq.2).trans (show _ = ((xorN X E (q + 1) : Nat) : Int) from rfl))
      obtain ⟨u, hu⟩ : ∃ u : Nat, E q = u := ⟨(E q).toNat, by omega⟩
      rw [hu] at hy hEq hx hxq hS
      rw [Int.toNat_natCast] at hx hxq hS
      generalize hx' : X u = xv at *
      generalize hs' : xorN X E q = sv at *
      have hun : u < n := by omega
      clear hc1 hc2 hu
      go_wp2_with fail
      rw [hS.out]
      go_round
      case rel => exact ⟨q + 1, by omega, by go_num, rfl⟩
      case measure => simp [intOf]; omega
    · obtain rfl : q = m := by omega
      go_wp2_with fail
      go_ret
      exact ⟨rfl, rfl⟩
section
variable {z0 : Int} {g v : Nat} {A : Option Addr} {n c : Nat} {X : Nat → Int} {s : ByteArray} {w : World}
set_option maxRecDepth 100000 in
set_option maxHeartbeats 4000000 in
theorem impl_valueFor (hs : s.size ≤ maxLen) (hr : IRow w A n X) (hv : TaV z0 g v n X) :
    Calls Try.prog 50 #[.agg #[.int .i64 z0, .int .i64 g, .int .i64 v, .slice A n c], .string s] w fun e w' => e = .returned (.int .i64 (taN z0 g s X : Nat)) ∧ Below w.heap.size w w' := by
  have S0 := Lib.hid (BX1.start (cs := #[.int .i64 z0, .int .i64 g, .int .i64 v, .slice A n c]) (t := 27) hr)
  have h1 : 1 ≤ g := by have := hv.2.1; omega
  have h2 : g ≤ 24 := by have := hv.2.1; omega
  have HN := Lib.hid (show n = 3 * g by have := hv.2.2.2.1; omega)
  have hn72 : n ≤ 72 := by have := HN.out; omega
  have HA := Lib.hid hv.all
  have HS := Lib.hid (seedB_dec (decide_eq_true hv.1))
  have HE := Lib.hid (fun j (hj : j < 3) => show 0 ≤ eH z0 g (fun _ => s) 0 j ∧ eH z0 g (fun _ => s) 0 j < (n : Int) from by have := eH_in (seed := z0) (S := fun _ => s) (k := 0) h1 h2 j hj; have := HN.out; omega)
  have x0 := S0.out.box.cell 0 _ rfl
  have x1 := S0.out.box.cell 1 _ rfl
  have x3 := S0.out.box.cell 3 _ rfl
  have HK := Lib.hid (fun (w' : World) (h : Below (w.alloc (.cells #[.int .i64 z0, .int .i64 g, .int .i64 v, .slice A n c] 27)).heap.size (w.alloc (.cells #[.int .i64 z0, .int .i64 g, .int .i64 v, .slice A n c] 27)) w') => (show w'.cell? ⟨w.heap.size, 0, none⟩ = some (.int .i64 z0) ∧ w'.cell? ⟨w.heap.size, 1, none⟩ = some (.int .i64 g) ∧ w'.cell? ⟨w.heap.size, 3, none⟩ = some (.slice A n c) from
    ⟨(S0.out.step h).box.cell 0 _ rfl, (S0.out.step h).box.cell 1 _ rfl, (S0.out.step h).box.cell 3 _ rfl⟩))
  clear hr hv
  go_enter Try.func50, Try.ntmps50
  go_wp2_with fail
  go_region_held3 (fun w' => w'.cell? ⟨w.heap.size, 0, none⟩ = some (.int .i64 z0) ∧ w'.cell? ⟨w.heap.size, 1, none⟩ = some (.int .i64 g) ∧ w'.cell? ⟨w.heap.size, 3, none⟩ = some (.slice A n c))
    (first | with_reducible exact HK.out _ hq1 | (go_keep; done))
    (first
      | (have hqz := hq1; clear hqz; go_at_call 62; refine (impl_addAt A n c X (some ⟨eb, 0, none⟩) 3 3 (eH z0 g (fun _ => s) 0) _ (by omega) (by omega) (S0.out.step hq1).row HEr.out HA.out HE.out).mono ?_; rintro e w2 ⟨rfl, rfl⟩)
      | (go_at_call 83; refine (impl_edgeOf z0 g (fun _ => s) 0 _ hs HS.out h1 h2).mono ?_; rintro e w1 ⟨eb, rfl, _, ho, hq1'⟩; have hq1 := of_drew hq1'; clear hq1'; have HEr := Lib.hid (show IRow w1 (some ⟨eb, 0, none⟩) 3 (eH z0 g (fun _ => s) 0) from ho.row); clear ho))
  have S1 := Lib.hid (S0.out.step hq1)
  clear x0 x1 x3 HK hq1
  go_wp2_with fail
  go_ret
  exact ⟨rfl, S1.out.below⟩
set_option maxRecDepth 100000 in
set_option maxHeartbeats 4000000 in
theorem spec_reValue (hs : s.size ≤ maxLen) (hr : IRow w A n X) (hv : TaV z0 g v n X) :
    Calls Try.prog 48 #[.agg #[.int .i64 z0, .int .i64 g, .int .i64 v, .slice A n c], .string s] w fun e w' => e = .returned (.int .i64 (taN z0 g s X : Nat)) ∧ Below w.heap.size w w' := by
  have S0 := Lib.hid (BX1.start (cs := #[.int .i64 z0, .int .i64 g, .int .i64 v, .slice A n c]) (t := 27) hr)
  have h1 : 1 ≤ g := by have := hv.2.1; omega
  have h2 : g ≤ 24 := by have := hv.2.1; omega
  have HN := Lib.hid (show n = 3 * g by have := hv.2.2.2.1; omega)
  have hn72 : n ≤ 72 := by have := HN.out; omega
  have HX := Lib.hid hv.all
  have HB := Lib.hid (fun j (hj : j < 3) => show 0 ≤ eH z0 g (fun _ => s) 0 j ∧ eH z0 g (fun _ => s) 0 j < (n : Int) from by have := eH_in (seed := z0) (S := fun _ => s) (k := 0) h1 h2 j hj; have := HN.out; omega)
  have x0 := S0.out.box.cell 0 _ rfl
  have x1 := S0.out.box.cell 1 _ rfl
  go_enter Try.func48, Try.ntmps48
  go_wp2_with fail
  refine (spec_peTriple z0 g (fun _ => s) 0 _ hs (seedB_dec (decide_eq_true hv.1)) h1 h2).mono ?_; rintro e w1 ⟨EA, ec, rfl, ho, hb⟩
  have HE := Lib.hid (show IRow w1 EA 3 (eH z0 g (fun _ => s) 0) from (owned_vec ho).row)
  have S1 := Lib.hid (S0.out.step hb)
  have y3 := S1.out.box.cell 3 _ rfl
  have HR := Lib.hid S1.out.row
  clear x0 x1 hb ho S0 hr hv
  have HT := Lib.hid (show taN z0 g s X = xorN X (eH z0 g (fun _ => s) 0) 3 from rfl)
  go_wp2_with fail
  generalize eH z0 g (fun _ => s) 0 = E at *
  go_loop [5, 15] (fun q i => ∃ k : Nat, k ≤ 3 ∧ i = .int .i64 k ∧ q = .int .i64 (xorN X E k : Nat)) (fun _ i => 3 - (intOf i).toNat)
  case atStart => exact ⟨0, Nat.zero_le _, rfl, rfl⟩
  case round =>
    obtain ⟨q, hq, rfl, rfl⟩ := hrel
    by_cases hlt : q < 3
    · obtain ⟨b1, o1, rfl, _, hc1⟩ := HE.out (by omega)
      have hy := hc1 q hlt
      have hEq := HB.out q hlt
      obtain ⟨b2, o2, rfl, _, hc2⟩ := HR.out (by omega)
      have hx := hc2 (E q).toNat (by omega)
      have hsb := xorN_bd HX.out q (fun j hj => HB.out j (by omega))
      have hxq := HX.out (E q).toNat (by omega)
      have hS := Lib.hid ((xor_i (xorN X E q) (X (E q).toNat) hsb hxq.1 hxq.2).trans (show _ = ((xorN X E (q + 1) : Nat) : Int) from rfl))
      obtain ⟨u, hu⟩ : ∃ u : Nat, E q = u := ⟨(E q).toNat, by omega⟩
      rw [hu] at hy hEq hx hxq hS
      rw [Int.toNat_natCast] at hx hxq hS
      generalize hx' : X u = xv at *
      generalize hs' : xorN X E q = sv at *
      have hun : u < n := by omega
      clear hc1 hc2 hu
      go_wp2_with fail
      rw [hS.out]
      go_round
      case rel => exact ⟨q + 1, by omega, by go_num, rfl⟩
      case measure => simp [intOf]; omega
    · obtain rfl : q = 3 := by omega
      go_wp2_with fail
      go_ret
      exact ⟨by rw [HT.out]; rfl, S1.out.below⟩
end
end Go.Proofs.Ytijlpbcgkecinab

/- HyperOf: the model's, and what both refuse. -/
namespace Go.Proofs.Ytijlpbcgkecinab
open Go.RowKit

def keyedB (seed : Int) (S : Nat → ByteArray) (n : Nat) (g : Int) : Bool := seedB seed 0 && keysB S n && decide (1 ≤ g ∧ g ≤ 24)
set_option maxRecDepth 100000 in
set_option maxHeartbeats 1000000 in
theorem spec_peKeyed (seed : Int) (KA : Option Addr) (n kc : Nat) (S : Nat → ByteArray) (g : Int) (w : World) (hn : n ≤ 1048576) (hs : ∀ i, i < n → (S i).size ≤ maxLen) (hr : GRow w KA n (strV S)) :
    Calls Try.prog 64 #[.int .i64 seed, .slice KA n kc, .int .i64 g] w fun e w' => e = .returned (.bool (keyedB seed S n g)) ∧ w = w' := by
  have HR := Lib.hid hr
  have HS := Lib.hid hs
  clear hr hs
  unfold keyedB
  by_cases h0 : 0 ≤ seed ∧ seed ≤ 9999
  · have hsd : seedB seed 0 = true := by unfold seedB; simp only [decide_eq_true_eq]; omega
    obtain ⟨h0a, h0b⟩ := h0
    rw [hsd]
    by_cases hk : keysB S n = true
    · rw [hk]
      by_cases h1 : 1 ≤ g ∧ g ≤ 24
      · rw [decide_eq_true h1]
        obtain ⟨h1a, h1b⟩ := h1
        go_enter Try.func64, Try.ntmps64
        go_wp2_with fail
        refine (l1In_yes _ _ _ _ h0a h0b).mono ?_; rintro e w' ⟨rfl, rfl⟩
        go_wp2_with fail
        refine (spec_biKeys KA n kc S _ hn HS.out HR.out).mono ?_; rintro e w' ⟨rfl, rfl⟩
        rw [hk]
        go_wp2_with fail
        refine (l1In_yes _ _ _ _ h1a h1b).mono ?_; rintro e w' ⟨rfl, rfl⟩
        go_wp2_with fail
        go_ret
        exact ⟨rfl, rfl⟩
      · rw [decide_eq_false h1]
        go_enter Try.func64, Try.ntmps64
        go_wp2_with fail
        refine (l1In_yes _ _ _ _ h0a h0b).mono ?_; rintro e w' ⟨rfl, rfl⟩
        go_wp2_with fail
        refine (spec_biKeys KA n kc S _ hn HS.out HR.out).mono ?_; rintro e w' ⟨rfl, rfl⟩
        rw [hk]
        go_wp2_with fail
        refine (l1In_no _ _ _ _ h1).mono ?_; rintro e w' ⟨rfl, rfl⟩
        go_wp2_with fail
        go_ret
        exact ⟨rfl, rfl⟩
    · have hkf : keysB S n = false := by simpa using hk
      rw [hkf]
      go_enter Try.func64, Try.ntmps64
      go_wp2_with fail
      refine (l1In_yes _ _ _ _ h0a h0b).mono ?_; rintro e w' ⟨rfl, rfl⟩
      go_wp2_with fail
      refine (spec_biKeys KA n kc S _ hn HS.out HR.out).mono ?_; rintro e w' ⟨rfl, rfl⟩
      rw [hkf]
      go_wp2_with fail
      go_ret
      exact ⟨rfl, rfl⟩
  · have hsd : seedB seed 0 = false := by unfold seedB; simp only [decide_eq_false_iff_not]; omega
    rw [hsd]
    go_enter Try.func64, Try.ntmps64
    go_wp2_with fail
    refine (l1In_no _ _ _ _ h0).mono ?_; rintro e w' ⟨rfl, rfl⟩
    go_wp2_with fail
    go_ret
    exact ⟨rfl, rfl⟩

/-- What HyperOf answers where it fails. -/
def HypNo (w : World) (e : Ending) (w' : World) : Prop := e = .returned (.tuple #[.agg #[.int .i64 0, .slice none 0 0], .bool false]) ∧ Below w.heap.size w w'
theorem ow2_zero (lo hi : Nat) (A : Option Addr) (L : Nat → Nat) (V : Nat → Nat → Int) (w : World) : Ow2 lo hi A 0 L V w := ⟨fun _ => none, fun _ => 0, ow_zero _ _ _ _ _ _, fun i hi => absurd hi (by omega), fun i j _ hj => absurd hj (by omega)⟩
theorem rbox_new (w : World) : NBX w.heap.size w.heap.size #[.int .i64 0, .slice none 0 0] 72 (w.alloc (.cells #[.int .i64 0, .slice none 0 0] 72)) := ⟨Go.Deep.blk_alloc_new _ _, Nat.le_refl _⟩
set_option maxRecDepth 100000 in
set_option maxHeartbeats 1000000 in
theorem impl_hyperOf_no (seed : Int) (g : Int) (KA : Option Addr) (n kc : Nat) (S : Nat → ByteArray) (w : World) (hn : n ≤ 1048576) (hs : ∀ i, i < n → (S i).size ≤ maxLen) (hr : GRow w KA n (strV S)) (h : keyedB seed S n g = false) :
    Calls Try.prog 84 #[.int .i64 seed, .slice KA n kc, .int .i64 g] w (HypNo w) := by
  have HR1 := Lib.hid (hr.al (.cells #[.int .i64 0, .slice none 0 0] 72))
  have HS := Lib.hid hs
  have N0 := rbox_new w
  have FB := Lib.hid ((Below.refl w.heap.size w).alloc (Nat.le_refl _) (.cells #[.int .i64 0, .slice none 0 0] 72))
  have r0 := N0.cell 0 _ rfl
  have r1 := N0.cell 1 _ rfl
  have f0 := N0.free 0
  have f1 := N0.free 1
  clear hr hs N0
  by_cases hh : heB seed g = true
  · have hkf : keysB S n = false := by
      unfold keyedB at h
      unfold heB at hh
      simp only [Bool.and_eq_true, decide_eq_true_eq] at hh
      cases hk : keysB S n
      · rfl
      · rw [hh.1, hk] at h; simp at h; omega
    clear h
    go_enter Try.func84, Try.ntmps84
    go_wp2_with fail
    refine (impl_hasEdges seed g _).mono ?_; rintro e w1 ⟨rfl, rfl⟩
    rw [hh]
    go_wp2_with fail
    refine (impl_areKeys KA n kc S _ hn HS.out HR1.out).mono ?_; rintro e w1 ⟨rfl, rfl⟩
    rw [hkf]
    go_wp2_with fail
    refine bodyPost_ret (v := .tuple #[.agg #[.int .i64 0, .slice none 0 0], .bool false]) (by simp [results, Try.results84, go_sem, r0, r1]) rfl ?_
    exact ⟨rfl, by first | exact FB.out | exact below_setAt (below_setAt FB.out (Nat.le_refl _) _) (Nat.le_refl _) _⟩
  · have hhf : heB seed g = false := by simpa using hh
    clear h
    go_enter Try.func84, Try.ntmps84
    go_wp2_with fail
    refine (impl_hasEdges seed g _).mono ?_; rintro e w1 ⟨rfl, rfl⟩
    rw [hhf]
    go_wp2_with fail
    refine bodyPost_ret (v := .tuple #[.agg #[.int .i64 0, .slice none 0 0], .bool false]) (by simp [results, Try.results84, go_sem, r0, r1]) rfl ?_
    exact ⟨rfl, by first | exact FB.out | exact below_setAt (below_setAt FB.out (Nat.le_refl _) _) (Nat.le_refl _) _⟩
end Go.Proofs.Ytijlpbcgkecinab

/- Whether keys have a peel order: arePeeled of the program, pePeels of the model. -/
namespace Go.Proofs.Ytijlpbcgkecinab
open Go.RowKit

def PeelsP (z : Nat) (n : Nat) (l : Nat → Nat) (X : Nat → Nat → Int) : Prop := ∃ k, Goes z l X n zeroC k ∧ freL (degF l X (goneS z l X n zeroC k) n) z = [] ∧ (leftL (goneS z l X n zeroC k) n).length = 0
theorem peelsP_iff {z n : Nat} {l : Nat → Nat} {X : Nat → Nat → Int} {k : Nat} (hg : Goes z l X n zeroC k) (hf : freL (degF l X (goneS z l X n zeroC k) n) z = []) : PeelsP z n l X ↔ (leftL (goneS z l X n zeroC k) n).length = 0 := by
  constructor
  · rintro ⟨j, h1, h2, h3⟩
    obtain rfl := goes_same h1 h2 hg hf
    exact h3
  · exact fun h => ⟨k, hg, hf, h⟩
theorem hyperOk_eH {seed : Int} {g n : Nat} {S : Nat → ByteArray} (h1 : 1 ≤ g) (h2 : g ≤ 24) (hn : n ≤ 40) : HyperOk ((3 * g : Nat) : Int) n (fun _ => 3) (eH seed g S) := by
  refine ⟨by omega, by omega, hn, fun i _ => ⟨rfl, fun j hj => ?_⟩⟩
  replace hj : j < 3 := hj
  obtain ⟨p0, p1, p2, p3⟩ := eH_bd (seed := seed) (S := S) (i := i) h1 h2 hj
  have e1 : eH seed g S i j = placeI seed j (S i).data.toList g + ((j * g : Nat) : Int) := by unfold eH; push_cast; rfl
  have hm : j * g ≤ 2 * g := Nat.mul_le_mul (by omega) (Nat.le_refl _)
  refine ⟨by rw [e1]; omega, by rw [e1]; push_cast at *; omega, fun h0 => ?_⟩
  obtain ⟨q0, q1, q2, q3⟩ := eH_bd (seed := seed) (S := S) (i := i) (j := j - 1) h1 h2 (by omega)
  have e2 : eH seed g S i (j - 1) = placeI seed (j - 1 : Nat) (S i).data.toList g + (((j - 1) * g : Nat) : Int) := by unfold eH; push_cast; rfl
  have hm2 : (j - 1) * g + g = j * g := by
    obtain ⟨t, rfl⟩ : ∃ t, j = t + 1 := ⟨j - 1, by omega⟩
    rw [Nat.add_sub_cancel, Nat.succ_mul]
  rw [e1, e2]; omega
theorem hyper_small {n : Nat} (hn : n ≤ 40) : n + sumL (fun _ => 3) n ≤ 1048576 := by
  have hsum : ∀ m, sumL (fun _ => 3) m = 3 * m := fun m => by
    induction m with
    | zero => rfl
    | succ m ih => rw [sumL, ih]; omega
  rw [hsum]; omega
/-- Keys have a peel order. -/
def PkP (S : Nat → ByteArray) (n : Nat) (g seed : Int) : Prop := keyedB seed S n g = true ∧ PeelsP (3 * g.toNat) n (fun _ => 3) (eH seed g S)
section
variable (seed g : Int) (KA : Option Addr) (n kc : Nat) (S : Nat → ByteArray) (w : World)
set_option maxRecDepth 100000 in
set_option maxHeartbeats 2000000 in
theorem spec_peCore (z : Nat) (A : Option Addr) (n c : Nat) (B : Nat → Option Addr) (l d : Nat → Nat) (X : Nat → Nat → Int) (w : World) (hr : HR w A n B l d X) (h : HyperOk z n l X) :
    Calls Try.prog 87 #[.agg #[.int .i64 z, .slice A n c]] w fun e w' => ∃ k FA fc, e = .returned (.slice FA (leftL (goneS z l X n zeroC k) n).length fc) ∧ Goes z l X n zeroC k ∧ freL (degF l X (goneS z l X n zeroC k) n) z = [] ∧
      w'.ownsRow w.heap.size 3 1 (.slice FA (leftL (goneS z l X n zeroC k) n).length fc) (leftL (goneS z l X n zeroC k) n).length (vals (intV (lstV (leftL (goneS z l X n zeroC k) n))) (leftL (goneS z l X n zeroC k) n).length) ∧ Below w.heap.size w w' := by
  have L0 := Lib.hid (LH.start (z := (z : Int)) (c := c) hr 72)
  have HG := Lib.hid h
  clear hr h
  obtain ⟨hsz, b0, b1⟩ := L0.out.box
  have hlow := L0.out.below.size
  go_enter Try.func87, Try.ntmps87
  go_wp2_with fail
  refine (spec_pePeel z A n c B l d X _ L0.out.row HG.out).mono ?_; rintro e w2 ⟨k, SA, sc, FA, fc, rfl, hgo, hf, ho, hl, hb⟩
  have HGo := Lib.hid hgo
  have HF := Lib.hid hf
  have HB := Lib.hid (L0.out.step hb).below
  have HL := Lib.hid (owned_low hl hlow)
  clear hgo hf hb ho hl
  go_wp2_with fail
  go_ret
  exact ⟨k, FA, fc, rfl, HGo.out, HF.out, HL.out, HB.out⟩
set_option maxRecDepth 100000 in
set_option maxHeartbeats 2000000 in
theorem spec_pePeels (hs : ∀ i, i < n → (S i).size ≤ maxLen) (hr : GRow w KA n (strV S)) (hk : keyedB seed S n g = true) :
    Calls Try.prog 65 #[.int .i64 seed, .slice KA n kc, .int .i64 g] w (BoolIs (PkP S n g seed) w) := by
  have HR := Lib.hid hr
  have HS := Lib.hid hs
  clear hr hs
  have hk2 := hk
  unfold keyedB at hk2
  simp only [Bool.and_eq_true, decide_eq_true_eq] at hk2
  obtain ⟨⟨hsd, hkk⟩, h1, h2⟩ := hk2
  obtain ⟨q, rfl⟩ := Int.eq_ofNat_of_zero_le (show 0 ≤ g by omega)
  have hn40 := keysB_size hkk
  have h1' : 1 ≤ q := by omega
  have h2' : q ≤ 24 := by omega
  have HO := Lib.hid (hyperOk_eH (seed := seed) (S := S) h1' h2' hn40)
  have HP := Lib.hid (show PkP S n q seed ↔ PeelsP (3 * q) n (fun _ => 3) (eH seed q S) from ⟨fun h => h.2, fun h => ⟨hk, h⟩⟩)
  have HQ := Lib.hid (⟨hsd, hkk⟩ : seedB seed 0 = true ∧ keysB S n = true)
  clear hk hsd hkk h1 h2
  go_enter Try.func65, Try.ntmps65
  go_wp2_with fail
  refine (spec_peHyper seed q KA n kc S _ hn40 HS.out HR.out HQ.out.1 h1' h2').mono ?_; rintro e w1 ⟨A, c, B, d, rfl, ho, hb⟩
  have hrow : HRow w1 A n (fun _ => 3) (eH seed q S) := ho.row
  obtain ⟨B, d, hrow⟩ := hrow
  have HRW := Lib.hid hrow
  have HB := Lib.hid hb
  have hlow := hb.size
  clear ho hb hrow
  go_wp2_with fail
  refine (spec_peCore (3 * q) A n c B (fun _ => 3) d (eH seed q S) _ HRW.out HO.out).mono ?_; rintro e w2 ⟨k, FA, fc, rfl, hgo, hf, ho, hb⟩
  have HI := Lib.hid (peelsP_iff hgo hf)
  have HB2 := Lib.hid (HB.out.trans (hb.mono hlow))
  have hll := leftL_len (goneS (3 * q) (fun _ => 3) (eH seed q S) n zeroC k) n
  clear hgo hf hb ho
  generalize hv : (leftL (goneS (3 * q) (fun _ => 3) (eH seed q S) n zeroC k) n).length = v at *
  go_wp2_with fail
  go_ret
  exact ⟨_, rfl, by simp only [beq_iff_eq]; rw [HP.out, HI.out]; omega, HB2.out⟩
end
end Go.Proofs.Ytijlpbcgkecinab

/- OwnPlaces of both sides. -/
namespace Go.Proofs.Ytijlpbcgkecinab
open Go.RowKit

set_option maxRecDepth 100000 in
set_option maxHeartbeats 2000000 in
theorem impl_peelOrder_no (z : Int) (A : Option Addr) (n c : Nat) (l : Nat → Nat) (X : Nat → Nat → Int) (w : World) (hn : n + sumL l n ≤ 1048576) (hr : HRow w A n l X) (h : ¬ HyperOk z n l X) :
    Calls Try.prog 85 #[.agg #[.int .i64 z, .slice A n c]] w fun e w' => e = .returned (.tuple #[.slice none 0 0, .bool false]) ∧ Below w.heap.size w w' := by
  obtain ⟨B, d, hr⟩ := hr
  have L0 := Lib.hid (LH.start (z := z) (c := c) hr 72)
  have HG := Lib.hid h
  clear hr h
  go_enter Try.func85, Try.ntmps85
  go_wp2_with fail
  refine (impl_isHyper_is z A n c l X _ false hn ⟨B, d, L0.out.row⟩ (by simp only [Bool.false_eq_true, false_iff]; exact HG.out)).mono ?_; rintro e w1 ⟨rfl, hb⟩
  have L1 := Lib.hid (L0.out.step hb)
  clear hb L0
  go_wp2_with fail
  go_ret2
  exact ⟨rfl, L1.out.below⟩

end Go.Proofs.Ytijlpbcgkecinab

/- The laws' small functions on slices of peel steps: a row of n steps is a row of 2 n ints, two cells each. -/
namespace Go.Proofs.Ytijlpbcgkecinab
open Go.RowKit

theorem infoPS : (Try.prog.info? 80).map (fun i => (i.zero, i.size, i.bytes)) = some (some (.agg #[.int .i64 0, .int .i64 0]), 2, 16) := by kernel_rfl
theorem run_make_steps (n : Nat) (hn : n ≤ 1048576) (W : World) : (Instr.makeSlice 73 (.int .i64 n) (.int .i64 n)).run Try.prog W = .ok (.slice (some ⟨W.heap.size, 0, none⟩) n n) (W.alloc (.cells (madeCells #[.int .i64 0, .int .i64 0] (n * 2)) 80)) := by
  obtain ⟨i, hi, hzz⟩ := Option.map_eq_some_iff.1 infoPS
  simp only [Prod.mk.injEq] at hzz
  obtain ⟨hz, hs, hb⟩ := hzz
  have hr := run_make (P := Try.prog) W 73 80 i _ Try.underlying73 hi hz .i64 .i64 n n (by omega) (Int.le_refl _) (by rw [hb]; omega) (by omega)
  simp only [Int.toNat_natCast, hs] at hr
  exact hr
theorem made_steps (w : World) (n : Nat) : GOwn (w.alloc (.cells (madeCells #[.int .i64 0, .int .i64 0] (n * 2)) 80)) 80 w.heap.size (n * 2) (intV fun _ => 0) :=
  ⟨_, Go.Deep.blk_alloc_new _ _, by simp [madeCells], fun i hi => by
    rcases Nat.mod_two_eq_zero_or_one i with h | h <;> simp [madeCells, hi, intV, h]⟩
section
set_option maxHeartbeats 1000000
end
end Go.Proofs.Ytijlpbcgkecinab

/- PeelOrder of both sides: the steps as a row of their own. -/
namespace Go.Proofs.Ytijlpbcgkecinab
open Go.RowKit

/-- The cells of steps. -/
def stF (E P : Nat → Nat) (j : Nat) : Int := if j % 2 = 0 then ((E (j / 2) : Nat) : Int) else ((P (j / 2) : Nat) : Int)
theorem steps_ow {w : World} {B : Nat} {SA : Option Addr} {k sc : Nat} {E P : Nat → Nat} (h : w.ownsRow B 80 2 (.slice SA k sc) k (stepsL E P k)) : Ow B w.heap.size 80 SA (2 * k) (intV (stF E P)) w := fun hk => by
  obtain ⟨hl, h1 | ⟨g, cap, cur, he, hB, hb, hn, hm, hs, ht⟩⟩ := h
  · omega
  · injection he with e1 e2 e3
    subst e1 e3
    have h' : w.ownsRow B 80 2 (.slice (some ⟨g, 0, none⟩) k sc) k (stepsL E P k) := ⟨hl, .inr ⟨g, sc, cur, rfl, hB, hb, hn, hm, hs, ht⟩⟩
    have hcell : ∀ i, i < 2 * k → cur[i]? = some (intV (stF E P) i) := fun i hi => by
      have h3 := h'.cellAt i (by omega)
      obtain ⟨g0, g1⟩ := stepsL_get (E := E) (P := P) (j := i / 2) k (by omega)
      have h4 : (stepsL E P k)[i]? = some (intV (stF E P) i) := by
        unfold intV stF
        rcases Nat.mod_two_eq_zero_or_one i with e | e
        · rw [if_pos e]; rw [show 2 * (i / 2) = i by omega] at g0; exact g0
        · rw [if_neg (by omega)]; rw [show 2 * (i / 2) + 1 = i by omega] at g1; exact g1
      rw [h4] at h3
      simpa [World.cell?, hb] using h3
    refine ⟨g, 0, cur, rfl, hB, (Array.getElem?_eq_some_iff.1 hb).1, hb, ?_, fun i hi => by rw [Nat.zero_add]; exact hcell i hi⟩
    have := (Array.getElem?_eq_some_iff.1 (hcell (2 * k - 1) (by omega))).1
    omega
/-- What PeelOrder answers: k steps, or nothing. -/
def StepsOwn (k : Nat) (F : Nat → Int) (b : Bool) (w : World) (e : Ending) (w' : World) : Prop := ∃ A c, e = .returned (.tuple #[.slice A k c, .bool b]) ∧ Ow w.heap.size w'.heap.size 80 A (2 * k) (intV F) w' ∧ Below w.heap.size w w'
theorem StepsOwn.row {k : Nat} {F : Nat → Int} {b : Bool} {w : World} (e : Ending) (w' : World) (h : StepsOwn k F b w e w') : ∃ A c, e = .returned (.tuple #[.slice A k c, .bool b]) ∧ GRow w' A (2 * k) (intV F) ∧ Below w.heap.size w w' := by
  obtain ⟨A, c, h1, h2, h3⟩ := h
  exact ⟨A, c, h1, h2.rd.row (Nat.le_refl _), h3⟩
theorem steps_none {F : Nat → Int} {w : World} {e : Ending} {w' : World} (h : e = .returned (.tuple #[.slice none 0 0, .bool false])) (hb : Below w.heap.size w w') : StepsOwn 0 F false w e w' := ⟨none, 0, h, ow_zero _ _ _ _ _ _, hb⟩
theorem goes_ex (z : Nat) (l : Nat → Nat) (X : Nat → Nat → Int) (n : Nat) (C : Nat → Nat) : ∃ k, Goes z l X n C k ∧ freL (degF l X (goneS z l X n C k) n) z = [] := by
  have h : ∀ m, (∃ k, Goes z l X n C k ∧ freL (degF l X (goneS z l X n C k) n) z = []) ∨ Goes z l X n C m := by
    intro m
    induction m with
    | zero => exact .inr (fun j hj => by omega)
    | succ m ih =>
      rcases ih with ih | ih
      · exact .inl ih
      · by_cases e : freL (degF l X (goneS z l X n C m) n) z = []
        · exact .inl ⟨m, ih, e⟩
        · exact .inr (fun j hj => by
            by_cases e2 : j = m
            · subst e2; exact e
            · exact ih j (by omega))
  rcases h n with h1 | h1
  · exact h1
  · exact ⟨n, h1, goes_end h1⟩
theorem steps_post {z n : Nat} {l : Nat → Nat} {X : Nat → Nat → Int} {k : Nat} (hg : Goes z l X n zeroC k) (hf : freL (degF l X (goneS z l X n zeroC k) n) z = []) (w : World) (e : Ending) (w' : World)
    (h : ∃ k, Goes z l X n zeroC k ∧ freL (degF l X (goneS z l X n zeroC k) n) z = [] ∧ Below w.heap.size w w' ∧
      ((leftL (goneS z l X n zeroC k) n).length = 0 → ∃ SA sc, e = .returned (.tuple #[.slice SA k sc, .bool true]) ∧ w'.ownsRow w.heap.size 80 2 (.slice SA k sc) k (stepsL (stE z l X n zeroC) (stP z l X n zeroC) k)) ∧
      (0 < (leftL (goneS z l X n zeroC k) n).length → e = .returned (.tuple #[.slice none 0 0, .bool false]))) :
    ((leftL (goneS z l X n zeroC k) n).length = 0 → StepsOwn k (stF (stE z l X n zeroC) (stP z l X n zeroC)) true w e w') ∧ (0 < (leftL (goneS z l X n zeroC k) n).length → StepsOwn 0 (fun _ => 0) false w e w') := by
  obtain ⟨j, h1, h2, h3, h4, h5⟩ := h
  obtain rfl := goes_same h1 h2 hg hf
  refine ⟨fun h => ?_, fun h => ?_⟩
  · obtain ⟨A, c, h6, h7⟩ := h4 h
    exact ⟨A, c, h6, steps_ow h7, h3⟩
  · exact steps_none (h5 h) h3
end Go.Proofs.Ytijlpbcgkecinab

/- peelKeys of the program: the Hyper of keys and its peel order. -/
namespace Go.Proofs.Ytijlpbcgkecinab
open Go.RowKit

section
variable {seed : Int} {KA : Option Addr} {n kc : Nat} {S : Nat → ByteArray} {w : World}
set_option maxRecDepth 100000 in
set_option maxHeartbeats 4000000 in
theorem impl_peelKeys_no {g : Int} (hn : n ≤ 1048576) (hs : ∀ i, i < n → (S i).size ≤ maxLen) (hr : GRow w KA n (strV S)) (hk : keyedB seed S n g = false) :
    Calls Try.prog 59 #[.int .i64 seed, .slice KA n kc, .int .i64 g] w fun e w' => e = .returned (.tuple #[.agg #[.int .i64 0, .slice none 0 0], .slice none 0 0, .bool false]) ∧ Below w.heap.size w w' := by
  have HR := Lib.hid (hr.al (.cells #[.int .i64 0, .slice none 0 0] 72))
  have HS := Lib.hid hs
  have N0 := Lib.hid (nbx0 w #[.int .i64 0, .slice none 0 0] 72)
  have B0 := Lib.hid ((Below.refl w.heap.size w).alloc (Nat.le_refl _) (.cells #[.int .i64 0, .slice none 0 0] 72))
  clear hr hs
  go_enter Try.func59, Try.ntmps59
  go_wp2_with fail
  refine (impl_hyperOf_no seed g KA n kc S _ hn HS.out HR.out hk).mono ?_; rintro e w1 ⟨rfl, hb⟩
  have hal := (Below.refl w1.heap.size w1).alloc (Nat.le_refl _) (.cells #[.int .i64 0, .slice none 0 0] 72)
  have N1 := Lib.hid ((N0.out.b hb).b hal)
  have B1 := Lib.hid ((B0.out.trans (hb.mono B0.out.size)).trans (hal.mono (Nat.le_trans B0.out.size hb.size)))
  clear hb hal
  have r0 := N1.out.cell 0 _ rfl
  have r1 := N1.out.cell 1 _ rfl
  have g0 := N1.out.free 0
  have g1 := N1.out.free 1
  go_wp2_with fail
  have N4 := Lib.hid ((N1.out.set 0 (.int .i64 0)).set 1 (.slice none 0 0))
  have s0 := N4.out.cell 0 (.int .i64 0) (by simp)
  have s1 := N4.out.cell 1 (.slice none 0 0) (by simp)
  refine bodyPost_ret (v := .tuple #[.agg #[.int .i64 0, .slice none 0 0], .slice none 0 0, .bool false]) (by simp [results, Try.results59, go_sem, s0, s1]) rfl ?_
  exact ⟨rfl, below_setAt (below_setAt B1.out (Nat.le_refl _) _) (Nat.le_refl _) _⟩
set_option maxRecDepth 100000 in
set_option maxHeartbeats 4000000 in
theorem impl_peelKeys {q : Nat} (hs : ∀ i, i < n → (S i).size ≤ maxLen) (hr : GRow w KA n (strV S)) (hsd : seedB seed 0 = true) (hk : keysB S n = true) (h1 : 1 ≤ q) (h2 : q ≤ 24) :
    Calls Try.prog 59 #[.int .i64 seed, .slice KA n kc, .int .i64 q] w fun e w' => ∃ k, Goes (3 * q) (fun _ => 3) (eH seed q S) n zeroC k ∧ freL (degF (fun _ => 3) (eH seed q S) (goneS (3 * q) (fun _ => 3) (eH seed q S) n zeroC k) n) (3 * q) = [] ∧ Below w.heap.size w w' ∧
      ((leftL (goneS (3 * q) (fun _ => 3) (eH seed q S) n zeroC k) n).length = 0 → ∃ A c SA sc, e = .returned (.tuple #[.agg #[.int .i64 ((3 * q : Nat) : Int), .slice A n c], .slice SA k sc, .bool true]) ∧ HRow w' A n (fun _ => 3) (eH seed q S) ∧ GRow w' SA (2 * k) (intV (stF (stE (3 * q) (fun _ => 3) (eH seed q S) n zeroC) (stP (3 * q) (fun _ => 3) (eH seed q S) n zeroC)))) ∧
      (0 < (leftL (goneS (3 * q) (fun _ => 3) (eH seed q S) n zeroC k) n).length → ∃ A c, e = .returned (.tuple #[.agg #[.int .i64 ((3 * q : Nat) : Int), .slice A n c], .slice none 0 0, .bool false])) := by
  have hn40 := keysB_size hk
  have HO := Lib.hid (hyperOk_eH (seed := seed) (S := S) h1 h2 hn40)
  have HR := Lib.hid (hr.al (.cells #[.int .i64 0, .slice none 0 0] 72))
  have HS := Lib.hid hs
  have N0 := Lib.hid (nbx0 w #[.int .i64 0, .slice none 0 0] 72)
  have B0 := Lib.hid ((Below.refl w.heap.size w).alloc (Nat.le_refl _) (.cells #[.int .i64 0, .slice none 0 0] 72))
  clear hr hs
  go_enter Try.func59, Try.ntmps59
  go_wp2_with fail
  refine (impl_hyperOf seed q KA n kc S _ HS.out HR.out hsd hk h1 h2).mono ?_; rintro e w1 ⟨A, c, rfl, ho, hb⟩
  have hrow : HRow w1 A n (fun _ => 3) (eH seed q S) := ho.rd.row (Nat.le_refl _)
  obtain ⟨B, d, hrow⟩ := hrow
  have hal := (Below.refl w1.heap.size w1).alloc (Nat.le_refl _) (.cells #[.int .i64 ((3 * q : Nat) : Int), .slice A n c] 72)
  have HH := Lib.hid (hrow.b hal)
  have N1 := Lib.hid ((N0.out.b hb).b hal)
  have NH := Lib.hid (nbx0 w1 #[.int .i64 ((3 * q : Nat) : Int), .slice A n c] 72)
  have B1 := Lib.hid ((B0.out.trans (hb.mono B0.out.size)).trans (hal.mono (Nat.le_trans B0.out.size hb.size)))
  have O1 := Lib.hid ((owned2 ho).b hal)
  clear ho hb hrow hal
  have y0 := NH.out.cell 0 _ rfl
  have y1 := NH.out.cell 1 _ rfl
  go_wp2_with fail
  refine (impl_peelOrder (3 * q) A n c B (fun _ => 3) d (eH seed q S) _ (hyper_small hn40) HH.out HO.out).mono ?_; rintro e w2 ⟨k, hgo, hf, hb, h0, hp⟩
  have HG := Lib.hid (And.intro hgo hf)
  have O2 := Lib.hid (O1.out.b hb)
  have N2 := Lib.hid (N1.out.b hb)
  have M2 := Lib.hid (NH.out.b hb)
  have B2 := Lib.hid (B1.out.trans (hb.mono B1.out.size))
  clear hgo hf hb y0 y1
  have y0 := M2.out.cell 0 _ rfl
  have y1 := M2.out.cell 1 _ rfl
  have r0 := N2.out.cell 0 _ rfl
  have r1 := N2.out.cell 1 _ rfl
  have g0 := N2.out.free 0
  have g1 := N2.out.free 1
  have N4 := Lib.hid ((N2.out.set 0 (.int .i64 ((3 * q : Nat) : Int))).set 1 (.slice A n c))
  have s0 := N4.out.cell 0 (.int .i64 ((3 * q : Nat) : Int)) (by simp)
  have s1 := N4.out.cell 1 (.slice A n c) (by simp)
  have hfb := Lib.hid (below_setAt (o := 1) (below_setAt (o := 0) B2.out (Nat.le_refl _) (.int .i64 ((3 * q : Nat) : Int))) (Nat.le_refl _) (.slice A n c))
  generalize hz3 : ((3 * q : Nat) : Int) = z3 at *
  by_cases hlt : (leftL (goneS (3 * q) (fun _ => 3) (eH seed q S) n zeroC k) n).length = 0
  · obtain ⟨SA, sc, rfl, hown⟩ := h0 hlt
    have hrow2 := steps_ow hown
    have hz1 := N1.out.lt
    have HW := Lib.hid (((At.mk hrow2 (Nat.le_refl _) (Ow.lives _ _ _ _ _ _)).setD (q := w.heap.size) (.inr (by omega)) 0 (.int .i64 z3)).setD (q := w.heap.size) (.inr (by omega)) 1 (.slice A n c))
    have H4 := Lib.hid ((O2.out.setD (q := w.heap.size) (.inr (by simp)) 0 (.int .i64 z3)).setD (q := w.heap.size) (.inr (by simp)) 1 (.slice A n c))
    clear hown h0 hp hrow2
    go_wp2_with fail
    refine bodyPost_ret (v := .tuple #[.agg #[.int .i64 z3, .slice A n c], .slice SA k sc, .bool true]) (by simp [results, Try.results59, go_sem, s0, s1]) rfl ?_
    exact ⟨k, HG.out.1, HG.out.2, hfb.out, fun _ => ⟨A, c, SA, sc, by rw [hz3], H4.out.orow2, HW.out.orow⟩, fun h => absurd h (by omega)⟩
  · obtain rfl := hp (Nat.pos_of_ne_zero hlt)
    clear h0 hp
    go_wp2_with fail
    refine bodyPost_ret (v := .tuple #[.agg #[.int .i64 z3, .slice A n c], .slice none 0 0, .bool false]) (by simp [results, Try.results59, go_sem, s0, s1]) rfl ?_
    exact ⟨k, HG.out.1, HG.out.2, hfb.out, fun h => absurd h hlt, fun _ => ⟨A, c, by rw [hz3]⟩⟩
end
end Go.Proofs.Ytijlpbcgkecinab

/- Tables by peeling: the cells as the steps leave them; what the arguments must be. -/
namespace Go.Proofs.Ytijlpbcgkecinab
open Go.RowKit

/-- One step: the cell at its place becomes the sum of the value and the cells at the other places. -/
def tpS (E P : Nat → Nat) (H : Nat → Nat → Int) (Y C : Nat → Int) (i : Nat) : Nat → Int := upd C (P i) ((((Y (E i)).toNat ^^^ xorN C (H (E i)) 3 : Nat)) : Int)
def tpF (E P : Nat → Nat) (H : Nat → Nat → Int) (Y : Nat → Int) (L : List Nat) : Nat → Int := L.foldl (tpS E P H Y) (fun _ => 0)
theorem tpF_snoc (E P : Nat → Nat) (H : Nat → Nat → Int) (Y : Nat → Int) (L : List Nat) (i : Nat) : tpF E P H Y (L ++ [i]) = tpS E P H Y (tpF E P H Y L) i := by simp [tpF, List.foldl_append]
theorem xorN_lt {X E : Nat → Int} {n v : Nat} (hx : InAll n X 0 (2 ^ v - 1)) : ∀ m, (∀ j, j < m → 0 ≤ E j ∧ E j < n) → xorN X E m < 2 ^ v
  | 0, _ => Nat.pow_pos (by omega)
  | m + 1, he => by
    have h1 := xorN_lt hx m (fun j hj => he j (by omega))
    have h3 := he m (by omega)
    have h4 := hx (E m).toNat (by omega)
    rw [xorN]
    refine Nat.xor_lt_two_pow h1 ?_
    have h5 : ((X (E m).toNat).toNat : Int) < 2 ^ v := by omega
    exact_mod_cast h5
theorem inAll_255 {n v : Nat} {X : Nat → Int} (hv : v ≤ 8) (h : InAll n X 0 (2 ^ v - 1)) : InAll n X 0 255 := fun i hi => by
  have h1 := h i hi
  have h3 : (2 : Int) ^ v ≤ 2 ^ 8 := (two_bd (m := v) (k := 8) hv).2
  have h4 : (2 : Int) ^ 8 = 256 := by decide
  omega
theorem val_lt {n v e : Nat} {Y : Nat → Int} (h : InAll n Y 0 (2 ^ v - 1)) (he : e < n) : (Y e).toNat < 2 ^ v := by
  have h1 := h e he
  have h5 : ((Y e).toNat : Int) < 2 ^ v := by omega
  exact_mod_cast h5
section
variable {E P : Nat → Nat} {H : Nat → Nat → Int} {Y C : Nat → Int} {n z v k : Nat}
theorem tpS_bd (hY : InAll n Y 0 (2 ^ v - 1)) (hH : ∀ e, e < n → ∀ j, j < 3 → 0 ≤ H e j ∧ H e j < z) {i : Nat} (hE : E i < n) (hC : InAll z C 0 (2 ^ v - 1)) : InAll z (tpS E P H Y C i) 0 (2 ^ v - 1) := fun q hq => by
  unfold tpS upd
  by_cases e : q = P i
  · rw [if_pos e]
    have h1 := Nat.xor_lt_two_pow (val_lt hY hE) (xorN_lt hC 3 (hH _ hE))
    have h5 : (((Y (E i)).toNat ^^^ xorN C (H (E i)) 3 : Nat) : Int) < 2 ^ v := by exact_mod_cast h1
    omega
  · rw [if_neg e]; exact hC q hq
theorem tpF_bd (hY : InAll n Y 0 (2 ^ v - 1)) (hH : ∀ e, e < n → ∀ j, j < 3 → 0 ≤ H e j ∧ H e j < z) (hE : ∀ j, j < k → E j < n) (L : List Nat) (hL : ∀ x, x ∈ L → x < k) : InAll z (tpF E P H Y L) 0 (2 ^ v - 1) := by
  unfold tpF
  have h0 : InAll z (fun _ => (0 : Int)) 0 (2 ^ v - 1) := fun i _ => by have := (two_bd (m := v) (k := v) (Nat.le_refl _)).1; simp; omega
  generalize (fun _ => (0 : Int)) = C0 at h0
  induction L generalizing C0 with
  | nil => exact h0
  | cons x L ih => exact ih (fun y hy => hL y (List.mem_cons_of_mem _ hy)) _ (tpS_bd hY hH (hE x (hL x (List.mem_cons_self ..))) h0)
end
theorem goes_bd {z n k : Nat} {l : Nat → Nat} {X : Nat → Nat → Int} {C : Nat → Nat} (h : Goes z l X n C k) : ∀ j, j < k → stE z l X n C j < n ∧ stP z l X n C j < z := fun j hj => by
  have h1 := plc_mem (ch := C j) (h j hj)
  exact ⟨(edg_first h1.2).1, h1.1⟩
theorem eH_one (seed : Int) (g : Nat) (S : Nat → ByteArray) (e : Nat) : eH seed g (fun _ => S e) 0 = eH seed g S e := by
  funext j; unfold eH; rfl
/-- The values of keys are such as a width allows. -/
def TpV (v : Int) (m : Nat) (Y : Nat → Int) (n : Nat) : Prop := (1 ≤ v ∧ v ≤ 8) ∧ m = n ∧ InAll m Y 0 (2 ^ v.toNat - 1)
set_option maxRecDepth 100000 in
set_option maxHeartbeats 1000000 in
theorem impl_areValues {v : Int} {A : Option Addr} {m c n : Nat} {Y : Nat → Int} {b : Bool} {w : World} (hb : b = true ↔ TpV v m Y n) (hm : m ≤ 1048576) (hr : IRow w A m Y) :
    Calls Try.prog 60 #[.slice A m c, .int .i64 n, .int .i64 v] w fun e w' => e = .returned (.bool b) ∧ Below w.heap.size w w' := by
  have HR := Lib.hid hr
  clear hr
  by_cases h2 : 1 ≤ v ∧ v ≤ 8
  rotate_left
  · have D2 := Lib.hid (decide_eq_false h2)
    obtain rfl : b = false := by cases b; rfl; exact absurd (hb.1 rfl).1 h2
    clear h2 hb
    go_enter Try.func60, Try.ntmps60
    go_wp2_with fail
    refine (impl_isValueWidth D2.out _).mono ?_; rintro e w1 ⟨rfl, rfl⟩
    go_wp2_with fail
    go_ret
    exact ⟨rfl, Below.refl _ _⟩
  have D2 := Lib.hid (decide_eq_true h2)
  obtain ⟨u, rfl⟩ : ∃ u : Nat, v = u := ⟨v.toNat, by omega⟩
  obtain ⟨p0, p1⟩ := two_bd (m := u) (k := 8) (by omega)
  have p2 : (2 : Int) ^ u ≤ 256 := by simpa using p1
  clear p1
  have hu8 : u ≤ 8 := by omega
  have HV := Lib.hid (show b = true ↔ ((m : Int) = (n : Int) ∧ InAll m Y 0 (2 ^ u - 1)) from hb.trans ⟨fun h => ⟨by have := h.2.1; omega, by simpa using h.2.2⟩, fun h => ⟨h2, by have := h.1; omega, by simpa using h.2⟩⟩)
  clear hb h2
  go_enter Try.func60, Try.ntmps60
  go_wp2_with fail
  refine (impl_isValueWidth D2.out _).mono ?_; rintro e w1 ⟨rfl, rfl⟩
  go_wp2_with fail
  refine (bool_val HV.out (impl_areBelow A m c Y n (2 ^ u) _ hm HR.out)).mono ?_; rintro e w2 ⟨rfl, hw⟩
  have HW := Lib.hid hw
  clear hw
  go_wp2_with fail
  go_ret
  exact ⟨rfl, HW.out⟩
set_option maxRecDepth 100000 in
set_option maxHeartbeats 2000000 in
theorem spec_reTask {seed g v : Int} {KA VA : Option Addr} {n kc m vc : Nat} {S : Nat → ByteArray} {Y : Nat → Int} {b : Bool} {w : World} (hb : b = true ↔ (keyedB seed S n g = true ∧ TpV v m Y n)) (hn : n ≤ 1048576) (hm : m ≤ 1048576) (hs : ∀ i, i < n → (S i).size ≤ maxLen) (hk : GRow w KA n (strV S)) (hr : IRow w VA m Y) :
    Calls Try.prog 57 #[.int .i64 seed, .slice KA n kc, .slice VA m vc, .int .i64 g, .int .i64 v] w fun e w' => e = .returned (.bool b) ∧ Below w.heap.size w w' := by
  have HR := Lib.hid hr
  have HS := Lib.hid hs
  have HK := Lib.hid hk
  clear hr hs hk
  cases h1 : keyedB seed S n g
  · obtain rfl : b = false := by cases b; rfl; have := (hb.1 rfl).1; rw [h1] at this; simp at this
    clear hb
    go_enter Try.func57, Try.ntmps57
    go_wp2_with fail
    refine (spec_peKeyed seed KA n kc S g _ hn HS.out HK.out).mono ?_; rintro e w1 ⟨rfl, rfl⟩
    rw [h1]
    go_wp2_with fail
    go_ret
    exact ⟨rfl, Below.refl _ _⟩
  replace hb := hb.trans (show _ ↔ TpV v m Y n from ⟨fun h => h.2, fun h => ⟨h1, h⟩⟩)
  by_cases h2 : 1 ≤ v ∧ v ≤ 8
  rotate_left
  · have D2 := Lib.hid (decide_eq_false h2)
    obtain rfl : b = false := by cases b; rfl; exact absurd (hb.1 rfl).1 h2
    clear h2 hb
    go_enter Try.func57, Try.ntmps57
    go_wp2_with fail
    refine (spec_peKeyed seed KA n kc S g _ hn HS.out HK.out).mono ?_; rintro e w1 ⟨rfl, rfl⟩
    rw [h1]
    go_wp2_with fail
    refine (spec_reWidth D2.out _).mono ?_; rintro e w1 ⟨rfl, rfl⟩
    go_wp2_with fail
    go_ret
    exact ⟨rfl, Below.refl _ _⟩
  have D2 := Lib.hid (decide_eq_true h2)
  obtain ⟨u, rfl⟩ : ∃ u : Nat, v = u := ⟨v.toNat, by omega⟩
  obtain ⟨p0, p1⟩ := two_bd (m := u) (k := 8) (by omega)
  have p2 : (2 : Int) ^ u ≤ 256 := by simpa using p1
  clear p1
  have hu8 : u ≤ 8 := by omega
  by_cases hc : m = n
  rotate_left
  · have d0 : ((m : Int) == (n : Int)) = false := by simp; omega
    have d1 : (m == n) = false := by simp; omega
    obtain rfl : b = false := by cases b; rfl; exact absurd (hb.1 rfl).2.1 hc
    clear h2 hb
    go_enter Try.func57, Try.ntmps57
    go_wp2_with fail
    refine (spec_peKeyed seed KA n kc S g _ hn HS.out HK.out).mono ?_; rintro e w1 ⟨rfl, rfl⟩
    rw [h1]
    go_wp2_with fail
    refine (spec_reWidth D2.out _).mono ?_; rintro e w1 ⟨rfl, rfl⟩
    go_wp2_with fail
    go_ret
    exact ⟨rfl, Below.refl _ _⟩
  subst hc
  have HV := Lib.hid (show b = true ↔ InAll m Y 0 (2 ^ u - 1) from hb.trans ⟨fun h => by simpa using h.2.2, fun h => ⟨h2, rfl, by simpa using h⟩⟩)
  have e2 : IntKind.i64.wrap ((2 : Int) ^ u - 1) = 2 ^ u - 1 := IntWalk.i64_in _ (by omega)
  clear hb h2
  go_enter Try.func57, Try.ntmps57
  go_wp2_with fail
  refine (spec_peKeyed seed KA m kc S g _ hn HS.out HK.out).mono ?_; rintro e w1 ⟨rfl, rfl⟩
  rw [h1]
  go_wp2_with fail
  refine (spec_reWidth D2.out _).mono ?_; rintro e w1 ⟨rfl, rfl⟩
  go_wp2_with fail
  refine (spec_reTop u hu8 _).mono ?_; rintro e w1 ⟨rfl, rfl⟩
  go_wp2_with fail
  refine (ris_val HV.out (spec_l1AllG VA m vc Y _ _ _ hm HR.out)).mono ?_; rintro e w2 ⟨rfl, hw⟩
  have HW := Lib.hid hw
  clear hw
  go_wp2_with fail
  go_ret
  exact ⟨rfl, HW.out⟩
end Go.Proofs.Ytijlpbcgkecinab

/- What BuildPeeled wants of a step: the index of its place in its edge. -/
namespace Go.Proofs.Ytijlpbcgkecinab
open Go.RowKit

def wnP (H : Nat → Nat → Int) (e p : Nat) : Int := seekI (seek (H e) p 0 3)
theorem wnP_le (H : Nat → Nat → Int) (e p : Nat) : wnP H e p ≤ 2 := by
  unfold wnP
  rcases h : seek (H e) (p : Int) 0 3 with _ | k
  · simp [seekI]
  · have := seek_lt h
    simp [seekI]; omega
set_option maxRecDepth 100000 in
set_option linter.unusedSimpArgs false in
set_option maxHeartbeats 4000000 in
theorem wanted_Peeled {W : World} {A : Option Addr} {n cc hb e p : Nat} {D : Nat → Option Addr} {dd : Nat → Nat} {H : Nat → Nat → Int} (hc : W.cell? ⟨hb, 1, none⟩ = some (.slice A n cc)) (hH : HR W A n D (fun _ => 3) dd H) (he : e < n) :
    Calls Try.prog 73 #[.agg #[.int .i64 e, .int .i64 p], .pointer (some ⟨hb, 0, none⟩)] W fun x W' => x = .returned (.int .i64 (wnP H e p)) ∧ Below W.heap.size W W' := by
  have hal := (Below.refl W.heap.size W).alloc (Nat.le_refl _) (.cells #[.int .i64 e, .int .i64 p] 80)
  have B0 := Lib.hid hal
  have BS := Lib.hid (boxed W #[.int .i64 e, .int .i64 p] 80)
  have hbl := World.block_lt_of_cell? _ _ hc
  have k1 := (hal.cell (p := ⟨hb, 1, none⟩) hbl).trans hc
  have HW := hH.b hal
  obtain ⟨hb9, ho9, rfl, hl9, hc9⟩ := HW.1 (by omega)
  have c7 := hc9 e he
  unfold sliceV at c7
  have HR9 := Lib.hid (HW.2 e he)
  have x0 := BS.out.now 0 _ rfl
  have x1 := BS.out.now 1 _ rfl
  have g1 : (0 : Int) ≤ (e : Int) := by omega
  have g2 : (e : Int) < (n : Int) := by omega
  have hmix : Try.prog.follows .mixedOrders = true := by kernel_rfl
  have HX := Lib.hid (fun W' (h : IRow W' (D e) 3 (H e)) => index_is (D e) 3 (dd e) (H e) p W' (by omega) h)
  unfold wnP
  generalize seekI (seek (H e) (p : Int) 0 3) = v at *
  clear hc9 HW hc hH hal hbl
  go_enter Try.func73, Try.ntmps73
  go_wp2_with fail
  refine wp_region_held_drew (S := fun W' => W'.cell? ⟨hb, 1, none⟩ = some (.slice (some ⟨hb9, ho9, none⟩) n cc) ∧ W'.cell? ⟨hb9, ho9 + e, none⟩ = some (.slice (D e) 3 (dd e)) ∧ W'.cell? ⟨W.heap.size, 0, none⟩ = some (.int .i64 e) ∧ W'.cell? ⟨W.heap.size, 1, none⟩ = some (.int .i64 p)) hmix ⟨k1, c7, x0, x1⟩ (fun hHeld => ?_)
  refine wpAnyH_take (i := 0) (v := ?_) rfl (by kernel_rfl) (by kernel_rfl) (by kernel_rfl) (fun _ _ _ h => h) (Or.inl ⟨by rfl, ?_⟩) hHeld ?_
  rotate_left
  · (intro w hSw; (try dsimp only at hSw); go_simp; try with_reducible rfl)
  try simp only [Act.put, List.setIfInBounds_toArray, List.set_cons_zero, List.set_cons_succ]
  refine wpAnyH_take (i := 1) (v := ?_) rfl (by kernel_rfl) (by kernel_rfl) (by kernel_rfl) (fun _ _ _ h => h) (Or.inl ⟨by rfl, ?_⟩) hHeld ?_
  rotate_left
  · (intro w hSw; (try dsimp only at hSw); go_simp; try with_reducible rfl)
  try simp only [Act.put, List.setIfInBounds_toArray, List.set_cons_zero, List.set_cons_succ]
  refine wpAnyH_take (i := 2) (v := ?_) rfl (by kernel_rfl) (by kernel_rfl) (by kernel_rfl) (fun _ _ _ h => h) (Or.inl ⟨by rfl, ?_⟩) hHeld ?_
  rotate_left
  · (intro w hSw; (try dsimp only at hSw); go_simp; try with_reducible rfl)
  try simp only [Act.put, List.setIfInBounds_toArray, List.set_cons_zero, List.set_cons_succ]
  refine wpAnyH_take (i := 3) (v := ?_) rfl (by kernel_rfl) (by kernel_rfl) (by kernel_rfl) (fun _ _ _ h => h) (Or.inl ⟨by rfl, ?_⟩) hHeld ?_
  rotate_left
  · (intro w hSw; (try dsimp only at hSw); go_simp; try with_reducible rfl)
  try simp only [Act.put, List.setIfInBounds_toArray, List.set_cons_zero, List.set_cons_succ]
  refine wpAnyH_take (i := 4) (v := ?_) rfl (by kernel_rfl) (by kernel_rfl) (by kernel_rfl) (fun _ _ _ h => h) (Or.inl ⟨by rfl, ?_⟩) hHeld ?_
  rotate_left
  · (intro w hSw; (try dsimp only at hSw); go_simp; try with_reducible rfl)
  try simp only [Act.put, List.setIfInBounds_toArray, List.set_cons_zero, List.set_cons_succ]
  refine wpAnyH_take (i := 5) (v := ?_) rfl (by kernel_rfl) (by kernel_rfl) (by kernel_rfl) (fun _ _ _ h => h) (Or.inl ⟨by rfl, ?_⟩) hHeld ?_
  rotate_left
  · (intro w hSw; (try dsimp only at hSw); go_simp; try with_reducible rfl)
  try simp only [Act.put, List.setIfInBounds_toArray, List.set_cons_zero, List.set_cons_succ]
  refine wpAnyH_take (i := 6) (v := ?_) rfl (by kernel_rfl) (by kernel_rfl) (by kernel_rfl) (fun _ _ _ h => h) (Or.inl ⟨by rfl, ?_⟩) hHeld ?_
  rotate_left
  · (intro w hSw; (try dsimp only at hSw); go_simp; try with_reducible rfl)
  try simp only [Act.put, List.setIfInBounds_toArray, List.set_cons_zero, List.set_cons_succ]
  refine wpAnyH_take (i := 7) (v := ?_) rfl (by kernel_rfl) (by kernel_rfl) (by kernel_rfl) (fun _ _ _ h => h) (Or.inl ⟨by rfl, ?_⟩) hHeld ?_
  rotate_left
  · (intro w hSw; (try dsimp only at hSw); go_simp; try with_reducible rfl)
  try simp only [Act.put, List.setIfInBounds_toArray, List.set_cons_zero, List.set_cons_succ]
  refine wpAnyH_ready (rs := [8]) (by kernel_rfl) (by simp) ?_
  refine AllReadyH.cons rfl (fun K hK => ?_) AllReadyH.nil
  go_simp
  go_at_call 74
  refine (HX.out _ (show IRow (W.alloc (.cells #[.int .i64 e, .int .i64 p] 80)).drew (D e) 3 (H e) from HR9.out)).mono ?_
  rintro e5 W5 ⟨rfl, rfl⟩
  refine hK.out _ _ hHeld (fun _ => ?_)
  clear hK K
  try simp only [Act.put, List.setIfInBounds_toArray, List.set_cons_zero, List.set_cons_succ]
  refine wpAnyH_ready (rs := [9]) (by kernel_rfl) (by simp) ?_
  refine AllReadyH.cons rfl (fun K hK => ?_) AllReadyH.nil
  go_simp
  refine hK.out _ _ hHeld (fun _ => ?_)
  clear hK K
  refine wpAnyH_done (by kernel_rfl) ?_ _
  go_wp2_with fail
  go_ret
  exact ⟨rfl, below_drewN B0.out 1⟩
end Go.Proofs.Ytijlpbcgkecinab

/- Values by sums: what the steps, from the last to the first, leave in the places. -/
namespace Go.Proofs.Ytijlpbcgkecinab
open Go.RowKit

/-- One step: its place gets the value by which the sum at the edge's places has the remainder that is wanted. -/
def seS (E P : Nat → Nat) (H : Nat → Nat → Int) (wn : Nat → Nat → Int) (c : Nat) (C : Nat → Int) (i : Nat) : Nat → Int := upd C (P i) ((wn (E i) (P i) + c - sumE C (H (E i)) 3 % c) % c)
def seF (E P : Nat → Nat) (H : Nat → Nat → Int) (wn : Nat → Nat → Int) (c : Nat) (C0 : Nat → Int) (L : List Nat) : Nat → Int := L.foldl (seS E P H wn c) C0
theorem seF_snoc (E P : Nat → Nat) (H : Nat → Nat → Int) (wn : Nat → Nat → Int) (c : Nat) (C0 : Nat → Int) (L : List Nat) (i : Nat) : seF E P H wn c C0 (L ++ [i]) = seS E P H wn c (seF E P H wn c C0 L) i := by simp [seF, List.foldl_append]
theorem seF_bd {E P : Nat → Nat} {H : Nat → Nat → Int} {wn : Nat → Nat → Int} {c hi z : Nat} (hc : 1 ≤ c) (hh : c ≤ hi + 1) : ∀ (L : List Nat) (C0 : Nat → Int), InAll z C0 0 hi → InAll z (seF E P H wn c C0 L) 0 hi
  | [], _, h => h
  | x :: L, C0, h => by
    refine seF_bd hc hh L (seS E P H wn c C0 x) (fun q hq => ?_)
    unfold seS upd
    by_cases e : q = P x
    · rw [if_pos e]
      have h1 := Int.emod_nonneg (wn (E x) (P x) + c - sumE C0 (H (E x)) 3 % c) (show (c : Int) ≠ 0 by omega)
      have h2 := Int.emod_lt_of_pos (wn (E x) (P x) + c - sumE C0 (H (E x)) 3 % c) (show (0 : Int) < c by omega)
      omega
    · rw [if_neg e]; exact h q hq
theorem se_alt (i s : Int) (c : Nat) : (i + ((c : Int) - 1) * s) % c = (i + c - s % c) % c := by
  have h := Int.mul_ediv_add_emod s c
  have e : i + ((c : Int) - 1) * s = (i + c - s % c) + (c : Int) * (s - 1 - s / c) := by
    have h2 : ((c : Int) - 1) * s = c * s - s := by rw [Int.sub_mul, Int.one_mul]
    have h3 : (c : Int) * (s - 1 - s / c) = c * s - c - c * (s / c) := by rw [Int.mul_sub, Int.mul_sub, Int.mul_one]
    rw [h2, h3]
    omega
  rw [e, Int.add_mul_emod_self_left]
/-- The remainders as the program reckons them. -/
theorem se_facts {v s : Int} {c : Nat} (hv : 0 ≤ v ∧ v ≤ 40) (hs : 0 ≤ s ∧ s ≤ 1000) (hc : 1 ≤ c ∧ c ≤ 40) : ∃ r y : Int, s.tmod (c : Int) = r ∧ IntKind.i64.wrap (v + c) = v + c ∧ IntKind.i64.wrap (v + c - r) = v + c - r ∧ (v + c - r).tmod (c : Int) = y ∧ (v + c - s % c) % c = y ∧ 0 ≤ r ∧ r < c := by
  have h1 := Int.emod_nonneg s (show (c : Int) ≠ 0 by omega)
  have h2 := Int.emod_lt_of_pos s (show (0 : Int) < c by omega)
  exact ⟨s % c, (v + c - s % c) % c, Int.tmod_eq_emod_of_nonneg hs.1, IntWalk.i64_in _ (by omega), IntWalk.i64_in _ (by omega), Int.tmod_eq_emod_of_nonneg (by omega), rfl, h1, h2⟩
/-- The remainders as the model reckons them. -/
theorem se_facts2 {v s : Int} {c : Nat} (hv : 0 ≤ v ∧ v ≤ 40) (hs : 0 ≤ s ∧ s ≤ 1000) (hc : 1 ≤ c ∧ c ≤ 40) : ∃ m y : Int, IntKind.i64.wrap ((c : Int) - 1) = (c : Int) - 1 ∧ IntKind.i64.wrap (((c : Int) - 1) * s) = m ∧ IntKind.i64.wrap (v + m) = v + m ∧ (v + m).tmod (c : Int) = y ∧ (v + c - s % c) % c = y := by
  have h0 : 0 ≤ ((c : Int) - 1) * s := Int.mul_nonneg (by omega) hs.1
  have h1 : ((c : Int) - 1) * s ≤ 39 * 1000 := Int.mul_le_mul (by omega) hs.2 hs.1 (by omega)
  exact ⟨((c : Int) - 1) * s, _, IntWalk.i64_in _ (by omega), IntWalk.i64_in _ (by omega), IntWalk.i64_in _ (by omega), Int.tmod_eq_emod_of_nonneg (by omega), (se_alt v s c).symm⟩
set_option maxRecDepth 100000 in
set_option maxHeartbeats 1000000 in
theorem wanted_Ordered (e p : Int) (W : World) :
    Calls Try.prog 70 #[.agg #[.int .i64 e, .int .i64 p]] W fun x W' => x = .returned (.int .i64 e) ∧ Below W.heap.size W W' := by
  have B0 := Lib.hid ((Below.refl W.heap.size W).alloc (Nat.le_refl _) (.cells #[.int .i64 e, .int .i64 p] 80))
  have BS := Lib.hid (boxed W #[.int .i64 e, .int .i64 p] 80)
  have c0 := BS.out.now 0 _ rfl
  go_enter Try.func70, Try.ntmps70
  go_wp2_with fail
  go_ret
  exact ⟨rfl, B0.out⟩
end Go.Proofs.Ytijlpbcgkecinab

/- slices.Backward over steps: what the iterator hands to a loop's body. -/
namespace Go.Proofs.Ytijlpbcgkecinab
open Go.RowKit Go.Shelf

attribute [local go_sem] Oper.semAt_some

/-- What has come when j rounds over k steps are over: the indices from the last one on. -/
def backL (k j : Nat) : List Nat := (List.range j).map (fun i => k - 1 - i)
theorem backL_succ (k j : Nat) : backL k (j + 1) = backL k j ++ [k - 1 - j] := by simp [backL, List.range_succ]
theorem backL_len (k j : Nat) : (backL k j).length = j := by simp [backL]
/-- A step as the body takes it: its index, its edge and its place. -/
def encSt (F : Nat → Int) {k : Nat} (i : Fin k) : Array Value := #[.int .i64 i.val, .agg #[.int .i64 (F (i.val * 2)), .int .i64 (F (i.val * 2 + 1))]]
/-- What a round keeps: all blocks below n₀ but g. -/
structure KpG (n₀ g : Nat) (A B : World) : Prop where
  size : A.heap.size ≤ B.heap.size
  same : ∀ b, b < n₀ → b ≠ g → B.heap[b]? = A.heap[b]?
theorem KpG.refl (n₀ g : Nat) (A : World) : KpG n₀ g A A := ⟨Nat.le_refl _, fun _ _ _ => rfl⟩
theorem KpG.trans {n₀ g : Nat} {A B C : World} (h : KpG n₀ g A B) (k : KpG n₀ g B C) : KpG n₀ g A C := ⟨Nat.le_trans h.size k.size, fun b h1 h2 => (k.same b h1 h2).trans (h.same b h1 h2)⟩
theorem KpG.cell {n₀ g b o : Nat} {A B : World} (h : KpG n₀ g A B) (h1 : b < n₀) (h2 : b ≠ g) : B.cell? ⟨b, o, none⟩ = A.cell? ⟨b, o, none⟩ := World.cell?_of_block (a := ⟨b, o, none⟩) (h.same b h1 h2)
theorem kpG_b {n₀ g : Nat} {w : World} (hn : n₀ ≤ w.heap.size) : ∀ (W : World) (l : Nat) (o o' : Obj), w.heap.size ≤ l → W.heap[l]? = some o → o.isCells = false → o.isWalk = false → KpG n₀ g W (W.putObj l o') := fun W l o o' hl _ _ _ =>
  ⟨by simp, fun b h1 _ => World.putObj_heap_other (by omega)⟩

set_option maxRecDepth 100000 in
set_option maxHeartbeats 2000000 in
theorem back1_in (Fe : Fence) (n : Nat) (h8 : Fe.fn 86) (hro : Fe.round = none) (hn : 1 ≤ n) (l Bs n₀ gg b off len cap : Nat) (F : Nat → Int) (hreach : len ≤ 1048576) (hb : b < n₀) (hbg : b ≠ gg) (J Jx : List (Fin len) → World → Prop)
    (hY : ∀ pre x W, J pre W → pre.length < len → YieldAt Fe (n - 1) Try.prog l (encSt F x) W fun e W' =>
      (e = .returned (.bool true) ∧ J (pre ++ [x]) W' ∧ KpG n₀ gg W W') ∨ (e = .returned (.bool false) ∧ Jx (pre ++ [x]) W'))
    (W : World) (hBn : Bs < n₀) (hBg : Bs ≠ gg) (hBs : W.cell? ⟨Bs, 0, none⟩ = some (.slice (some ⟨b, off, none⟩) len cap)) (hc : ∀ j, j < len * 2 → W.cell? ⟨b, off + j, none⟩ = some (.int .i64 (F j))) (h0 : J [] W) :
    CallsIn Fe n Try.prog 86 #[.func (.yield l) #[] #[], .pointer (some ⟨Bs, 0, none⟩)] W fun e W' => (∃ v, e = .returned v) ∧
      ((∃ ys : List (Fin len), ys.map Fin.val = backL len len ∧ J ys W') ∨ (∃ pre : List (Fin len), (∃ k, k ≤ len ∧ pre.map Fin.val = backL len k) ∧ Jx pre W')) := by
  refine callsIn_of_wp Try.func86 rfl h8 ?_ hro
  simp only [Try.ntmps86, List.size_toArray, List.length_cons, List.length_nil, Nat.reduceAdd, Nat.reduceSub, Array.replicate_succ, Array.replicate_zero, List.push_toArray, List.append_toArray, List.nil_append, List.cons_append]
  gi_wp2
  gi_loopw [3] (fun i wr => ∃ k : Nat, k ≤ len ∧ i = .int .i64 ((len : Int) - 1 - (k : Int)) ∧ (∃ pre : List (Fin len), pre.map Fin.val = backL len k ∧ J pre wr) ∧ KpG n₀ gg W wr)
    (fun i _ => (intOf i + 1).toNat)
  case atStart => exact ⟨0, Nat.zero_le _, by simp, ⟨[], rfl, h0⟩, KpG.refl _ _ _⟩
  case round =>
    obtain ⟨k, hk, rfl, ⟨pre, hpre, hJs⟩, hnx⟩ := hrel
    have hpl : pre.length = k := by rw [← backL_len len k, ← hpre, List.length_map]
    by_cases hlt : k < len
    · obtain ⟨q, hq⟩ : ∃ q, q = len - 1 - k := ⟨_, rfl⟩
      have hql : q < len := by omega
      have hqi : (len : Int) - 1 - (k : Int) = (q : Int) := by omega
      have e1 : (pre ++ [(⟨q, hql⟩ : Fin len)]).map Fin.val = backL len (k + 1) := by rw [backL_succ, List.map_append, hpre, ← hq]; rfl
      rw [hqi]
      obtain ⟨fn, tmps, assign, body, hy, hR⟩ := hY pre ⟨q, hql⟩ wr hJs (by omega)
      dsimp only [encSt] at hy
      have x0 : wr.cell? ⟨b, off + q * 2, none⟩ = some (.int .i64 (F (q * 2))) := (hnx.cell hb hbg).trans (hc _ (by omega))
      have x1 : wr.cell? ⟨b, off + q * 2 + 1, none⟩ = some (.int .i64 (F (q * 2 + 1))) := (hnx.cell hb hbg).trans (by rw [Nat.add_assoc]; exact hc _ (by omega))
      have y0 : wr.cell? ⟨Bs, 0, none⟩ = some (.slice (some ⟨b, off, none⟩) len cap) := (hnx.cell hBn hBg).trans hBs
      clear hq
      gi_wp2
      refine hR.mono ?_
      rintro e W3 (⟨rfl, hJ3, hk3⟩ | ⟨rfl, hJx3⟩)
      · gi_wp2
        go_roundw
        case rel => exact ⟨k + 1, by omega, by congr 1 <;> omega, ⟨_, e1, hJ3⟩, hnx.trans hk3⟩
        case measure => simp [intOf] <;> omega
      · gi_wp2
        refine bodyPost_ret (results_none rfl _ _ _) rfl ?_
        exact ⟨⟨_, rfl⟩, .inr ⟨_, ⟨k + 1, by omega, e1⟩, hJx3⟩⟩
    · obtain rfl : k = len := by omega
      have hneg : ¬ ((0 : Int) ≤ (k : Int) - 1 - (k : Int)) := by omega
      gi_wp2
      go_end0
      exact ⟨⟨_, rfl⟩, .inl ⟨pre, hpre, hJs⟩⟩

set_option maxRecDepth 100000 in
set_option maxHeartbeats 1000000 in
/-- .. over no steps: no round. -/
theorem back0_in (Fe : Fence) (n : Nat) (h8 : Fe.fn 86) (hro : Fe.round = none) (l Bs : Nat) (A : Option Addr) (c : Nat) (J : List (Fin 0) → World → Prop) (W : World) (hBs : W.cell? ⟨Bs, 0, none⟩ = some (.slice A 0 c)) (h0 : J [] W) :
    CallsIn Fe n Try.prog 86 #[.func (.yield l) #[] #[], .pointer (some ⟨Bs, 0, none⟩)] W fun e W' => (∃ v, e = .returned v) ∧ J [] W' := by
  refine callsIn_of_wp Try.func86 rfl h8 ?_ hro
  simp only [Try.ntmps86, List.size_toArray, List.length_cons, List.length_nil, Nat.reduceAdd, Nat.reduceSub, Array.replicate_succ, Array.replicate_zero, List.push_toArray, List.append_toArray, List.nil_append, List.cons_append]
  gi_wp2
  gi_loopw [3] (fun i wr => i = .int .i64 (-1) ∧ J [] wr) (fun _ _ => 0)
  case atStart => exact ⟨rfl, h0⟩
  case round =>
    obtain ⟨rfl, hJs⟩ := hrel
    gi_wp2
    go_end0
    exact ⟨⟨_, rfl⟩, hJs⟩
set_option maxHeartbeats 1000000 in
/-- slices.Backward(s): the slice is boxed; the function value captures the box. -/
theorem back_in (Fe : Fence) (n : Nat) (h5 : Fe.fn 61) (hro : Fe.round = none) (a : Option Addr) (len cap : Nat) (w : World) :
    CallsIn Fe n Try.prog 61 #[.slice a len cap] w fun e w' => e = .returned (.func (.func 86) #[] #[.pointer (some ⟨w.heap.size, 0, none⟩)]) ∧ w' = w.alloc (.cells #[.slice a len cap] 73) := by
  refine callsIn_of_wp Try.func61 rfl h5 ?_ hro
  simp only [Try.ntmps61, List.size_toArray, List.length_cons, List.length_nil, Nat.reduceAdd, Nat.reduceSub, Array.replicate_succ, Array.replicate_zero, List.push_toArray, List.append_toArray, List.nil_append, List.cons_append]
  gi_wp2
  go_ret
  exact ⟨rfl, rfl⟩
/-- slices.Backward hands back a value that stops: all indices from the last one on, or the first so many of them. -/
theorem back_stops (Fe : Fence) (n : Nat) (h8 : Fe.fn 86) (hro : Fe.round = none) (hn : 1 ≤ n) (Bs n₀ gg : Nat) (A : Option Addr) (len cap : Nat) (F : Nat → Int) (hreach : len ≤ 1048576) (w : World) (hBs : Bs < n₀) (hBg : Bs ≠ gg) (hn₀ : n₀ ≤ w.heap.size)
    (hc : w.cell? ⟨Bs, 0, none⟩ = some (.slice A len cap)) (hI : 0 < len → ∃ b off, A = some ⟨b, off, none⟩ ∧ b < n₀ ∧ b ≠ gg ∧ ∀ k, k < len * 2 → w.cell? ⟨b, off + k, none⟩ = some (.int .i64 (F k))) :
    SeqStopsK Fe n Try.prog 86 #[.pointer (some ⟨Bs, 0, none⟩)] (encSt F) (KpG n₀ gg) (fun ys : List (Fin len) => ys.map Fin.val = backL len len)
      (fun pre => ∃ k, k ≤ len ∧ pre.map Fin.val = backL len k) len w := fun l J Jx W hW _ _ hY h0 => by
  have hc' := (hW.cell (p := ⟨Bs, 0, none⟩) (Nat.lt_of_lt_of_le hBs hn₀)).trans hc
  rcases Nat.eq_zero_or_pos len with h | h
  · subst h
    exact (back0_in Fe n h8 hro l Bs A cap J W hc' h0).mono fun e W' ⟨he, hj⟩ => ⟨he, .inl ⟨_, rfl, hj⟩⟩
  · obtain ⟨b, off, rfl, hb, hbg, hcs⟩ := hI h
    exact back1_in Fe n h8 hro hn l Bs n₀ gg b off len cap F hreach hb hbg J Jx hY W hBs hBg hc' (fun j hj => (hW.cell (p := ⟨b, off + j, none⟩) (Nat.lt_of_lt_of_le hb hn₀)).trans (hcs j hj)) h0
end Go.Proofs.Ytijlpbcgkecinab

/- A region that draws its order, inside a round of a range-over-func loop, walked by the plain held laws. -/
namespace Go.Proofs.Ytijlpbcgkecinab
open Go.RowKit Go.Shelf

section
variable {P : Program} {ops : Array Oper} {Q : Exit → Act → World → Prop} {md : Region.Mode} {S : World → Prop} {l n : Nat}

def OnlyN (Q : Exit → Act → World → Prop) : Exit → Act → World → Prop
  | .normal, a, w => Q .normal a w
  | _, _, _ => False

theorem onlyN_lets (h : LetsOut (OnlyN Q)) : False := by obtain ⟨_, _, h⟩ := h; exact h

theorem operIn_of_wp {o : Oper} {a : Act} {w : World} {K : Act → World → Prop} (hd : ∀ c : Call, o.op ≠ .defer c) (h : o.wp P a w K (OnlyN Q)) :
    o.wpIn (Fence.wide.inRound l) n P a w K Q := by
  unfold Oper.wp at h
  unfold Oper.wpIn
  refine ⟨fun _ _ => trivial, ?_⟩
  rw [Fence.inRound_round, Oper.semAt_some l _ _ hd]
  generalize (execOp a.eval o).run P w = r at *
  cases r with
  | ok x w' =>
    cases x <;> simp only [Oper.upon, Oper.uponIn] at h ⊢
    case value => exact h
    case skip => exact h
    case defer => exact h
    case enter f args =>
      refine ⟨fun h => by simp [Fence.wide] at h, (CallsIn.inRound l (callsIn_wide.2 h)).mono ?_⟩
      intro e w'' he
      cases e with
      | returned v => exact he
      | panicked c => exact he.elim
      | outgrown => exact (onlyN_lets he).elim
    case row row args =>
      exact ⟨fun h => by simp [Fence.wide] at h, fun c cs _ => let ⟨v, w'', r, s⟩ := h c cs; ⟨v, w'', r, stepsIn_wide.2 s⟩⟩
  | halt x w' =>
    cases x <;> simp only [Oper.upon, Oper.uponIn] at h ⊢
    case panic => exact h.elim

theorem opIn_of_wp {i : Nat} {a : Act} {w : World} {K K' : Act → World → Prop} (hd : ∀ (i : Nat) (o : Oper) (c : Call), ops[i]? = some o → o.op ≠ .defer c) (hK : ∀ a w, K a w → K' a w)
    (h : wpOp P ops (OnlyN Q) i K a w) : wpOpIn (Fence.wide.inRound l) n P ops Q i K' a w := by
  unfold wpOp at h
  unfold wpOpIn
  split
  · rename_i ho; simp only [ho] at h; exact hK _ _ h
  · rename_i o ho
    simp only [ho] at h
    split
    · rename_i hw
      simp only [hw, if_true] at h
      rcases h with h | ⟨_, h⟩
      · exact Oper.wpIn_mono hK (operIn_of_wp (fun c => hd i o c ho) h)
      · exact (onlyN_lets h).elim
    · rename_i hw; simp only [hw] at h; exact ⟨fun _ _ => trivial, hK _ _ h⟩

theorem anyIn_of_any (hd : ∀ (i : Nat) (o : Oper) (c : Call), ops[i]? = some o → o.op ≠ .defer c) : ∀ (fuel : Nat) (listed : Array Bool) (a : Act) (w : World),
    wpAny P md ops (OnlyN Q) fuel listed a w → wpAnyIn (Fence.wide.inRound l) n P md ops Q fuel listed a w
  | 0, _, _, _, h => h
  | fuel + 1, _, _, _, h => ⟨h.1, fun i hi => opIn_of_wp hd (fun a' w' h' => anyIn_of_any hd fuel _ a' w' h') (h.2 i hi)⟩

def noDefer (ops : Array Oper) : Bool := ops.toList.all fun o => match o.op with | .defer _ => false | _ => true

theorem noDefer_spec (h : noDefer ops = true) (i : Nat) (o : Oper) (c : Call) (ho : ops[i]? = some o) : o.op ≠ .defer c := by
  intro e
  unfold noDefer at h
  rw [List.all_eq_true] at h
  have := h o (by
    rw [← Array.mem_def]
    exact Array.mem_of_getElem? ho)
  rw [e] at this
  exact absurd this (by simp)

/-- The beginning. -/
theorem wpIn_region_roundH {id : Nat} {a : Act} {w : World} (hm : P.follows .mixedOrders = true) (hd : noDefer ops = true) (hS : S w.drew)
    (h : S w.drew → wpAnyH P .any ops (OnlyN Q) S ops.size (Array.replicate ops.size false) a w.drew) : (Code.region id ops true).wpIn (Fence.wide.inRound l) n P Q a w :=
  wpIn_region_any hm (anyIn_of_any (noDefer_spec hd) _ _ _ _ (wpAny_of_held _ _ _ _ (h hS)))
end
theorem gown_kept {W W' : World} {t : TypeId} {g n : Nat} {F : Nat → Value} {row : Option Nat} (h : GOwn W t g n F) (hg : W.grownBy W' row) (hr : ∀ r, row = some r → ∃ o : Obj, W.heap[r]? = some o ∧ o.isCells = false) : GOwn W' t g n F := by
  obtain ⟨c, h1, h2, h3⟩ := h
  exact ⟨c, (grownBy_keeps_cells hg hr h1 rfl).trans h1, h2, h3⟩
theorem cell_far {W : World} {b g o i : Nat} {v : Value} (h : b ≠ g) : (W.setCell ⟨g, i, none⟩ v).cell? ⟨b, o, none⟩ = W.cell? ⟨b, o, none⟩ :=
  World.cell?_of_block (a := ⟨b, o, none⟩) (Go.Deep.blk_setCell_other _ _ _ _ h)
end Go.Proofs.Ytijlpbcgkecinab

/- settleSums, with what BuildPeeled wants of a step. -/
namespace Go.Proofs.Ytijlpbcgkecinab
open Go.RowKit Go.Shelf

attribute [local go_sem] Oper.semAt_some
section
variable {wl w : World} {A SA : Option Addr} {n cc k sc g z c hb : Nat} {D : Nat → Option Addr} {dd : Nat → Nat} {H : Nat → Nat → Int} {E P : Nat → Nat} {C0 : Nat → Int}
set_option maxRecDepth 100000 in
set_option linter.unusedSimpArgs false in
set_option maxHeartbeats 4000000 in
theorem impl_settle_Peeled (hH : HR wl A n D (fun _ => 3) dd H) (hS : GRow wl SA (2 * k) (intV (stF E P))) (hw : Below wl.heap.size wl w) (hg : wl.heap.size ≤ g) (hX : GOwn w 3 g z (intV C0)) (hz : z ≤ 72) (hk : k ≤ n) (hn : n ≤ 40) (hc : 1 ≤ c ∧ c ≤ 40) (hC0 : InAll z C0 0 (40 : Nat)) (hHB : ∀ e, e < n → ∀ j, j < 3 → 0 ≤ H e j ∧ H e j < z) (hEP : ∀ j, j < k → E j < n ∧ P j < z) (hwn : ∀ j, j < k → 0 ≤ wnP H (E j) (P j)) (hbl : hb < wl.heap.size) (hbc : wl.cell? ⟨hb, 1, none⟩ = some (.slice A n cc)) :
    Calls Try.prog 69 #[.agg #[.int .i64 z, .slice A n cc], .slice SA k sc, .slice (some ⟨g, 0, none⟩) z z, .int .i64 c, (.func (.func 73) #[] #[.pointer (some ⟨hb, 0, none⟩)])] w fun e w' => (∃ v, e = .returned v) ∧ GOwn w' 3 g z (intV (seF E P H (wnP H) c C0 (backL k k))) ∧ Below g w w' := by
  have hgl := hX.lt
  have HBK := Lib.hid (fun (L : List (Fin k)) => seF_bd (E := E) (P := P) (H := H) (wn := (wnP H)) (c := c) (hi := 40) (z := z) hc.1 (by omega) (L.map Fin.val) C0 hC0)
  have HH := Lib.hid hH
  have HS := Lib.hid hS
  have HW := Lib.hid hw
  have HX := Lib.hid hX
  have HHB := Lib.hid hHB
  have HEP := Lib.hid hEP
  have HC := Lib.hid hc
  clear hH hS hw hX hHB hEP hC0
  have hc1 : ¬ c = 0 := by have := HC.out; omega
  have b0 := boxed w #[.int .i64 z, .slice A n cc] 72
  have b1 := nbx0 (w.alloc (.cells #[.int .i64 z, .slice A n cc] 72)) #[.slice (some ⟨g, 0, none⟩) z z] 22
  have b2 := nbx0 ((w.alloc (.cells #[.int .i64 z, .slice A n cc] 72)).alloc (.cells #[.slice (some ⟨g, 0, none⟩) z z] 22)) #[.int .i64 c] 3
  have b3 := nbx0 (((w.alloc (.cells #[.int .i64 z, .slice A n cc] 72)).alloc (.cells #[.slice (some ⟨g, 0, none⟩) z z] 22)).alloc (.cells #[.int .i64 c] 3)) #[(.func (.func 73) #[] #[.pointer (some ⟨hb, 0, none⟩)])] 87
  refine (callsIn_wide (n := 8)).1 ?_
  refine callsIn_of_wp_marks Try.func69 rfl trivial ?_ rfl
  simp only [Try.ntmps69, List.size_toArray, List.length_cons, List.length_nil, Nat.reduceAdd, Nat.reduceSub, Array.replicate_succ, Array.replicate_zero, List.push_toArray, List.append_toArray, List.nil_append, List.cons_append]
  gi_wp2_with (fail)
  refine ⟨trivial, (back_in Fence.wide 7 trivial rfl SA k sc _).mono ?_⟩
  rintro e w3 ⟨rfl, rfl⟩
  gi_wp2_with (fail)
  have hgw : g < w.heap.size := hgl
  have A0 := Lib.hid (show Below g w (((((w.alloc (.cells #[.int .i64 z, .slice A n cc] 72)).alloc (.cells #[.slice (some ⟨g, 0, none⟩) z z] 22)).alloc (.cells #[.int .i64 c] 3)).alloc (.cells #[(.func (.func 73) #[] #[.pointer (some ⟨hb, 0, none⟩)])] 87)).alloc (.cells #[.slice SA k sc] 73)) from (((((Below.refl g w).alloc (by omega) _).alloc (by simp; omega) _).alloc (by simp; omega) _).alloc (by simp; omega) _).alloc (by simp; omega) _)
  have A1 := Lib.hid (show Below w.heap.size w (((((w.alloc (.cells #[.int .i64 z, .slice A n cc] 72)).alloc (.cells #[.slice (some ⟨g, 0, none⟩) z z] 22)).alloc (.cells #[.int .i64 c] 3)).alloc (.cells #[(.func (.func 73) #[] #[.pointer (some ⟨hb, 0, none⟩)])] 87)).alloc (.cells #[.slice SA k sc] 73)) from (((((Below.refl _ w).alloc (Nat.le_refl _) _).alloc (by simp) _).alloc (by simp; omega) _).alloc (by simp; omega) _).alloc (by simp; omega) _)
  have al := fun (W : World) (o : Obj) => (Below.refl W.heap.size W).alloc (Nat.le_refl _) o
  have k1 : (((((w.alloc (.cells #[.int .i64 z, .slice A n cc] 72)).alloc (.cells #[.slice (some ⟨g, 0, none⟩) z z] 22)).alloc (.cells #[.int .i64 c] 3)).alloc (.cells #[(.func (.func 73) #[] #[.pointer (some ⟨hb, 0, none⟩)])] 87)).alloc (.cells #[.slice SA k sc] 73)).cell? ⟨w.heap.size, 1, none⟩ = some (.slice A n cc) := (((((nbx0 w #[.int .i64 z, .slice A n cc] 72).b (al _ _)).b (al _ _)).b (al _ _)).b (al _ _)).cell 1 _ rfl
  have k2 : (((((w.alloc (.cells #[.int .i64 z, .slice A n cc] 72)).alloc (.cells #[.slice (some ⟨g, 0, none⟩) z z] 22)).alloc (.cells #[.int .i64 c] 3)).alloc (.cells #[(.func (.func 73) #[] #[.pointer (some ⟨hb, 0, none⟩)])] 87)).alloc (.cells #[.slice SA k sc] 73)).cell? ⟨(w.alloc (.cells #[.int .i64 z, .slice A n cc] 72)).heap.size, 0, none⟩ = some (.slice (some ⟨g, 0, none⟩) z z) := (((b1.b (al _ _)).b (al _ _)).b (al _ _)).cell 0 _ rfl
  have k3 : (((((w.alloc (.cells #[.int .i64 z, .slice A n cc] 72)).alloc (.cells #[.slice (some ⟨g, 0, none⟩) z z] 22)).alloc (.cells #[.int .i64 c] 3)).alloc (.cells #[(.func (.func 73) #[] #[.pointer (some ⟨hb, 0, none⟩)])] 87)).alloc (.cells #[.slice SA k sc] 73)).cell? ⟨((w.alloc (.cells #[.int .i64 z, .slice A n cc] 72)).alloc (.cells #[.slice (some ⟨g, 0, none⟩) z z] 22)).heap.size, 0, none⟩ = some (.int .i64 c) := ((b2.b (al _ _)).b (al _ _)).cell 0 _ rfl
  have k4 : (((((w.alloc (.cells #[.int .i64 z, .slice A n cc] 72)).alloc (.cells #[.slice (some ⟨g, 0, none⟩) z z] 22)).alloc (.cells #[.int .i64 c] 3)).alloc (.cells #[(.func (.func 73) #[] #[.pointer (some ⟨hb, 0, none⟩)])] 87)).alloc (.cells #[.slice SA k sc] 73)).cell? ⟨(((w.alloc (.cells #[.int .i64 z, .slice A n cc] 72)).alloc (.cells #[.slice (some ⟨g, 0, none⟩) z z] 22)).alloc (.cells #[.int .i64 c] 3)).heap.size, 0, none⟩ = some (.func (.func 73) #[] #[.pointer (some ⟨hb, 0, none⟩)]) := (b3.b (al _ _)).cell 0 _ rfl
  have cs : (((((w.alloc (.cells #[.int .i64 z, .slice A n cc] 72)).alloc (.cells #[.slice (some ⟨g, 0, none⟩) z z] 22)).alloc (.cells #[.int .i64 c] 3)).alloc (.cells #[(.func (.func 73) #[] #[.pointer (some ⟨hb, 0, none⟩)])] 87)).alloc (.cells #[.slice SA k sc] 73)).cell? ⟨((((w.alloc (.cells #[.int .i64 z, .slice A n cc] 72)).alloc (.cells #[.slice (some ⟨g, 0, none⟩) z z] 22)).alloc (.cells #[.int .i64 c] 3)).alloc (.cells #[(.func (.func 73) #[] #[.pointer (some ⟨hb, 0, none⟩)])] 87)).heap.size, 0, none⟩ = some (.slice SA k sc) := (nbx0 _ #[.slice SA k sc] 73).cell 0 _ rfl
  have e1 : (w.alloc (.cells #[.int .i64 z, .slice A n cc] 72)).heap.size = w.heap.size + 1 := by simp
  have e2 : ((w.alloc (.cells #[.int .i64 z, .slice A n cc] 72)).alloc (.cells #[.slice (some ⟨g, 0, none⟩) z z] 22)).heap.size = w.heap.size + 1 + 1 := by simp
  have e3 : (((w.alloc (.cells #[.int .i64 z, .slice A n cc] 72)).alloc (.cells #[.slice (some ⟨g, 0, none⟩) z z] 22)).alloc (.cells #[.int .i64 c] 3)).heap.size = w.heap.size + 1 + 1 + 1 := by simp
  have e4 : ((((w.alloc (.cells #[.int .i64 z, .slice A n cc] 72)).alloc (.cells #[.slice (some ⟨g, 0, none⟩) z z] 22)).alloc (.cells #[.int .i64 c] 3)).alloc (.cells #[(.func (.func 73) #[] #[.pointer (some ⟨hb, 0, none⟩)])] 87)).heap.size = w.heap.size + 1 + 1 + 1 + 1 := by simp
  rw [e1] at k2
  rw [e2] at k3
  rw [e3] at k4
  rw [e4] at cs
  clear e1 e2 e3 e4
  clear al
  have hsz : (((((w.alloc (.cells #[.int .i64 z, .slice A n cc] 72)).alloc (.cells #[.slice (some ⟨g, 0, none⟩) z z] 22)).alloc (.cells #[.int .i64 c] 3)).alloc (.cells #[(.func (.func 73) #[] #[.pointer (some ⟨hb, 0, none⟩)])] 87)).alloc (.cells #[.slice SA k sc] 73)).heap.size = w.heap.size + 5 := by simp
  generalize (((((w.alloc (.cells #[.int .i64 z, .slice A n cc] 72)).alloc (.cells #[.slice (some ⟨g, 0, none⟩) z z] 22)).alloc (.cells #[.int .i64 c] 3)).alloc (.cells #[(.func (.func 73) #[] #[.pointer (some ⟨hb, 0, none⟩)])] 87)).alloc (.cells #[.slice SA k sc] 73)) = W0 at *
  have M0 := Lib.hid (HX.out.b A1.out)
  have BL := Lib.hid (HW.out.trans (A0.out.mono hg))
  have hrow := HS.out.b BL.out
  have SR := Lib.hid (show 0 < k → ∃ b off, SA = some ⟨b, off, none⟩ ∧ b < W0.heap.size ∧ b ≠ g ∧ ∀ j, j < k * 2 → W0.cell? ⟨b, off + j, none⟩ = some (.int .i64 (stF E P j)) from fun h0 => by
    obtain ⟨b, off, hA, hlt, _⟩ := HS.out (by omega)
    obtain ⟨b', off', hA', _, hcc⟩ := hrow (by omega)
    rw [hA] at hA'
    injection hA' with e1; injection e1 with e1 e2
    subst e1 e2
    have := HW.out.size
    exact ⟨b, off, hA, by omega, by omega, fun j hj => hcc j (by omega)⟩)
  clear hrow b0 b1 b2 b3
  refine wpIn_rangeFunc_ownH (α := Fin k) rfl (by omega) (gf := 86) (lb := #[.pointer (some ⟨w.heap.size + 1 + 1 + 1 + 1, 0, none⟩)]) rfl trivial (enters_of Try.func86 (by kernel_rfl) rfl)
    (back_stops Fence.wide (8 - 1) trivial rfl (by omega) (w.heap.size + 1 + 1 + 1 + 1) W0.heap.size g SA k sc (stF E P) (by omega) W0 (by omega) (by omega) (Nat.le_refl _) cs SR.out) KpG.trans (kpG_b (Nat.le_refl _)) (Below.refl _ _) (fun _ => rfl)
    (fun pre W => ((W.cell? ⟨w.heap.size, 1, none⟩ = some (.slice A n cc) ∧ W.cell? ⟨w.heap.size + 1, 0, none⟩ = some (.slice (some ⟨g, 0, none⟩) z z) ∧ W.cell? ⟨w.heap.size + 1 + 1, 0, none⟩ = some (.int .i64 c) ∧ W.cell? ⟨w.heap.size + 1 + 1 + 1, 0, none⟩ = some (.func (.func 73) #[] #[.pointer (some ⟨hb, 0, none⟩)])) ∧ GOwn W 3 g z (intV (seF E P H (wnP H) c C0 (pre.map Fin.val))) ∧ W0.heap.size ≤ W.heap.size) ∧ Below g w W)
    (fun _ _ _ => False)
    (OwnFrom.and (Own.from (fun s A B row hs hg hr => ⟨⟨cell_kept hs.1.1 hg hr, cell_kept hs.1.2.1 hg hr, cell_kept hs.1.2.2.1 hg hr, cell_kept hs.1.2.2.2 hg hr⟩, gown_kept hs.2.1 hg hr, Nat.le_trans hs.2.2 hg.size⟩) _) (ownFrom_below (by omega) (by omega)))
    (fun _ _ _ _ _ hs _ _ => hs)
    ⟨⟨⟨k1, k2, k3, k4⟩, M0.out.congr (fun _ _ => rfl), Nat.le_refl _⟩, A0.out⟩
    (fun x a' W => ∃ Bx, W0.heap.size ≤ Bx ∧ W.heap[Bx]? = some (.cells #[.int .i64 (stF E P (x.val * 2)), .int .i64 (stF E P (x.val * 2 + 1))] 80 (0, 0)) ∧ a' = { tmps := #[.agg #[.int .i64 z, .slice A n cc], .slice SA k sc, .slice (some ⟨g, 0, none⟩) z z, .int .i64 c, (.func (.func 73) #[] #[.pointer (some ⟨hb, 0, none⟩)]), .pointer (some ⟨w.heap.size, 0, none⟩), undef, .pointer (some ⟨w.heap.size + 1, 0, none⟩), .pointer (some ⟨w.heap.size + 1 + 1, 0, none⟩), .pointer (some ⟨w.heap.size + 1 + 1 + 1, 0, none⟩), undef, .pointer (some ⟨Bx, 0, none⟩), undef, .slice SA k sc, .func (.func 86) #[] #[.pointer (some ⟨w.heap.size + 1 + 1 + 1 + 1, 0, none⟩)], .int .i64 x.val, .agg #[.int .i64 (stF E P (x.val * 2)), .int .i64 (stF E P (x.val * 2 + 1))], undef, undef, undef, undef, undef, undef, undef, undef, undef, undef, undef, undef, undef, undef, undef, undef, undef, undef, undef, undef, undef, undef, undef], defers := [] })
    (fun x a' _ X Y row hs hg hr => by obtain ⟨Bx, h1, h2, h3⟩ := hs; exact ⟨Bx, h1, (grownBy_keeps_cells hg (fun r e => (hr r e).2) h2 rfl).trans h2, h3⟩)
    ?assign ?body ?done ?stop
  case assign =>
    rintro l pre x W K ⟨⟨⟨hc1, hc2, hc3, hc4⟩, hg1, hs1⟩, hB1⟩ hK
    unfold encSt
    gi_wp2
    exact hK _ _ ((KeepsOthers.alloc _ _).from _) ⟨by simp, fun b h1 _ => Below.heap_alloc W _ b (by omega)⟩ ⟨⟨⟨((below_al (Below.refl _ _)).cell (p := ⟨w.heap.size, 1, none⟩) (show w.heap.size < _ by omega)).trans hc1, ((below_al (Below.refl _ _)).cell (p := ⟨w.heap.size + 1, 0, none⟩) (show w.heap.size + 1 < _ by omega)).trans hc2, ((below_al (Below.refl _ _)).cell (p := ⟨w.heap.size + 1 + 1, 0, none⟩) (show w.heap.size + 1 + 1 < _ by omega)).trans hc3, ((below_al (Below.refl _ _)).cell (p := ⟨w.heap.size + 1 + 1 + 1, 0, none⟩) (show w.heap.size + 1 + 1 + 1 < _ by omega)).trans hc4⟩, hg1.alloc _, by simp; omega⟩, hB1.alloc (by omega) _⟩ ⟨W.heap.size, hs1, Go.Deep.blk_alloc_new _ _, rfl⟩
  case body =>
    rintro l pre x a' W hl ⟨r, hr⟩ ⟨⟨⟨c1, c2, c3, c4⟩, hg1, hs1⟩, hB1⟩ ⟨Bx, hBx, bX, rfl⟩ hlt
    have HG1 := Lib.hid hg1
    have HB1 := Lib.hid hB1
    have BX := Lib.hid (show NBX g Bx #[.int .i64 (stF E P (x.val * 2)), .int .i64 (stF E P (x.val * 2 + 1))] 80 W from ⟨bX, by omega⟩)
    obtain ⟨hEn, hPz⟩ := HEP.out x.val x.isLt
    have HCB := Lib.hid (HBK.out pre)
    have HSN := Lib.hid (show seF E P H (wnP H) c C0 ((pre ++ [x]).map Fin.val) = seS E P H (wnP H) c (seF E P H (wnP H) c C0 (pre.map Fin.val)) x.val by rw [List.map_append]; exact seF_snoc _ _ _ _ _ _ _ _)
    have q1 : stF E P (x.val * 2) = (E x.val : Int) := by unfold stF; rw [if_pos (by omega), show x.val * 2 / 2 = x.val by omega]
    have q2 : stF E P (x.val * 2 + 1) = (P x.val : Int) := by unfold stF; rw [if_neg (by omega), show (x.val * 2 + 1) / 2 = x.val by omega]
    rw [q1, q2] at BX ⊢
    clear hg1 hB1 bX q1 q2
    obtain ⟨e, he⟩ : ∃ e, E x.val = e := ⟨_, rfl⟩
    obtain ⟨pp, hp⟩ : ∃ pp, P x.val = pp := ⟨_, rfl⟩
    have HSP := Lib.hid (show seS E P H (wnP H) c (seF E P H (wnP H) c C0 (pre.map Fin.val)) x.val = upd (seF E P H (wnP H) c C0 (pre.map Fin.val)) pp (((wnP H e pp) + c - sumE (seF E P H (wnP H) c C0 (pre.map Fin.val)) (H e) 3 % c) % c) by unfold seS; rw [he, hp])
    have hwv := hwn x.val x.isLt
    rw [he, hp] at hwv
    rw [he] at hEn BX ⊢
    rw [hp] at hPz BX ⊢
    clear he hp
    generalize hC : seF E P H (wnP H) c C0 (pre.map Fin.val) = C at *
    clear hC
    have hsb := sumE_bd HCB.out 3 (HHB.out e hEn)
    obtain ⟨r1, y, f1, f2, f3, f4, f5, f6, f7⟩ := se_facts (v := (wnP H e pp)) (s := sumE C (H e) 3) (c := c) ⟨hwv, by have := wnP_le H e pp; omega⟩ ⟨hsb.1, by omega⟩ HC.out
    have HSY := Lib.hid (HSP.out.trans (by rw [f5]))
    have HBW := Lib.hid (HW.out.trans (HB1.out.mono hg))
    have HW3 := HH.out.b HBW.out
    obtain ⟨hb9, ho9, rfl, hl9, hc9⟩ := HW3.1 (by omega)
    have c7 := hc9 e hEn
    unfold sliceV at c7
    have HR9 := Lib.hid (HW3.2 e hEn)
    have x0 := BX.out.cell 0 _ rfl
    have x1 := BX.out.cell 1 _ rfl
    have HAD := Lib.hid (fun W' (h1 : IRow W' (some ⟨g, 0, none⟩) z C) (h2 : IRow W' (D e) 3 (H e)) => impl_sumAt (some ⟨g, 0, none⟩) z z C (D e) 3 (dd e) (H e) 40 W' (by omega) (by omega) (by omega) h1 h2 HCB.out (HHB.out e hEn))
    have HCE := Lib.hid ((HBW.out.cell (p := ⟨hb, 1, none⟩) hbl).trans hbc)
    have HR2 := Lib.hid (HH.out.b HBW.out)
    have HWQ := Lib.hid (rfl : wnP H e pp = wnP H e pp)
    generalize hwq : wnP H e pp = wv at *
    generalize hsv : sumE C (H e) 3 = sv at *
    clear hc9 HW3 hsv f5 HSP hsb
    have g1 : (0 : Int) ≤ (e : Int) := by omega
    have g2 : (e : Int) < (n : Int) := by omega
    have g3 : (0 : Int) ≤ (pp : Int) := by omega
    have g4 : (pp : Int) < (z : Int) := by omega
    gi_wp2_with (fail)
    have hmix : Try.prog.follows .mixedOrders = true := by kernel_rfl
    refine wpIn_region_roundH (S := fun W' => W'.cell? ⟨w.heap.size + 1, 0, none⟩ = some (.slice (some ⟨g, 0, none⟩) z z) ∧ W'.cell? ⟨w.heap.size, 1, none⟩ = some (.slice (some ⟨hb9, ho9, none⟩) n cc) ∧ W'.cell? ⟨Bx, 0, none⟩ = some (.int .i64 e) ∧ W'.cell? ⟨hb9, ho9 + e, none⟩ = some (.slice (D e) 3 (dd e)) ∧ W'.cell? ⟨w.heap.size + 1 + 1, 0, none⟩ = some (.int .i64 c)) hmix (by kernel_rfl) ⟨c2, c1, x0, c7, c3⟩ (fun hHeld => ?_)
    refine wpAnyH_take (i := 0) (v := ?_) rfl (by kernel_rfl) (by kernel_rfl) (by kernel_rfl) (fun _ _ _ h => h) (Or.inl ⟨by rfl, ?_⟩) hHeld ?_
    rotate_left
    · (intro w hSw; (try dsimp only at hSw); go_simp; try with_reducible rfl)
    try simp only [Act.put, List.setIfInBounds_toArray, List.set_cons_zero, List.set_cons_succ]
    refine wpAnyH_take (i := 1) (v := ?_) rfl (by kernel_rfl) (by kernel_rfl) (by kernel_rfl) (fun _ _ _ h => h) (Or.inl ⟨by rfl, ?_⟩) hHeld ?_
    rotate_left
    · (intro w hSw; (try dsimp only at hSw); go_simp; try with_reducible rfl)
    try simp only [Act.put, List.setIfInBounds_toArray, List.set_cons_zero, List.set_cons_succ]
    refine wpAnyH_take (i := 2) (v := ?_) rfl (by kernel_rfl) (by kernel_rfl) (by kernel_rfl) (fun _ _ _ h => h) (Or.inl ⟨by rfl, ?_⟩) hHeld ?_
    rotate_left
    · (intro w hSw; (try dsimp only at hSw); go_simp; try with_reducible rfl)
    try simp only [Act.put, List.setIfInBounds_toArray, List.set_cons_zero, List.set_cons_succ]
    refine wpAnyH_take (i := 3) (v := ?_) rfl (by kernel_rfl) (by kernel_rfl) (by kernel_rfl) (fun _ _ _ h => h) (Or.inl ⟨by rfl, ?_⟩) hHeld ?_
    rotate_left
    · (intro w hSw; (try dsimp only at hSw); go_simp; try with_reducible rfl)
    try simp only [Act.put, List.setIfInBounds_toArray, List.set_cons_zero, List.set_cons_succ]
    refine wpAnyH_take (i := 4) (v := ?_) rfl (by kernel_rfl) (by kernel_rfl) (by kernel_rfl) (fun _ _ _ h => h) (Or.inl ⟨by rfl, ?_⟩) hHeld ?_
    rotate_left
    · (intro w hSw; (try dsimp only at hSw); go_simp; try with_reducible rfl)
    try simp only [Act.put, List.setIfInBounds_toArray, List.set_cons_zero, List.set_cons_succ]
    refine wpAnyH_take (i := 5) (v := ?_) rfl (by kernel_rfl) (by kernel_rfl) (by kernel_rfl) (fun _ _ _ h => h) (Or.inl ⟨by rfl, ?_⟩) hHeld ?_
    rotate_left
    · (intro w hSw; (try dsimp only at hSw); go_simp; try with_reducible rfl)
    try simp only [Act.put, List.setIfInBounds_toArray, List.set_cons_zero, List.set_cons_succ]
    refine wpAnyH_take (i := 6) (v := ?_) rfl (by kernel_rfl) (by kernel_rfl) (by kernel_rfl) (fun _ _ _ h => h) (Or.inl ⟨by rfl, ?_⟩) hHeld ?_
    rotate_left
    · (intro w hSw; (try dsimp only at hSw); go_simp; try with_reducible rfl)
    try simp only [Act.put, List.setIfInBounds_toArray, List.set_cons_zero, List.set_cons_succ]
    refine wpAnyH_take (i := 8) (v := ?_) rfl (by kernel_rfl) (by kernel_rfl) (by kernel_rfl) (fun _ _ _ h => h) (Or.inl ⟨by rfl, ?_⟩) hHeld ?_
    rotate_left
    · (intro w hSw; (try dsimp only at hSw); go_simp; try with_reducible rfl)
    try simp only [Act.put, List.setIfInBounds_toArray, List.set_cons_zero, List.set_cons_succ]
    refine wpAnyH_ready (rs := [7]) (by kernel_rfl) (by simp) ?_
    refine AllReadyH.cons rfl (fun K hK => ?_) AllReadyH.nil
    go_simp
    go_at_call 92
    refine (HAD.out _ (show IRow W.drew (some ⟨g, 0, none⟩) z C from HG1.out.row) (show IRow W.drew (D e) 3 (H e) from HR9.out)).mono ?_
    rintro e5 W5 ⟨rfl, rfl⟩
    refine hK.out _ _ hHeld (fun _ => ?_)
    clear hK K
    try simp only [Act.put, List.setIfInBounds_toArray, List.set_cons_zero, List.set_cons_succ]
    refine wpAnyH_take (i := 9) (v := .int .i64 r1) rfl (by kernel_rfl) (by kernel_rfl) (by kernel_rfl) (fun _ _ _ h => h) (Or.inl ⟨by rfl, ?_⟩) hHeld ?_
    · (intro w hSw; go_simp)
    try simp only [Act.put, List.setIfInBounds_toArray, List.set_cons_zero, List.set_cons_succ]
    refine wpAnyH_take (i := 10) (v := ?_) rfl (by kernel_rfl) (by kernel_rfl) (by kernel_rfl) (fun _ _ _ h => h) (Or.inl ⟨by rfl, ?_⟩) hHeld ?_
    rotate_left
    · (intro w hSw; (try dsimp only at hSw); go_simp; try with_reducible rfl)
    try simp only [Act.put, List.setIfInBounds_toArray, List.set_cons_zero, List.set_cons_succ]
    refine wpAnyH_done (by kernel_rfl) ?_ _
    unfold OnlyN
    gi_wp2_with (fail)
    refine wpIn_region_roundH (S := fun W' => W'.cell? ⟨w.heap.size + 1, 0, none⟩ = some (.slice (some ⟨g, 0, none⟩) z z) ∧ W'.cell? ⟨Bx, 0, none⟩ = some (.int .i64 e) ∧ W'.cell? ⟨Bx, 1, none⟩ = some (.int .i64 pp) ∧ W'.cell? ⟨w.heap.size + 1 + 1 + 1, 0, none⟩ = some (.func (.func 73) #[] #[.pointer (some ⟨hb, 0, none⟩)]) ∧ W'.cell? ⟨w.heap.size + 1 + 1, 0, none⟩ = some (.int .i64 c)) hmix (by kernel_rfl) ⟨c2, x0, x1, c4, c3⟩ (fun hHeld => ?_)
    refine wpAnyH_take (i := 0) (v := ?_) rfl (by kernel_rfl) (by kernel_rfl) (by kernel_rfl) (fun _ _ _ h => h) (Or.inl ⟨by rfl, ?_⟩) hHeld ?_
    rotate_left
    · (intro w hSw; (try dsimp only at hSw); go_simp; try with_reducible rfl)
    try simp only [Act.put, List.setIfInBounds_toArray, List.set_cons_zero, List.set_cons_succ]
    refine wpAnyH_take (i := 1) (v := ?_) rfl (by kernel_rfl) (by kernel_rfl) (by kernel_rfl) (fun _ _ _ h => h) (Or.inl ⟨by rfl, ?_⟩) hHeld ?_
    rotate_left
    · (intro w hSw; (try dsimp only at hSw); go_simp; try with_reducible rfl)
    try simp only [Act.put, List.setIfInBounds_toArray, List.set_cons_zero, List.set_cons_succ]
    refine wpAnyH_take (i := 2) (v := ?_) rfl (by kernel_rfl) (by kernel_rfl) (by kernel_rfl) (fun _ _ _ h => h) (Or.inl ⟨by rfl, ?_⟩) hHeld ?_
    rotate_left
    · (intro w hSw; (try dsimp only at hSw); go_simp; try with_reducible rfl)
    try simp only [Act.put, List.setIfInBounds_toArray, List.set_cons_zero, List.set_cons_succ]
    refine wpAnyH_take (i := 3) (v := ?_) rfl (by kernel_rfl) (by kernel_rfl) (by kernel_rfl) (fun _ _ _ h => h) (Or.inl ⟨by rfl, ?_⟩) hHeld ?_
    rotate_left
    · (intro w hSw; (try dsimp only at hSw); go_simp; try with_reducible rfl)
    try simp only [Act.put, List.setIfInBounds_toArray, List.set_cons_zero, List.set_cons_succ]
    refine wpAnyH_take (i := 4) (v := ?_) rfl (by kernel_rfl) (by kernel_rfl) (by kernel_rfl) (fun _ _ _ h => h) (Or.inl ⟨by rfl, ?_⟩) hHeld ?_
    rotate_left
    · (intro w hSw; (try dsimp only at hSw); go_simp; try with_reducible rfl)
    try simp only [Act.put, List.setIfInBounds_toArray, List.set_cons_zero, List.set_cons_succ]
    refine wpAnyH_take (i := 6) (v := ?_) rfl (by kernel_rfl) (by kernel_rfl) (by kernel_rfl) (fun _ _ _ h => h) (Or.inl ⟨by rfl, ?_⟩) hHeld ?_
    rotate_left
    · (intro w hSw; (try dsimp only at hSw); go_simp; try with_reducible rfl)
    try simp only [Act.put, List.setIfInBounds_toArray, List.set_cons_zero, List.set_cons_succ]
    refine wpAnyH_take (i := 8) (v := ?_) rfl (by kernel_rfl) (by kernel_rfl) (by kernel_rfl) (fun _ _ _ h => h) (Or.inl ⟨by rfl, ?_⟩) hHeld ?_
    rotate_left
    · (intro w hSw; (try dsimp only at hSw); go_simp; try with_reducible rfl)
    try simp only [Act.put, List.setIfInBounds_toArray, List.set_cons_zero, List.set_cons_succ]
    refine wpAnyH_take (i := 10) (v := ?_) rfl (by kernel_rfl) (by kernel_rfl) (by kernel_rfl) (fun _ _ _ h => h) (Or.inl ⟨by rfl, ?_⟩) hHeld ?_
    rotate_left
    · (intro w hSw; (try dsimp only at hSw); go_simp; try with_reducible rfl)
    try simp only [Act.put, List.setIfInBounds_toArray, List.set_cons_zero, List.set_cons_succ]
    refine wpAnyH_ready (rs := [5]) (by kernel_rfl) (by simp) ?_
    refine AllReadyH.cons rfl (fun K hK => ?_) AllReadyH.nil
    go_simp
    refine (wanted_Peeled (W := W.drew.drew) (e := e) (p := pp) (show W.drew.drew.cell? ⟨hb, 1, none⟩ = _ from HCE.out) (show HR W.drew.drew _ n D (fun _ => 3) dd H from HR2.out) hEn).mono ?_
    rintro e5 W5 ⟨rfl, hq⟩
    have hq5 : Below W.heap.size W W5 := of_drew (of_drew hq)
    clear hq
    have G5 := HG1.out.b hq5
    have c8 := G5.cell hPz
    have f8 := G5.frozen pp
    unfold intV at c8
    have hxb : Bx < W.heap.size := (Array.getElem?_eq_some_iff.1 BX.out.blk).1
    have d1 := (hq5.cell (p := ⟨w.heap.size, 1, none⟩) (show w.heap.size < _ by omega)).trans c1
    have d2 := (hq5.cell (p := ⟨w.heap.size + 1, 0, none⟩) (show w.heap.size + 1 < _ by omega)).trans c2
    have d3 := (hq5.cell (p := ⟨w.heap.size + 1 + 1, 0, none⟩) (show w.heap.size + 1 + 1 < _ by omega)).trans c3
    have d4 := (hq5.cell (p := ⟨w.heap.size + 1 + 1 + 1, 0, none⟩) (show w.heap.size + 1 + 1 + 1 < _ by omega)).trans c4
    have y0 := (hq5.cell (p := ⟨Bx, 0, none⟩) hxb).trans x0
    have y1 := (hq5.cell (p := ⟨Bx, 1, none⟩) hxb).trans x1
    clear hHeld
    refine hK.out _ _ ⟨d2, y0, y1, d4, d3⟩ (fun hHeld => ?_)
    clear hK K
    try simp only [Act.put, List.setIfInBounds_toArray, List.set_cons_zero, List.set_cons_succ]
    refine wpAnyH_take (i := 7) (v := .int .i64 (wv + c)) rfl (by kernel_rfl) (by kernel_rfl) (by kernel_rfl) (fun _ _ _ h => h) (Or.inl ⟨by rfl, ?_⟩) hHeld ?_
    · (intro w hSw; go_simp)
    try simp only [Act.put, List.setIfInBounds_toArray, List.set_cons_zero, List.set_cons_succ]
    refine wpAnyH_take (i := 9) (v := .int .i64 (wv + c - r1)) rfl (by kernel_rfl) (by kernel_rfl) (by kernel_rfl) (fun _ _ _ h => h) (Or.inl ⟨by rfl, ?_⟩) hHeld ?_
    · (intro w hSw; go_simp)
    try simp only [Act.put, List.setIfInBounds_toArray, List.set_cons_zero, List.set_cons_succ]
    refine wpAnyH_take (i := 11) (v := .int .i64 y) rfl (by kernel_rfl) (by kernel_rfl) (by kernel_rfl) (fun _ _ _ h => h) (Or.inl ⟨by rfl, ?_⟩) hHeld ?_
    · (intro w hSw; go_simp)
    try simp only [Act.put, List.setIfInBounds_toArray, List.set_cons_zero, List.set_cons_succ]
    refine wpAnyH_take (i := 12) (v := ?_) rfl (by kernel_rfl) (by kernel_rfl) (by kernel_rfl) (fun _ _ _ h => h) (Or.inl ⟨by rfl, ?_⟩) hHeld ?_
    rotate_left
    · (intro w hSw; (try dsimp only at hSw); go_simp; try with_reducible rfl)
    try simp only [Act.put, List.setIfInBounds_toArray, List.set_cons_zero, List.set_cons_succ]
    refine wpAnyH_ready (rs := [13]) (by kernel_rfl) (by simp) ?_
    refine AllReadyH.cons rfl (fun K hK => ?_) AllReadyH.nil
    go_simp
    refine hK.out _ _ ⟨(cell_far (by omega)).trans d2, (cell_far (by omega)).trans y0, (cell_far (by omega)).trans y1, (cell_far (by omega)).trans d4, (cell_far (by omega)).trans d3⟩ (fun _ => ?_)
    clear hK K
    refine wpAnyH_done (by kernel_rfl) ?_ _
    refine ⟨⟨by simpa using hq5.size, fun b o hBb hk2 _ => (Go.Deep.blk_setCell_other _ _ _ _ (show b ≠ g by omega)).trans ((hq5.block b (Array.getElem?_eq_some_iff.1 hk2).1).trans hk2)⟩, ⟨by simpa using hq5.size, fun b h1 h2 => (Go.Deep.blk_setCell_other _ _ _ _ h2).trans (hq5.block b (by omega))⟩, ⟨⟨(cell_far (by omega)).trans d1, (cell_far (by omega)).trans d2, (cell_far (by omega)).trans d3, (cell_far (by omega)).trans d4⟩, ?_, by have := hq5.size; simp; omega⟩, below_setAt (HB1.out.trans (hq5.mono (by omega))) (Nat.le_refl _) _⟩
    rw [HSN.out, HSY.out]
    exact (G5.set pp (.int .i64 y)).congr (fun j _ => by unfold intV upd; split <;> rfl)
  case done =>
    rintro D' ys W hD hys ⟨⟨hc1, hg1, hs1⟩, hB1⟩ hK
    rw [hys] at hg1
    gi_wp2_with (fail)
    refine ⟨by simp, .inl ⟨_, _, rfl, run_takeDeferred hK, ?_⟩⟩
    refine ⟨_, results_none rfl _ _ _, ⟨_, rfl⟩, ?_, hB1.trans (belowK_b (w := W0) (by omega) W D' _ _ (by omega) hK rfl rfl)⟩
    obtain ⟨q1, q2, q3, q4⟩ := hg1
    exact ⟨q1, (World.putObj_heap_other (by omega)).trans q2, q3, q4⟩
  case stop =>
    rintro D' c' pre W _ _ h _
    exact h.elim
end
end Go.Proofs.Ytijlpbcgkecinab

/- slices.Repeat of one int. -/
namespace Go.Proofs.Ytijlpbcgkecinab
open Go.RowKit

theorem and_lo : ∀ z : Fin 73, bits .and .u64 ((z.val : Nat) : Int) 4294967295 = ((z.val : Nat) : Int) := by decide
set_option maxRecDepth 100000 in
set_option maxHeartbeats 2000000 in
theorem mul64_one (z : Nat) (hz : z ≤ 72) (w : World) :
    Calls Try.prog 102 #[.int .u64 1, .int .u64 z] w fun e w' => e = .returned (.tuple #[.int .u64 0, .int .u64 z]) ∧ w = w' := by
  have e1 : bits .and .u64 (z : Int) 4294967295 = (z : Int) := and_lo ⟨z, by omega⟩
  have e0 : bits .and .u64 1 4294967295 = 1 := by decide
  have e2 : bits .and .u64 0 4294967295 = 0 := by decide
  go_enter Try.func102, Try.ntmps102
  go_wp2_with fail
  go_ret2
  have e3 : (z : Int) / 4294967296 = 0 := by omega
  have e4 : IntKind.u64.wrap 0 = 0 := by decide
  exact ⟨by simp [e3, e2, e4], rfl⟩
set_option maxRecDepth 100000 in
set_option maxHeartbeats 2000000 in
theorem mul_one_is (z : Nat) (hz : z ≤ 72) (w : World) :
    Calls Try.prog 93 #[.int .u64 1, .int .u64 z] w fun e w' => e = .returned (.tuple #[.int .u64 0, .int .u64 z]) ∧ w = w' := by
  have e1 : bits .and .u64 (z : Int) 4294967295 = (z : Int) := and_lo ⟨z, by omega⟩
  go_enter Try.func93, Try.ntmps93
  go_wp2_with fail
  refine (mul64_one z hz _).mono ?_; rintro e w1 ⟨rfl, rfl⟩
  go_wp2_with fail
  go_ret2
  exact ⟨rfl, rfl⟩
/-- copy within a row, from its head to where the head ends. -/
theorem copy_self (w : World) (g m q d c1 c2 : Nat) (Y : Nat → Int) (ho : ORow w g m Y) (hq : q ≤ m) (hd : d = Nat.min q (m - q)) :
    ∃ w2, (∀ ty, (Builtin.copy_ #[22, 22] ty #[.slice (some ⟨g, q, none⟩) (m - q) c1, .slice (some ⟨g, 0, none⟩) q c2]).run Try.prog w = .ok (.int .i64 d) w2) ∧
      ORow w2 g m (fun i => if q ≤ i ∧ i < q + d then Y (i - q) else Y i) ∧ w.grownBy w2 (some g) := by
  have hd1 : d ≤ q := by rw [hd]; exact Nat.min_le_left _ _
  have hd2 : d ≤ m - q := by rw [hd]; exact Nat.min_le_right _ _
  have hrow := ho
  obtain ⟨cs, hb, hm, hcs⟩ := ho
  have hl : ((List.range d).map fun i => Value.int .i64 (Y i)).length = d := by simp
  have hrun := fun ty => run_copy_row (P := Try.prog) w 22 22 ty 3 g q (m - q) c1 ⟨g, 0, none⟩ q c2 cs 3 ((List.range d).map fun i => Value.int .i64 (Y i)) Try.underlying22 sizeI hb (by rw [hl]; exact hd)
    (fun j v hv => by
      rw [range_at] at hv
      by_cases h : j < d
      · rw [if_pos h] at hv
        injection hv with hv
        subst hv
        rw [addr_add, Nat.zero_add]; exact hrow.cell (by omega)
      · rw [if_neg h] at hv; cases hv)
    (by rw [hl]; omega) (fun v hv => by
      rw [List.mem_map] at hv
      obtain ⟨k, _, rfl⟩ := hv
      rfl)
  rw [hl] at hrun
  refine ⟨_, hrun, ⟨_, setRow_heap w g cs _ 3 (0, 0) hb, ?_, fun i hi => ?_⟩, ⟨rfl, rfl, rfl, by simp, fun k _ hk => setRow_other w g k _ (fun e => hk (by rw [e]))⟩⟩
  · simp; omega
  · dsimp only
    have hci := hcs i hi
    have hli : i < cs.toList.length := by simp; omega
    rw [List.getElem?_toArray, List.append_assoc]
    by_cases h : i < q
    · rw [List.getElem?_append_left (by simp; omega), List.getElem?_take, if_pos h, if_neg (by omega)]
      simpa using hci
    · rw [List.getElem?_append_right (by simp; omega), List.length_take, show min q cs.toList.length = q by simp; omega]
      by_cases h2 : i < q + d
      · rw [List.getElem?_append_left (by rw [hl]; omega), range_at, if_pos (by omega), if_pos (by omega)]
      · rw [List.getElem?_append_right (by rw [hl]; omega), hl, List.getElem?_drop, if_neg (by omega), show q + d + (i - q - d) = i by omega]
        simpa using hci
set_option maxRecDepth 100000 in
set_option linter.unusedSimpArgs false in
set_option maxHeartbeats 4000000 in
theorem repeat_is {w : World} {A : Option Addr} {c z : Nat} {x : Int} (hr : IRow w A 1 (fun _ => x)) (hz : 1 ≤ z ∧ z ≤ 72) :
    Calls Try.prog 72 #[.slice A 1 c, .int .i64 z] w fun e w' => ∃ g, e = .returned (.slice (some ⟨g, 0, none⟩) z z) ∧ w.heap.size ≤ g ∧ GOwn w' 3 g z (intV (fun _ => x)) ∧ Below w.heap.size w w' := by
  have HR := Lib.hid hr
  clear hr
  have hmk := fun W => run_make_row' (P := Try.prog) 22 3 (.int .i64 0) 8 Try.underlying22 infoI rfl .i64 .i64 z (by omega) (by omega) W
  have hneg : ¬ ((z : Int) < 0) := by omega
  go_enter Try.func72, Try.ntmps72
  go_wp2_with fail
  refine (mul_one_is z hz.2 _).mono ?_; rintro e w1 ⟨rfl, rfl⟩
  have hb1 := (Below.refl w.heap.size w).alloc (Nat.le_refl _) (.cells (madeCells #[.int .i64 0] z) 3)
  obtain ⟨w3, hc3, hO3, hg3⟩ := copy_words (w.alloc (.cells (madeCells #[.int .i64 0] z) 3)) w.heap.size z z 1 c A (fun _ => x) (fun _ => 0) (ORow.made w z) (HR.out.b hb1) hz.1
  have O3 := Lib.hid (show ORow w3 w.heap.size z (fun i => if i < 1 then x else 0) from hO3)
  have B3 := Lib.hid (hb1.trans (below_of_grown hg3 (by simp) (Nat.le_refl _)))
  clear hO3 hg3 hb1
  go_wp2_with fail
  go_loopw [8] (fun i wr => ∃ q : Nat, 1 ≤ q ∧ q ≤ z ∧ i = .int .i64 q ∧ Hid (ORow wr w.heap.size z (fun i => if i < q then x else 0)) ∧ Hid (Below w.heap.size w wr)) (fun i _ => z - (intOf i).toNat)
  case atStart => exact ⟨1, Nat.le_refl _, hz.1, rfl, O3, B3⟩
  case round =>
    obtain ⟨q, hq1, hq2, rfl, HO, HB⟩ := hrel
    by_cases hlt : q < z
    · obtain ⟨d, hd⟩ : ∃ d, d = Nat.min q (z - q) := ⟨_, rfl⟩
      obtain ⟨w5, hc5, hO5, hg5⟩ := copy_self wr.drew w.heap.size z q d (z - q) z _ (show ORow wr.drew w.heap.size z _ from HO.out) hq2 hd
      have hd1 : d ≤ q := by rw [hd]; exact Nat.min_le_left _ _
      have hd2 : d ≤ z - q := by rw [hd]; exact Nat.min_le_right _ _
      have hd3 : 1 ≤ d := by rw [hd]; exact Nat.le_min.2 ⟨hq1, by omega⟩
      have hne : ¬ z = q := by omega
      have e5 : IntKind.i64.wrap ((q : Int) + (d : Int)) = (q : Int) + (d : Int) := IntWalk.i64_in _ (by omega)
      have g1 : (0 : Int) ≤ (q : Int) := by omega
      have g2 : (q : Int) ≤ (z : Int) := by omega
      have hmix : Try.prog.follows .mixedOrders = true := by kernel_rfl
      have O5 := Lib.hid hO5
      have G5 := Lib.hid hg5
      clear hO5 hg5 hd
      go_wp2_with fail
      refine wp_region_held_drew (S := fun _ => True) hmix trivial (fun hHeld => ?_)
      refine wpAnyH_take (i := 0) (v := ?_) rfl (by kernel_rfl) (by kernel_rfl) (by kernel_rfl) (fun _ _ _ h => h) (Or.inl ⟨by rfl, ?_⟩) hHeld ?_
      rotate_left
      · (intro w hSw; (try dsimp only at hSw); go_simp; try with_reducible rfl)
      try simp only [Act.put, List.setIfInBounds_toArray, List.set_cons_zero, List.set_cons_succ]
      refine wpAnyH_take (i := 1) (v := ?_) rfl (by kernel_rfl) (by kernel_rfl) (by kernel_rfl) (fun _ _ _ h => h) (Or.inl ⟨by rfl, ?_⟩) hHeld ?_
      rotate_left
      · (intro w hSw; (try dsimp only at hSw); go_simp; try with_reducible rfl)
      try simp only [Act.put, List.setIfInBounds_toArray, List.set_cons_zero, List.set_cons_succ]
      refine wpAnyH_take (i := 2) (v := ?_) rfl (by kernel_rfl) (by kernel_rfl) (by kernel_rfl) (fun _ _ _ h => h) (Or.inl ⟨by rfl, ?_⟩) hHeld ?_
      rotate_left
      · (intro w hSw; (try dsimp only at hSw); go_simp; try with_reducible rfl)
      try simp only [Act.put, List.setIfInBounds_toArray, List.set_cons_zero, List.set_cons_succ]
      refine wpAnyH_take (i := 3) (v := ?_) rfl (by kernel_rfl) (by kernel_rfl) (by kernel_rfl) (fun _ _ _ h => h) (Or.inl ⟨by rfl, ?_⟩) hHeld ?_
      rotate_left
      · (intro w hSw; (try dsimp only at hSw); go_simp; try with_reducible rfl)
      try simp only [Act.put, List.setIfInBounds_toArray, List.set_cons_zero, List.set_cons_succ]
      refine wpAnyH_take (i := 4) (v := ?_) rfl (by kernel_rfl) (by kernel_rfl) (by kernel_rfl) (fun _ _ _ h => h) (Or.inl ⟨by rfl, ?_⟩) hHeld ?_
      rotate_left
      · (intro w hSw; (try dsimp only at hSw); go_simp; try with_reducible rfl)
      try simp only [Act.put, List.setIfInBounds_toArray, List.set_cons_zero, List.set_cons_succ]
      refine wpAnyH_take (i := 5) (v := ?_) rfl (by kernel_rfl) (by kernel_rfl) (by kernel_rfl) (fun _ _ _ h => h) (Or.inl ⟨by rfl, ?_⟩) hHeld ?_
      rotate_left
      · (intro w hSw; (try dsimp only at hSw); go_simp; try with_reducible rfl)
      try simp only [Act.put, List.setIfInBounds_toArray, List.set_cons_zero, List.set_cons_succ]
      refine wpAnyH_take (i := 6) (v := ?_) rfl (by kernel_rfl) (by kernel_rfl) (by kernel_rfl) (fun _ _ _ h => h) (Or.inl ⟨by rfl, ?_⟩) hHeld ?_
      rotate_left
      · (intro w hSw; (try dsimp only at hSw); go_simp; try with_reducible rfl)
      try simp only [Act.put, List.setIfInBounds_toArray, List.set_cons_zero, List.set_cons_succ]
      refine wpAnyH_ready (rs := [7]) (by kernel_rfl) (by simp) ?_
      refine AllReadyH.cons rfl (fun K hK => ?_) AllReadyH.nil
      go_simp
      refine hK.out _ _ trivial (fun _ => ?_)
      clear hK K
      try simp only [Act.put, List.setIfInBounds_toArray, List.set_cons_zero, List.set_cons_succ]
      refine wpAnyH_take (i := 8) (v := .int .i64 ((q : Int) + (d : Int))) rfl (by kernel_rfl) (by kernel_rfl) (by kernel_rfl) (fun _ _ _ h => h) (Or.inl ⟨by rfl, ?_⟩) hHeld ?_
      · (intro w hSw; (try dsimp only at hSw); go_simp)
      try simp only [Act.put, List.setIfInBounds_toArray, List.set_cons_zero, List.set_cons_succ]
      refine wpAnyH_ready (rs := [9]) (by kernel_rfl) (by simp) ?_
      refine AllReadyH.cons rfl (fun K hK => ?_) AllReadyH.nil
      go_simp
      refine hK.out _ _ trivial (fun _ => ?_)
      clear hK K
      refine wpAnyH_done (by kernel_rfl) ?_ _
      have B5 := Lib.hid (HB.out.trans ((show Below w.heap.size wr wr.drew from below_drewN (Below.refl _ _) 1).trans (below_of_grown G5.out (show w.heap.size ≤ wr.drew.heap.size from HB.out.size) (Nat.le_refl _))))
      go_wp2_with fail
      go_roundw
      case rel => exact ⟨q + d, by omega, by omega, by go_num, Lib.hid (O5.out.congr (fun j hj => by (repeat' split) <;> first | rfl | omega)), B5⟩
      case measure => simp [intOf]; omega
    · obtain rfl : q = z := by omega
      go_wp2_with fail
      go_ret
      exact ⟨_, rfl, Nat.le_refl _, (show GOwn wr 3 w.heap.size q (intV (fun i => if i < q then x else 0)) from HO.out).congr (fun j hj => by unfold intV; dsimp only; rw [if_pos hj]), HB.out⟩
end Go.Proofs.Ytijlpbcgkecinab

/- A Table among the answers, its cells one's own. -/
namespace Go.Proofs.Ytijlpbcgkecinab
open Go.RowKit

theorem vec_pos {w : World} {B n c : Nat} {A : Option Addr} {F : Nat → Value} (h : w.ownsRow B 3 1 (.slice A n c) n (vals F n)) (h0 : 0 < n) : ∃ g, A = some ⟨g, 0, none⟩ ∧ B ≤ g ∧ GOwn w 3 g n F := by
  rcases owned_vec h with e | h
  · omega
  · exact h
theorem own_setA {w : World} {B : Nat} {e : TypeId} {A : Option Addr} {k c : Nat} {xs : List Value} (h : w.ownsRow B e 1 (.slice A k c) k xs) {b o : Nat} (hb : b < B) (v : Value) : (w.setCell ⟨b, o, none⟩ v).ownsRow B e 1 (.slice A k c) k xs :=
  h.kept (grown_setCell (World.grownBy.refl w _) o v) (by
    by_cases e : (Value.slice A k c).ownBlock = none
    · exact .inl e
    · refine .inr (fun e2 => ?_)
      have := (h.lt b e2).1
      omega)
theorem ow_setA {w : World} {lo hi b o n : Nat} {t : TypeId} {A : Option Addr} {F : Nat → Value} (h : Ow lo hi t A n F w) (hb : b < lo) (v : Value) : Ow lo hi t A n F (w.setCell ⟨b, o, none⟩ v) := fun h0 => by
  obtain ⟨g, off, c, h1, h2, h3, h4, h5⟩ := h h0
  exact ⟨g, off, c, h1, h2, h3, (Go.Deep.blk_setCell_other _ _ _ _ (by show g ≠ b; omega)).trans h4, h5⟩
/-- A Table with cells of one's own beside a word. -/
def TaOwn (z0 z1 z2 : Int) (n : Nat) (X : Nat → Int) (b : Bool) (w : World) (e : Ending) (w' : World) : Prop :=
  ∃ A c, e = .returned (.tuple #[.agg #[.int .i64 z0, .int .i64 z1, .int .i64 z2, .slice A n c], .bool b]) ∧ Ow w.heap.size w'.heap.size 3 A n (intV X) w' ∧ Below w.heap.size w w'
end Go.Proofs.Ytijlpbcgkecinab

/- BuildPeeled: the program's. -/
namespace Go.Proofs.Ytijlpbcgkecinab
open Go.RowKit

theorem goes_wn {z n k : Nat} {X : Nat → Nat → Int} {C : Nat → Nat} (h : Goes z (fun _ => 3) X n C k) : ∀ j, j < k → 0 ≤ wnP X (stE z (fun _ => 3) X n C j) (stP z (fun _ => 3) X n C j) := fun j hj => by
  have h1 := plc_mem (ch := C j) (h j hj)
  have h2 := (edg_first h1.2).2.2.1
  exact seek_some.2 h2
/-- A Peeled with marks of one's own beside a word. -/
def PdOwn (z0 z1 : Int) (n : Nat) (X : Nat → Int) (b : Bool) (w : World) (e : Ending) (w' : World) : Prop :=
  ∃ A c, e = .returned (.tuple #[.agg #[.int .i64 z0, .int .i64 z1, .slice A n c], .bool b]) ∧ Ow w.heap.size w'.heap.size 3 A n (intV X) w' ∧ Below w.heap.size w w'
/-- The marks that the steps leave. -/
def pdF (seed : Int) (q z n : Nat) (S : Nat → ByteArray) (k : Nat) : Nat → Int := seF (stE z (fun _ => 3) (eH seed q S) n zeroC) (stP z (fun _ => 3) (eH seed q S) n zeroC) (eH seed q S) (wnP (eH seed q S)) 3 (fun _ => 3) (backL k k)
/-- What building a Peeled answers: by the steps, if all edges are peeled. -/
def PdPost (seed : Int) (q z n : Nat) (S : Nat → ByteArray) (w : World) (e : Ending) (w' : World) : Prop := ∃ k, Goes z (fun _ => 3) (eH seed q S) n zeroC k ∧ freL (degF (fun _ => 3) (eH seed q S) (goneS z (fun _ => 3) (eH seed q S) n zeroC k) n) z = [] ∧ ((leftL (goneS z (fun _ => 3) (eH seed q S) n zeroC k) n).length = 0 → PdOwn seed q z (pdF seed q z n S k) true w e w') ∧ (0 < (leftL (goneS z (fun _ => 3) (eH seed q S) n zeroC k) n).length → PdOwn 0 0 0 (fun _ => 0) false w e w')
section
variable {seed : Int} {KA : Option Addr} {n kc : Nat} {S : Nat → ByteArray} {w : World} {q : Nat}
set_option maxRecDepth 100000 in
set_option maxHeartbeats 4000000 in
theorem impl_buildPeeled (hs : ∀ i, i < n → (S i).size ≤ maxLen) (hk : GRow w KA n (strV S)) (hky : keyedB seed S n q = true) :
    Calls Try.prog 38 #[.int .i64 seed, .slice KA n kc, .int .i64 q] w (PdPost seed q (3 * q) n S w) := by
  have hky2 := hky
  unfold keyedB at hky2
  simp only [Bool.and_eq_true, decide_eq_true_eq] at hky2
  obtain ⟨⟨hsd, hkk⟩, h1, h2⟩ := hky2
  have h1' : 1 ≤ q := by omega
  have h2' : q ≤ 24 := by omega
  have hn40 := keysB_size hkk
  have N0 := Lib.hid (nbx0 w #[.int .i64 0, .int .i64 0, .slice none 0 0] 57)
  have B0 := Lib.hid ((Below.refl w.heap.size w).alloc (Nat.le_refl _) (.cells #[.int .i64 0, .int .i64 0, .slice none 0 0] 57))
  have HS := Lib.hid hs
  have HK := Lib.hid hk
  obtain ⟨z, hz⟩ : ∃ z, z = 3 * q := ⟨_, rfl⟩
  have HHB := Lib.hid (fun e (_ : e < n) j (hj : j < 3) => show 0 ≤ eH seed q S e j ∧ eH seed q S e j < (z : Int) from by have := eH_in (seed := seed) (S := S) (k := e) h1' h2' j hj; rw [hz]; exact this)
  rw [← hz]
  have hz72 : z ≤ 72 := by omega
  have hz0 : 0 < z := by omega
  have HZ := Lib.hid hz
  clear hs hk hky hz
  go_enter Try.func38, Try.ntmps38
  go_wp2_with fail
  refine (impl_peelKeys (kc := kc) HS.out (HK.out.b B0.out) hsd hkk h1' h2').mono ?_
  rintro e w1 hpost
  rw [← HZ.out] at hpost
  obtain ⟨k, hgo, hf, hb, h0, hp⟩ := hpost
  have HG := Lib.hid (And.intro hgo hf)
  have HBD := Lib.hid (goes_bd hgo)
  have HWN := Lib.hid (goes_wn hgo)
  have hkn : k ≤ n := by have := goes_len hgo; omega
  have N1 := Lib.hid (N0.out.b hb)
  have B1 := Lib.hid (B0.out.trans (hb.mono B0.out.size))
  clear hgo hf hb
  rcases Nat.eq_zero_or_pos (leftL (goneS z (fun _ => 3) (eH seed q S) n zeroC k) n).length with hL | hL
  · obtain ⟨A, c, SA, sc, rfl, hH, hST⟩ := h0 hL
    have HL := Lib.hid hL
    obtain ⟨D, dd, hH⟩ := hH
    clear h0 hp hL
    have hal := (Below.refl w1.heap.size w1).alloc (Nat.le_refl _) (.cells #[.int .i64 z, .slice A n c] 72)
    have hal2 := (Below.refl (w1.alloc (.cells #[.int .i64 z, .slice A n c] 72)).heap.size _).alloc (Nat.le_refl _) (.cells #[.int .i64 3] 3)
    have NH := (nbx0 w1 #[.int .i64 z, .slice A n c] 72).b hal2
    have hal := hal.trans (hal2.mono (by simp))
    have N2 := Lib.hid (N1.out.b hal)
    have B2 := Lib.hid (B1.out.trans (hal.mono B1.out.size))
    have H2 := Lib.hid (hH.b hal)
    have T2 := Lib.hid (hST.b hal)
    have y0 := NH.cell 0 _ rfl
    have y1 := NH.cell 1 _ rfl
    have Y1 := Lib.hid y1
    have X1 := nbx0 (w1.alloc (.cells #[.int .i64 z, .slice A n c] 72)) #[.int .i64 3] 3
    have xc := X1.cell 0 _ rfl
    have hxr : IRow ((w1.alloc (.cells #[.int .i64 z, .slice A n c] 72)).alloc (.cells #[.int .i64 3] 3)) (some ⟨w1.heap.size + 1, 0, none⟩) 1 (fun _ => 3) := fun _ => ⟨w1.heap.size + 1, 0, rfl, by simp, fun j hj => by
      obtain rfl : j = 0 := by omega
      simpa only [World.size_alloc] using xc⟩
    have HXR := Lib.hid hxr
    have hw1 : w1.heap.size < ((w1.alloc (.cells #[.int .i64 z, .slice A n c] 72)).alloc (.cells #[.int .i64 3] 3)).heap.size := by simp; omega
    clear hxr X1 xc NH hal hal2 hH hST
    go_wp2_with fail
    refine (repeat_is HXR.out ⟨hz0, hz72⟩).mono ?_
    rintro e w3 ⟨g, rfl, hgs, hX, hb⟩
    have HX := Lib.hid hX
    have HB3 := Lib.hid hb
    have N3 := Lib.hid (N2.out.b hb)
    have B3 := Lib.hid (B2.out.trans (hb.mono B2.out.size))
    have y0 := (hb.cell (p := ⟨w1.heap.size, 0, none⟩) hw1).trans y0
    have y1 := (hb.cell (p := ⟨w1.heap.size, 1, none⟩) hw1).trans y1
    clear hX hb
    go_wp2_with fail
    refine (impl_settle_Peeled (c := 3) H2.out T2.out HB3.out hgs HX.out hz72 hkn hn40 ⟨by omega, by omega⟩ (fun _ _ => by show (0 : Int) ≤ 3 ∧ (3 : Int) ≤ ((40 : Nat) : Int); omega) HHB.out HBD.out HWN.out hw1 Y1.out).mono ?_
    rintro e w4 ⟨⟨v, rfl⟩, hgo, hb⟩
    have hwg : w.heap.size < g := by have := N2.out.lt; omega
    have N5 := Lib.hid (show NBX w.heap.size w.heap.size #[.int .i64 0, .int .i64 0, .slice none 0 0] 57 w4 from ⟨(hb.block _ hwg).trans N3.out.blk, Nat.le_refl _⟩)
    have B5 := Lib.hid (B3.out.trans (hb.mono (show w.heap.size ≤ g by omega)))
    have HX4 := Lib.hid hgo
    clear hgo hb y0 y1
    have r0 := N5.out.cell 0 _ rfl
    have r1 := N5.out.cell 1 _ rfl
    have r2 := N5.out.cell 2 _ rfl
    have g0 := N5.out.free 0
    have g1 := N5.out.free 1
    have g2 := N5.out.free 2
    go_wp2_with fail
    have N4 := Lib.hid (((N5.out.set 0 (.int .i64 seed)).set 1 (.int .i64 q)).set 2 (.slice (some ⟨g, 0, none⟩) z z))
    have s0 := N4.out.cell 0 (.int .i64 seed) (by simp)
    have s1 := N4.out.cell 1 (.int .i64 q) (by simp)
    have s2 := N4.out.cell 2 (.slice (some ⟨g, 0, none⟩) z z) (by simp)
    refine bodyPost_ret (v := .tuple #[.agg #[.int .i64 seed, .int .i64 q, (.slice (some ⟨g, 0, none⟩) z z)], .bool true]) (by simp [results, Try.results38, go_sem, s0, s1, s2]) rfl ?_
    refine ⟨k, HG.out.1, HG.out.2, fun _ => ?_, fun h => absurd h (by have := HL.out; omega)⟩
    exact ⟨_, _, rfl, (ow_setA (ow_setA (ow_setA (ow_of_own (m := z) HX4.out (Nat.le_refl _) (Nat.le_refl _)) (by omega) _) (by omega) _) (by omega) _).mono (by omega) (by simp), below_setAt (below_setAt (below_setAt B5.out (Nat.le_refl _) _) (Nat.le_refl _) _) (Nat.le_refl _) _⟩
  · obtain ⟨A, c, rfl⟩ := hp hL
    have HL := Lib.hid hL
    clear h0 hp hL
    have hal := (Below.refl w1.heap.size w1).alloc (Nat.le_refl _) (.cells #[.int .i64 z, .slice A n c] 72)
    have N2 := Lib.hid (N1.out.b hal)
    have B2 := Lib.hid (B1.out.trans (hal.mono B1.out.size))
    clear hal
    have r0 := N2.out.cell 0 _ rfl
    have r1 := N2.out.cell 1 _ rfl
    have r2 := N2.out.cell 2 _ rfl
    have g0 := N2.out.free 0
    have g1 := N2.out.free 1
    have g2 := N2.out.free 2
    go_wp2_with fail
    have N4 := Lib.hid (((N2.out.set 0 (.int .i64 0)).set 1 (.int .i64 0)).set 2 (.slice none 0 0))
    have s0 := N4.out.cell 0 (.int .i64 0) (by simp)
    have s1 := N4.out.cell 1 (.int .i64 0) (by simp)
    have s2 := N4.out.cell 2 (.slice none 0 0) (by simp)
    refine bodyPost_ret (v := .tuple #[.agg #[.int .i64 0, .int .i64 0, .slice none 0 0], .bool false]) (by simp [results, Try.results38, go_sem, s0, s1, s2]) rfl ?_
    exact ⟨k, HG.out.1, HG.out.2, fun h => absurd h (by have := HL.out; omega), fun _ => ⟨none, 0, rfl, ow_zero _ _ _ _ _ _, below_setAt (below_setAt (below_setAt B2.out (Nat.le_refl _) _) (Nat.le_refl _) _) (Nat.le_refl _) _⟩⟩
set_option maxRecDepth 100000 in
set_option maxHeartbeats 4000000 in
theorem impl_buildPeeled_no {g : Int} (hn : n ≤ 1048576) (hs : ∀ i, i < n → (S i).size ≤ maxLen) (hk : GRow w KA n (strV S)) (hkb : keyedB seed S n g = false) :
    Calls Try.prog 38 #[.int .i64 seed, .slice KA n kc, .int .i64 g] w (PdOwn 0 0 0 (fun _ => 0) false w) := by
  have N0 := Lib.hid (nbx0 w #[.int .i64 0, .int .i64 0, .slice none 0 0] 57)
  have B0 := Lib.hid ((Below.refl w.heap.size w).alloc (Nat.le_refl _) (.cells #[.int .i64 0, .int .i64 0, .slice none 0 0] 57))
  have HS := Lib.hid hs
  have HK := Lib.hid hk
  have HKB := Lib.hid hkb
  clear hs hk hkb
  go_enter Try.func38, Try.ntmps38
  go_wp2_with fail
  refine (impl_peelKeys_no (kc := kc) hn HS.out (HK.out.b B0.out) HKB.out).mono ?_; rintro e w1 ⟨rfl, hb⟩
  have hal := (Below.refl w1.heap.size w1).alloc (Nat.le_refl _) (.cells #[.int .i64 0, .slice none 0 0] 72)
  have N2 := Lib.hid ((N0.out.b hb).b hal)
  have B2 := Lib.hid ((B0.out.trans (hb.mono B0.out.size)).trans (hal.mono (Nat.le_trans B0.out.size hb.size)))
  clear hb hal
  have r0 := N2.out.cell 0 _ rfl
  have r1 := N2.out.cell 1 _ rfl
  have r2 := N2.out.cell 2 _ rfl
  have g0 := N2.out.free 0
  have g1 := N2.out.free 1
  have g2 := N2.out.free 2
  go_wp2_with fail
  have N4 := Lib.hid (((N2.out.set 0 (.int .i64 0)).set 1 (.int .i64 0)).set 2 (.slice none 0 0))
  have s0 := N4.out.cell 0 (.int .i64 0) (by simp)
  have s1 := N4.out.cell 1 (.int .i64 0) (by simp)
  have s2 := N4.out.cell 2 (.slice none 0 0) (by simp)
  refine bodyPost_ret (v := .tuple #[.agg #[.int .i64 0, .int .i64 0, .slice none 0 0], .bool false]) (by simp [results, Try.results38, go_sem, s0, s1, s2]) rfl ?_
  exact ⟨none, 0, rfl, ow_zero _ _ _ _ _ _, below_setAt (below_setAt (below_setAt B2.out (Nat.le_refl _) _) (Nat.le_refl _) _) (Nat.le_refl _) _⟩
end
end Go.Proofs.Ytijlpbcgkecinab

/- BuildPeeled: the model's. -/
namespace Go.Proofs.Ytijlpbcgkecinab
open Go.RowKit

set_option maxHeartbeats 1000000 in
theorem pfIndex_is (A : Option Addr) (m c : Nat) (G : Nat → Int) (x : Int) (w : World) (hm : m ≤ 1048576) (hr : GRow w A m (intV G)) (hin : 0 ≤ seekI (seek G x 0 m)) :
    Calls Try.prog 71 #[.slice A m c, .int .i64 x] w fun e w' => e = .returned (.int .i64 (seekI (seek G x 0 m))) ∧ w = w' := by
  have HR := Lib.hid hr
  have HIN := Lib.hid hin
  clear hr hin
  go_enter Try.func71, Try.ntmps71
  go_wp2_with fail
  go_loop [9] (fun i => ∃ k : Nat, k ≤ m ∧ i = .int .i64 k ∧ Hid (seek G x k (m - k) = seek G x 0 m)) (fun i => m - (intOf i).toNat)
  case atStart => exact ⟨0, Nat.zero_le _, rfl, rfl⟩
  case round =>
    obtain ⟨k, hk, rfl, hp⟩ := hrel
    by_cases hlt : k < m
    · obtain ⟨b, off, rfl, _, hc⟩ := HR.out (by omega)
      have hck := hc k hlt
      unfold intV at hck
      clear hc
      by_cases e : G k = x
      · have b1 : (G k == x) = true := by simpa using e
        have hz := Lib.hid (show seekI (seek G x 0 m) = (k : Int) by rw [← hp.out, seek_hit hlt e]; rfl)
        clear e
        go_wp2_with fail
        go_ret
        exact ⟨by rw [hz.out]; rfl, rfl⟩
      · have b1 : (G k == x) = false := by simpa using e
        have hq : Hid (seek G x (k + 1) (m - (k + 1)) = seek G x 0 m) := by show _ = _; rw [← seek_miss hlt e]; exact hp.out
        clear e
        go_wp2_with fail
        go_round
        case rel => exact ⟨k + 1, by omega, by go_num, hq⟩
        case measure => simp [intOf]; omega
    · obtain rfl : k = m := by omega
      have hz : seekI (seek G x 0 k) = -1 := by rw [← hp.out, seek_end]; rfl
      have := HIN.out
      omega
theorem se_facts3 {v s : Int} (hv : 0 ≤ v ∧ v ≤ 40) (hs : 0 ≤ s ∧ s ≤ 1000) : ∃ m y : Int, IntKind.i64.wrap (2 * s) = m ∧ IntKind.i64.wrap (v + m) = v + m ∧ (v + m).tmod 3 = y ∧ (v + ((3 : Nat) : Int) - s % ((3 : Nat) : Int)) % ((3 : Nat) : Int) = y := by
  refine ⟨2 * s, _, IntWalk.i64_in _ (by omega), IntWalk.i64_in _ (by omega), Int.tmod_eq_emod_of_nonneg (by omega), ?_⟩
  rw [← se_alt v s 3]
  rfl
/-- The model's marks under way. -/
structure PB (w1 : World) (seed : Int) (q k : Nat) (A : Option Addr) (c : Nat) (W : World) : Prop where
  below : Below w1.heap.size w1 W
  box : NBX w1.heap.size w1.heap.size #[.int .i64 seed, .int .i64 q, .slice A k c] 57 W
  own : W.ownsRow (w1.heap.size + 1) 3 1 (.slice A k c) k (vals (intV (fun _ => 3)) k)
/-- The model's Peeled under way. -/
structure QB (w1 : World) (seed : Int) (q g z c : Nat) (C : Nat → Int) (W : World) : Prop where
  below : Below w1.heap.size w1 W
  box : NBX w1.heap.size w1.heap.size #[.int .i64 seed, .int .i64 q, .slice (some ⟨g, 0, none⟩) z c] 57 W
  row : GOwn W 3 g z (intV C)
  hg : w1.heap.size < g
theorem QB.b {w1 W W2 : World} {seed : Int} {q g z c : Nat} {C : Nat → Int} (h : QB w1 seed q g z c C W) (hb : Below W.heap.size W W2) : QB w1 seed q g z c C W2 := ⟨h.below.trans (hb.mono h.below.size), h.box.b hb, h.row.b hb, h.hg⟩
theorem QB.set {w1 W : World} {seed : Int} {q g z c : Nat} {C : Nat → Int} (h : QB w1 seed q g z c C W) (i : Nat) (x : Int) : QB w1 seed q g z c (upd C i x) (W.setCell ⟨g, i, none⟩ (.int .i64 x)) :=
  ⟨below_setAt h.below (Nat.le_of_lt h.hg) _, nbx_other h.box (by have := h.hg; omega) _ _, (h.row.set i (.int .i64 x)).congr (fun j _ => by unfold intV upd; by_cases e : j = i <;> simp [e]), h.hg⟩
section
variable {seed : Int} {KA : Option Addr} {n kc : Nat} {S : Nat → ByteArray} {w : World} {q : Nat}
set_option maxRecDepth 100000 in
set_option maxHeartbeats 4000000 in
theorem spec_buildPeeled_no {g : Int} (hn : n ≤ 1048576) (hs : ∀ i, i < n → (S i).size ≤ maxLen) (hk : GRow w KA n (strV S)) (hkb : keyedB seed S n g = false) :
    Calls Try.prog 37 #[.int .i64 seed, .slice KA n kc, .int .i64 g] w (PdOwn 0 0 0 (fun _ => 0) false w) := by
  have N2 := Lib.hid (nbx0 w #[.int .i64 0, .int .i64 0, .slice none 0 0] 57)
  have B2 := Lib.hid ((Below.refl w.heap.size w).alloc (Nat.le_refl _) (.cells #[.int .i64 0, .int .i64 0, .slice none 0 0] 57))
  have HS := Lib.hid hs
  have HK := Lib.hid hk
  have HY := Lib.hid (fun W (h : GRow W KA n (strV S)) => spec_peKeyed seed KA n kc S g W hn HS.out h)
  rw [hkb] at HY
  clear hs hk hkb
  have r0 := N2.out.cell 0 _ rfl
  have r1 := N2.out.cell 1 _ rfl
  have r2 := N2.out.cell 2 _ rfl
  have g0 := N2.out.free 0
  have g1 := N2.out.free 1
  have g2 := N2.out.free 2
  go_enter Try.func37, Try.ntmps37
  go_wp2_with fail
  refine (HY.out _ (HK.out.b B2.out)).mono ?_; rintro e w1 ⟨rfl, rfl⟩
  go_wp2_with fail
  refine bodyPost_ret (v := .tuple #[.agg #[.int .i64 0, .int .i64 0, .slice none 0 0], .bool false]) (by simp [results, Try.results37, go_sem]) rfl ?_
  exact ⟨none, 0, rfl, ow_zero _ _ _ _ _ _, B2.out⟩
set_option maxRecDepth 100000 in
set_option linter.unusedSimpArgs false in
set_option maxHeartbeats 4000000 in
theorem spec_buildPeeled (hs : ∀ i, i < n → (S i).size ≤ maxLen) (hk : GRow w KA n (strV S)) (hky : keyedB seed S n q = true) :
    Calls Try.prog 37 #[.int .i64 seed, .slice KA n kc, .int .i64 q] w (PdPost seed q (3 * q) n S w) := by
  have hky2 := hky
  unfold keyedB at hky2
  simp only [Bool.and_eq_true, decide_eq_true_eq] at hky2
  obtain ⟨⟨hsd, hkk⟩, h1, h2⟩ := hky2
  have h1' : 1 ≤ q := by omega
  have h2' : q ≤ 24 := by omega
  have hn40 := keysB_size hkk
  have HO := Lib.hid (hyperOk_eH (seed := seed) (S := S) h1' h2' hn40)
  have N0 := Lib.hid (nbx0 w #[.int .i64 0, .int .i64 0, .slice none 0 0] 57)
  have B0 := Lib.hid ((Below.refl w.heap.size w).alloc (Nat.le_refl _) (.cells #[.int .i64 0, .int .i64 0, .slice none 0 0] 57))
  have HS := Lib.hid hs
  have HK := Lib.hid hk
  have HY := Lib.hid (fun W (h : GRow W KA n (strV S)) => spec_peKeyed seed KA n kc S q W (by omega) HS.out h)
  rw [hky] at HY
  obtain ⟨z, hz⟩ : ∃ z, z = 3 * q := ⟨_, rfl⟩
  have HPK := Lib.hid (show PkP S n q seed ↔ PeelsP z n (fun _ => 3) (eH seed q S) from by rw [hz]; exact ⟨fun h => h.2, fun h => ⟨hky, h⟩⟩)
  have HPP := Lib.hid (fun W (h : GRow W KA n (strV S)) => spec_pePeels seed q KA n kc S W HS.out h hky)
  have e3 : IntKind.i64.wrap ((3 : Int) * (q : Int)) = (z : Int) := by rw [show (3 : Int) * (q : Int) = (z : Int) by omega]; exact IntWalk.i64_in _ (by omega)
  have HHB := Lib.hid (fun e (_ : e < n) j (hj : j < 3) => show 0 ≤ eH seed q S e j ∧ eH seed q S e j < (z : Int) from by have := eH_in (seed := seed) (S := S) (k := e) h1' h2' j hj; rw [hz]; exact this)
  rw [← hz] at HO ⊢
  have hz72 : z ≤ 72 := by omega
  have hz0 : 0 < z := by omega
  have HZ := Lib.hid hz
  have hmix : Try.prog.follows .mixedOrders = true := by kernel_rfl
  clear hs hk hky hz
  go_enter Try.func37, Try.ntmps37
  go_wp2_with fail
  refine (HY.out _ (HK.out.b B0.out)).mono ?_; rintro e w0 ⟨rfl, rfl⟩
  go_wp2_with fail
  refine (HPP.out _ (HK.out.b B0.out)).mono ?_; rintro e w1 ⟨b, rfl, hb2, hb⟩
  have N1 := Lib.hid (N0.out.b hb)
  have B1 := Lib.hid (B0.out.trans (hb.mono B0.out.size))
  have HB := Lib.hid (hb2.trans HPK.out)
  clear hb hb2
  cases b
  · have r0 := N1.out.cell 0 _ rfl
    have r1 := N1.out.cell 1 _ rfl
    have r2 := N1.out.cell 2 _ rfl
    have g0 := N1.out.free 0
    have g1 := N1.out.free 1
    have g2 := N1.out.free 2
    go_wp2_with fail
    have N4 := Lib.hid (((N1.out.set 0 (.int .i64 0)).set 1 (.int .i64 0)).set 2 (.slice none 0 0))
    have s0 := N4.out.cell 0 (.int .i64 0) (by simp)
    have s1 := N4.out.cell 1 (.int .i64 0) (by simp)
    have s2 := N4.out.cell 2 (.slice none 0 0) (by simp)
    refine bodyPost_ret (v := .tuple #[.agg #[.int .i64 0, .int .i64 0, .slice none 0 0], .bool false]) (by simp [results, Try.results37, go_sem, s0, s1, s2]) rfl ?_
    obtain ⟨k, hgo, hf⟩ := goes_ex z (fun _ => 3) (eH seed q S) n zeroC
    exact ⟨k, hgo, hf, fun h => absurd (HB.out.2 ((peelsP_iff hgo hf).2 h)) (by simp), fun _ => ⟨none, 0, rfl, ow_zero _ _ _ _ _ _, below_setAt (below_setAt (below_setAt B1.out (Nat.le_refl _) _) (Nat.le_refl _) _) (Nat.le_refl _) _⟩⟩
  have HPL := Lib.hid (HB.out.1 rfl)
  clear HB
  go_wp2_with fail
  refine (spec_peHyper seed q KA n kc S _ hn40 HS.out (HK.out.b B1.out) hsd h1' h2').mono ?_; rintro e w2 ⟨A, c, D, dd, he, ho, hb⟩
  rw [← HZ.out] at he
  subst he
  obtain ⟨D, dd, hrow⟩ := ho.row
  have hal := (Below.refl w2.heap.size w2).alloc (Nat.le_refl _) (.cells #[.int .i64 z, .slice A n c] 72)
  have HH := Lib.hid (hrow.b hal)
  have N2 := Lib.hid ((N1.out.b hb).b hal)
  have NH := Lib.hid (nbx0 w2 #[.int .i64 z, .slice A n c] 72)
  have B2 := Lib.hid ((B1.out.trans (hb.mono B1.out.size)).trans (hal.mono (Nat.le_trans B1.out.size hb.size)))
  clear ho hb hrow hal
  have y0 := NH.out.cell 0 _ rfl
  have y1 := NH.out.cell 1 _ rfl
  go_wp2_with fail
  refine (spec_pePeel z A n c D (fun _ => 3) dd (eH seed q S) _ HH.out HO.out).mono ?_; rintro e w3 ⟨k, SA, sc, FA, fc, rfl, hgo, hf, hos, _, hb⟩
  have HG := Lib.hid (And.intro hgo hf)
  have HL := Lib.hid ((peelsP_iff hgo hf).1 HPL.out)
  have HBD := Lib.hid (goes_bd hgo)
  have HWN := Lib.hid (goes_wn hgo)
  have HST := Lib.hid ((steps_ow hos).rd.row (Nat.le_refl _))
  have HH3 := Lib.hid (HH.out.b hb)
  have N3 := Lib.hid (N2.out.b hb)
  have NH3 := Lib.hid (NH.out.b hb)
  have B3 := Lib.hid (B2.out.trans (hb.mono B2.out.size))
  have hkn : k ≤ n := by have := goes_len hgo; omega
  clear hgo hf hb hos y0 y1
  have HFIN := Lib.hid (fun (e : Ending) (w' : World) (h : PdOwn seed q z (pdF seed q z n S k) true w e w') => show PdPost seed q z n S w e w' from ⟨k, HG.out.1, HG.out.2, fun _ => h, fun h => absurd h (by have := HL.out; omega)⟩)
  unfold pdF at HFIN
  obtain ⟨E, hE⟩ : ∃ E, E = stE z (fun _ => 3) (eH seed q S) n zeroC := ⟨_, rfl⟩
  obtain ⟨P, hP⟩ : ∃ P, P = stP z (fun _ => 3) (eH seed q S) n zeroC := ⟨_, rfl⟩
  rw [← hE, ← hP] at HST HFIN HWN
  rw [← hE, ← hP] at HBD
  clear hE hP
  have HTB := Lib.hid (fun L => seF_bd (E := E) (P := P) (H := eH seed q S) (wn := (wnP (eH seed q S))) (c := 3) (hi := 40) (z := z) (by omega) (by omega) L (fun _ => 3) (fun _ _ => by show (0 : Int) ≤ 3 ∧ (3 : Int) ≤ ((40 : Nat) : Int); omega))
  have hal1 := (Below.refl w3.heap.size w3).alloc (Nat.le_refl _) (.cells #[.int .i64 seed, .int .i64 q, .slice none 0 0] 57)
  have P0 := Lib.hid (show PB w3 seed q 0 none 0 _ from ⟨hal1, nbx0 w3 #[.int .i64 seed, .int .i64 q, .slice none 0 0] 57, World.ownsRow_nil _ _ _ _⟩)
  clear hal1
  go_wp2_with fail
  go_loopw [12] (fun i wr => ∃ (j : Nat) (A' : Option Addr) (c' : Nat), j ≤ z ∧ i = .int .i64 j ∧ Hid (PB w3 seed q j A' c' wr)) (fun i _ => z - (intOf i).toNat)
  case atStart => exact ⟨0, none, 0, Nat.zero_le _, rfl, P0⟩
  case round =>
    obtain ⟨j, A', c', hj, rfl, HP⟩ := hrel
    have hsz : w3.heap.size + 1 ≤ wr.heap.size := HP.out.box.lt
    by_cases hlt : j < z
    · have b2 := HP.out.box.cell 2 _ rfl
      go_wp2_with (at_builtin; refine wpList_push rfl _ _ 22 rfl (w3.heap.size + 1) 3 (.int .i64 0) 8 Try.underlying22 infoI rfl A' j c' (intV (fun _ => 3)) (.int .i64 3) wr rfl HP.out.own rfl rfl rfl (by omega) (by omega) hsz ?_)
      intro A2 c2 w5 ho5 hb5
      have BX5 := Lib.hid (show NBX w3.heap.size w3.heap.size #[.int .i64 seed, .int .i64 q, .slice A' j c'] 57 w5 from ⟨(hb5.block _ (by omega)).trans HP.out.box.blk, Nat.le_refl _⟩)
      have HO5 := Lib.hid ho5
      have HB5 := Lib.hid (HP.out.below.trans (hb5.mono (Nat.le_succ _)))
      clear ho5 hb5 b2
      have d2 := BX5.out.cell 2 _ rfl
      have f2 := BX5.out.free 2
      go_wp2_with fail
      have P5 := Lib.hid (show PB w3 seed q (j + 1) A2 c2 (w5.setCell ⟨w3.heap.size, 2, none⟩ (.slice A2 (j + 1) c2)) from ⟨below_setAt HB5.out (Nat.le_refl _) _, BX5.out.set 2 _, own_setA HO5.out (Nat.lt_succ_self _) _⟩)
      go_roundw
      case rel => exact ⟨j + 1, A2, c2, by omega, by go_num, P5⟩
      case measure => simp [intOf]; omega
    · obtain rfl : z = j := by omega
      obtain ⟨g, rfl, hgg, hgo⟩ := vec_pos HP.out.own hz0
      have Q0 := Lib.hid (show QB w3 seed q g z c' (seF E P (eH seed q S) (wnP (eH seed q S)) 3 (fun _ => 3) (backL k 0)) wr from ⟨HP.out.below, HP.out.box, hgo, by omega⟩)
      clear hgo HP
      go_wp2_with fail
      clear hlt hsz
      go_loopw [13] (fun i wr => ∃ j : Nat, j ≤ k ∧ i = .int .i64 ((k : Int) - 1 - (j : Int)) ∧ Hid (QB w3 seed q g z c' (seF E P (eH seed q S) (wnP (eH seed q S)) 3 (fun _ => 3) (backL k j)) wr)) (fun i _ => (intOf i + 1).toNat)
      case atStart => exact ⟨0, Nat.zero_le _, by simp, Q0⟩
      case round =>
        obtain ⟨j, hj, rfl, HT⟩ := hrel
        by_cases hlt : j < k
        · obtain ⟨x, hx⟩ : ∃ x, x = k - 1 - j := ⟨_, rfl⟩
          have hxk : x < k := by omega
          have hxi : (k : Int) - 1 - (j : Int) = (x : Int) := by omega
          rw [hxi]
          have HB2 := Lib.hid (show (seF E P (eH seed q S) (wnP (eH seed q S)) 3 (fun _ => 3) (backL k (j + 1))) = seS E P (eH seed q S) (wnP (eH seed q S)) 3 (seF E P (eH seed q S) (wnP (eH seed q S)) 3 (fun _ => 3) (backL k j)) x by rw [backL_succ, seF_snoc, ← hx])
          have HCB := Lib.hid (HTB.out (backL k j))
          have HI := Lib.hid hxi
          clear hx hxi
          obtain ⟨hEn, hPz⟩ := HBD.out x hxk
          have hwv := HWN.out x hxk
          obtain ⟨sb, so, rfl, hsl, hsc⟩ := (HST.out.b HT.out.below) (by omega)
          have hs3 : sb < w3.heap.size := by
            obtain ⟨_, _, e1, h, _⟩ := HST.out (by omega)
            injection e1 with e1; injection e1 with e1 e2
            omega
          have x0 := hsc (x * 2) (by omega)
          have x1 := hsc (x * 2 + 1) (by omega)
          rw [← Nat.add_assoc] at x1
          have q1 : stF E P (x * 2) = (E x : Int) := by unfold stF; rw [if_pos (by omega), show x * 2 / 2 = x by omega]
          have q2 : stF E P (x * 2 + 1) = (P x : Int) := by unfold stF; rw [if_neg (by omega), show (x * 2 + 1) / 2 = x by omega]
          unfold intV at x0 x1
          rw [q1] at x0
          rw [q2] at x1
          clear hsc q1 q2
          obtain ⟨e, he⟩ : ∃ e, E x = e := ⟨_, rfl⟩
          obtain ⟨pp, hp⟩ : ∃ pp, P x = pp := ⟨_, rfl⟩
          have HSP := Lib.hid (show seS E P (eH seed q S) (wnP (eH seed q S)) 3 (seF E P (eH seed q S) (wnP (eH seed q S)) 3 (fun _ => 3) (backL k j)) x = upd (seF E P (eH seed q S) (wnP (eH seed q S)) 3 (fun _ => 3) (backL k j)) pp ((wnP (eH seed q S) e pp + ((3 : Nat) : Int) - sumE (seF E P (eH seed q S) (wnP (eH seed q S)) 3 (fun _ => 3) (backL k j)) (eH seed q S e) 3 % ((3 : Nat) : Int)) % ((3 : Nat) : Int)) by unfold seS; rw [he, hp])
          rw [he] at hEn x0
          rw [hp] at hPz x1
          rw [he, hp] at hwv
          clear he hp
          generalize hC : (seF E P (eH seed q S) (wnP (eH seed q S)) 3 (fun _ => 3) (backL k j)) = C at *
          clear hC
          have hsb := sumE_bd HCB.out 3 (HHB.out e hEn)
          obtain ⟨m1, y, f2, f3, f4, f5⟩ := se_facts3 (v := wnP (eH seed q S) e pp) (s := sumE C (eH seed q S e) 3) ⟨hwv, by have := wnP_le (eH seed q S) e pp; omega⟩ ⟨hsb.1, by omega⟩
          have HSY := Lib.hid (HB2.out.trans (HSP.out.trans (by rw [f5])))
          have HW3 := HH3.out.b HT.out.below
          obtain ⟨hb9, ho9, rfl, hl9, hc9⟩ := HW3.1 (by omega)
          have hl3 : hb9 < w3.heap.size := by
            obtain ⟨_, _, e1, h, _⟩ := HH3.out.1 (by omega)
            injection e1 with e1; injection e1 with e1 e2
            omega
          have c7 := hc9 e hEn
          unfold sliceV at c7
          have HR9 := Lib.hid (HW3.2 e hEn)
          have HAD := Lib.hid (fun W' (h1 : IRow W' (some ⟨g, 0, none⟩) z C) (h2 : IRow W' (D e) 3 (eH seed q S e)) => spec_pfSum (some ⟨g, 0, none⟩) z c' C (D e) 3 (dd e) (eH seed q S e) 40 W' (by omega) (by omega) (by omega) h1 h2 HCB.out (HHB.out e hEn))
          have HPI := Lib.hid (fun W' (h2 : IRow W' (D e) 3 (eH seed q S e)) => show Calls Try.prog 71 #[.slice (D e) 3 (dd e), .int .i64 pp] W' (fun e' w' => e' = .returned (.int .i64 (wnP (eH seed q S) e pp)) ∧ W' = w') from pfIndex_is (D e) 3 (dd e) (eH seed q S e) pp W' (by omega) h2 hwv)
          generalize hsv : sumE C (eH seed q S e) 3 = sv at *
          clear hc9 HW3 hsv f5 HSP HB2 hsb
          generalize hwq : wnP (eH seed q S) e pp = wv at *
          clear hwq
          have g1 : (0 : Int) ≤ (e : Int) := by omega
          have g2 : (e : Int) < (n : Int) := by omega
          have g3 : (0 : Int) ≤ (pp : Int) := by omega
          have g4 : (pp : Int) < (z : Int) := by omega
          have b2 := HT.out.box.cell 2 _ rfl
          have y1 := (NH3.out.b HT.out.below).cell 1 _ rfl
          have c8 := HT.out.row.cell hPz
          have f8 := HT.out.row.frozen pp
          unfold intV at c8
          have hw23 : w2.heap.size < w3.heap.size := NH3.out.lt
          have hgg2 := HT.out.hg
          go_wp2_with fail
          refine wp_region_held_drew (S := fun W' => W'.cell? ⟨sb, so + x * 2, none⟩ = some (.int .i64 e) ∧ W'.cell? ⟨w2.heap.size, 1, none⟩ = some (.slice (some ⟨hb9, ho9, none⟩) n c) ∧ W'.cell? ⟨hb9, ho9 + e, none⟩ = some (.slice (D e) 3 (dd e))) hmix ⟨x0, y1, c7⟩ (fun hHeld => ?_)
          refine wpAnyH_take (i := 0) (v := ?_) rfl (by kernel_rfl) (by kernel_rfl) (by kernel_rfl) (fun _ _ _ h => h) (Or.inl ⟨by rfl, ?_⟩) hHeld ?_
          rotate_left
          · (intro w hSw; (try dsimp only at hSw); go_simp; try with_reducible rfl)
          try simp only [Act.put, List.setIfInBounds_toArray, List.set_cons_zero, List.set_cons_succ]
          refine wpAnyH_take (i := 1) (v := ?_) rfl (by kernel_rfl) (by kernel_rfl) (by kernel_rfl) (fun _ _ _ h => h) (Or.inl ⟨by rfl, ?_⟩) hHeld ?_
          rotate_left
          · (intro w hSw; (try dsimp only at hSw); go_simp; try with_reducible rfl)
          try simp only [Act.put, List.setIfInBounds_toArray, List.set_cons_zero, List.set_cons_succ]
          refine wpAnyH_take (i := 2) (v := ?_) rfl (by kernel_rfl) (by kernel_rfl) (by kernel_rfl) (fun _ _ _ h => h) (Or.inl ⟨by rfl, ?_⟩) hHeld ?_
          rotate_left
          · (intro w hSw; (try dsimp only at hSw); go_simp; try with_reducible rfl)
          try simp only [Act.put, List.setIfInBounds_toArray, List.set_cons_zero, List.set_cons_succ]
          refine wpAnyH_take (i := 3) (v := ?_) rfl (by kernel_rfl) (by kernel_rfl) (by kernel_rfl) (fun _ _ _ h => h) (Or.inl ⟨by rfl, ?_⟩) hHeld ?_
          rotate_left
          · (intro w hSw; (try dsimp only at hSw); go_simp; try with_reducible rfl)
          try simp only [Act.put, List.setIfInBounds_toArray, List.set_cons_zero, List.set_cons_succ]
          refine wpAnyH_take (i := 4) (v := ?_) rfl (by kernel_rfl) (by kernel_rfl) (by kernel_rfl) (fun _ _ _ h => h) (Or.inl ⟨by rfl, ?_⟩) hHeld ?_
          rotate_left
          · (intro w hSw; (try dsimp only at hSw); go_simp; try with_reducible rfl)
          try simp only [Act.put, List.setIfInBounds_toArray, List.set_cons_zero, List.set_cons_succ]
          refine wpAnyH_take (i := 5) (v := ?_) rfl (by kernel_rfl) (by kernel_rfl) (by kernel_rfl) (fun _ _ _ h => h) (Or.inl ⟨by rfl, ?_⟩) hHeld ?_
          rotate_left
          · (intro w hSw; (try dsimp only at hSw); go_simp; try with_reducible rfl)
          try simp only [Act.put, List.setIfInBounds_toArray, List.set_cons_zero, List.set_cons_succ]
          refine wpAnyH_take (i := 6) (v := ?_) rfl (by kernel_rfl) (by kernel_rfl) (by kernel_rfl) (fun _ _ _ h => h) (Or.inl ⟨by rfl, ?_⟩) hHeld ?_
          rotate_left
          · (intro w hSw; (try dsimp only at hSw); go_simp; try with_reducible rfl)
          try simp only [Act.put, List.setIfInBounds_toArray, List.set_cons_zero, List.set_cons_succ]
          refine wpAnyH_take (i := 7) (v := ?_) rfl (by kernel_rfl) (by kernel_rfl) (by kernel_rfl) (fun _ _ _ h => h) (Or.inl ⟨by rfl, ?_⟩) hHeld ?_
          rotate_left
          · (intro w hSw; (try dsimp only at hSw); go_simp; try with_reducible rfl)
          try simp only [Act.put, List.setIfInBounds_toArray, List.set_cons_zero, List.set_cons_succ]
          refine wpAnyH_take (i := 8) (v := ?_) rfl (by kernel_rfl) (by kernel_rfl) (by kernel_rfl) (fun _ _ _ h => h) (Or.inl ⟨by rfl, ?_⟩) hHeld ?_
          rotate_left
          · (intro w hSw; (try dsimp only at hSw); go_simp; try with_reducible rfl)
          try simp only [Act.put, List.setIfInBounds_toArray, List.set_cons_zero, List.set_cons_succ]
          refine wpAnyH_ready (rs := [9]) (by kernel_rfl) (by simp) ?_
          refine AllReadyH.cons rfl (fun K hK => ?_) AllReadyH.nil
          go_simp
          refine hK.out _ _ hHeld (fun _ => ?_)
          clear hK K
          refine wpAnyH_done (by kernel_rfl) ?_ _
          go_wp2_with fail
          refine wp_region_held_drew (S := fun W' => W'.cell? ⟨w3.heap.size, 2, none⟩ = some (.slice (some ⟨g, 0, none⟩) z c') ∧ W'.cell? ⟨sb, so + x * 2 + 1, none⟩ = some (.int .i64 pp)) hmix ⟨b2, x1⟩ (fun hHeld => ?_)
          refine wpAnyH_take (i := 0) (v := ?_) rfl (by kernel_rfl) (by kernel_rfl) (by kernel_rfl) (fun _ _ _ h => h) (Or.inl ⟨by rfl, ?_⟩) hHeld ?_
          rotate_left
          · (intro w hSw; (try dsimp only at hSw); go_simp; try with_reducible rfl)
          try simp only [Act.put, List.setIfInBounds_toArray, List.set_cons_zero, List.set_cons_succ]
          refine wpAnyH_take (i := 1) (v := ?_) rfl (by kernel_rfl) (by kernel_rfl) (by kernel_rfl) (fun _ _ _ h => h) (Or.inl ⟨by rfl, ?_⟩) hHeld ?_
          rotate_left
          · (intro w hSw; (try dsimp only at hSw); go_simp; try with_reducible rfl)
          try simp only [Act.put, List.setIfInBounds_toArray, List.set_cons_zero, List.set_cons_succ]
          refine wpAnyH_take (i := 2) (v := ?_) rfl (by kernel_rfl) (by kernel_rfl) (by kernel_rfl) (fun _ _ _ h => h) (Or.inl ⟨by rfl, ?_⟩) hHeld ?_
          rotate_left
          · (intro w hSw; (try dsimp only at hSw); go_simp; try with_reducible rfl)
          try simp only [Act.put, List.setIfInBounds_toArray, List.set_cons_zero, List.set_cons_succ]
          refine wpAnyH_take (i := 3) (v := ?_) rfl (by kernel_rfl) (by kernel_rfl) (by kernel_rfl) (fun _ _ _ h => h) (Or.inl ⟨by rfl, ?_⟩) hHeld ?_
          rotate_left
          · (intro w hSw; (try dsimp only at hSw); go_simp; try with_reducible rfl)
          try simp only [Act.put, List.setIfInBounds_toArray, List.set_cons_zero, List.set_cons_succ]
          refine wpAnyH_take (i := 4) (v := ?_) rfl (by kernel_rfl) (by kernel_rfl) (by kernel_rfl) (fun _ _ _ h => h) (Or.inl ⟨by rfl, ?_⟩) hHeld ?_
          rotate_left
          · (intro w hSw; (try dsimp only at hSw); go_simp; try with_reducible rfl)
          try simp only [Act.put, List.setIfInBounds_toArray, List.set_cons_zero, List.set_cons_succ]
          refine wpAnyH_take (i := 5) (v := ?_) rfl (by kernel_rfl) (by kernel_rfl) (by kernel_rfl) (fun _ _ _ h => h) (Or.inl ⟨by rfl, ?_⟩) hHeld ?_
          rotate_left
          · (intro w hSw; (try dsimp only at hSw); go_simp; try with_reducible rfl)
          try simp only [Act.put, List.setIfInBounds_toArray, List.set_cons_zero, List.set_cons_succ]
          refine wpAnyH_take (i := 6) (v := ?_) rfl (by kernel_rfl) (by kernel_rfl) (by kernel_rfl) (fun _ _ _ h => h) (Or.inl ⟨by rfl, ?_⟩) hHeld ?_
          rotate_left
          · (intro w hSw; (try dsimp only at hSw); go_simp; try with_reducible rfl)
          try simp only [Act.put, List.setIfInBounds_toArray, List.set_cons_zero, List.set_cons_succ]
          refine wpAnyH_take (i := 7) (v := ?_) rfl (by kernel_rfl) (by kernel_rfl) (by kernel_rfl) (fun _ _ _ h => h) (Or.inl ⟨by rfl, ?_⟩) hHeld ?_
          rotate_left
          · (intro w hSw; (try dsimp only at hSw); go_simp; try with_reducible rfl)
          try simp only [Act.put, List.setIfInBounds_toArray, List.set_cons_zero, List.set_cons_succ]
          refine wpAnyH_take (i := 8) (v := ?_) rfl (by kernel_rfl) (by kernel_rfl) (by kernel_rfl) (fun _ _ _ h => h) (Or.inl ⟨by rfl, ?_⟩) hHeld ?_
          rotate_left
          · (intro w hSw; (try dsimp only at hSw); go_simp; try with_reducible rfl)
          try simp only [Act.put, List.setIfInBounds_toArray, List.set_cons_zero, List.set_cons_succ]
          refine wpAnyH_take (i := 9) (v := ?_) rfl (by kernel_rfl) (by kernel_rfl) (by kernel_rfl) (fun _ _ _ h => h) (Or.inl ⟨by rfl, ?_⟩) hHeld ?_
          rotate_left
          · (intro w hSw; (try dsimp only at hSw); go_simp; try with_reducible rfl)
          try simp only [Act.put, List.setIfInBounds_toArray, List.set_cons_zero, List.set_cons_succ]
          refine wpAnyH_take (i := 10) (v := ?_) rfl (by kernel_rfl) (by kernel_rfl) (by kernel_rfl) (fun _ _ _ h => h) (Or.inl ⟨by rfl, ?_⟩) hHeld ?_
          rotate_left
          · (intro w hSw; (try dsimp only at hSw); go_simp; try with_reducible rfl)
          try simp only [Act.put, List.setIfInBounds_toArray, List.set_cons_zero, List.set_cons_succ]
          refine wpAnyH_take (i := 11) (v := ?_) rfl (by kernel_rfl) (by kernel_rfl) (by kernel_rfl) (fun _ _ _ h => h) (Or.inl ⟨by rfl, ?_⟩) hHeld ?_
          rotate_left
          · (intro w hSw; (try dsimp only at hSw); go_simp; try with_reducible rfl)
          try simp only [Act.put, List.setIfInBounds_toArray, List.set_cons_zero, List.set_cons_succ]
          refine wpAnyH_take (i := 12) (v := ?_) rfl (by kernel_rfl) (by kernel_rfl) (by kernel_rfl) (fun _ _ _ h => h) (Or.inl ⟨by rfl, ?_⟩) hHeld ?_
          rotate_left
          · (intro w hSw; (try dsimp only at hSw); go_simp; try with_reducible rfl)
          try simp only [Act.put, List.setIfInBounds_toArray, List.set_cons_zero, List.set_cons_succ]
          refine wpAnyH_take (i := 14) (v := ?_) rfl (by kernel_rfl) (by kernel_rfl) (by kernel_rfl) (fun _ _ _ h => h) (Or.inl ⟨by rfl, ?_⟩) hHeld ?_
          rotate_left
          · (intro w hSw; (try dsimp only at hSw); go_simp; try with_reducible rfl)
          try simp only [Act.put, List.setIfInBounds_toArray, List.set_cons_zero, List.set_cons_succ]
          refine wpAnyH_take (i := 15) (v := ?_) rfl (by kernel_rfl) (by kernel_rfl) (by kernel_rfl) (fun _ _ _ h => h) (Or.inl ⟨by rfl, ?_⟩) hHeld ?_
          rotate_left
          · (intro w hSw; (try dsimp only at hSw); go_simp; try with_reducible rfl)
          try simp only [Act.put, List.setIfInBounds_toArray, List.set_cons_zero, List.set_cons_succ]
          refine wpAnyH_take (i := 16) (v := ?_) rfl (by kernel_rfl) (by kernel_rfl) (by kernel_rfl) (fun _ _ _ h => h) (Or.inl ⟨by rfl, ?_⟩) hHeld ?_
          rotate_left
          · (intro w hSw; (try dsimp only at hSw); go_simp; try with_reducible rfl)
          try simp only [Act.put, List.setIfInBounds_toArray, List.set_cons_zero, List.set_cons_succ]
          refine wpAnyH_ready (rs := [13]) (by kernel_rfl) (by simp) ?_
          refine AllReadyH.cons rfl (fun K hK => ?_) AllReadyH.nil
          go_simp
          go_at_call 71
          refine (HPI.out _ (show IRow wr.drew.drew (D e) 3 (eH seed q S e) from HR9.out)).mono ?_
          rintro e5 W5 ⟨rfl, rfl⟩
          refine hK.out _ _ hHeld (fun _ => ?_)
          clear hK K
          try simp only [Act.put, List.setIfInBounds_toArray, List.set_cons_zero, List.set_cons_succ]
          refine wpAnyH_ready (rs := [17]) (by kernel_rfl) (by simp) ?_
          refine AllReadyH.cons rfl (fun K hK => ?_) AllReadyH.nil
          go_simp
          go_at_call 68
          refine (HAD.out _ (show IRow wr.drew.drew (some ⟨g, 0, none⟩) z C from HT.out.row.row) (show IRow wr.drew.drew (D e) 3 (eH seed q S e) from HR9.out)).mono ?_
          rintro e5 W5 ⟨rfl, rfl⟩
          refine hK.out _ _ hHeld (fun _ => ?_)
          clear hK K
          try simp only [Act.put, List.setIfInBounds_toArray, List.set_cons_zero, List.set_cons_succ]
          refine wpAnyH_take (i := 18) (v := .int .i64 m1) rfl (by kernel_rfl) (by kernel_rfl) (by kernel_rfl) (fun _ _ _ h => h) (Or.inl ⟨by rfl, ?_⟩) hHeld ?_
          · (intro w hSw; (try dsimp only at hSw); go_simp)
          try simp only [Act.put, List.setIfInBounds_toArray, List.set_cons_zero, List.set_cons_succ]
          refine wpAnyH_take (i := 19) (v := .int .i64 (wv + m1)) rfl (by kernel_rfl) (by kernel_rfl) (by kernel_rfl) (fun _ _ _ h => h) (Or.inl ⟨by rfl, ?_⟩) hHeld ?_
          · (intro w hSw; (try dsimp only at hSw); go_simp)
          try simp only [Act.put, List.setIfInBounds_toArray, List.set_cons_zero, List.set_cons_succ]
          refine wpAnyH_take (i := 20) (v := .int .i64 y) rfl (by kernel_rfl) (by kernel_rfl) (by kernel_rfl) (fun _ _ _ h => h) (Or.inl ⟨by rfl, ?_⟩) hHeld ?_
          · (intro w hSw; (try dsimp only at hSw); go_simp)
          try simp only [Act.put, List.setIfInBounds_toArray, List.set_cons_zero, List.set_cons_succ]
          refine wpAnyH_take (i := 21) (v := ?_) rfl (by kernel_rfl) (by kernel_rfl) (by kernel_rfl) (fun _ _ _ h => h) (Or.inl ⟨by rfl, ?_⟩) hHeld ?_
          rotate_left
          · (intro w hSw; (try dsimp only at hSw); go_simp; try with_reducible rfl)
          try simp only [Act.put, List.setIfInBounds_toArray, List.set_cons_zero, List.set_cons_succ]
          refine wpAnyH_ready (rs := [22]) (by kernel_rfl) (by simp) ?_
          refine AllReadyH.cons rfl (fun K hK => ?_) AllReadyH.nil
          go_simp
          refine hK.out _ _ ⟨(cell_far (by omega)).trans b2, (cell_far (by omega)).trans x1⟩ (fun _ => ?_)
          clear hK K
          refine wpAnyH_done (by kernel_rfl) ?_ _
          have T6 := Lib.hid (show QB w3 seed q g z c' (seF E P (eH seed q S) (wnP (eH seed q S)) 3 (fun _ => 3) (backL k (j + 1))) ((wr.setCell ⟨g, pp, none⟩ (.int .i64 y)).drew.drew) from by rw [HSY.out]; exact (HT.out.set pp y).b (below_drewN (Below.refl _ _) 2))
          clear HAD HR9 HH3 HCB HPI
          go_wp2_with fail
          go_roundw
          case rel => exact ⟨j + 1, by omega, by congr 1; have := HI.out; omega, T6⟩
          case measure => simp [intOf] <;> (have := HI.out; omega)
        · obtain rfl : j = k := by omega
          have hneg : ¬ ((0 : Int) ≤ (j : Int) - 1 - (j : Int)) := by omega
          have hneg2 : decide ((0 : Int) ≤ (j : Int) - 1 - (j : Int)) = false := by simpa using hneg
          have N5 := Lib.hid (N3.out.b HT.out.below)
          have r0 := N5.out.cell 0 _ rfl
          have r1 := N5.out.cell 1 _ rfl
          have r2 := N5.out.cell 2 _ rfl
          have g0 := N5.out.free 0
          have g1 := N5.out.free 1
          have g2 := N5.out.free 2
          have c0 := HT.out.box.cell 0 _ rfl
          have c1 := HT.out.box.cell 1 _ rfl
          have c2 := HT.out.box.cell 2 _ rfl
          have hbs := B3.out.size
          have hlt3 : w.heap.size < w3.heap.size := N3.out.lt
          have hgg2 := HT.out.hg
          go_wp2_with fail
          have N4 := Lib.hid (((N5.out.set 0 (.int .i64 seed)).set 1 (.int .i64 q)).set 2 (.slice (some ⟨g, 0, none⟩) z c'))
          have s0 := N4.out.cell 0 (.int .i64 seed) (by simp)
          have s1 := N4.out.cell 1 (.int .i64 q) (by simp)
          have s2 := N4.out.cell 2 (.slice (some ⟨g, 0, none⟩) z c') (by simp)
          refine bodyPost_ret (v := .tuple #[.agg #[.int .i64 seed, .int .i64 q, (.slice (some ⟨g, 0, none⟩) z c')], .bool true]) (by simp [results, Try.results37, go_sem, s0, s1, s2]) rfl ?_
          exact HFIN.out _ _ ⟨_, _, rfl, (ow_setA (ow_setA (ow_setA (ow_of_own (m := z) HT.out.row (Nat.le_refl _) (Nat.le_refl _)) (by omega) _) (by omega) _) (by omega) _).mono (by omega) (by simp), below_setAt (below_setAt (below_setAt (B3.out.trans (HT.out.below.mono hbs)) (Nat.le_refl _) _) (Nat.le_refl _) _) (Nat.le_refl _) _⟩
end
end Go.Proofs.Ytijlpbcgkecinab

/- The law of BuildPeeled, walked: what both sides answer comes in as hypotheses. -/
namespace Go.Proofs.Ytijlpbcgkecinab
open Go.RowKit

set_option maxRecDepth 100000 in
set_option maxHeartbeats 8000000 in
theorem main_FnExactBuildPeeled (a0z0 : Int) (a1n0 : Nat) (a1X0 : Nat → ByteArray) (a2z0 : Int) (r0z0 : Int) (r0z1 : Int) (r0n2 : Nat) (r0X2 : Nat → Int) (r1z0 : Bool) (a1A0 : Option Addr) (a1c0 : Nat) (w : World) (ha1m0 : a1n0 ≤ maxLen) (ha1r0 : GRow w a1A0 a1n0 (strV a1X0)) (ha1s0 : ∀ i, i < a1n0 → (a1X0 i).size ≤ maxLen) (hr0m2 : r0n2 ≤ 1048576)
    (s1 : a1n0 + (sizeS a1X0 a1n0) ≤ 1048576 → ∀ (ua1A0 : Option Addr) (ua1c0 : Nat) (w : World), GRow w ua1A0 a1n0 (strV a1X0) → Calls Try.prog 37 #[.int .i64 a0z0, .slice ua1A0 a1n0 ua1c0, .int .i64 a2z0] w fun e w' => ∃ vr0A2 vr0c2, e = .returned (.tuple #[.agg #[.int .i64 r0z0, .int .i64 r0z1, .slice vr0A2 r0n2 vr0c2], .bool r1z0]) ∧ GRow w' vr0A2 r0n2 (intV r0X2) ∧ Below w.heap.size w w')
    (s2 : a1n0 + (sizeS a1X0 a1n0) ≤ 1048576 → ∀ (ua1A0 : Option Addr) (ua1c0 : Nat) (w : World), GRow w ua1A0 a1n0 (strV a1X0) → Calls Try.prog 38 #[.int .i64 a0z0, .slice ua1A0 a1n0 ua1c0, .int .i64 a2z0] w fun e w' => ∃ vr0A2 vr0c2, e = .returned (.tuple #[.agg #[.int .i64 r0z0, .int .i64 r0z1, .slice vr0A2 r0n2 vr0c2], .bool r1z0]) ∧ Ow w.heap.size w'.heap.size 3 vr0A2 r0n2 (intV r0X2) w' ∧ Below w.heap.size w w') :
    Calls Try.prog 9 #[.int .i64 a0z0, .slice a1A0 a1n0 a1c0, .int .i64 a2z0] w fun e w' => e = .returned (.bool true) ∧ Below w.heap.size w w' := by
  have S1 := Lib.hid s1
  have S2 := Lib.hid s2
  clear s1 s2
  have FB := Lib.hid (At.start w)
  have Fa10 := Lib.hid (rd_of_row ha1r0)
  clear ha1r0
  go_enter Try.func9, Try.ntmps9
  go_wp2_with fail
  refine (sz_StringS ha1m0 ha1s0 Fa10.out.row (by omega) (by omega)).mono ?_; rintro e w1 ⟨rfl, hb⟩
  replace FB := Lib.hid (FB.out.b hb)
  replace Fa10 := Lib.hid (Fa10.out.b hb)
  have z_w1 : w.heap.size ≤ w1.heap.size := by have hsz := hb.size; first | omega | (simp at hsz; omega)
  clear hb
  by_cases hZ_a1 : ((a1n0 + (sizeS a1X0 a1n0) : Nat) : Int) ≤ (1048576 : Int)
  rotate_left
  · rw [szv_no hZ_a1]
    go_wp2_with fail
    go_ret
    exact ⟨rfl, FB.out.now⟩
  rw [szv_yes hZ_a1]
  have hL_a1 : ¬ (((1048576 : Int) - (((a1n0 : Nat) : Int) + (((sizeS a1X0 a1n0) : Nat) : Int))) < 0) := by omega
  replace S1 := Lib.hid (S1.out (by omega))
  replace S2 := Lib.hid (S2.out (by omega))
  have ha1k0 : a1n0 ≤ 1048576 := by omega
  go_wp2_with fail
  refine (to_StringS ha1k0 Fa10.out.row).mono ?_; rintro e w2 ⟨tma1A0, tma1c0, rfl, ho0, hb⟩
  replace FB := Lib.hid (FB.out.b hb)
  replace Fa10 := Lib.hid (Fa10.out.b hb)
  have z_w2 : w1.heap.size ≤ w2.heap.size := by have hsz := hb.size; first | omega | (simp at hsz; omega)
  have Otma10 := Lib.hid (owned (ho0.mono (lo' := w1.heap.size) (Nat.le_refl _) (Nat.le_refl _)))
  clear hb ho0
  go_wp2_with fail
  refine (S1.out _ _ _ Otma10.out.orow).mono ?_; rintro e w3 ⟨mr0A2, mr0c2, rfl, hrr02, hb⟩
  replace FB := Lib.hid (FB.out.b hb)
  replace Fa10 := Lib.hid (Fa10.out.b hb)
  replace Otma10 := Lib.hid (Otma10.out.b hb)
  have z_w3 : w2.heap.size ≤ w3.heap.size := by have hsz := hb.size; first | omega | (simp at hsz; omega)
  have Vmr02 := Lib.hid (rd_of_row hrr02)
  clear hb hrr02
  clear Otma10
  replace FB := Lib.hid (FB.out.alloc (.cells #[.int .i64 r0z0, .int .i64 r0z1, .slice mr0A2 r0n2 mr0c2] 57))
  replace Fa10 := Lib.hid (Fa10.out.alloc (.cells #[.int .i64 r0z0, .int .i64 r0z1, .slice mr0A2 r0n2 mr0c2] 57))
  replace Vmr02 := Lib.hid (Vmr02.out.alloc (.cells #[.int .i64 r0z0, .int .i64 r0z1, .slice mr0A2 r0n2 mr0c2] 57))
  have Xmr0 := Lib.hid (boxed w3 #[.int .i64 r0z0, .int .i64 r0z1, .slice mr0A2 r0n2 mr0c2] 57)
  go_wp2_with fail
  refine (to_StringS ha1k0 Fa10.out.row).mono ?_; rintro e w4 ⟨xa1A0, xa1c0, rfl, ho0, hb⟩
  replace FB := Lib.hid (FB.out.b hb)
  replace Fa10 := Lib.hid (Fa10.out.b hb)
  replace Vmr02 := Lib.hid (Vmr02.out.b hb)
  replace Xmr0 := Lib.hid (Xmr0.out.b hb)
  have z_w4 : w3.heap.size + 1 ≤ w4.heap.size := by have hsz := hb.size; first | omega | (simp at hsz; omega)
  have Oxa10 := Lib.hid (owned (ho0.mono (lo' := w3.heap.size + 1) (by simp) (Nat.le_refl _)))
  clear hb ho0
  go_wp2_with fail
  refine (S2.out _ _ _ Oxa10.out.orow).mono ?_; rintro e w5 ⟨gr0A2, gr0c2, rfl, hrr02, hb⟩
  replace FB := Lib.hid (FB.out.b hb)
  replace Fa10 := Lib.hid (Fa10.out.b hb)
  replace Vmr02 := Lib.hid (Vmr02.out.b hb)
  replace Xmr0 := Lib.hid (Xmr0.out.b hb)
  replace Oxa10 := Lib.hid (Oxa10.out.b hb)
  have z_w5 : w4.heap.size ≤ w5.heap.size := by have hsz := hb.size; first | omega | (simp at hsz; omega)
  have Ogr02 := Lib.hid (owned (hrr02.mono (lo' := w4.heap.size) (Nat.le_refl _) (Nat.le_refl _)))
  clear hb hrr02
  replace FB := Lib.hid (FB.out.alloc (.cells #[.int .i64 r0z0, .int .i64 r0z1, .slice gr0A2 r0n2 gr0c2] 57))
  replace Fa10 := Lib.hid (Fa10.out.alloc (.cells #[.int .i64 r0z0, .int .i64 r0z1, .slice gr0A2 r0n2 gr0c2] 57))
  replace Vmr02 := Lib.hid (Vmr02.out.alloc (.cells #[.int .i64 r0z0, .int .i64 r0z1, .slice gr0A2 r0n2 gr0c2] 57))
  replace Xmr0 := Lib.hid (Xmr0.out.alloc (.cells #[.int .i64 r0z0, .int .i64 r0z1, .slice gr0A2 r0n2 gr0c2] 57))
  replace Oxa10 := Lib.hid (Oxa10.out.alloc (.cells #[.int .i64 r0z0, .int .i64 r0z1, .slice gr0A2 r0n2 gr0c2] 57))
  replace Ogr02 := Lib.hid (Ogr02.out.alloc (.cells #[.int .i64 r0z0, .int .i64 r0z1, .slice gr0A2 r0n2 gr0c2] 57))
  have Xgr0 := Lib.hid (boxed w5 #[.int .i64 r0z0, .int .i64 r0z1, .slice gr0A2 r0n2 gr0c2] 57)
  have c_Xgr0_0 := Xgr0.out.now 0 _ rfl
  have c_Xgr0_1 := Xgr0.out.now 1 _ rfl
  have c_Xgr0_2 := Xgr0.out.now 2 _ rfl
  have c_Xmr0_0 := Xmr0.out.now 0 _ rfl
  have c_Xmr0_1 := Xmr0.out.now 1 _ rfl
  have c_Xmr0_2 := Xmr0.out.now 2 _ rfl
  go_wp2_with fail
  refine (eq_Peeled hr0m2 Ogr02.out.orow Vmr02.out.row).mono ?_; rintro e w6 ⟨rfl, hb⟩
  replace FB := Lib.hid (FB.out.b hb)
  replace Fa10 := Lib.hid (Fa10.out.b hb)
  replace Vmr02 := Lib.hid (Vmr02.out.b hb)
  replace Xmr0 := Lib.hid (Xmr0.out.b hb)
  replace Oxa10 := Lib.hid (Oxa10.out.b hb)
  replace Ogr02 := Lib.hid (Ogr02.out.b hb)
  replace Xgr0 := Lib.hid (Xgr0.out.b hb)
  have z_w6 : w5.heap.size + 1 ≤ w6.heap.size := by have hsz := hb.size; first | omega | (simp at hsz; omega)
  clear c_Xgr0_0 c_Xgr0_1 c_Xgr0_2 c_Xmr0_0 c_Xmr0_1 c_Xmr0_2
  clear hb
  go_wp2_with fail
  refine (to_StringS ha1k0 Fa10.out.row).mono ?_; rintro e w7 ⟨ya1A0, ya1c0, rfl, ho0, hb⟩
  replace FB := Lib.hid (FB.out.b hb)
  replace Fa10 := Lib.hid (Fa10.out.b hb)
  replace Vmr02 := Lib.hid (Vmr02.out.b hb)
  replace Xmr0 := Lib.hid (Xmr0.out.b hb)
  replace Oxa10 := Lib.hid (Oxa10.out.b hb)
  replace Ogr02 := Lib.hid (Ogr02.out.b hb)
  replace Xgr0 := Lib.hid (Xgr0.out.b hb)
  have z_w7 : w6.heap.size ≤ w7.heap.size := by have hsz := hb.size; first | omega | (simp at hsz; omega)
  have Oya10 := Lib.hid (owned (ho0.mono (lo' := w6.heap.size) (Nat.le_refl _) (Nat.le_refl _)))
  clear hb ho0
  go_wp2_with fail
  refine (eq_StringS ha1k0 Oxa10.out.orow Oya10.out.orow).mono ?_; rintro e w8 ⟨rfl, hb⟩
  replace FB := Lib.hid (FB.out.b hb)
  replace Fa10 := Lib.hid (Fa10.out.b hb)
  replace Vmr02 := Lib.hid (Vmr02.out.b hb)
  replace Xmr0 := Lib.hid (Xmr0.out.b hb)
  replace Oxa10 := Lib.hid (Oxa10.out.b hb)
  replace Ogr02 := Lib.hid (Ogr02.out.b hb)
  replace Xgr0 := Lib.hid (Xgr0.out.b hb)
  replace Oya10 := Lib.hid (Oya10.out.b hb)
  have z_w8 : w7.heap.size ≤ w8.heap.size := by have hsz := hb.size; first | omega | (simp at hsz; omega)
  clear hb
  clear Oya10
  go_wp2_with fail
  refine (mark_StringS ha1k0 Oxa10.out.now Oxa10.out.top (by omega) (by omega)).mono ?_; rintro e w9 ⟨rfl, hm0, hg⟩
  replace FB := Lib.hid (FB.out.far hg (by omega))
  replace Fa10 := Lib.hid (Fa10.out.far hg (by omega))
  replace Vmr02 := Lib.hid (Vmr02.out.far hg (by omega))
  replace Xmr0 := Lib.hid (Xmr0.out.far hg (by omega))
  replace Ogr02 := Lib.hid (Ogr02.out.far hg (by omega))
  replace Xgr0 := Lib.hid (Xgr0.out.far hg (by omega))
  have z_w9 : w8.heap.size ≤ w9.heap.size := by have hsz := hg.size; first | omega | (simp at hsz; omega)
  replace Oxa10 := Lib.hid (At.mk hm0 (Nat.le_trans Oxa10.out.top hg.size) (Ow.lives _ _ _ _ _ _))
  clear hg hm0
  clear Oxa10
  have c_Xgr0_0 := Xgr0.out.now 0 _ rfl
  have c_Xgr0_1 := Xgr0.out.now 1 _ rfl
  have c_Xgr0_2 := Xgr0.out.now 2 _ rfl
  have c_Xmr0_0 := Xmr0.out.now 0 _ rfl
  have c_Xmr0_1 := Xmr0.out.now 1 _ rfl
  have c_Xmr0_2 := Xmr0.out.now 2 _ rfl
  go_wp2_with fail
  refine (eq_Peeled hr0m2 Ogr02.out.orow Vmr02.out.row).mono ?_; rintro e w10 ⟨rfl, hb⟩
  replace FB := Lib.hid (FB.out.b hb)
  replace Fa10 := Lib.hid (Fa10.out.b hb)
  replace Vmr02 := Lib.hid (Vmr02.out.b hb)
  replace Xmr0 := Lib.hid (Xmr0.out.b hb)
  replace Ogr02 := Lib.hid (Ogr02.out.b hb)
  replace Xgr0 := Lib.hid (Xgr0.out.b hb)
  have z_w10 : w9.heap.size ≤ w10.heap.size := by have hsz := hb.size; first | omega | (simp at hsz; omega)
  clear c_Xgr0_0 c_Xgr0_1 c_Xgr0_2 c_Xmr0_0 c_Xmr0_1 c_Xmr0_2
  clear hb
  have c_Xgr0_0 := Xgr0.out.now 0 _ rfl
  have c_Xgr0_1 := Xgr0.out.now 1 _ rfl
  have c_Xgr0_2 := Xgr0.out.now 2 _ rfl
  go_wp2_with fail
  refine (mark_Peeled hr0m2 Ogr02.out.now Ogr02.out.top (by omega) (by omega)).mono ?_; rintro e w11 ⟨rfl, hm0, hg⟩
  replace FB := Lib.hid (FB.out.far hg (by omega))
  replace Fa10 := Lib.hid (Fa10.out.far hg (by omega))
  replace Vmr02 := Lib.hid (Vmr02.out.far hg (by omega))
  replace Xmr0 := Lib.hid (Xmr0.out.far hg (by omega))
  replace Xgr0 := Lib.hid (Xgr0.out.far hg (by omega))
  have z_w11 : w10.heap.size ≤ w11.heap.size := by have hsz := hg.size; first | omega | (simp at hsz; omega)
  replace Ogr02 := Lib.hid (At.mk hm0 (Nat.le_trans Ogr02.out.top hg.size) (Ow.lives _ _ _ _ _ _))
  clear c_Xgr0_0 c_Xgr0_1 c_Xgr0_2
  clear hg hm0
  have c_Xgr0_0 := Xgr0.out.now 0 _ rfl
  have c_Xgr0_1 := Xgr0.out.now 1 _ rfl
  have c_Xgr0_2 := Xgr0.out.now 2 _ rfl
  go_wp2_with fail
  refine (held_Peeled hr0m2 Ogr02.out.orow (by omega) (by omega)).mono ?_; rintro e w12 ⟨rfl, hb⟩
  replace FB := Lib.hid (FB.out.b hb)
  replace Fa10 := Lib.hid (Fa10.out.b hb)
  replace Vmr02 := Lib.hid (Vmr02.out.b hb)
  replace Xmr0 := Lib.hid (Xmr0.out.b hb)
  replace Ogr02 := Lib.hid (Ogr02.out.b hb)
  replace Xgr0 := Lib.hid (Xgr0.out.b hb)
  have z_w12 : w11.heap.size ≤ w12.heap.size := by have hsz := hb.size; first | omega | (simp at hsz; omega)
  clear c_Xgr0_0 c_Xgr0_1 c_Xgr0_2
  clear hb
  go_wp2_with fail
  refine (to_StringS ha1k0 Fa10.out.row).mono ?_; rintro e w13 ⟨tha1A0, tha1c0, rfl, ho0, hb⟩
  replace FB := Lib.hid (FB.out.b hb)
  replace Fa10 := Lib.hid (Fa10.out.b hb)
  replace Vmr02 := Lib.hid (Vmr02.out.b hb)
  replace Xmr0 := Lib.hid (Xmr0.out.b hb)
  replace Ogr02 := Lib.hid (Ogr02.out.b hb)
  replace Xgr0 := Lib.hid (Xgr0.out.b hb)
  have z_w13 : w12.heap.size ≤ w13.heap.size := by have hsz := hb.size; first | omega | (simp at hsz; omega)
  have Otha10 := Lib.hid (owned (ho0.mono (lo' := w12.heap.size) (Nat.le_refl _) (Nat.le_refl _)))
  clear hb ho0
  go_wp2_with fail
  refine (S2.out _ _ _ Otha10.out.orow).mono ?_; rintro e w14 ⟨hr0A2, hr0c2, rfl, hrr02, hb⟩
  replace FB := Lib.hid (FB.out.b hb)
  replace Fa10 := Lib.hid (Fa10.out.b hb)
  replace Vmr02 := Lib.hid (Vmr02.out.b hb)
  replace Xmr0 := Lib.hid (Xmr0.out.b hb)
  replace Ogr02 := Lib.hid (Ogr02.out.b hb)
  replace Xgr0 := Lib.hid (Xgr0.out.b hb)
  replace Otha10 := Lib.hid (Otha10.out.b hb)
  have z_w14 : w13.heap.size ≤ w14.heap.size := by have hsz := hb.size; first | omega | (simp at hsz; omega)
  have Ohr02 := Lib.hid (owned (hrr02.mono (lo' := w13.heap.size) (Nat.le_refl _) (Nat.le_refl _)))
  clear hb hrr02
  clear Otha10
  replace FB := Lib.hid (FB.out.alloc (.cells #[.int .i64 r0z0, .int .i64 r0z1, .slice hr0A2 r0n2 hr0c2] 57))
  replace Fa10 := Lib.hid (Fa10.out.alloc (.cells #[.int .i64 r0z0, .int .i64 r0z1, .slice hr0A2 r0n2 hr0c2] 57))
  replace Vmr02 := Lib.hid (Vmr02.out.alloc (.cells #[.int .i64 r0z0, .int .i64 r0z1, .slice hr0A2 r0n2 hr0c2] 57))
  replace Xmr0 := Lib.hid (Xmr0.out.alloc (.cells #[.int .i64 r0z0, .int .i64 r0z1, .slice hr0A2 r0n2 hr0c2] 57))
  replace Ogr02 := Lib.hid (Ogr02.out.alloc (.cells #[.int .i64 r0z0, .int .i64 r0z1, .slice hr0A2 r0n2 hr0c2] 57))
  replace Xgr0 := Lib.hid (Xgr0.out.alloc (.cells #[.int .i64 r0z0, .int .i64 r0z1, .slice hr0A2 r0n2 hr0c2] 57))
  replace Ohr02 := Lib.hid (Ohr02.out.alloc (.cells #[.int .i64 r0z0, .int .i64 r0z1, .slice hr0A2 r0n2 hr0c2] 57))
  have Xhr0 := Lib.hid (boxed w14 #[.int .i64 r0z0, .int .i64 r0z1, .slice hr0A2 r0n2 hr0c2] 57)
  have c_Xhr0_0 := Xhr0.out.now 0 _ rfl
  have c_Xhr0_1 := Xhr0.out.now 1 _ rfl
  have c_Xhr0_2 := Xhr0.out.now 2 _ rfl
  have c_Xmr0_0 := Xmr0.out.now 0 _ rfl
  have c_Xmr0_1 := Xmr0.out.now 1 _ rfl
  have c_Xmr0_2 := Xmr0.out.now 2 _ rfl
  go_wp2_with fail
  refine (eq_Peeled hr0m2 Ohr02.out.orow Vmr02.out.row).mono ?_; rintro e w15 ⟨rfl, hb⟩
  replace FB := Lib.hid (FB.out.b hb)
  replace Fa10 := Lib.hid (Fa10.out.b hb)
  replace Vmr02 := Lib.hid (Vmr02.out.b hb)
  replace Xmr0 := Lib.hid (Xmr0.out.b hb)
  replace Ogr02 := Lib.hid (Ogr02.out.b hb)
  replace Xgr0 := Lib.hid (Xgr0.out.b hb)
  replace Ohr02 := Lib.hid (Ohr02.out.b hb)
  replace Xhr0 := Lib.hid (Xhr0.out.b hb)
  have z_w15 : w14.heap.size + 1 ≤ w15.heap.size := by have hsz := hb.size; first | omega | (simp at hsz; omega)
  clear c_Xhr0_0 c_Xhr0_1 c_Xhr0_2 c_Xmr0_0 c_Xmr0_1 c_Xmr0_2
  clear hb
  have c_Xgr0_0 := Xgr0.out.now 0 _ rfl
  have c_Xgr0_1 := Xgr0.out.now 1 _ rfl
  have c_Xgr0_2 := Xgr0.out.now 2 _ rfl
  go_wp2_with fail
  refine (held_Peeled hr0m2 Ogr02.out.orow (by omega) (by omega)).mono ?_; rintro e w16 ⟨rfl, hb⟩
  replace FB := Lib.hid (FB.out.b hb)
  replace Fa10 := Lib.hid (Fa10.out.b hb)
  replace Vmr02 := Lib.hid (Vmr02.out.b hb)
  replace Xmr0 := Lib.hid (Xmr0.out.b hb)
  replace Ogr02 := Lib.hid (Ogr02.out.b hb)
  replace Xgr0 := Lib.hid (Xgr0.out.b hb)
  replace Ohr02 := Lib.hid (Ohr02.out.b hb)
  replace Xhr0 := Lib.hid (Xhr0.out.b hb)
  have z_w16 : w15.heap.size ≤ w16.heap.size := by have hsz := hb.size; first | omega | (simp at hsz; omega)
  clear c_Xgr0_0 c_Xgr0_1 c_Xgr0_2
  clear hb
  go_wp2_with fail
  go_ret
  exact ⟨rfl, FB.out.now⟩
theorem PdOwn.grow {z0 z1 : Int} {n : Nat} {X : Nat → Int} {b : Bool} {w w' : World} {e : Ending} (h : PdOwn z0 z1 n X b w e w') : ∃ A c, e = .returned (.tuple #[.agg #[.int .i64 z0, .int .i64 z1, .slice A n c], .bool b]) ∧ GRow w' A n (intV X) ∧ Below w.heap.size w w' := by
  obtain ⟨A, c, h1, h2, h3⟩ := h
  exact ⟨A, c, h1, (Ow.rd h2).row (Nat.le_refl _), h3⟩
theorem pdPost_two {seed : Int} {q n : Nat} {S : Nat → ByteArray} : ∃ (z0 z1 : Int) (m : Nat) (X : Nat → Int) (b : Bool), m ≤ 3 * q ∧ ∀ (w : World) (e : Ending) (w' : World), PdPost seed q (3 * q) n S w e w' → PdOwn z0 z1 m X b w e w' := by
  obtain ⟨k, hk, hf⟩ := goes_ex (3 * q) (fun _ => 3) (eH seed q S) n zeroC
  rcases Nat.eq_zero_or_pos (leftL (goneS (3 * q) (fun _ => 3) (eH seed q S) n zeroC k) n).length with hL | hL
  · refine ⟨seed, q, 3 * q, pdF seed q (3 * q) n S k, true, Nat.le_refl _, fun w e w' h => ?_⟩
    obtain ⟨j, hj, hg, h1, h2⟩ := h
    obtain rfl := goes_same hk hf hj hg
    exact h1 hL
  · refine ⟨0, 0, 0, fun _ => 0, false, Nat.zero_le _, fun w e w' h => ?_⟩
    obtain ⟨j, hj, hg, h1, h2⟩ := h
    obtain rfl := goes_same hk hf hj hg
    exact h2 hL
theorem walk_FnExactBuildPeeled (w : World) (seed : Int) (_ws : (Lit.int .i64 seed).wf = true) (K : Option Addr) (n kc : Nat) (S : Nat → ByteArray) (hm : n ≤ maxLen) (hr : SRow w K n S) (g : Int) (_wg : (Lit.int .i64 g).wf = true) :
    Calls Try.prog 9 #[.int .i64 seed, .slice K n kc, .int .i64 g] w fun e w' => e = .returned (.bool true) ∧ Below w.heap.size w w' := by
  rcases hky : keyedB seed S n g with _ | _
  · exact main_FnExactBuildPeeled seed n S g 0 0 0 (fun _ => 0) false K kc w hm hr.grow hr.size (by omega)
      (fun hn _ _ w g1 => (spec_buildPeeled_no (by omega) hr.size g1 hky).mono fun e w' h => h.grow)
      (fun hn _ _ w g1 => impl_buildPeeled_no (by omega) hr.size g1 hky)
  · obtain ⟨q, rfl⟩ : ∃ q : Nat, g = q := ⟨g.toNat, by have h := hky; unfold keyedB at h; simp only [Bool.and_eq_true, decide_eq_true_eq] at h; omega⟩
    have hq : q ≤ 24 := by have h := hky; unfold keyedB at h; simp only [Bool.and_eq_true, decide_eq_true_eq] at h; omega
    obtain ⟨z0, z1, l, X, b, hl, hp⟩ := pdPost_two (seed := seed) (q := q) (n := n) (S := S)
    exact main_FnExactBuildPeeled seed n S q z0 z1 l X b K kc w hm hr.grow hr.size (by omega)
      (fun _ _ _ w g1 => (spec_buildPeeled hr.size g1 hky).mono fun e w' h => (hp _ e w' h).grow)
      (fun _ _ _ w g1 => (impl_buildPeeled hr.size g1 hky).mono fun e w' h => hp _ e w' h)
end Go.Proofs.Ytijlpbcgkecinab
