/- Several texts in one: EhIn, TaW, ObjTa, HypO, PeelK, OwnPl, ObjPS, PelO, PkI, TpM, BackI, TaO, TpS, TpW, RndH, TpI, TpN, ExactTableByPeelingWalk. -/
import Derived.Test.YtpajbcgdoedleabHypM
import Derived.Test.YtpajbcgdoedleabTaV
import Derived.Test.YtpajbcgdoedleabHypI
import Derived.Deep.RegionHeld3
import Derived.Test.YtpajbcgdoedleabObjTch
import Derived.Test.YtpajbcgdoedleabPeelN
import Derived.Test.YtpajbcgdoedleabObjSS
import Derived.Test.YtpajbcgdoedleabPush
import Derived.RangeFuncNested
import Derived.RangeFuncBound
import Derived.RangeFuncCalls
import Derived.RangeFuncLeaves
import Derived.Shelf.Abstract
import Derived.Shelf.RegionOpen
import Derived.WalkKit
import Derived.OwnWalkIn
import Derived.TacticsInMore
import Derived.LoopNIn
import Derived.LoopIn
import Derived.Test.YtpajbcgdoedleabGen
import Derived.Test.YtpajbcgdoedleabObj

/- The places of a key lie below three segments. -/
namespace Go.Proofs.Ytpajbcgdoedleab
open Go.RowKit

theorem eH_in {seed : Int} {g : Nat} {S : Nat → ByteArray} {k : Nat} (h1 : 1 ≤ g) (h2 : g ≤ 24) : ∀ j, j < 3 → 0 ≤ eH seed g S k j ∧ eH seed g S k j < ((3 * g : Nat) : Int) := fun j hj => by
  obtain ⟨p0, p1, p2, p3⟩ := eH_bd (seed := seed) (S := S) (i := k) h1 h2 hj
  have h5 : eH seed g S k j = placeI seed j (S k).data.toList g + ((j * g : Nat) : Int) := by unfold eH; push_cast; rfl
  rw [h5]
  have h6 : j * g ≤ 2 * g := Nat.mul_le_mul (by omega) (Nat.le_refl _)
  omega
end Go.Proofs.Ytpajbcgdoedleab

/- The value of a table for a key: both sides. -/
namespace Go.Proofs.Ytpajbcgdoedleab
open Go.RowKit

/-- The sum over two elements of the values at m places. -/
def xorN (X E : Nat → Int) : Nat → Nat
  | 0 => 0
  | m + 1 => xorN X E m ^^^ (X (E m).toNat).toNat
theorem xorN_bd {X E : Nat → Int} {n : Nat} (hx : InAll n X 0 255) : ∀ m, (∀ j, j < m → 0 ≤ E j ∧ E j < n) → xorN X E m < 256
  | 0, _ => by simp [xorN]
  | m + 1, he => by
    have h1 := xorN_bd hx m (fun j hj => he j (by omega))
    have h3 := he m (by omega)
    have h4 := hx (E m).toNat (by omega)
    rw [xorN]
    exact Nat.xor_lt_two_pow (n := 8) (by omega) (by omega)
theorem TaV.all {z0 z1 z2 : Int} {n : Nat} {X : Nat → Int} (h : TaV z0 z1 z2 n X) : InAll n X 0 255 := fun i hi => by
  have h1 := h.2.2.2.2 i hi
  have h2 := h.2.2.1
  have h3 : (2 : Int) ^ z2.toNat ≤ 2 ^ 8 := (two_bd (m := z2.toNat) (k := 8) (by omega)).2
  have h4 : (2 : Int) ^ 8 = 256 := by decide
  omega
/-- The value of a table for a key. -/
def taN (z0 : Int) (g : Nat) (s : ByteArray) (X : Nat → Int) : Nat := xorN X (eH z0 g (fun _ => s) 0) 3
theorem xor_i (a : Nat) (x : Int) (ha : a < 256) (hx : 0 ≤ x) (hx2 : x ≤ 255) : bits .xor .i64 (a : Int) x = ((a ^^^ x.toNat : Nat) : Int) := by
  obtain ⟨u, rfl⟩ := Int.eq_ofNat_of_zero_le hx
  rw [Int.toNat_natCast]
  exact i64_xor_nat a u (by omega) (by omega)

set_option maxRecDepth 100000 in
set_option maxHeartbeats 1000000 in
theorem impl_addAt (A : Option Addr) (n c : Nat) (X : Nat → Int) (B : Option Addr) (m d : Nat) (E : Nat → Int) (w : World) (hn : n ≤ 1048576) (hm : m ≤ 3) (hr : IRow w A n X) (he : IRow w B m E) (hx : InAll n X 0 255) (hb : ∀ j, j < m → 0 ≤ E j ∧ E j < n) :
    Calls Try.prog 113 #[.slice A n c, .slice B m d] w fun e w' => e = .returned (.int .i64 (xorN X E m : Nat)) ∧ w = w' := by
  have HR := Lib.hid hr
  have HE := Lib.hid he
  have HX := Lib.hid hx
  have HB := Lib.hid hb
  clear hr he hx hb
  go_enter Try.func113, Try.ntmps113
  go_wp2_with fail
  go_loop [5, 10] (fun s i => ∃ q : Nat, q ≤ m ∧ i = .int .i64 q ∧ s = .int .i64 (xorN X E q : Nat)) (fun _ i => m - (intOf i).toNat)
  case atStart => exact ⟨0, Nat.zero_le _, rfl, rfl⟩
  case round =>
    obtain ⟨q, hq, rfl, rfl⟩ := hrel
    by_cases hlt : q < m
    · obtain ⟨b1, o1, rfl, _, hc1⟩ := HE.out (by omega)
      have hy := hc1 q hlt
      have hEq := HB.out q hlt
      obtain ⟨b2, o2, rfl, _, hc2⟩ := HR.out (by omega)
      have hx := hc2 (E q).toNat (by omega)
      have hsb := xorN_bd HX.out q (fun j hj => HB.out j (by omega))
      have hxq := HX.out (E q).toNat (by omega)
      have hS := Lib.hid ((xor_i (xorN X E q) (X (E q).toNat) hsb hxq.1 hxq.2).trans (show _ = ((xorN X E (q + 1) : Nat) : Int) from rfl))
      obtain ⟨u, hu⟩ : ∃ u : Nat, E q = u := ⟨(E q).toNat, by omega⟩
      rw [hu] at hy hEq hx hxq hS
      rw [Int.toNat_natCast] at hx hxq hS
      generalize hx' : X u = xv at *
      generalize hs' : xorN X E q = sv at *
      have hun : u < n := by omega
      clear hc1 hc2 hu
      go_wp2_with fail
      rw [hS.out]
      go_round
      case rel => exact ⟨q + 1, by omega, by go_num, rfl⟩
      case measure => simp [intOf]; omega
    · obtain rfl : q = m := by omega
      go_wp2_with fail
      go_ret
      exact ⟨rfl, rfl⟩
section
variable {z0 : Int} {g v : Nat} {A : Option Addr} {n c : Nat} {X : Nat → Int} {s : ByteArray} {w : World}
set_option maxRecDepth 100000 in
set_option maxHeartbeats 4000000 in
theorem impl_valueFor (hs : s.size ≤ maxLen) (hr : IRow w A n X) (hv : TaV z0 g v n X) :
    Calls Try.prog 106 #[.agg #[.int .i64 z0, .int .i64 g, .int .i64 v, .slice A n c], .string s] w fun e w' => e = .returned (.int .i64 (taN z0 g s X : Nat)) ∧ Below w.heap.size w w' := by
  have S0 := Lib.hid (BX1.start (cs := #[.int .i64 z0, .int .i64 g, .int .i64 v, .slice A n c]) (t := 57) hr)
  have h1 : 1 ≤ g := by have := hv.2.1; omega
  have h2 : g ≤ 24 := by have := hv.2.1; omega
  have HN := Lib.hid (show n = 3 * g by have := hv.2.2.2.1; omega)
  have hn72 : n ≤ 72 := by have := HN.out; omega
  have HA := Lib.hid hv.all
  have HS := Lib.hid (seedB_dec (decide_eq_true hv.1))
  have HE := Lib.hid (fun j (hj : j < 3) => show 0 ≤ eH z0 g (fun _ => s) 0 j ∧ eH z0 g (fun _ => s) 0 j < (n : Int) from by have := eH_in (seed := z0) (S := fun _ => s) (k := 0) h1 h2 j hj; have := HN.out; omega)
  have x0 := S0.out.box.cell 0 _ rfl
  have x1 := S0.out.box.cell 1 _ rfl
  have x3 := S0.out.box.cell 3 _ rfl
  have HK := Lib.hid (fun (w' : World) (h : Below (w.alloc (.cells #[.int .i64 z0, .int .i64 g, .int .i64 v, .slice A n c] 57)).heap.size (w.alloc (.cells #[.int .i64 z0, .int .i64 g, .int .i64 v, .slice A n c] 57)) w') => (show w'.cell? ⟨w.heap.size, 0, none⟩ = some (.int .i64 z0) ∧ w'.cell? ⟨w.heap.size, 1, none⟩ = some (.int .i64 g) ∧ w'.cell? ⟨w.heap.size, 3, none⟩ = some (.slice A n c) from
    ⟨(S0.out.step h).box.cell 0 _ rfl, (S0.out.step h).box.cell 1 _ rfl, (S0.out.step h).box.cell 3 _ rfl⟩))
  clear hr hv
  go_enter Try.func106, Try.ntmps106
  go_wp2_with fail
  go_region_held3 (fun w' => w'.cell? ⟨w.heap.size, 0, none⟩ = some (.int .i64 z0) ∧ w'.cell? ⟨w.heap.size, 1, none⟩ = some (.int .i64 g) ∧ w'.cell? ⟨w.heap.size, 3, none⟩ = some (.slice A n c))
    (first | with_reducible exact HK.out _ hq1 | (go_keep; done))
    (first
      | (have hqz := hq1; clear hqz; go_at_call 113; refine (impl_addAt A n c X (some ⟨eb, 0, none⟩) 3 3 (eH z0 g (fun _ => s) 0) _ (by omega) (by omega) (S0.out.step hq1).row HEr.out HA.out HE.out).mono ?_; rintro e w2 ⟨rfl, rfl⟩)
      | (go_at_call 122; refine (impl_edgeOf z0 g (fun _ => s) 0 _ hs HS.out h1 h2).mono ?_; rintro e w1 ⟨eb, rfl, _, ho, hq1'⟩; have hq1 := of_drew hq1'; clear hq1'; have HEr := Lib.hid (show IRow w1 (some ⟨eb, 0, none⟩) 3 (eH z0 g (fun _ => s) 0) from ho.row); clear ho))
  have S1 := Lib.hid (S0.out.step hq1)
  clear x0 x1 x3 HK hq1
  go_wp2_with fail
  go_ret
  exact ⟨rfl, S1.out.below⟩
set_option maxRecDepth 100000 in
set_option maxHeartbeats 4000000 in
theorem spec_reValue (hs : s.size ≤ maxLen) (hr : IRow w A n X) (hv : TaV z0 g v n X) :
    Calls Try.prog 104 #[.agg #[.int .i64 z0, .int .i64 g, .int .i64 v, .slice A n c], .string s] w fun e w' => e = .returned (.int .i64 (taN z0 g s X : Nat)) ∧ Below w.heap.size w w' := by
  have S0 := Lib.hid (BX1.start (cs := #[.int .i64 z0, .int .i64 g, .int .i64 v, .slice A n c]) (t := 57) hr)
  have h1 : 1 ≤ g := by have := hv.2.1; omega
  have h2 : g ≤ 24 := by have := hv.2.1; omega
  have HN := Lib.hid (show n = 3 * g by have := hv.2.2.2.1; omega)
  have hn72 : n ≤ 72 := by have := HN.out; omega
  have HX := Lib.hid hv.all
  have HB := Lib.hid (fun j (hj : j < 3) => show 0 ≤ eH z0 g (fun _ => s) 0 j ∧ eH z0 g (fun _ => s) 0 j < (n : Int) from by have := eH_in (seed := z0) (S := fun _ => s) (k := 0) h1 h2 j hj; have := HN.out; omega)
  have x0 := S0.out.box.cell 0 _ rfl
  have x1 := S0.out.box.cell 1 _ rfl
  go_enter Try.func104, Try.ntmps104
  go_wp2_with fail
  refine (spec_peTriple z0 g (fun _ => s) 0 _ hs (seedB_dec (decide_eq_true hv.1)) h1 h2).mono ?_; rintro e w1 ⟨EA, ec, rfl, ho, hb⟩
  have HE := Lib.hid (show IRow w1 EA 3 (eH z0 g (fun _ => s) 0) from (owned_vec ho).row)
  have S1 := Lib.hid (S0.out.step hb)
  have y3 := S1.out.box.cell 3 _ rfl
  have HR := Lib.hid S1.out.row
  clear x0 x1 hb ho S0 hr hv
  have HT := Lib.hid (show taN z0 g s X = xorN X (eH z0 g (fun _ => s) 0) 3 from rfl)
  go_wp2_with fail
  generalize eH z0 g (fun _ => s) 0 = E at *
  go_loop [5, 15] (fun q i => ∃ k : Nat, k ≤ 3 ∧ i = .int .i64 k ∧ q = .int .i64 (xorN X E k : Nat)) (fun _ i => 3 - (intOf i).toNat)
  case atStart => exact ⟨0, Nat.zero_le _, rfl, rfl⟩
  case round =>
    obtain ⟨q, hq, rfl, rfl⟩ := hrel
    by_cases hlt : q < 3
    · obtain ⟨b1, o1, rfl, _, hc1⟩ := HE.out (by omega)
      have hy := hc1 q hlt
      have hEq := HB.out q hlt
      obtain ⟨b2, o2, rfl, _, hc2⟩ := HR.out (by omega)
      have hx := hc2 (E q).toNat (by omega)
      have hsb := xorN_bd HX.out q (fun j hj => HB.out j (by omega))
      have hxq := HX.out (E q).toNat (by omega)
      have hS := Lib.hid ((xor_i (xorN X E q) (X (E q).toNat) hsb hxq.1 hxq.2).trans (show _ = ((xorN X E (q + 1) : Nat) : Int) from rfl))
      obtain ⟨u, hu⟩ : ∃ u : Nat, E q = u := ⟨(E q).toNat, by omega⟩
      rw [hu] at hy hEq hx hxq hS
      rw [Int.toNat_natCast] at hx hxq hS
      generalize hx' : X u = xv at *
      generalize hs' : xorN X E q = sv at *
      have hun : u < n := by omega
      clear hc1 hc2 hu
      go_wp2_with fail
      rw [hS.out]
      go_round
      case rel => exact ⟨q + 1, by omega, by go_num, rfl⟩
      case measure => simp [intOf]; omega
    · obtain rfl : q = 3 := by omega
      go_wp2_with fail
      go_ret
      exact ⟨by rw [HT.out]; rfl, S1.out.below⟩
end
end Go.Proofs.Ytpajbcgdoedleab

/- The laws' small functions on Table. -/
namespace Go.Proofs.Ytpajbcgdoedleab
open Go.RowKit

set_option maxRecDepth 100000 in
set_option maxHeartbeats 2000000 in
theorem sz_Table {z0 : Int} {z1 : Int} {z2 : Int} {n3 : Nat} {A3 : Option Addr} {c3 : Nat} {left : Int} {w : World} (hn3 : n3 ≤ maxLen) (h0 : 0 ≤ left) (h1 : left ≤ 1048576) :
    Calls Try.prog 36 #[.agg #[.int .i64 z0, .int .i64 z1, .int .i64 z2, .slice A3 n3 c3], .int .i64 left] w fun e w' => e = .returned (.int .i64 (szv left (n3))) ∧ Below w.heap.size w w' := by
  have FB := Lib.hid ((At.start w).alloc (.cells #[.int .i64 z0, .int .i64 z1, .int .i64 z2, .slice A3 n3 c3] 53))
  have BX := Lib.hid (boxed w #[.int .i64 z0, .int .i64 z1, .int .i64 z2, .slice A3 n3 c3] 53)
  go_enter Try.func36, Try.ntmps36
  go_wp2_with fail
  refine (sz_IntS hn3 (by omega) (by omega)).mono ?_; rintro e w1 ⟨rfl, hb⟩
  replace FB := Lib.hid (FB.out.b hb)
  replace BX := Lib.hid (BX.out.b hb)
  have z_w1 : w.heap.size + 1 ≤ w1.heap.size := by have hsz := hb.size; first | omega | (simp at hsz; omega)
  clear hb
  by_cases hz_3 : ((n3 : Nat) : Int) ≤ left
  rotate_left
  · rw [szv_no hz_3]
    have hfin : szv left (n3) = -1 := szv_no (by omega)
    go_wp2_with fail
    go_ret
    exact ⟨by first | (rw [hfin]; rfl) | rfl, FB.out.now⟩
  rw [szv_yes hz_3]
  have hl_3 : ¬ ((left - ((n3 : Nat) : Int)) < 0) := by omega
  have hfin : szv left (n3) = (left - ((n3 : Nat) : Int)) := by rw [szv_yes (show ((n3 : Nat) : Int) ≤ left by omega)] <;> omega
  go_wp2_with fail
  go_ret
  exact ⟨by first | (rw [hfin]; rfl) | rfl, FB.out.now⟩

set_option maxRecDepth 100000 in
set_option maxHeartbeats 2000000 in
theorem to_Table {z0 : Int} {z1 : Int} {z2 : Int} {n3 : Nat} {X3 : Nat → Int} {A3 : Option Addr} {c3 : Nat} {w : World} (hn3 : n3 ≤ 1048576) (hr3 : GRow w A3 n3 (intV X3)) :
    Calls Try.prog 38 #[.agg #[.int .i64 z0, .int .i64 z1, .int .i64 z2, .slice A3 n3 c3]] w fun e w' => ∃ dA3 dc3, e = .returned (.agg #[.int .i64 z0, .int .i64 z1, .int .i64 z2, .slice dA3 n3 dc3]) ∧ Ow w.heap.size w'.heap.size 3 dA3 n3 (intV X3) w' ∧ Below w.heap.size w w' := by
  have FB := Lib.hid ((((At.start w).alloc (.cells #[.int .i64 z0, .int .i64 z1, .int .i64 z2, .slice A3 n3 c3] 53)).alloc (.cells #[.int .i64 0, .int .i64 0, .int .i64 0, .slice none 0 0] 57)).alloc (.cells #[.int .i64 z0, .int .i64 z1, .int .i64 z2, .slice none 0 0] 57))
  have R3 := Lib.hid ((((rd_of_row hr3).alloc (.cells #[.int .i64 z0, .int .i64 z1, .int .i64 z2, .slice A3 n3 c3] 53)).alloc (.cells #[.int .i64 0, .int .i64 0, .int .i64 0, .slice none 0 0] 57)).alloc (.cells #[.int .i64 z0, .int .i64 z1, .int .i64 z2, .slice none 0 0] 57))
  have BX := Lib.hid (((boxed w #[.int .i64 z0, .int .i64 z1, .int .i64 z2, .slice A3 n3 c3] 53).alloc (.cells #[.int .i64 0, .int .i64 0, .int .i64 0, .slice none 0 0] 57)).alloc (.cells #[.int .i64 z0, .int .i64 z1, .int .i64 z2, .slice none 0 0] 57))
  have nb := nbx0 ((w.alloc (.cells #[.int .i64 z0, .int .i64 z1, .int .i64 z2, .slice A3 n3 c3] 53)).alloc (.cells #[.int .i64 0, .int .i64 0, .int .i64 0, .slice none 0 0] 57)) #[.int .i64 z0, .int .i64 z1, .int .i64 z2, .slice none 0 0] 57
  have nr := (nbx0 (w.alloc (.cells #[.int .i64 z0, .int .i64 z1, .int .i64 z2, .slice A3 n3 c3] 53)) #[.int .i64 0, .int .i64 0, .int .i64 0, .slice none 0 0] 57).b ((Below.refl _ _).alloc (Nat.le_refl _) (.cells #[.int .i64 z0, .int .i64 z1, .int .i64 z2, .slice none 0 0] 57))
  simp only [World.size_alloc] at nb nr
  have NB := Lib.hid nb
  have NR := Lib.hid nr
  clear nb nr hr3
  go_enter Try.func38, Try.ntmps38
  go_wp2_with fail
  refine (to_IntS hn3 R3.out.row).mono ?_; rintro e w1 ⟨dA3, dc3, rfl, ho3, hb⟩
  replace FB := Lib.hid (FB.out.b hb)
  replace R3 := Lib.hid (R3.out.b hb)
  replace BX := Lib.hid (BX.out.b hb)
  have z_w1 : w.heap.size + 3 ≤ w1.heap.size := by have hsz := hb.size; first | omega | (simp at hsz; omega)
  replace NB := Lib.hid (NB.out.b hb)
  replace NR := Lib.hid (NR.out.b hb)
  have O3 := Lib.hid (owned (ho3.mono (lo' := w.heap.size + 3) (by simp) (Nat.le_refl _)))
  clear hb ho3
  have d3 := NB.out.cell 3 _ rfl
  have f3 := NB.out.free 3
  have c_BX_0 := BX.out.now 0 _ rfl
  have c_BX_1 := BX.out.now 1 _ rfl
  have c_BX_2 := BX.out.now 2 _ rfl
  have c_BX_3 := BX.out.now 3 _ rfl
  have g0 := NR.out.free 0
  have e0 := NR.out.cell 0 _ rfl
  have g1 := NR.out.free 1
  have e1 := NR.out.cell 1 _ rfl
  have g2 := NR.out.free 2
  have e2 := NR.out.cell 2 _ rfl
  have g3 := NR.out.free 3
  have e3 := NR.out.cell 3 _ rfl
  have d0 := NB.out.cell 0 _ rfl
  have d1 := NB.out.cell 1 _ rfl
  have d2 := NB.out.cell 2 _ rfl
  go_wp2_with fail
  refine bodyPost_ret (v := .agg #[.int .i64 z0, .int .i64 z1, .int .i64 z2, .slice dA3 n3 dc3]) (by simp [results, Try.results38, go_sem, e0, e1, e2, e3]) rfl ?_
  replace FB := Lib.hid (((((((((((FB.out).setD (q := w.heap.size + 1 + 1) (.inl (by omega)) 3 (.slice dA3 n3 dc3))).setD (q := w.heap.size + 1) (.inl (by omega)) 0 (.int .i64 z0))).setD (q := w.heap.size + 1) (.inl (by omega)) 1 (.int .i64 z1))).setD (q := w.heap.size + 1) (.inl (by omega)) 2 (.int .i64 z2))).setD (q := w.heap.size + 1) (.inl (by omega)) 3 (.slice dA3 n3 dc3)))
  replace R3 := Lib.hid (((((((((((R3.out).setD (q := w.heap.size + 1 + 1) (.inl (by omega)) 3 (.slice dA3 n3 dc3))).setD (q := w.heap.size + 1) (.inl (by omega)) 0 (.int .i64 z0))).setD (q := w.heap.size + 1) (.inl (by omega)) 1 (.int .i64 z1))).setD (q := w.heap.size + 1) (.inl (by omega)) 2 (.int .i64 z2))).setD (q := w.heap.size + 1) (.inl (by omega)) 3 (.slice dA3 n3 dc3)))
  replace BX := Lib.hid (((((((((((BX.out).setD (q := w.heap.size + 1 + 1) (.inl (by omega)) 3 (.slice dA3 n3 dc3))).setD (q := w.heap.size + 1) (.inl (by omega)) 0 (.int .i64 z0))).setD (q := w.heap.size + 1) (.inl (by omega)) 1 (.int .i64 z1))).setD (q := w.heap.size + 1) (.inl (by omega)) 2 (.int .i64 z2))).setD (q := w.heap.size + 1) (.inl (by omega)) 3 (.slice dA3 n3 dc3)))
  replace O3 := Lib.hid (((((((((((O3.out).setD (q := w.heap.size + 1 + 1) (.inr (by omega)) 3 (.slice dA3 n3 dc3))).setD (q := w.heap.size + 1) (.inr (by omega)) 0 (.int .i64 z0))).setD (q := w.heap.size + 1) (.inr (by omega)) 1 (.int .i64 z1))).setD (q := w.heap.size + 1) (.inr (by omega)) 2 (.int .i64 z2))).setD (q := w.heap.size + 1) (.inr (by omega)) 3 (.slice dA3 n3 dc3)))
  exact ⟨dA3, dc3, rfl, O3.out.now.mono (by omega) O3.out.top, FB.out.now⟩

set_option maxRecDepth 100000 in
set_option maxHeartbeats 2000000 in
theorem eq_Table {z0 : Int} {z1 : Int} {z2 : Int} {n3 : Nat} {X3 : Nat → Int} {A3 : Option Addr} {c3 : Nat} {dA3 : Option Addr} {dc3 : Nat} {w : World} (hn3 : n3 ≤ 1048576) (hx3 : GRow w A3 n3 (intV X3)) (hy3 : GRow w dA3 n3 (intV X3)) :
    Calls Try.prog 40 #[.agg #[.int .i64 z0, .int .i64 z1, .int .i64 z2, .slice A3 n3 c3], .agg #[.int .i64 z0, .int .i64 z1, .int .i64 z2, .slice dA3 n3 dc3]] w (SameRow w true) := by
  have FB := Lib.hid (((At.start w).alloc (.cells #[.int .i64 z0, .int .i64 z1, .int .i64 z2, .slice A3 n3 c3] 57)).alloc (.cells #[.int .i64 z0, .int .i64 z1, .int .i64 z2, .slice dA3 n3 dc3] 57))
  have P3 := Lib.hid (((rd_of_row hx3).alloc (.cells #[.int .i64 z0, .int .i64 z1, .int .i64 z2, .slice A3 n3 c3] 57)).alloc (.cells #[.int .i64 z0, .int .i64 z1, .int .i64 z2, .slice dA3 n3 dc3] 57))
  have Q3 := Lib.hid (((rd_of_row hy3).alloc (.cells #[.int .i64 z0, .int .i64 z1, .int .i64 z2, .slice A3 n3 c3] 57)).alloc (.cells #[.int .i64 z0, .int .i64 z1, .int .i64 z2, .slice dA3 n3 dc3] 57))
  have BX := Lib.hid ((boxed w #[.int .i64 z0, .int .i64 z1, .int .i64 z2, .slice A3 n3 c3] 57).alloc (.cells #[.int .i64 z0, .int .i64 z1, .int .i64 z2, .slice dA3 n3 dc3] 57))
  have BY := Lib.hid (boxed_at (w.alloc (.cells #[.int .i64 z0, .int .i64 z1, .int .i64 z2, .slice A3 n3 c3] 57)) (w.heap.size + 1) (by simp) #[.int .i64 z0, .int .i64 z1, .int .i64 z2, .slice dA3 n3 dc3] 57)
  clear hx3 hy3
  go_enter Try.func40, Try.ntmps40
  go_wp2_with fail
  refine (eq_IntS hn3 P3.out.row Q3.out.row).mono ?_; rintro e w1 ⟨rfl, hb⟩
  replace FB := Lib.hid (FB.out.b hb)
  replace P3 := Lib.hid (P3.out.b hb)
  replace Q3 := Lib.hid (Q3.out.b hb)
  replace BX := Lib.hid (BX.out.b hb)
  replace BY := Lib.hid (BY.out.b hb)
  have z_w1 : w.heap.size + 2 ≤ w1.heap.size := by have hsz := hb.size; first | omega | (simp at hsz; omega)
  clear hb
  go_wp2_with fail
  go_ret
  exact ⟨rfl, FB.out.now⟩

set_option maxRecDepth 100000 in
set_option maxHeartbeats 2000000 in
theorem markF_Table {z0 : Int} {z1 : Int} {z2 : Int} {n3 : Nat} {X3 : Nat → Int} {A3 : Option Addr} {c3 : Nat} {lo hi : Nat} {k0 : Int} {w : World} (hn3 : n3 ≤ 1048576) (hx3 : Ow lo hi 3 A3 n3 (intV X3) w) (ht : hi ≤ w.heap.size)  (h0 : 1 ≤ k0) (h1 : k0 ≤ 8388608) :
    Calls Try.prog 44 #[.agg #[.int .i64 z0, .int .i64 z1, .int .i64 z2, .slice A3 n3 c3], .int .i64 k0] w fun e w' => e = .returned (.int .i64 (k0 + (n3 : Int))) ∧ Ow lo hi 3 A3 n3 (intV fun i => k0 + i) w' ∧ Tch (fun k => Blk n3 A3 k) w w' := by
  have P3 := Lib.hid (At.alloc ⟨hx3, ht, Ow.lives _ _ _ _ _ _⟩ (.cells #[.int .i64 z0, .int .i64 z1, .int .i64 z2, .slice A3 n3 c3] 57))
  have BX := Lib.hid (boxed w #[.int .i64 z0, .int .i64 z1, .int .i64 z2, .slice A3 n3 c3] 57)
  have HT := Lib.hid ((Tch.refl (fun k => Blk n3 A3 k) w).alloc (.cells #[.int .i64 z0, .int .i64 z1, .int .i64 z2, .slice A3 n3 c3] 57))
  have hb3 : ∀ k, Blk n3 A3 k → k < w.heap.size := fun k h => Nat.lt_of_lt_of_le (hx3.blk_lt h).2 ht
  clear hx3
  go_enter Try.func44, Try.ntmps44
  go_wp2_with fail
  refine (markF_IntS hn3 P3.out.now P3.out.top (by omega) (by omega)).mono ?_; rintro e v0 ⟨rfl, hm3, ht0⟩
  replace P3 := Lib.hid (At.mk hm3 (Nat.le_trans P3.out.top ht0.size) (Ow.lives _ _ _ _ _ _))
  replace BX := Lib.hid (BX.out.tch ht0 (fun k h1 h2 h3 => by first | (have := hb3 k h3; omega)))
  replace HT := Lib.hid (HT.out.trans (ht0.mono (fun k h => by simp [h])))
  clear ht0 hm3
  go_wp2_with fail
  go_ret
  exact ⟨rfl, P3.out.now, HT.out⟩

theorem mark_Table {z0 : Int} {z1 : Int} {z2 : Int} {n3 : Nat} {X3 : Nat → Int} {A3 : Option Addr} {c3 : Nat} {lo hi : Nat} {k0 : Int} {w : World} (hn3 : n3 ≤ 1048576) (hx3 : Ow lo hi 3 A3 n3 (intV X3) w) (ht : hi ≤ w.heap.size)  (h0 : 1 ≤ k0) (h1 : k0 ≤ 8388608) :
    Calls Try.prog 44 #[.agg #[.int .i64 z0, .int .i64 z1, .int .i64 z2, .slice A3 n3 c3], .int .i64 k0] w fun e w' => e = .returned (.int .i64 (k0 + (n3 : Int))) ∧ Ow lo hi 3 A3 n3 (intV fun i => k0 + i) w' ∧ Only lo hi w w' := by
  refine (markF_Table hn3 hx3 ht  h0 h1).mono ?_
  rintro e w' ⟨he, hm3, htch⟩
  exact ⟨he, hm3, htch.only (fun k h => by rcases h with h <;> first | exact hx3.blk_lt h)⟩

set_option maxRecDepth 100000 in
set_option maxHeartbeats 2000000 in
theorem held_Table {z0 : Int} {z1 : Int} {z2 : Int} {n3 : Nat} {A3 : Option Addr} {c3 : Nat} {k0 : Int} {w : World} (hn3 : n3 ≤ 1048576) (hx3 : GRow w A3 n3 (intV fun i => k0 + i)) (h0 : 1 ≤ k0) (h1 : k0 ≤ 8388608) :
    Calls Try.prog 49 #[.agg #[.int .i64 z0, .int .i64 z1, .int .i64 z2, .slice A3 n3 c3], .int .i64 k0] w fun e w' => e = .returned (.int .i64 (k0 + (n3 : Int))) ∧ Below w.heap.size w w' := by
  have FB := Lib.hid ((At.start w).alloc (.cells #[.int .i64 z0, .int .i64 z1, .int .i64 z2, .slice A3 n3 c3] 57))
  have P3 := Lib.hid ((rd_of_row hx3).alloc (.cells #[.int .i64 z0, .int .i64 z1, .int .i64 z2, .slice A3 n3 c3] 57))
  have BX := Lib.hid (boxed w #[.int .i64 z0, .int .i64 z1, .int .i64 z2, .slice A3 n3 c3] 57)
  clear hx3
  go_enter Try.func49, Try.ntmps49
  go_wp2_with fail
  refine (held_IntS hn3 P3.out.row (by omega) (by omega)).mono ?_; rintro e w1 ⟨rfl, hb⟩
  replace FB := Lib.hid (FB.out.b hb)
  replace P3 := Lib.hid (P3.out.b hb)
  replace BX := Lib.hid (BX.out.b hb)
  have z_w1 : w.heap.size + 1 ≤ w1.heap.size := by have hsz := hb.size; first | omega | (simp at hsz; omega)
  clear hb
  go_wp2_with fail
  go_ret
  exact ⟨rfl, FB.out.now⟩

end Go.Proofs.Ytpajbcgdoedleab

/- HyperOf: the model's, and what both refuse. -/
namespace Go.Proofs.Ytpajbcgdoedleab
open Go.RowKit

def keyedB (seed : Int) (S : Nat → ByteArray) (n : Nat) (g : Int) : Bool := seedB seed 0 && keysB S n && decide (1 ≤ g ∧ g ≤ 24)
set_option maxRecDepth 100000 in
set_option maxHeartbeats 1000000 in
theorem spec_peKeyed (seed : Int) (KA : Option Addr) (n kc : Nat) (S : Nat → ByteArray) (g : Int) (w : World) (hn : n ≤ 1048576) (hs : ∀ i, i < n → (S i).size ≤ maxLen) (hr : GRow w KA n (strV S)) :
    Calls Try.prog 85 #[.int .i64 seed, .slice KA n kc, .int .i64 g] w fun e w' => e = .returned (.bool (keyedB seed S n g)) ∧ w = w' := by
  have HR := Lib.hid hr
  have HS := Lib.hid hs
  clear hr hs
  unfold keyedB
  by_cases h0 : 0 ≤ seed ∧ seed ≤ 9999
  · have hsd : seedB seed 0 = true := by unfold seedB; simp only [decide_eq_true_eq]; omega
    obtain ⟨h0a, h0b⟩ := h0
    rw [hsd]
    by_cases hk : keysB S n = true
    · rw [hk]
      by_cases h1 : 1 ≤ g ∧ g ≤ 24
      · rw [decide_eq_true h1]
        obtain ⟨h1a, h1b⟩ := h1
        go_enter Try.func85, Try.ntmps85
        go_wp2_with fail
        refine (l1In_yes _ _ _ _ h0a h0b).mono ?_; rintro e w' ⟨rfl, rfl⟩
        go_wp2_with fail
        refine (spec_biKeys KA n kc S _ hn HS.out HR.out).mono ?_; rintro e w' ⟨rfl, rfl⟩
        rw [hk]
        go_wp2_with fail
        refine (l1In_yes _ _ _ _ h1a h1b).mono ?_; rintro e w' ⟨rfl, rfl⟩
        go_wp2_with fail
        go_ret
        exact ⟨rfl, rfl⟩
      · rw [decide_eq_false h1]
        go_enter Try.func85, Try.ntmps85
        go_wp2_with fail
        refine (l1In_yes _ _ _ _ h0a h0b).mono ?_; rintro e w' ⟨rfl, rfl⟩
        go_wp2_with fail
        refine (spec_biKeys KA n kc S _ hn HS.out HR.out).mono ?_; rintro e w' ⟨rfl, rfl⟩
        rw [hk]
        go_wp2_with fail
        refine (l1In_no _ _ _ _ h1).mono ?_; rintro e w' ⟨rfl, rfl⟩
        go_wp2_with fail
        go_ret
        exact ⟨rfl, rfl⟩
    · have hkf : keysB S n = false := by simpa using hk
      rw [hkf]
      go_enter Try.func85, Try.ntmps85
      go_wp2_with fail
      refine (l1In_yes _ _ _ _ h0a h0b).mono ?_; rintro e w' ⟨rfl, rfl⟩
      go_wp2_with fail
      refine (spec_biKeys KA n kc S _ hn HS.out HR.out).mono ?_; rintro e w' ⟨rfl, rfl⟩
      rw [hkf]
      go_wp2_with fail
      go_ret
      exact ⟨rfl, rfl⟩
  · have hsd : seedB seed 0 = false := by unfold seedB; simp only [decide_eq_false_iff_not]; omega
    rw [hsd]
    go_enter Try.func85, Try.ntmps85
    go_wp2_with fail
    refine (l1In_no _ _ _ _ h0).mono ?_; rintro e w' ⟨rfl, rfl⟩
    go_wp2_with fail
    go_ret
    exact ⟨rfl, rfl⟩

/-- What HyperOf answers where it fails. -/
def HypNo (w : World) (e : Ending) (w' : World) : Prop := e = .returned (.tuple #[.agg #[.int .i64 0, .slice none 0 0], .bool false]) ∧ Below w.heap.size w w'
theorem ow2_zero (lo hi : Nat) (A : Option Addr) (L : Nat → Nat) (V : Nat → Nat → Int) (w : World) : Ow2 lo hi A 0 L V w := ⟨fun _ => none, fun _ => 0, ow_zero _ _ _ _ _ _, fun i hi => absurd hi (by omega), fun i j _ hj => absurd hj (by omega)⟩
theorem rbox_new (w : World) : NBX w.heap.size w.heap.size #[.int .i64 0, .slice none 0 0] 109 (w.alloc (.cells #[.int .i64 0, .slice none 0 0] 109)) := ⟨Go.Deep.blk_alloc_new _ _, Nat.le_refl _⟩
set_option maxRecDepth 100000 in
set_option maxHeartbeats 1000000 in
theorem impl_hyperOf_no (seed : Int) (g : Int) (KA : Option Addr) (n kc : Nat) (S : Nat → ByteArray) (w : World) (hn : n ≤ 1048576) (hs : ∀ i, i < n → (S i).size ≤ maxLen) (hr : GRow w KA n (strV S)) (h : keyedB seed S n g = false) :
    Calls Try.prog 128 #[.int .i64 seed, .slice KA n kc, .int .i64 g] w (HypNo w) := by
  have HR1 := Lib.hid (hr.al (.cells #[.int .i64 0, .slice none 0 0] 109))
  have HS := Lib.hid hs
  have N0 := rbox_new w
  have FB := Lib.hid ((Below.refl w.heap.size w).alloc (Nat.le_refl _) (.cells #[.int .i64 0, .slice none 0 0] 109))
  have r0 := N0.cell 0 _ rfl
  have r1 := N0.cell 1 _ rfl
  have f0 := N0.free 0
  have f1 := N0.free 1
  clear hr hs N0
  by_cases hh : heB seed g = true
  · have hkf : keysB S n = false := by
      unfold keyedB at h
      unfold heB at hh
      simp only [Bool.and_eq_true, decide_eq_true_eq] at hh
      cases hk : keysB S n
      · rfl
      · rw [hh.1, hk] at h; simp at h; omega
    clear h
    go_enter Try.func128, Try.ntmps128
    go_wp2_with fail
    refine (impl_hasEdges seed g _).mono ?_; rintro e w1 ⟨rfl, rfl⟩
    rw [hh]
    go_wp2_with fail
    refine (impl_areKeys KA n kc S _ hn HS.out HR1.out).mono ?_; rintro e w1 ⟨rfl, rfl⟩
    rw [hkf]
    go_wp2_with fail
    refine bodyPost_ret (v := .tuple #[.agg #[.int .i64 0, .slice none 0 0], .bool false]) (by simp [results, Try.results128, go_sem, r0, r1]) rfl ?_
    exact ⟨rfl, by first | exact FB.out | exact below_setAt (below_setAt FB.out (Nat.le_refl _) _) (Nat.le_refl _) _⟩
  · have hhf : heB seed g = false := by simpa using hh
    clear h
    go_enter Try.func128, Try.ntmps128
    go_wp2_with fail
    refine (impl_hasEdges seed g _).mono ?_; rintro e w1 ⟨rfl, rfl⟩
    rw [hhf]
    go_wp2_with fail
    refine bodyPost_ret (v := .tuple #[.agg #[.int .i64 0, .slice none 0 0], .bool false]) (by simp [results, Try.results128, go_sem, r0, r1]) rfl ?_
    exact ⟨rfl, by first | exact FB.out | exact below_setAt (below_setAt FB.out (Nat.le_refl _) _) (Nat.le_refl _) _⟩
end Go.Proofs.Ytpajbcgdoedleab

/- Whether keys have a peel order: arePeeled of the program, pePeels of the model. -/
namespace Go.Proofs.Ytpajbcgdoedleab
open Go.RowKit

def PeelsP (z : Nat) (n : Nat) (l : Nat → Nat) (X : Nat → Nat → Int) : Prop := ∃ k, Goes z l X n zeroC k ∧ freL (degF l X (goneS z l X n zeroC k) n) z = [] ∧ (leftL (goneS z l X n zeroC k) n).length = 0
theorem peelsP_iff {z n : Nat} {l : Nat → Nat} {X : Nat → Nat → Int} {k : Nat} (hg : Goes z l X n zeroC k) (hf : freL (degF l X (goneS z l X n zeroC k) n) z = []) : PeelsP z n l X ↔ (leftL (goneS z l X n zeroC k) n).length = 0 := by
  constructor
  · rintro ⟨j, h1, h2, h3⟩
    obtain rfl := goes_same h1 h2 hg hf
    exact h3
  · exact fun h => ⟨k, hg, hf, h⟩
theorem hyperOk_eH {seed : Int} {g n : Nat} {S : Nat → ByteArray} (h1 : 1 ≤ g) (h2 : g ≤ 24) (hn : n ≤ 40) : HyperOk ((3 * g : Nat) : Int) n (fun _ => 3) (eH seed g S) := by
  refine ⟨by omega, by omega, hn, fun i _ => ⟨rfl, fun j hj => ?_⟩⟩
  replace hj : j < 3 := hj
  obtain ⟨p0, p1, p2, p3⟩ := eH_bd (seed := seed) (S := S) (i := i) h1 h2 hj
  have e1 : eH seed g S i j = placeI seed j (S i).data.toList g + ((j * g : Nat) : Int) := by unfold eH; push_cast; rfl
  have hm : j * g ≤ 2 * g := Nat.mul_le_mul (by omega) (Nat.le_refl _)
  refine ⟨by rw [e1]; omega, by rw [e1]; push_cast at *; omega, fun h0 => ?_⟩
  obtain ⟨q0, q1, q2, q3⟩ := eH_bd (seed := seed) (S := S) (i := i) (j := j - 1) h1 h2 (by omega)
  have e2 : eH seed g S i (j - 1) = placeI seed (j - 1 : Nat) (S i).data.toList g + (((j - 1) * g : Nat) : Int) := by unfold eH; push_cast; rfl
  have hm2 : (j - 1) * g + g = j * g := by
    obtain ⟨t, rfl⟩ : ∃ t, j = t + 1 := ⟨j - 1, by omega⟩
    rw [Nat.add_sub_cancel, Nat.succ_mul]
  rw [e1, e2]; omega
theorem hyper_small {n : Nat} (hn : n ≤ 40) : n + sumL (fun _ => 3) n ≤ 1048576 := by
  have hsum : ∀ m, sumL (fun _ => 3) m = 3 * m := fun m => by
    induction m with
    | zero => rfl
    | succ m ih => rw [sumL, ih]; omega
  rw [hsum]; omega
/-- Keys have a peel order. -/
def PkP (S : Nat → ByteArray) (n : Nat) (g seed : Int) : Prop := keyedB seed S n g = true ∧ PeelsP (3 * g.toNat) n (fun _ => 3) (eH seed g S)
section
variable (seed g : Int) (KA : Option Addr) (n kc : Nat) (S : Nat → ByteArray) (w : World)
end
end Go.Proofs.Ytpajbcgdoedleab

/- OwnPlaces of both sides. -/
namespace Go.Proofs.Ytpajbcgdoedleab
open Go.RowKit

set_option maxRecDepth 100000 in
set_option maxHeartbeats 2000000 in
theorem impl_peelOrder_no (z : Int) (A : Option Addr) (n c : Nat) (l : Nat → Nat) (X : Nat → Nat → Int) (w : World) (hn : n + sumL l n ≤ 1048576) (hr : HRow w A n l X) (h : ¬ HyperOk z n l X) :
    Calls Try.prog 129 #[.agg #[.int .i64 z, .slice A n c]] w fun e w' => e = .returned (.tuple #[.slice none 0 0, .bool false]) ∧ Below w.heap.size w w' := by
  obtain ⟨B, d, hr⟩ := hr
  have L0 := Lib.hid (LH.start (z := z) (c := c) hr 109)
  have HG := Lib.hid h
  clear hr h
  go_enter Try.func129, Try.ntmps129
  go_wp2_with fail
  refine (impl_isHyper_is z A n c l X _ false hn ⟨B, d, L0.out.row⟩ (by simp only [Bool.false_eq_true, false_iff]; exact HG.out)).mono ?_; rintro e w1 ⟨rfl, hb⟩
  have L1 := Lib.hid (L0.out.step hb)
  clear hb L0
  go_wp2_with fail
  go_ret2
  exact ⟨rfl, L1.out.below⟩

end Go.Proofs.Ytpajbcgdoedleab

/- The laws' small functions on slices of peel steps: a row of n steps is a row of 2 n ints, two cells each. -/
namespace Go.Proofs.Ytpajbcgdoedleab
open Go.RowKit

theorem infoPS : (Try.prog.info? 115).map (fun i => (i.zero, i.size, i.bytes)) = some (some (.agg #[.int .i64 0, .int .i64 0]), 2, 16) := by kernel_rfl
theorem run_make_steps (n : Nat) (hn : n ≤ 1048576) (W : World) : (Instr.makeSlice 111 (.int .i64 n) (.int .i64 n)).run Try.prog W = .ok (.slice (some ⟨W.heap.size, 0, none⟩) n n) (W.alloc (.cells (madeCells #[.int .i64 0, .int .i64 0] (n * 2)) 115)) := by
  obtain ⟨i, hi, hzz⟩ := Option.map_eq_some_iff.1 infoPS
  simp only [Prod.mk.injEq] at hzz
  obtain ⟨hz, hs, hb⟩ := hzz
  have hr := run_make (P := Try.prog) W 111 115 i _ Try.underlying111 hi hz .i64 .i64 n n (by omega) (Int.le_refl _) (by rw [hb]; omega) (by omega)
  simp only [Int.toNat_natCast, hs] at hr
  exact hr
theorem made_steps (w : World) (n : Nat) : GOwn (w.alloc (.cells (madeCells #[.int .i64 0, .int .i64 0] (n * 2)) 115)) 115 w.heap.size (n * 2) (intV fun _ => 0) :=
  ⟨_, Go.Deep.blk_alloc_new _ _, by simp [madeCells], fun i hi => by
    rcases Nat.mod_two_eq_zero_or_one i with h | h <;> simp [madeCells, hi, intV, h]⟩
section
set_option maxHeartbeats 1000000
end
end Go.Proofs.Ytpajbcgdoedleab

/- PeelOrder of both sides: the steps as a row of their own. -/
namespace Go.Proofs.Ytpajbcgdoedleab
open Go.RowKit

/-- The cells of steps. -/
def stF (E P : Nat → Nat) (j : Nat) : Int := if j % 2 = 0 then ((E (j / 2) : Nat) : Int) else ((P (j / 2) : Nat) : Int)
theorem steps_ow {w : World} {B : Nat} {SA : Option Addr} {k sc : Nat} {E P : Nat → Nat} (h : w.ownsRow B 115 2 (.slice SA k sc) k (stepsL E P k)) : Ow B w.heap.size 115 SA (2 * k) (intV (stF E P)) w := fun hk => by
  obtain ⟨hl, h1 | ⟨g, cap, cur, he, hB, hb, hn, hm, hs, ht⟩⟩ := h
  · omega
  · injection he with e1 e2 e3
    subst e1 e3
    have h' : w.ownsRow B 115 2 (.slice (some ⟨g, 0, none⟩) k sc) k (stepsL E P k) := ⟨hl, .inr ⟨g, sc, cur, rfl, hB, hb, hn, hm, hs, ht⟩⟩
    have hcell : ∀ i, i < 2 * k → cur[i]? = some (intV (stF E P) i) := fun i hi => by
      have h3 := h'.cellAt i (by omega)
      obtain ⟨g0, g1⟩ := stepsL_get (E := E) (P := P) (j := i / 2) k (by omega)
      have h4 : (stepsL E P k)[i]? = some (intV (stF E P) i) := by
        unfold intV stF
        rcases Nat.mod_two_eq_zero_or_one i with e | e
        · rw [if_pos e]; rw [show 2 * (i / 2) = i by omega] at g0; exact g0
        · rw [if_neg (by omega)]; rw [show 2 * (i / 2) + 1 = i by omega] at g1; exact g1
      rw [h4] at h3
      simpa [World.cell?, hb] using h3
    refine ⟨g, 0, cur, rfl, hB, (Array.getElem?_eq_some_iff.1 hb).1, hb, ?_, fun i hi => by rw [Nat.zero_add]; exact hcell i hi⟩
    have := (Array.getElem?_eq_some_iff.1 (hcell (2 * k - 1) (by omega))).1
    omega
/-- What PeelOrder answers: k steps, or nothing. -/
def StepsOwn (k : Nat) (F : Nat → Int) (b : Bool) (w : World) (e : Ending) (w' : World) : Prop := ∃ A c, e = .returned (.tuple #[.slice A k c, .bool b]) ∧ Ow w.heap.size w'.heap.size 115 A (2 * k) (intV F) w' ∧ Below w.heap.size w w'
theorem StepsOwn.row {k : Nat} {F : Nat → Int} {b : Bool} {w : World} (e : Ending) (w' : World) (h : StepsOwn k F b w e w') : ∃ A c, e = .returned (.tuple #[.slice A k c, .bool b]) ∧ GRow w' A (2 * k) (intV F) ∧ Below w.heap.size w w' := by
  obtain ⟨A, c, h1, h2, h3⟩ := h
  exact ⟨A, c, h1, h2.rd.row (Nat.le_refl _), h3⟩
theorem steps_none {F : Nat → Int} {w : World} {e : Ending} {w' : World} (h : e = .returned (.tuple #[.slice none 0 0, .bool false])) (hb : Below w.heap.size w w') : StepsOwn 0 F false w e w' := ⟨none, 0, h, ow_zero _ _ _ _ _ _, hb⟩
theorem goes_ex (z : Nat) (l : Nat → Nat) (X : Nat → Nat → Int) (n : Nat) (C : Nat → Nat) : ∃ k, Goes z l X n C k ∧ freL (degF l X (goneS z l X n C k) n) z = [] := by
  have h : ∀ m, (∃ k, Goes z l X n C k ∧ freL (degF l X (goneS z l X n C k) n) z = []) ∨ Goes z l X n C m := by
    intro m
    induction m with
    | zero => exact .inr (fun j hj => by omega)
    | succ m ih =>
      rcases ih with ih | ih
      · exact .inl ih
      · by_cases e : freL (degF l X (goneS z l X n C m) n) z = []
        · exact .inl ⟨m, ih, e⟩
        · exact .inr (fun j hj => by
            by_cases e2 : j = m
            · subst e2; exact e
            · exact ih j (by omega))
  rcases h n with h1 | h1
  · exact h1
  · exact ⟨n, h1, goes_end h1⟩
theorem steps_post {z n : Nat} {l : Nat → Nat} {X : Nat → Nat → Int} {k : Nat} (hg : Goes z l X n zeroC k) (hf : freL (degF l X (goneS z l X n zeroC k) n) z = []) (w : World) (e : Ending) (w' : World)
    (h : ∃ k, Goes z l X n zeroC k ∧ freL (degF l X (goneS z l X n zeroC k) n) z = [] ∧ Below w.heap.size w w' ∧
      ((leftL (goneS z l X n zeroC k) n).length = 0 → ∃ SA sc, e = .returned (.tuple #[.slice SA k sc, .bool true]) ∧ w'.ownsRow w.heap.size 115 2 (.slice SA k sc) k (stepsL (stE z l X n zeroC) (stP z l X n zeroC) k)) ∧
      (0 < (leftL (goneS z l X n zeroC k) n).length → e = .returned (.tuple #[.slice none 0 0, .bool false]))) :
    ((leftL (goneS z l X n zeroC k) n).length = 0 → StepsOwn k (stF (stE z l X n zeroC) (stP z l X n zeroC)) true w e w') ∧ (0 < (leftL (goneS z l X n zeroC k) n).length → StepsOwn 0 (fun _ => 0) false w e w') := by
  obtain ⟨j, h1, h2, h3, h4, h5⟩ := h
  obtain rfl := goes_same h1 h2 hg hf
  refine ⟨fun h => ?_, fun h => ?_⟩
  · obtain ⟨A, c, h6, h7⟩ := h4 h
    exact ⟨A, c, h6, steps_ow h7, h3⟩
  · exact steps_none (h5 h) h3
end Go.Proofs.Ytpajbcgdoedleab

/- peelKeys of the program: the Hyper of keys and its peel order. -/
namespace Go.Proofs.Ytpajbcgdoedleab
open Go.RowKit

section
variable {seed : Int} {KA : Option Addr} {n kc : Nat} {S : Nat → ByteArray} {w : World}
set_option maxRecDepth 100000 in
set_option maxHeartbeats 4000000 in
theorem impl_peelKeys_no {g : Int} (hn : n ≤ 1048576) (hs : ∀ i, i < n → (S i).size ≤ maxLen) (hr : GRow w KA n (strV S)) (hk : keyedB seed S n g = false) :
    Calls Try.prog 110 #[.int .i64 seed, .slice KA n kc, .int .i64 g] w fun e w' => e = .returned (.tuple #[.agg #[.int .i64 0, .slice none 0 0], .slice none 0 0, .bool false]) ∧ Below w.heap.size w w' := by
  have HR := Lib.hid (hr.al (.cells #[.int .i64 0, .slice none 0 0] 109))
  have HS := Lib.hid hs
  have N0 := Lib.hid (nbx0 w #[.int .i64 0, .slice none 0 0] 109)
  have B0 := Lib.hid ((Below.refl w.heap.size w).alloc (Nat.le_refl _) (.cells #[.int .i64 0, .slice none 0 0] 109))
  clear hr hs
  go_enter Try.func110, Try.ntmps110
  go_wp2_with fail
  refine (impl_hyperOf_no seed g KA n kc S _ hn HS.out HR.out hk).mono ?_; rintro e w1 ⟨rfl, hb⟩
  have hal := (Below.refl w1.heap.size w1).alloc (Nat.le_refl _) (.cells #[.int .i64 0, .slice none 0 0] 109)
  have N1 := Lib.hid ((N0.out.b hb).b hal)
  have B1 := Lib.hid ((B0.out.trans (hb.mono B0.out.size)).trans (hal.mono (Nat.le_trans B0.out.size hb.size)))
  clear hb hal
  have r0 := N1.out.cell 0 _ rfl
  have r1 := N1.out.cell 1 _ rfl
  have g0 := N1.out.free 0
  have g1 := N1.out.free 1
  go_wp2_with fail
  have N4 := Lib.hid ((N1.out.set 0 (.int .i64 0)).set 1 (.slice none 0 0))
  have s0 := N4.out.cell 0 (.int .i64 0) (by simp)
  have s1 := N4.out.cell 1 (.slice none 0 0) (by simp)
  refine bodyPost_ret (v := .tuple #[.agg #[.int .i64 0, .slice none 0 0], .slice none 0 0, .bool false]) (by simp [results, Try.results110, go_sem, s0, s1]) rfl ?_
  exact ⟨rfl, below_setAt (below_setAt B1.out (Nat.le_refl _) _) (Nat.le_refl _) _⟩
set_option maxRecDepth 100000 in
set_option maxHeartbeats 4000000 in
theorem impl_peelKeys {q : Nat} (hs : ∀ i, i < n → (S i).size ≤ maxLen) (hr : GRow w KA n (strV S)) (hsd : seedB seed 0 = true) (hk : keysB S n = true) (h1 : 1 ≤ q) (h2 : q ≤ 24) :
    Calls Try.prog 110 #[.int .i64 seed, .slice KA n kc, .int .i64 q] w fun e w' => ∃ k, Goes (3 * q) (fun _ => 3) (eH seed q S) n zeroC k ∧ freL (degF (fun _ => 3) (eH seed q S) (goneS (3 * q) (fun _ => 3) (eH seed q S) n zeroC k) n) (3 * q) = [] ∧ Below w.heap.size w w' ∧
      ((leftL (goneS (3 * q) (fun _ => 3) (eH seed q S) n zeroC k) n).length = 0 → ∃ A c SA sc, e = .returned (.tuple #[.agg #[.int .i64 ((3 * q : Nat) : Int), .slice A n c], .slice SA k sc, .bool true]) ∧ HRow w' A n (fun _ => 3) (eH seed q S) ∧ GRow w' SA (2 * k) (intV (stF (stE (3 * q) (fun _ => 3) (eH seed q S) n zeroC) (stP (3 * q) (fun _ => 3) (eH seed q S) n zeroC)))) ∧
      (0 < (leftL (goneS (3 * q) (fun _ => 3) (eH seed q S) n zeroC k) n).length → ∃ A c, e = .returned (.tuple #[.agg #[.int .i64 ((3 * q : Nat) : Int), .slice A n c], .slice none 0 0, .bool false])) := by
  have hn40 := keysB_size hk
  have HO := Lib.hid (hyperOk_eH (seed := seed) (S := S) h1 h2 hn40)
  have HR := Lib.hid (hr.al (.cells #[.int .i64 0, .slice none 0 0] 109))
  have HS := Lib.hid hs
  have N0 := Lib.hid (nbx0 w #[.int .i64 0, .slice none 0 0] 109)
  have B0 := Lib.hid ((Below.refl w.heap.size w).alloc (Nat.le_refl _) (.cells #[.int .i64 0, .slice none 0 0] 109))
  clear hr hs
  go_enter Try.func110, Try.ntmps110
  go_wp2_with fail
  refine (impl_hyperOf seed q KA n kc S _ HS.out HR.out hsd hk h1 h2).mono ?_; rintro e w1 ⟨A, c, rfl, ho, hb⟩
  have hrow : HRow w1 A n (fun _ => 3) (eH seed q S) := ho.rd.row (Nat.le_refl _)
  obtain ⟨B, d, hrow⟩ := hrow
  have hal := (Below.refl w1.heap.size w1).alloc (Nat.le_refl _) (.cells #[.int .i64 ((3 * q : Nat) : Int), .slice A n c] 109)
  have HH := Lib.hid (hrow.b hal)
  have N1 := Lib.hid ((N0.out.b hb).b hal)
  have NH := Lib.hid (nbx0 w1 #[.int .i64 ((3 * q : Nat) : Int), .slice A n c] 109)
  have B1 := Lib.hid ((B0.out.trans (hb.mono B0.out.size)).trans (hal.mono (Nat.le_trans B0.out.size hb.size)))
  have O1 := Lib.hid ((owned2 ho).b hal)
  clear ho hb hrow hal
  have y0 := NH.out.cell 0 _ rfl
  have y1 := NH.out.cell 1 _ rfl
  go_wp2_with fail
  refine (impl_peelOrder (3 * q) A n c B (fun _ => 3) d (eH seed q S) _ (hyper_small hn40) HH.out HO.out).mono ?_; rintro e w2 ⟨k, hgo, hf, hb, h0, hp⟩
  have HG := Lib.hid (And.intro hgo hf)
  have O2 := Lib.hid (O1.out.b hb)
  have N2 := Lib.hid (N1.out.b hb)
  have M2 := Lib.hid (NH.out.b hb)
  have B2 := Lib.hid (B1.out.trans (hb.mono B1.out.size))
  clear hgo hf hb y0 y1
  have y0 := M2.out.cell 0 _ rfl
  have y1 := M2.out.cell 1 _ rfl
  have r0 := N2.out.cell 0 _ rfl
  have r1 := N2.out.cell 1 _ rfl
  have g0 := N2.out.free 0
  have g1 := N2.out.free 1
  have N4 := Lib.hid ((N2.out.set 0 (.int .i64 ((3 * q : Nat) : Int))).set 1 (.slice A n c))
  have s0 := N4.out.cell 0 (.int .i64 ((3 * q : Nat) : Int)) (by simp)
  have s1 := N4.out.cell 1 (.slice A n c) (by simp)
  have hfb := Lib.hid (below_setAt (o := 1) (below_setAt (o := 0) B2.out (Nat.le_refl _) (.int .i64 ((3 * q : Nat) : Int))) (Nat.le_refl _) (.slice A n c))
  generalize hz3 : ((3 * q : Nat) : Int) = z3 at *
  by_cases hlt : (leftL (goneS (3 * q) (fun _ => 3) (eH seed q S) n zeroC k) n).length = 0
  · obtain ⟨SA, sc, rfl, hown⟩ := h0 hlt
    have hrow2 := steps_ow hown
    have hz1 := N1.out.lt
    have HW := Lib.hid (((At.mk hrow2 (Nat.le_refl _) (Ow.lives _ _ _ _ _ _)).setD (q := w.heap.size) (.inr (by omega)) 0 (.int .i64 z3)).setD (q := w.heap.size) (.inr (by omega)) 1 (.slice A n c))
    have H4 := Lib.hid ((O2.out.setD (q := w.heap.size) (.inr (by simp)) 0 (.int .i64 z3)).setD (q := w.heap.size) (.inr (by simp)) 1 (.slice A n c))
    clear hown h0 hp hrow2
    go_wp2_with fail
    refine bodyPost_ret (v := .tuple #[.agg #[.int .i64 z3, .slice A n c], .slice SA k sc, .bool true]) (by simp [results, Try.results110, go_sem, s0, s1]) rfl ?_
    exact ⟨k, HG.out.1, HG.out.2, hfb.out, fun _ => ⟨A, c, SA, sc, by rw [hz3], H4.out.orow2, HW.out.orow⟩, fun h => absurd h (by omega)⟩
  · obtain rfl := hp (Nat.pos_of_ne_zero hlt)
    clear h0 hp
    go_wp2_with fail
    refine bodyPost_ret (v := .tuple #[.agg #[.int .i64 z3, .slice A n c], .slice none 0 0, .bool false]) (by simp [results, Try.results110, go_sem, s0, s1]) rfl ?_
    exact ⟨k, HG.out.1, HG.out.2, hfb.out, fun h => absurd h hlt, fun _ => ⟨A, c, by rw [hz3]⟩⟩
end
end Go.Proofs.Ytpajbcgdoedleab

/- Tables by peeling: the cells as the steps leave them; what the arguments must be. -/
namespace Go.Proofs.Ytpajbcgdoedleab
open Go.RowKit

/-- One step: the cell at its place becomes the sum of the value and the cells at the other places. -/
def tpS (E P : Nat → Nat) (H : Nat → Nat → Int) (Y C : Nat → Int) (i : Nat) : Nat → Int := upd C (P i) ((((Y (E i)).toNat ^^^ xorN C (H (E i)) 3 : Nat)) : Int)
def tpF (E P : Nat → Nat) (H : Nat → Nat → Int) (Y : Nat → Int) (L : List Nat) : Nat → Int := L.foldl (tpS E P H Y) (fun _ => 0)
theorem tpF_snoc (E P : Nat → Nat) (H : Nat → Nat → Int) (Y : Nat → Int) (L : List Nat) (i : Nat) : tpF E P H Y (L ++ [i]) = tpS E P H Y (tpF E P H Y L) i := by simp [tpF, List.foldl_append]
theorem xorN_lt {X E : Nat → Int} {n v : Nat} (hx : InAll n X 0 (2 ^ v - 1)) : ∀ m, (∀ j, j < m → 0 ≤ E j ∧ E j < n) → xorN X E m < 2 ^ v
  | 0, _ => Nat.pow_pos (by omega)
  | m + 1, he => by
    have h1 := xorN_lt hx m (fun j hj => he j (by omega))
    have h3 := he m (by omega)
    have h4 := hx (E m).toNat (by omega)
    rw [xorN]
    refine Nat.xor_lt_two_pow h1 ?_
    have h5 : ((X (E m).toNat).toNat : Int) < 2 ^ v := by omega
    exact_mod_cast h5
theorem inAll_255 {n v : Nat} {X : Nat → Int} (hv : v ≤ 8) (h : InAll n X 0 (2 ^ v - 1)) : InAll n X 0 255 := fun i hi => by
  have h1 := h i hi
  have h3 : (2 : Int) ^ v ≤ 2 ^ 8 := (two_bd (m := v) (k := 8) hv).2
  have h4 : (2 : Int) ^ 8 = 256 := by decide
  omega
theorem val_lt {n v e : Nat} {Y : Nat → Int} (h : InAll n Y 0 (2 ^ v - 1)) (he : e < n) : (Y e).toNat < 2 ^ v := by
  have h1 := h e he
  have h5 : ((Y e).toNat : Int) < 2 ^ v := by omega
  exact_mod_cast h5
section
variable {E P : Nat → Nat} {H : Nat → Nat → Int} {Y C : Nat → Int} {n z v k : Nat}
theorem tpS_bd (hY : InAll n Y 0 (2 ^ v - 1)) (hH : ∀ e, e < n → ∀ j, j < 3 → 0 ≤ H e j ∧ H e j < z) {i : Nat} (hE : E i < n) (hC : InAll z C 0 (2 ^ v - 1)) : InAll z (tpS E P H Y C i) 0 (2 ^ v - 1) := fun q hq => by
  unfold tpS upd
  by_cases e : q = P i
  · rw [if_pos e]
    have h1 := Nat.xor_lt_two_pow (val_lt hY hE) (xorN_lt hC 3 (hH _ hE))
    have h5 : (((Y (E i)).toNat ^^^ xorN C (H (E i)) 3 : Nat) : Int) < 2 ^ v := by exact_mod_cast h1
    omega
  · rw [if_neg e]; exact hC q hq
theorem tpF_bd (hY : InAll n Y 0 (2 ^ v - 1)) (hH : ∀ e, e < n → ∀ j, j < 3 → 0 ≤ H e j ∧ H e j < z) (hE : ∀ j, j < k → E j < n) (L : List Nat) (hL : ∀ x, x ∈ L → x < k) : InAll z (tpF E P H Y L) 0 (2 ^ v - 1) := by
  unfold tpF
  have h0 : InAll z (fun _ => (0 : Int)) 0 (2 ^ v - 1) := fun i _ => by have := (two_bd (m := v) (k := v) (Nat.le_refl _)).1; simp; omega
  generalize (fun _ => (0 : Int)) = C0 at h0
  induction L generalizing C0 with
  | nil => exact h0
  | cons x L ih => exact ih (fun y hy => hL y (List.mem_cons_of_mem _ hy)) _ (tpS_bd hY hH (hE x (hL x (List.mem_cons_self ..))) h0)
end
theorem goes_bd {z n k : Nat} {l : Nat → Nat} {X : Nat → Nat → Int} {C : Nat → Nat} (h : Goes z l X n C k) : ∀ j, j < k → stE z l X n C j < n ∧ stP z l X n C j < z := fun j hj => by
  have h1 := plc_mem (ch := C j) (h j hj)
  exact ⟨(edg_first h1.2).1, h1.1⟩
theorem eH_one (seed : Int) (g : Nat) (S : Nat → ByteArray) (e : Nat) : eH seed g (fun _ => S e) 0 = eH seed g S e := by
  funext j; unfold eH; rfl
/-- The values of keys are such as a width allows. -/
def TpV (v : Int) (m : Nat) (Y : Nat → Int) (n : Nat) : Prop := (1 ≤ v ∧ v ≤ 8) ∧ m = n ∧ InAll m Y 0 (2 ^ v.toNat - 1)
set_option maxRecDepth 100000 in
set_option maxHeartbeats 1000000 in
theorem impl_areValues {v : Int} {A : Option Addr} {m c n : Nat} {Y : Nat → Int} {b : Bool} {w : World} (hb : b = true ↔ TpV v m Y n) (hm : m ≤ 1048576) (hr : IRow w A m Y) :
    Calls Try.prog 111 #[.slice A m c, .int .i64 n, .int .i64 v] w fun e w' => e = .returned (.bool b) ∧ Below w.heap.size w w' := by
  have HR := Lib.hid hr
  clear hr
  by_cases h2 : 1 ≤ v ∧ v ≤ 8
  rotate_left
  · have D2 := Lib.hid (decide_eq_false h2)
    obtain rfl : b = false := by cases b; rfl; exact absurd (hb.1 rfl).1 h2
    clear h2 hb
    go_enter Try.func111, Try.ntmps111
    go_wp2_with fail
    refine (impl_isValueWidth D2.out _).mono ?_; rintro e w1 ⟨rfl, rfl⟩
    go_wp2_with fail
    go_ret
    exact ⟨rfl, Below.refl _ _⟩
  have D2 := Lib.hid (decide_eq_true h2)
  obtain ⟨u, rfl⟩ : ∃ u : Nat, v = u := ⟨v.toNat, by omega⟩
  obtain ⟨p0, p1⟩ := two_bd (m := u) (k := 8) (by omega)
  have p2 : (2 : Int) ^ u ≤ 256 := by simpa using p1
  clear p1
  have hu8 : u ≤ 8 := by omega
  have HV := Lib.hid (show b = true ↔ ((m : Int) = (n : Int) ∧ InAll m Y 0 (2 ^ u - 1)) from hb.trans ⟨fun h => ⟨by have := h.2.1; omega, by simpa using h.2.2⟩, fun h => ⟨h2, by have := h.1; omega, by simpa using h.2⟩⟩)
  clear hb h2
  go_enter Try.func111, Try.ntmps111
  go_wp2_with fail
  refine (impl_isValueWidth D2.out _).mono ?_; rintro e w1 ⟨rfl, rfl⟩
  go_wp2_with fail
  refine (bool_val HV.out (impl_areBelow A m c Y n (2 ^ u) _ hm HR.out)).mono ?_; rintro e w2 ⟨rfl, hw⟩
  have HW := Lib.hid hw
  clear hw
  go_wp2_with fail
  go_ret
  exact ⟨rfl, HW.out⟩
end Go.Proofs.Ytpajbcgdoedleab

/- slices.Backward over steps: what the iterator hands to a loop's body. -/
namespace Go.Proofs.Ytpajbcgdoedleab
open Go.RowKit Go.Shelf

attribute [local go_sem] Oper.semAt_some

/-- What has come when j rounds over k steps are over: the indices from the last one on. -/
def backL (k j : Nat) : List Nat := (List.range j).map (fun i => k - 1 - i)
theorem backL_succ (k j : Nat) : backL k (j + 1) = backL k j ++ [k - 1 - j] := by simp [backL, List.range_succ]
theorem backL_len (k j : Nat) : (backL k j).length = j := by simp [backL]
/-- A step as the body takes it: its index, its edge and its place. -/
def encSt (F : Nat → Int) {k : Nat} (i : Fin k) : Array Value := #[.int .i64 i.val, .agg #[.int .i64 (F (i.val * 2)), .int .i64 (F (i.val * 2 + 1))]]
/-- What a round keeps: all blocks below n₀ but g. -/
structure KpG (n₀ g : Nat) (A B : World) : Prop where
  size : A.heap.size ≤ B.heap.size
  same : ∀ b, b < n₀ → b ≠ g → B.heap[b]? = A.heap[b]?
theorem KpG.refl (n₀ g : Nat) (A : World) : KpG n₀ g A A := ⟨Nat.le_refl _, fun _ _ _ => rfl⟩
theorem KpG.trans {n₀ g : Nat} {A B C : World} (h : KpG n₀ g A B) (k : KpG n₀ g B C) : KpG n₀ g A C := ⟨Nat.le_trans h.size k.size, fun b h1 h2 => (k.same b h1 h2).trans (h.same b h1 h2)⟩
theorem KpG.cell {n₀ g b o : Nat} {A B : World} (h : KpG n₀ g A B) (h1 : b < n₀) (h2 : b ≠ g) : B.cell? ⟨b, o, none⟩ = A.cell? ⟨b, o, none⟩ := World.cell?_of_block (a := ⟨b, o, none⟩) (h.same b h1 h2)
theorem kpG_b {n₀ g : Nat} {w : World} (hn : n₀ ≤ w.heap.size) : ∀ (W : World) (l : Nat) (o o' : Obj), w.heap.size ≤ l → W.heap[l]? = some o → o.isCells = false → o.isWalk = false → KpG n₀ g W (W.putObj l o') := fun W l o o' hl _ _ _ =>
  ⟨by simp, fun b h1 _ => World.putObj_heap_other (by omega)⟩

set_option maxRecDepth 100000 in
set_option maxHeartbeats 2000000 in
theorem back1_in (Fe : Fence) (n : Nat) (h8 : Fe.fn 130) (hro : Fe.round = none) (hn : 1 ≤ n) (l Bs n₀ gg b off len cap : Nat) (F : Nat → Int) (hreach : len ≤ 1048576) (hb : b < n₀) (hbg : b ≠ gg) (J Jx : List (Fin len) → World → Prop)
    (hY : ∀ pre x W, J pre W → pre.length < len → YieldAt Fe (n - 1) Try.prog l (encSt F x) W fun e W' =>
      (e = .returned (.bool true) ∧ J (pre ++ [x]) W' ∧ KpG n₀ gg W W') ∨ (e = .returned (.bool false) ∧ Jx (pre ++ [x]) W'))
    (W : World) (hBn : Bs < n₀) (hBg : Bs ≠ gg) (hBs : W.cell? ⟨Bs, 0, none⟩ = some (.slice (some ⟨b, off, none⟩) len cap)) (hc : ∀ j, j < len * 2 → W.cell? ⟨b, off + j, none⟩ = some (.int .i64 (F j))) (h0 : J [] W) :
    CallsIn Fe n Try.prog 130 #[.func (.yield l) #[] #[], .pointer (some ⟨Bs, 0, none⟩)] W fun e W' => (∃ v, e = .returned v) ∧
      ((∃ ys : List (Fin len), ys.map Fin.val = backL len len ∧ J ys W') ∨ (∃ pre : List (Fin len), (∃ k, k ≤ len ∧ pre.map Fin.val = backL len k) ∧ Jx pre W')) := by
  refine callsIn_of_wp Try.func130 rfl h8 ?_ hro
  simp only [Try.ntmps130, List.size_toArray, List.length_cons, List.length_nil, Nat.reduceAdd, Nat.reduceSub, Array.replicate_succ, Array.replicate_zero, List.push_toArray, List.append_toArray, List.nil_append, List.cons_append]
  gi_wp2
  gi_loopw [3] (fun i wr => ∃ k : Nat, k ≤ len ∧ i = .int .i64 ((len : Int) - 1 - (k : Int)) ∧ (∃ pre : List (Fin len), pre.map Fin.val = backL len k ∧ J pre wr) ∧ KpG n₀ gg W wr)
    (fun i _ => (intOf i + 1).toNat)
  case atStart => exact ⟨0, Nat.zero_le _, by simp, ⟨[], rfl, h0⟩, KpG.refl _ _ _⟩
  case round =>
    obtain ⟨k, hk, rfl, ⟨pre, hpre, hJs⟩, hnx⟩ := hrel
    have hpl : pre.length = k := by rw [← backL_len len k, ← hpre, List.length_map]
    by_cases hlt : k < len
    · obtain ⟨q, hq⟩ : ∃ q, q = len - 1 - k := ⟨_, rfl⟩
      have hql : q < len := by omega
      have hqi : (len : Int) - 1 - (k : Int) = (q : Int) := by omega
      have e1 : (pre ++ [(⟨q, hql⟩ : Fin len)]).map Fin.val = backL len (k + 1) := by rw [backL_succ, List.map_append, hpre, ← hq]; rfl
      rw [hqi]
      obtain ⟨fn, tmps, assign, body, hy, hR⟩ := hY pre ⟨q, hql⟩ wr hJs (by omega)
      dsimp only [encSt] at hy
      have x0 : wr.cell? ⟨b, off + q * 2, none⟩ = some (.int .i64 (F (q * 2))) := (hnx.cell hb hbg).trans (hc _ (by omega))
      have x1 : wr.cell? ⟨b, off + q * 2 + 1, none⟩ = some (.int .i64 (F (q * 2 + 1))) := (hnx.cell hb hbg).trans (by rw [Nat.add_assoc]; exact hc _ (by omega))
      have y0 : wr.cell? ⟨Bs, 0, none⟩ = some (.slice (some ⟨b, off, none⟩) len cap) := (hnx.cell hBn hBg).trans hBs
      clear hq
      gi_wp2
      refine hR.mono ?_
      rintro e W3 (⟨rfl, hJ3, hk3⟩ | ⟨rfl, hJx3⟩)
      · gi_wp2
        go_roundw
        case rel => exact ⟨k + 1, by omega, by congr 1 <;> omega, ⟨_, e1, hJ3⟩, hnx.trans hk3⟩
        case measure => simp [intOf] <;> omega
      · gi_wp2
        refine bodyPost_ret (results_none rfl _ _ _) rfl ?_
        exact ⟨⟨_, rfl⟩, .inr ⟨_, ⟨k + 1, by omega, e1⟩, hJx3⟩⟩
    · obtain rfl : k = len := by omega
      have hneg : ¬ ((0 : Int) ≤ (k : Int) - 1 - (k : Int)) := by omega
      gi_wp2
      go_end0
      exact ⟨⟨_, rfl⟩, .inl ⟨pre, hpre, hJs⟩⟩

set_option maxRecDepth 100000 in
set_option maxHeartbeats 1000000 in
/-- .. over no steps: no round. -/
theorem back0_in (Fe : Fence) (n : Nat) (h8 : Fe.fn 130) (hro : Fe.round = none) (l Bs : Nat) (A : Option Addr) (c : Nat) (J : List (Fin 0) → World → Prop) (W : World) (hBs : W.cell? ⟨Bs, 0, none⟩ = some (.slice A 0 c)) (h0 : J [] W) :
    CallsIn Fe n Try.prog 130 #[.func (.yield l) #[] #[], .pointer (some ⟨Bs, 0, none⟩)] W fun e W' => (∃ v, e = .returned v) ∧ J [] W' := by
  refine callsIn_of_wp Try.func130 rfl h8 ?_ hro
  simp only [Try.ntmps130, List.size_toArray, List.length_cons, List.length_nil, Nat.reduceAdd, Nat.reduceSub, Array.replicate_succ, Array.replicate_zero, List.push_toArray, List.append_toArray, List.nil_append, List.cons_append]
  gi_wp2
  gi_loopw [3] (fun i wr => i = .int .i64 (-1) ∧ J [] wr) (fun _ _ => 0)
  case atStart => exact ⟨rfl, h0⟩
  case round =>
    obtain ⟨rfl, hJs⟩ := hrel
    gi_wp2
    go_end0
    exact ⟨⟨_, rfl⟩, hJs⟩
set_option maxHeartbeats 1000000 in
/-- slices.Backward(s): the slice is boxed; the function value captures the box. -/
theorem back_in (Fe : Fence) (n : Nat) (h5 : Fe.fn 112) (hro : Fe.round = none) (a : Option Addr) (len cap : Nat) (w : World) :
    CallsIn Fe n Try.prog 112 #[.slice a len cap] w fun e w' => e = .returned (.func (.func 130) #[] #[.pointer (some ⟨w.heap.size, 0, none⟩)]) ∧ w' = w.alloc (.cells #[.slice a len cap] 111) := by
  refine callsIn_of_wp Try.func112 rfl h5 ?_ hro
  simp only [Try.ntmps112, List.size_toArray, List.length_cons, List.length_nil, Nat.reduceAdd, Nat.reduceSub, Array.replicate_succ, Array.replicate_zero, List.push_toArray, List.append_toArray, List.nil_append, List.cons_append]
  gi_wp2
  go_ret
  exact ⟨rfl, rfl⟩
/-- slices.Backward hands back a value that stops: all indices from the last one on, or the first so many of them. -/
theorem back_stops (Fe : Fence) (n : Nat) (h8 : Fe.fn 130) (hro : Fe.round = none) (hn : 1 ≤ n) (Bs n₀ gg : Nat) (A : Option Addr) (len cap : Nat) (F : Nat → Int) (hreach : len ≤ 1048576) (w : World) (hBs : Bs < n₀) (hBg : Bs ≠ gg) (hn₀ : n₀ ≤ w.heap.size)
    (hc : w.cell? ⟨Bs, 0, none⟩ = some (.slice A len cap)) (hI : 0 < len → ∃ b off, A = some ⟨b, off, none⟩ ∧ b < n₀ ∧ b ≠ gg ∧ ∀ k, k < len * 2 → w.cell? ⟨b, off + k, none⟩ = some (.int .i64 (F k))) :
    SeqStopsK Fe n Try.prog 130 #[.pointer (some ⟨Bs, 0, none⟩)] (encSt F) (KpG n₀ gg) (fun ys : List (Fin len) => ys.map Fin.val = backL len len)
      (fun pre => ∃ k, k ≤ len ∧ pre.map Fin.val = backL len k) len w := fun l J Jx W hW _ _ hY h0 => by
  have hc' := (hW.cell (p := ⟨Bs, 0, none⟩) (Nat.lt_of_lt_of_le hBs hn₀)).trans hc
  rcases Nat.eq_zero_or_pos len with h | h
  · subst h
    exact (back0_in Fe n h8 hro l Bs A cap J W hc' h0).mono fun e W' ⟨he, hj⟩ => ⟨he, .inl ⟨_, rfl, hj⟩⟩
  · obtain ⟨b, off, rfl, hb, hbg, hcs⟩ := hI h
    exact back1_in Fe n h8 hro hn l Bs n₀ gg b off len cap F hreach hb hbg J Jx hY W hBs hBg hc' (fun j hj => (hW.cell (p := ⟨b, off + j, none⟩) (Nat.lt_of_lt_of_le hb hn₀)).trans (hcs j hj)) h0
end Go.Proofs.Ytpajbcgdoedleab

/- A Table among the answers, its cells one's own. -/
namespace Go.Proofs.Ytpajbcgdoedleab
open Go.RowKit

theorem vec_pos {w : World} {B n c : Nat} {A : Option Addr} {F : Nat → Value} (h : w.ownsRow B 3 1 (.slice A n c) n (vals F n)) (h0 : 0 < n) : ∃ g, A = some ⟨g, 0, none⟩ ∧ B ≤ g ∧ GOwn w 3 g n F := by
  rcases owned_vec h with e | h
  · omega
  · exact h
theorem own_setA {w : World} {B : Nat} {e : TypeId} {A : Option Addr} {k c : Nat} {xs : List Value} (h : w.ownsRow B e 1 (.slice A k c) k xs) {b o : Nat} (hb : b < B) (v : Value) : (w.setCell ⟨b, o, none⟩ v).ownsRow B e 1 (.slice A k c) k xs :=
  h.kept (grown_setCell (World.grownBy.refl w _) o v) (by
    by_cases e : (Value.slice A k c).ownBlock = none
    · exact .inl e
    · refine .inr (fun e2 => ?_)
      have := (h.lt b e2).1
      omega)
theorem ow_setA {w : World} {lo hi b o n : Nat} {t : TypeId} {A : Option Addr} {F : Nat → Value} (h : Ow lo hi t A n F w) (hb : b < lo) (v : Value) : Ow lo hi t A n F (w.setCell ⟨b, o, none⟩ v) := fun h0 => by
  obtain ⟨g, off, c, h1, h2, h3, h4, h5⟩ := h h0
  exact ⟨g, off, c, h1, h2, h3, (Go.Deep.blk_setCell_other _ _ _ _ (by show g ≠ b; omega)).trans h4, h5⟩
/-- A Table with cells of one's own beside a word. -/
def TaOwn (z0 z1 z2 : Int) (n : Nat) (X : Nat → Int) (b : Bool) (w : World) (e : Ending) (w' : World) : Prop :=
  ∃ A c, e = .returned (.tuple #[.agg #[.int .i64 z0, .int .i64 z1, .int .i64 z2, .slice A n c], .bool b]) ∧ Ow w.heap.size w'.heap.size 3 A n (intV X) w' ∧ Below w.heap.size w w'
end Go.Proofs.Ytpajbcgdoedleab

/- TableByPeeling: the model's. -/
namespace Go.Proofs.Ytpajbcgdoedleab
open Go.RowKit

/-- The model's table under way: the answer's box, its own box, its cells; what lay when the loop began lies. -/
structure TB (w1 : World) (rb bq g z n : Nat) (z0 z1 z2 : Int) (C : Nat → Int) (W : World) : Prop where
  below : Below w1.heap.size w1 W
  box : NBX w1.heap.size bq #[.int .i64 z0, .int .i64 z1, .int .i64 z2, .slice (some ⟨g, 0, none⟩) z z] 57 W
  row : GOwn W 3 g z (intV C)
  hg : w1.heap.size ≤ g
  hne : bq ≠ g
section
variable {w1 W W2 : World} {rb bq g z n : Nat} {z0 z1 z2 : Int} {C : Nat → Int}
theorem TB.b (h : TB w1 rb bq g z n z0 z1 z2 C W) (hb : Below W.heap.size W W2) : TB w1 rb bq g z n z0 z1 z2 C W2 := ⟨h.below.trans (hb.mono h.below.size), h.box.b hb, h.row.b hb, h.hg, h.hne⟩
theorem TB.set (h : TB w1 rb bq g z n z0 z1 z2 C W) (i : Nat) (x : Int) : TB w1 rb bq g z n z0 z1 z2 (upd C i x) (W.setCell ⟨g, i, none⟩ (.int .i64 x)) :=
  ⟨below_setAt h.below h.hg _, nbx_other h.box h.hne _ _, (h.row.set i (.int .i64 x)).congr (fun j _ => by unfold intV upd; by_cases e : j = i <;> simp [e]), h.hg, h.hne⟩
end
/-- What building a table by peeling answers: by the steps, if all edges are peeled. -/
def TpPost (seed : Int) (q v z n : Nat) (S : Nat → ByteArray) (Y : Nat → Int) (w : World) (e : Ending) (w' : World) : Prop := ∃ k, Goes z (fun _ => 3) (eH seed q S) n zeroC k ∧ freL (degF (fun _ => 3) (eH seed q S) (goneS z (fun _ => 3) (eH seed q S) n zeroC k) n) z = [] ∧ ((leftL (goneS z (fun _ => 3) (eH seed q S) n zeroC k) n).length = 0 → TaOwn seed q v z (tpF (stE z (fun _ => 3) (eH seed q S) n zeroC) (stP z (fun _ => 3) (eH seed q S) n zeroC) (eH seed q S) Y (backL k k)) true w e w') ∧ (0 < (leftL (goneS z (fun _ => 3) (eH seed q S) n zeroC k) n).length → TaOwn 0 0 0 0 (fun _ => 0) false w e w')
theorem only_cell {W : World} {b g o i : Nat} {v : Value} (h : b ≠ g) : (W.setCell ⟨g, i, none⟩ v).cell? ⟨b, o, none⟩ = W.cell? ⟨b, o, none⟩ :=
  World.cell?_of_block (a := ⟨b, o, none⟩) (Go.Deep.blk_setCell_other _ _ _ _ h)
theorem upd_congr {C : Nat → Int} {i : Nat} {x y : Int} (h : x = y) : upd C i x = upd C i y := by rw [h]
section
variable {seed : Int} {KA VA : Option Addr} {n kc vc : Nat} {S : Nat → ByteArray} {Y : Nat → Int} {w : World} {q v : Nat}
set_option maxRecDepth 100000 in
set_option maxHeartbeats 4000000 in
theorem spec_rePeeled (hs : ∀ i, i < n → (S i).size ≤ maxLen) (hk : GRow w KA n (strV S)) (hr : IRow w VA n Y) (hky : keyedB seed S n q = true) (hv : TpV v n Y n) :
    Calls Try.prog 86 #[.int .i64 seed, .slice KA n kc, .slice VA n vc, .int .i64 q, .int .i64 v] w (TpPost seed q v (3 * q) n S Y w) := by
  have hky2 := hky
  unfold keyedB at hky2
  simp only [Bool.and_eq_true, decide_eq_true_eq] at hky2
  obtain ⟨⟨hsd, hkk⟩, h1, h2⟩ := hky2
  have h1' : 1 ≤ q := by omega
  have h2' : q ≤ 24 := by omega
  have hn40 := keysB_size hkk
  have HO := Lib.hid (hyperOk_eH (seed := seed) (S := S) h1' h2' hn40)
  have N0 := Lib.hid (nbx0 w #[.int .i64 0, .int .i64 0, .int .i64 0, .slice none 0 0] 57)
  have B0 := Lib.hid ((Below.refl w.heap.size w).alloc (Nat.le_refl _) (.cells #[.int .i64 0, .int .i64 0, .int .i64 0, .slice none 0 0] 57))
  have HS := Lib.hid hs
  have HK := Lib.hid hk
  have HY := Lib.hid hr
  have HV := Lib.hid hv
  have hv8 : v ≤ 8 := by have := hv.1; omega
  have HVB := Lib.hid (show InAll n Y 0 (2 ^ v - 1) by simpa using hv.2.2)
  obtain ⟨z, hz⟩ : ∃ z, z = 3 * q := ⟨_, rfl⟩
  have hmk := fun W => run_make_row' (P := Try.prog) 22 3 (.int .i64 0) 8 Try.underlying22 infoI rfl .i64 .i64 z (by omega) (by omega) W
  have e3 : IntKind.i64.wrap ((3 : Int) * (q : Int)) = (z : Int) := by rw [show (3 : Int) * (q : Int) = (z : Int) by omega]; exact IntWalk.i64_in _ (by omega)
  have HHB := Lib.hid (fun e (_ : e < n) j (hj : j < 3) => show 0 ≤ eH seed q S e j ∧ eH seed q S e j < (z : Int) from by have := eH_in (seed := seed) (S := S) (k := e) h1' h2' j hj; rw [hz]; exact this)
  rw [← hz] at HO ⊢
  have hz72 : z ≤ 72 := by omega
  have hz0 : 0 < z := by omega
  have TV := Lib.hid (show ∀ C, InAll z C 0 (2 ^ v - 1) → TaV seed q v z C from fun C hC => ⟨by unfold seedB at hsd; simp at hsd; omega, ⟨by omega, by omega⟩, by simpa using HV.out.1, by omega, by simpa using hC⟩)
  have HZ := Lib.hid hz
  clear hs hk hr hky hv hz
  go_enter Try.func86, Try.ntmps86
  go_wp2_with fail
  refine (spec_peHyper seed q KA n kc S _ hn40 HS.out (HK.out.b B0.out) hsd h1' h2').mono ?_; rintro e w1 ⟨A, c, D, dd, he, ho, hb⟩
  rw [← HZ.out] at he
  subst he
  obtain ⟨D, dd, hrow⟩ := ho.row
  have hal := (Below.refl w1.heap.size w1).alloc (Nat.le_refl _) (.cells #[.int .i64 z, .slice A n c] 109)
  have HH := Lib.hid (hrow.b hal)
  have N1 := Lib.hid ((N0.out.b hb).b hal)
  have NH := Lib.hid (nbx0 w1 #[.int .i64 z, .slice A n c] 109)
  have B1 := Lib.hid ((B0.out.trans (hb.mono B0.out.size)).trans (hal.mono (Nat.le_trans B0.out.size hb.size)))
  clear ho hb hrow hal
  have y0 := NH.out.cell 0 _ rfl
  have y1 := NH.out.cell 1 _ rfl
  go_wp2_with fail
  refine (spec_pePeel z A n c D (fun _ => 3) dd (eH seed q S) _ HH.out HO.out).mono ?_; rintro e w2 ⟨k, SA, sc, FA, fc, rfl, hgo, hf, hos, _, hb⟩
  have HG := Lib.hid (And.intro hgo hf)
  have HBD := Lib.hid (goes_bd hgo)
  have HST := Lib.hid ((steps_ow hos).rd.row (Nat.le_refl _))
  have N2 := Lib.hid (N1.out.b hb)
  have B2 := Lib.hid (B1.out.trans (hb.mono B1.out.size))
  have hkn : k ≤ n := by have := goes_len hgo; omega
  clear hgo hf hb hos y0 y1
  have r0 := N2.out.cell 0 _ rfl
  have r1 := N2.out.cell 1 _ rfl
  have r2 := N2.out.cell 2 _ rfl
  have r3 := N2.out.cell 3 _ rfl
  have g0 := N2.out.free 0
  have g1 := N2.out.free 1
  have g2 := N2.out.free 2
  have g3 := N2.out.free 3
  have hrb := N2.out.lt
  have hfin : ∀ (e : Ending) (w' : World), (0 < (leftL (goneS z (fun _ => 3) (eH seed q S) n zeroC k) n).length → TaOwn 0 0 0 0 (fun _ => 0) false w e w') → ((leftL (goneS z (fun _ => 3) (eH seed q S) n zeroC k) n).length = 0 → TaOwn seed q v z (tpF (stE z (fun _ => 3) (eH seed q S) n zeroC) (stP z (fun _ => 3) (eH seed q S) n zeroC) (eH seed q S) Y (backL k k)) true w e w') → TpPost seed q v z n S Y w e w' :=
    fun e w' h1 h2 => ⟨k, HG.out.1, HG.out.2, h2, h1⟩
  have HFIN := Lib.hid hfin
  clear hfin
  have HTB := Lib.hid (fun L (hL : ∀ x, x ∈ L → x < k) => tpF_bd (E := stE z (fun _ => 3) (eH seed q S) n zeroC) (P := stP z (fun _ => 3) (eH seed q S) n zeroC) (z := z) (n := n) (v := v) HVB.out HHB.out (fun j hj => (HBD.out j hj).1) L hL)
  obtain ⟨E, hE⟩ : ∃ E, E = stE z (fun _ => 3) (eH seed q S) n zeroC := ⟨_, rfl⟩
  obtain ⟨P, hP⟩ : ∃ P, P = stP z (fun _ => 3) (eH seed q S) n zeroC := ⟨_, rfl⟩
  rw [← hE, ← hP] at HTB HST HFIN
  rw [← hE, ← hP] at HBD
  have HEP := Lib.hid (And.intro hE hP)
  obtain ⟨L, hL0⟩ : ∃ L, L = (leftL (goneS z (fun _ => 3) (eH seed q S) n zeroC k) n).length := ⟨_, rfl⟩
  rw [← hL0]
  have HL := Lib.hid hL0
  clear hE hP hL0
  rcases Nat.eq_zero_or_pos L with hL | hL
  rotate_left
  · have d0 : decide ((0 : Int) < (L : Int)) = true := by simp; omega
    have d1 : decide (0 < L) = true := by simpa using hL
    go_wp2_with fail
    have N4 := Lib.hid ((((N2.out.set 0 (.int .i64 0)).set 1 (.int .i64 0)).set 2 (.int .i64 0)).set 3 (.slice none 0 0))
    have s0 := N4.out.cell 0 (.int .i64 0) (by simp)
    have s1 := N4.out.cell 1 (.int .i64 0) (by simp)
    have s2 := N4.out.cell 2 (.int .i64 0) (by simp)
    have s3 := N4.out.cell 3 (.slice none 0 0) (by simp)
    refine bodyPost_ret (v := .tuple #[.agg #[.int .i64 0, .int .i64 0, .int .i64 0, .slice none 0 0], .bool false]) (by simp [results, Try.results86, go_sem, s0, s1, s2, s3]) rfl ?_
    rw [HEP.out.1, HEP.out.2] at HFIN
    exact HFIN.out _ _ (fun _ => ⟨none, 0, rfl, ow_zero _ _ _ _ _ _, below_setAt (below_setAt (below_setAt (below_setAt B2.out (Nat.le_refl _) _) (Nat.le_refl _) _) (Nat.le_refl _) _) (Nat.le_refl _) _⟩) (fun h => absurd h (by have := HL.out; omega))
  subst hL
  have hrow0 := GOwn.made w2 3 (.int .i64 0) z
  have hal1 := (Below.refl w2.heap.size w2).alloc (Nat.le_refl _) (.cells (madeCells #[.int .i64 0] z) 3)
  have hnb := nbx0 (w2.alloc (.cells (madeCells #[.int .i64 0] z) 3)) #[.int .i64 seed, .int .i64 q, .int .i64 v, .slice (some ⟨w2.heap.size, 0, none⟩) z z] 57
  have hal2 := (Below.refl (w2.alloc (.cells (madeCells #[.int .i64 0] z) 3)).heap.size (w2.alloc (.cells (madeCells #[.int .i64 0] z) 3))).alloc (Nat.le_refl _) (.cells #[.int .i64 seed, .int .i64 q, .int .i64 v, .slice (some ⟨w2.heap.size, 0, none⟩) z z] 57)
  simp only [World.size_alloc] at hnb
  have T0 := Lib.hid (show TB w2 w.heap.size (w2.heap.size + 1) w2.heap.size z n seed q v (tpF E P (eH seed q S) Y (backL k 0)) _ from ⟨hal1.trans (hal2.mono (by simp)), ⟨hnb.blk, by omega⟩, (hrow0.b hal2).congr (fun _ _ => rfl), Nat.le_refl _, by omega⟩)
  clear hrow0 hal1 hal2 hnb r0 r1 r2 r3 g0 g1 g2 g3
  go_wp2_with fail
  go_loopw [16] (fun i wr => ∃ j : Nat, j ≤ k ∧ i = .int .i64 ((k : Int) - 1 - (j : Int)) ∧ Hid (TB w2 w.heap.size (w2.heap.size + 1) w2.heap.size z n seed q v (tpF E P (eH seed q S) Y (backL k j)) wr)) (fun i _ => (intOf i + 1).toNat)
  case atStart => exact ⟨0, Nat.zero_le _, by simp, T0⟩
  case round =>
    obtain ⟨j, hj, rfl, HT⟩ := hrel
    by_cases hlt : j < k
    · obtain ⟨x, hx⟩ : ∃ x, x = k - 1 - j := ⟨_, rfl⟩
      have hxk : x < k := by omega
      have hxi : (k : Int) - 1 - (j : Int) = (x : Int) := by omega
      rw [hxi]
      have HB2 := Lib.hid (show tpF E P (eH seed q S) Y (backL k (j + 1)) = tpS E P (eH seed q S) Y (tpF E P (eH seed q S) Y (backL k j)) x by rw [backL_succ, tpF_snoc, ← hx])
      have HCB := Lib.hid (HTB.out (backL k j) (fun y hy => by simp [backL] at hy; omega))
      have HI := Lib.hid hxi
      clear hx hxi
      obtain ⟨hEn, hPz⟩ := HBD.out x hxk
      obtain ⟨sb, so, rfl, hsl, hsc⟩ := (HST.out.b HT.out.below) (by omega)
      have x0 := hsc (x * 2) (by omega)
      have x1 := hsc (x * 2 + 1) (by omega)
      rw [← Nat.add_assoc] at x1
      have q1 : stF E P (x * 2) = (E x : Int) := by unfold stF; rw [if_pos (by omega), show x * 2 / 2 = x by omega]
      have q2 : stF E P (x * 2 + 1) = (P x : Int) := by unfold stF; rw [if_neg (by omega), show (x * 2 + 1) / 2 = x by omega]
      unfold intV at x0 x1
      rw [q1] at x0
      rw [q2] at x1
      have HBW := Lib.hid (B2.out.trans (HT.out.below.mono B2.out.size))
      obtain ⟨vb, vo, rfl, hvl, hvc⟩ := HY.out (by omega)
      have hve := (HBW.out.cell (p := ⟨vb, vo + E x, none⟩) hvl).trans (hvc (E x) hEn)
      obtain ⟨kb, ko, rfl, hkl, hkc⟩ := HK.out (by omega)
      have hke := (HBW.out.cell (p := ⟨kb, ko + E x, none⟩) hkl).trans (hkc (E x) hEn)
      unfold strV at hke
      have hse := HS.out (E x) hEn
      clear hsc hvc hkc q1 q2
      obtain ⟨e, he⟩ : ∃ e, E x = e := ⟨_, rfl⟩
      obtain ⟨pp, hp⟩ : ∃ pp, P x = pp := ⟨_, rfl⟩
      have HSP := Lib.hid (show tpS E P (eH seed q S) Y (tpF E P (eH seed q S) Y (backL k j)) x = upd (tpF E P (eH seed q S) Y (backL k j)) pp ((((Y e).toNat ^^^ xorN (tpF E P (eH seed q S) Y (backL k j)) (eH seed q S e) 3 : Nat)) : Int) by unfold tpS; rw [he, hp])
      rw [he] at hEn x0 hve hke hse
      rw [hp] at hPz x1
      clear he hp
      generalize hC : tpF E P (eH seed q S) Y (backL k j) = C at *
      clear hC
      have T4 := Lib.hid (HT.out.b ((Below.refl _ _).alloc (Nat.le_refl _) (.cells #[.int .i64 e, .int .i64 pp] 115)))
      have BS := Lib.hid (boxed wr #[.int .i64 e, .int .i64 pp] 115)
      have HYE := Lib.hid (val_lt HVB.out hEn)
      have HYN := Lib.hid (HVB.out e hEn)
      have HXL := Lib.hid (xorN_lt HCB.out 3 (HHB.out e hEn))
      have hp8 : 2 ^ v ≤ 2 ^ 8 := Nat.pow_le_pow_right (by omega) hv8
      have HVX := Lib.hid (show bits .xor .i64 (Y e) ((taN seed q (S e) C : Nat) : Int) = ((((Y e).toNat ^^^ xorN C (eH seed q S e) 3 : Nat)) : Int) by
        obtain ⟨y, hy⟩ := Int.eq_ofNat_of_zero_le HYN.out.1
        have h7 := HYE.out
        have h8 := HXL.out
        rw [hy] at h7 ⊢
        rw [Int.toNat_natCast] at h7 ⊢
        unfold taN
        rw [eH_one]
        exact i64_xor_nat y _ (by omega) (by omega))
      have HK2 := Lib.hid (fun (W' : World) (hw : Below (wr.alloc (.cells #[.int .i64 e, .int .i64 pp] 115)).heap.size (wr.alloc (.cells #[.int .i64 e, .int .i64 pp] 115)) W') => (show W'.cell? ⟨w2.heap.size + 1, 0, none⟩ = some (.int .i64 seed) ∧ W'.cell? ⟨w2.heap.size + 1, 1, none⟩ = some (.int .i64 q) ∧ W'.cell? ⟨w2.heap.size + 1, 2, none⟩ = some (.int .i64 v) ∧ W'.cell? ⟨w2.heap.size + 1, 3, none⟩ = some (.slice (some ⟨w2.heap.size, 0, none⟩) z z) ∧ W'.cell? ⟨wr.heap.size, 0, none⟩ = some (.int .i64 e) ∧ W'.cell? ⟨wr.heap.size, 1, none⟩ = some (.int .i64 pp) ∧ W'.cell? ⟨vb, vo + e, none⟩ = some (.int .i64 (Y e)) ∧ W'.cell? ⟨kb, ko + e, none⟩ = some (.string (S e)) from
        ⟨(T4.out.b hw).box.cell 0 _ rfl, (T4.out.b hw).box.cell 1 _ rfl, (T4.out.b hw).box.cell 2 _ rfl, (T4.out.b hw).box.cell 3 _ rfl, (BS.out.b hw).now 0 _ rfl, (BS.out.b hw).now 1 _ rfl, ((below_al hw).cell (p := ⟨vb, vo + e, none⟩) (show vb < _ by have := HBW.out.size; omega)).trans hve, ((below_al hw).cell (p := ⟨kb, ko + e, none⟩) (show kb < _ by have := HBW.out.size; omega)).trans hke⟩))
      have hsw := HT.out.row.lt
      have HKS := Lib.hid (fun (W' : World) (hw : Below (wr.alloc (.cells #[.int .i64 e, .int .i64 pp] 115)).heap.size (wr.alloc (.cells #[.int .i64 e, .int .i64 pp] 115)) W') => (show (W'.setCell ⟨w2.heap.size, pp, none⟩ (.int .i64 (bits .xor .i64 (Y e) ((taN seed q (S e) C : Nat) : Int)))).cell? ⟨w2.heap.size + 1, 0, none⟩ = some (.int .i64 seed) ∧ (W'.setCell ⟨w2.heap.size, pp, none⟩ (.int .i64 (bits .xor .i64 (Y e) ((taN seed q (S e) C : Nat) : Int)))).cell? ⟨w2.heap.size + 1, 1, none⟩ = some (.int .i64 q) ∧ (W'.setCell ⟨w2.heap.size, pp, none⟩ (.int .i64 (bits .xor .i64 (Y e) ((taN seed q (S e) C : Nat) : Int)))).cell? ⟨w2.heap.size + 1, 2, none⟩ = some (.int .i64 v) ∧ (W'.setCell ⟨w2.heap.size, pp, none⟩ (.int .i64 (bits .xor .i64 (Y e) ((taN seed q (S e) C : Nat) : Int)))).cell? ⟨w2.heap.size + 1, 3, none⟩ = some (.slice (some ⟨w2.heap.size, 0, none⟩) z z) ∧ (W'.setCell ⟨w2.heap.size, pp, none⟩ (.int .i64 (bits .xor .i64 (Y e) ((taN seed q (S e) C : Nat) : Int)))).cell? ⟨wr.heap.size, 0, none⟩ = some (.int .i64 e) ∧ (W'.setCell ⟨w2.heap.size, pp, none⟩ (.int .i64 (bits .xor .i64 (Y e) ((taN seed q (S e) C : Nat) : Int)))).cell? ⟨wr.heap.size, 1, none⟩ = some (.int .i64 pp) ∧ (W'.setCell ⟨w2.heap.size, pp, none⟩ (.int .i64 (bits .xor .i64 (Y e) ((taN seed q (S e) C : Nat) : Int)))).cell? ⟨vb, vo + e, none⟩ = some (.int .i64 (Y e)) ∧ (W'.setCell ⟨w2.heap.size, pp, none⟩ (.int .i64 (bits .xor .i64 (Y e) ((taN seed q (S e) C : Nat) : Int)))).cell? ⟨kb, ko + e, none⟩ = some (.string (S e)) from by
        have h9 := HK2.out W' hw
        have hsz2 := hw.size
        simp only [World.size_alloc] at hsz2
        have hbs := B2.out.size
        refine ⟨?_, ?_, ?_, ?_, ?_, ?_, ?_, ?_⟩
        · exact (only_cell (by omega)).trans h9.1
        · exact (only_cell (by omega)).trans h9.2.1
        · exact (only_cell (by omega)).trans h9.2.2.1
        · exact (only_cell (by omega)).trans h9.2.2.2.1
        · exact (only_cell (by omega)).trans h9.2.2.2.2.1
        · exact (only_cell (by omega)).trans h9.2.2.2.2.2.1
        · exact (only_cell (by omega)).trans h9.2.2.2.2.2.2.1
        · exact (only_cell (by omega)).trans h9.2.2.2.2.2.2.2))
      have c0 := T4.out.box.cell 0 _ rfl
      have c1 := T4.out.box.cell 1 _ rfl
      have c2 := T4.out.box.cell 2 _ rfl
      have c3 := T4.out.box.cell 3 _ rfl
      go_wp2_with fail
      go_region_held3 (fun W' => W'.cell? ⟨w2.heap.size + 1, 0, none⟩ = some (.int .i64 seed) ∧ W'.cell? ⟨w2.heap.size + 1, 1, none⟩ = some (.int .i64 q) ∧ W'.cell? ⟨w2.heap.size + 1, 2, none⟩ = some (.int .i64 v) ∧ W'.cell? ⟨w2.heap.size + 1, 3, none⟩ = some (.slice (some ⟨w2.heap.size, 0, none⟩) z z) ∧ W'.cell? ⟨wr.heap.size, 0, none⟩ = some (.int .i64 e) ∧ W'.cell? ⟨wr.heap.size, 1, none⟩ = some (.int .i64 pp) ∧ W'.cell? ⟨vb, vo + e, none⟩ = some (.int .i64 (Y e)) ∧ W'.cell? ⟨kb, ko + e, none⟩ = some (.string (S e)))
        (first | with_reducible exact HKS.out _ hq1 | with_reducible exact HK2.out _ hq1 | (go_keep; done))
        (first
          | (go_at_call 104; refine (spec_reValue (z0 := seed) (g := q) (v := v) (X := C) hse (show IRow (wr.alloc (.cells #[.int .i64 e, .int .i64 pp] 115)).drew (some ⟨w2.heap.size, 0, none⟩) z C from T4.out.row.row) (TV.out C HCB.out)).mono ?_; rintro e1 w5 ⟨rfl, hq1'⟩; have hq1 := of_drew hq1'; clear hq1'; have T5 := Lib.hid (T4.out.b hq1); have g5 := T5.out.row.cell hPz; have f5 := T5.out.row.frozen pp; unfold intV at g5))
      have T6 := Lib.hid (show TB w2 w.heap.size (w2.heap.size + 1) w2.heap.size z n seed q v (tpF E P (eH seed q S) Y (backL k (j + 1))) (w5.setCell ⟨w2.heap.size, pp, none⟩ (.int .i64 (bits .xor .i64 (Y e) ((taN seed q (S e) C : Nat) : Int)))) from by rw [HB2.out, HSP.out, ← HVX.out]; exact T5.out.set pp _)
      clear hq1 T5 g5 f5 c0 c1 c2 c3 x0 x1 hve hke HKS HK2
      go_wp2_with fail
      go_roundw
      case rel => exact ⟨j + 1, by omega, by congr 1; have := HI.out; omega, T6⟩
      case measure => simp [intOf] <;> (have := HI.out; omega)
    · obtain rfl : j = k := by omega
      have hneg : ¬ ((0 : Int) ≤ (j : Int) - 1 - (j : Int)) := by omega
      have hneg2 : decide ((0 : Int) ≤ (j : Int) - 1 - (j : Int)) = false := by simpa using hneg
      have N3 := Lib.hid (N2.out.b HT.out.below)
      have r0 := N3.out.cell 0 _ rfl
      have r1 := N3.out.cell 1 _ rfl
      have r2 := N3.out.cell 2 _ rfl
      have r3 := N3.out.cell 3 _ rfl
      have g0 := N3.out.free 0
      have g1 := N3.out.free 1
      have g2 := N3.out.free 2
      have g3 := N3.out.free 3
      have c0 := HT.out.box.cell 0 _ rfl
      have c1 := HT.out.box.cell 1 _ rfl
      have c2 := HT.out.box.cell 2 _ rfl
      have c3 := HT.out.box.cell 3 _ rfl
      have hbs := B2.out.size
      go_wp2_with fail
      have N4 := Lib.hid ((((N3.out.set 0 (.int .i64 seed)).set 1 (.int .i64 q)).set 2 (.int .i64 v)).set 3 (.slice (some ⟨w2.heap.size, 0, none⟩) z z))
      have s0 := N4.out.cell 0 (.int .i64 seed) (by simp)
      have s1 := N4.out.cell 1 (.int .i64 q) (by simp)
      have s2 := N4.out.cell 2 (.int .i64 v) (by simp)
      have s3 := N4.out.cell 3 (.slice (some ⟨w2.heap.size, 0, none⟩) z z) (by simp)
      refine bodyPost_ret (v := .tuple #[.agg #[.int .i64 seed, .int .i64 q, .int .i64 v, .slice (some ⟨w2.heap.size, 0, none⟩) z z], .bool true]) (by simp [results, Try.results86, go_sem, s0, s1, s2, s3]) rfl ?_
      rw [HEP.out.1, HEP.out.2] at HFIN HT
      refine HFIN.out _ _ (fun h => absurd h (by have := HL.out; omega)) (fun _ => ?_)
      exact ⟨_, _, rfl, (ow_setA (ow_setA (ow_setA (ow_setA (ow_of_own (m := z) HT.out.row (Nat.le_refl _) (Nat.le_refl _)) (by omega) _) (by omega) _) (by omega) _) (by omega) _).mono (by omega) (by simp), below_setAt (below_setAt (below_setAt (below_setAt (B2.out.trans (HT.out.below.mono hbs)) (Nat.le_refl _) _) (Nat.le_refl _) _) (Nat.le_refl _) _) (Nat.le_refl _) _⟩
end
end Go.Proofs.Ytpajbcgdoedleab

/- TableByPeeling of the model, its arguments tried first. -/
namespace Go.Proofs.Ytpajbcgdoedleab
open Go.RowKit

section
variable {seed : Int} {KA VA : Option Addr} {n kc m vc : Nat} {S : Nat → ByteArray} {Y : Nat → Int} {w : World}
end
end Go.Proofs.Ytpajbcgdoedleab

/- A region that draws its order, inside a round of a range-over-func loop, walked by the plain held laws. -/
namespace Go.Proofs.Ytpajbcgdoedleab
open Go.RowKit Go.Shelf

section
variable {P : Program} {ops : Array Oper} {Q : Exit → Act → World → Prop} {md : Region.Mode} {S : World → Prop} {l n : Nat}

def OnlyN (Q : Exit → Act → World → Prop) : Exit → Act → World → Prop
  | .normal, a, w => Q .normal a w
  | _, _, _ => False

theorem onlyN_lets (h : LetsOut (OnlyN Q)) : False := by obtain ⟨_, _, h⟩ := h; exact h

theorem operIn_of_wp {o : Oper} {a : Act} {w : World} {K : Act → World → Prop} (hd : ∀ c : Call, o.op ≠ .defer c) (h : o.wp P a w K (OnlyN Q)) :
    o.wpIn (Fence.wide.inRound l) n P a w K Q := by
  unfold Oper.wp at h
  unfold Oper.wpIn
  refine ⟨fun _ _ => trivial, ?_⟩
  rw [Fence.inRound_round, Oper.semAt_some l _ _ hd]
  generalize (execOp a.eval o).run P w = r at *
  cases r with
  | ok x w' =>
    cases x <;> simp only [Oper.upon, Oper.uponIn] at h ⊢
    case value => exact h
    case skip => exact h
    case defer => exact h
    case enter f args =>
      refine ⟨fun h => by simp [Fence.wide] at h, (CallsIn.inRound l (callsIn_wide.2 h)).mono ?_⟩
      intro e w'' he
      cases e with
      | returned v => exact he
      | panicked c => exact he.elim
      | outgrown => exact (onlyN_lets he).elim
    case row row args =>
      exact ⟨fun h => by simp [Fence.wide] at h, fun c cs _ => let ⟨v, w'', r, s⟩ := h c cs; ⟨v, w'', r, stepsIn_wide.2 s⟩⟩
  | halt x w' =>
    cases x <;> simp only [Oper.upon, Oper.uponIn] at h ⊢
    case panic => exact h.elim

theorem opIn_of_wp {i : Nat} {a : Act} {w : World} {K K' : Act → World → Prop} (hd : ∀ (i : Nat) (o : Oper) (c : Call), ops[i]? = some o → o.op ≠ .defer c) (hK : ∀ a w, K a w → K' a w)
    (h : wpOp P ops (OnlyN Q) i K a w) : wpOpIn (Fence.wide.inRound l) n P ops Q i K' a w := by
  unfold wpOp at h
  unfold wpOpIn
  split
  · rename_i ho; simp only [ho] at h; exact hK _ _ h
  · rename_i o ho
    simp only [ho] at h
    split
    · rename_i hw
      simp only [hw, if_true] at h
      rcases h with h | ⟨_, h⟩
      · exact Oper.wpIn_mono hK (operIn_of_wp (fun c => hd i o c ho) h)
      · exact (onlyN_lets h).elim
    · rename_i hw; simp only [hw] at h; exact ⟨fun _ _ => trivial, hK _ _ h⟩

theorem anyIn_of_any (hd : ∀ (i : Nat) (o : Oper) (c : Call), ops[i]? = some o → o.op ≠ .defer c) : ∀ (fuel : Nat) (listed : Array Bool) (a : Act) (w : World),
    wpAny P md ops (OnlyN Q) fuel listed a w → wpAnyIn (Fence.wide.inRound l) n P md ops Q fuel listed a w
  | 0, _, _, _, h => h
  | fuel + 1, _, _, _, h => ⟨h.1, fun i hi => opIn_of_wp hd (fun a' w' h' => anyIn_of_any hd fuel _ a' w' h') (h.2 i hi)⟩

def noDefer (ops : Array Oper) : Bool := ops.toList.all fun o => match o.op with | .defer _ => false | _ => true

theorem noDefer_spec (h : noDefer ops = true) (i : Nat) (o : Oper) (c : Call) (ho : ops[i]? = some o) : o.op ≠ .defer c := by
  intro e
  unfold noDefer at h
  rw [List.all_eq_true] at h
  have := h o (by
    rw [← Array.mem_def]
    exact Array.mem_of_getElem? ho)
  rw [e] at this
  exact absurd this (by simp)

/-- The beginning. -/
theorem wpIn_region_roundH {id : Nat} {a : Act} {w : World} (hm : P.follows .mixedOrders = true) (hd : noDefer ops = true) (hS : S w.drew)
    (h : S w.drew → wpAnyH P .any ops (OnlyN Q) S ops.size (Array.replicate ops.size false) a w.drew) : (Code.region id ops true).wpIn (Fence.wide.inRound l) n P Q a w :=
  wpIn_region_any hm (anyIn_of_any (noDefer_spec hd) _ _ _ _ (wpAny_of_held _ _ _ _ (h hS)))
end
end Go.Proofs.Ytpajbcgdoedleab

/- TableByPeeling: the program's. -/
namespace Go.Proofs.Ytpajbcgdoedleab
open Go.RowKit Go.Shelf

attribute [local go_sem] Oper.semAt_some
theorem gown_kept {W W' : World} {t : TypeId} {g n : Nat} {F : Nat → Value} {row : Option Nat} (h : GOwn W t g n F) (hg : W.grownBy W' row) (hr : ∀ r, row = some r → ∃ o : Obj, W.heap[r]? = some o ∧ o.isCells = false) : GOwn W' t g n F := by
  obtain ⟨c, h1, h2, h3⟩ := h
  exact ⟨c, (grownBy_keeps_cells hg hr h1 rfl).trans h1, h2, h3⟩
section
variable {seed : Int} {KA VA : Option Addr} {n kc vc : Nat} {S : Nat → ByteArray} {Y : Nat → Int} {w : World} {q v : Nat}
set_option maxRecDepth 100000 in
set_option linter.unusedSimpArgs false in
set_option maxHeartbeats 4000000 in
theorem impl_tableByPeeling (hs : ∀ i, i < n → (S i).size ≤ maxLen) (hk : GRow w KA n (strV S)) (hr : IRow w VA n Y) (hky : keyedB seed S n q = true) (hv : TpV v n Y n) :
    Calls Try.prog 87 #[.int .i64 seed, .slice KA n kc, .slice VA n vc, .int .i64 q, .int .i64 v] w (TpPost seed q v (3 * q) n S Y w) := by
  have hky2 := hky
  unfold keyedB at hky2
  simp only [Bool.and_eq_true, decide_eq_true_eq] at hky2
  obtain ⟨⟨hsd, hkk⟩, h1, h2⟩ := hky2
  have h1' : 1 ≤ q := by omega
  have h2' : q ≤ 24 := by omega
  have hn40 := keysB_size hkk
  have N0 := Lib.hid (nbx0 (w.alloc (.cells #[.slice VA n vc] 22)) #[.int .i64 0, .int .i64 0, .int .i64 0, .slice none 0 0] 57)
  have V0 := Lib.hid ((nbx0 w #[.slice VA n vc] 22).b ((Below.refl _ _).alloc (Nat.le_refl _) (.cells #[.int .i64 0, .int .i64 0, .int .i64 0, .slice none 0 0] 57)))
  have B0 := Lib.hid (((Below.refl w.heap.size w).alloc (Nat.le_refl _) (.cells #[.slice VA n vc] 22)).alloc (by simp) (.cells #[.int .i64 0, .int .i64 0, .int .i64 0, .slice none 0 0] 57))
  have HS := Lib.hid hs
  have HK := Lib.hid hk
  have HY := Lib.hid hr
  have HVV := Lib.hid hv
  have hv8 : v ≤ 8 := by have := hv.1; omega
  have HVB := Lib.hid (show InAll n Y 0 (2 ^ v - 1) by simpa using hv.2.2)
  obtain ⟨z, hz⟩ : ∃ z, z = 3 * q := ⟨_, rfl⟩
  have hmk := fun W => run_make_row' (P := Try.prog) 22 3 (.int .i64 0) 8 Try.underlying22 infoI rfl .i64 .i64 z (by omega) (by omega) W
  have HHB := Lib.hid (fun e (_ : e < n) j (hj : j < 3) => show 0 ≤ eH seed q S e j ∧ eH seed q S e j < (z : Int) from by have := eH_in (seed := seed) (S := S) (k := e) h1' h2' j hj; rw [hz]; exact this)
  rw [← hz]
  have hz72 : z ≤ 72 := by omega
  have hz0 : 0 < z := by omega
  have HZ := Lib.hid hz
  clear hs hk hr hky hv hz
  refine (callsIn_wide (n := 8)).1 ?_
  refine callsIn_of_wp_marks Try.func87 rfl trivial ?_ rfl
  simp only [Try.ntmps87, List.size_toArray, List.length_cons, List.length_nil, Nat.reduceAdd, Nat.reduceSub, Array.replicate_succ, Array.replicate_zero, List.push_toArray, List.append_toArray, List.nil_append, List.cons_append]
  gi_wp2_with (fail)
  refine ⟨trivial, (callsIn_wide.2 (impl_peelKeys (kc := kc) HS.out (HK.out.b B0.out) hsd hkk h1' h2')).mono ?_⟩
  rintro e w1 hpost
  rw [← HZ.out] at hpost
  obtain ⟨k, hgo, hf, hb, h0, hp⟩ := hpost
  have HG := Lib.hid (And.intro hgo hf)
  have HBD := Lib.hid (goes_bd hgo)
  have hkn : k ≤ n := by have := goes_len hgo; omega
  have N1 := Lib.hid (N0.out.b hb)
  have V1 := Lib.hid (V0.out.b hb)
  have B1 := Lib.hid (B0.out.trans (hb.mono B0.out.size))
  have HFIN : Hid (∀ (e : Ending) (w' : World), (0 < (leftL (goneS z (fun _ => 3) (eH seed q S) n zeroC k) n).length → TaOwn 0 0 0 0 (fun _ => 0) false w e w') → ((leftL (goneS z (fun _ => 3) (eH seed q S) n zeroC k) n).length = 0 → TaOwn seed q v z (tpF (stE z (fun _ => 3) (eH seed q S) n zeroC) (stP z (fun _ => 3) (eH seed q S) n zeroC) (eH seed q S) Y (backL k k)) true w e w') → TpPost seed q v z n S Y w e w') := Lib.hid (fun e w' h1 h2 => ⟨k, HG.out.1, HG.out.2, h2, h1⟩)
  clear hgo hf hb
  rcases Nat.eq_zero_or_pos (leftL (goneS z (fun _ => 3) (eH seed q S) n zeroC k) n).length with hL | hL
  · obtain ⟨A, c, SA, sc, rfl, hH, hST⟩ := h0 hL
    have HL := Lib.hid hL
    have HST := Lib.hid hST
    obtain ⟨D, dd, hH⟩ := hH
    have HHR := Lib.hid hH
    clear h0 hp hL hST hH
    have hal := (Below.refl w1.heap.size w1).alloc (Nat.le_refl _) (.cells #[.int .i64 z, .slice A n c] 109)
    have NH := Lib.hid (nbx0 w1 #[.int .i64 z, .slice A n c] 109)
    have N2 := Lib.hid (N1.out.b hal)
    have V2 := Lib.hid (V1.out.b hal)
    have B2 := Lib.hid (B1.out.trans (hal.mono B1.out.size))
    have H2 := Lib.hid (HHR.out.b hal)
    have T2 := Lib.hid (HST.out.b hal)
    clear hal
    have v0 := V2.out.cell 0 _ rfl
    gi_wp2_with (fail)
    refine ⟨trivial, (callsIn_wide.2 (impl_areValues (b := true) (by simp only [true_iff]; exact HVV.out) (by omega) (IRow.b HY.out B2.out))).mono ?_⟩
    rintro e w2 ⟨rfl, hb⟩
    have NH3 := Lib.hid (NH.out.b hb)
    have N3 := Lib.hid (N2.out.b hb)
    have V3 := Lib.hid (V2.out.b hb)
    have B3 := Lib.hid (B2.out.trans (hb.mono B2.out.size))
    have H3 := Lib.hid (H2.out.b hb)
    have T3 := Lib.hid (T2.out.b hb)
    clear hb v0
    have y0 := NH3.out.cell 0 _ rfl
    gi_wp2_with (fail)
    refine ⟨trivial, (back_in Fence.wide 7 trivial rfl SA k sc _).mono ?_⟩
    rintro e w3 ⟨rfl, rfl⟩
    gi_wp2_with (fail)
    obtain ⟨E, hE⟩ : ∃ E, E = stE z (fun _ => 3) (eH seed q S) n zeroC := ⟨_, rfl⟩
    obtain ⟨P, hP⟩ : ∃ P, P = stP z (fun _ => 3) (eH seed q S) n zeroC := ⟨_, rfl⟩
    rw [← hE, ← hP] at T3 HFIN
    rw [← hE, ← hP] at HBD
    have HEP := Lib.hid (And.intro hE hP)
    clear hE hP
    have HTB := Lib.hid (fun (L : List (Fin k)) => tpF_bd (E := E) (P := P) (H := eH seed q S) (Y := Y) (z := z) (n := n) (v := v) (k := k) HVB.out HHB.out (fun j hj => (HBD.out j hj).1) (L.map Fin.val) (fun x hx => by obtain ⟨y, _, rfl⟩ := List.mem_map.1 hx; exact y.isLt))
    have m0 := GOwn.made w2 3 (.int .i64 0) z
    have k0 := nbx0 (w2.alloc (.cells (madeCells #[.int .i64 0] z) 3)) #[.slice (some ⟨w2.heap.size, 0, none⟩) z z] 22
    have s0 := nbx0 ((w2.alloc (.cells (madeCells #[.int .i64 0] z) 3)).alloc (.cells #[.slice (some ⟨w2.heap.size, 0, none⟩) z z] 22)) #[.slice SA k sc] 111
    have a1 := (Below.refl w2.heap.size w2).alloc (Nat.le_refl _) (.cells (madeCells #[.int .i64 0] z) 3)
    have a2 := a1.alloc (by simp) (.cells #[.slice (some ⟨w2.heap.size, 0, none⟩) z z] 22)
    have a3 := a2.alloc (by simp; omega) (.cells #[.slice SA k sc] 111)
    have b2 := (Below.refl (w2.alloc (.cells (madeCells #[.int .i64 0] z) 3)).heap.size _).alloc (Nat.le_refl _) (.cells #[.slice (some ⟨w2.heap.size, 0, none⟩) z z] 22)
    have b3 := (Below.refl ((w2.alloc (.cells (madeCells #[.int .i64 0] z) 3)).alloc (.cells #[.slice (some ⟨w2.heap.size, 0, none⟩) z z] 22)).heap.size _).alloc (Nat.le_refl _) (.cells #[.slice SA k sc] 111)
    have m2 := (m0.b b2).b b3
    have k2 := k0.b b3
    have ck := k2.cell 0 _ rfl
    have cs := s0.cell 0 _ rfl
    have hsz : (((w2.alloc (.cells (madeCells #[.int .i64 0] z) 3)).alloc (.cells #[.slice (some ⟨w2.heap.size, 0, none⟩) z z] 22)).alloc (.cells #[.slice SA k sc] 111)).heap.size = w2.heap.size + 3 := by simp
    simp only [World.size_alloc] at ck cs
    obtain ⟨W0, hW0⟩ : ∃ W0, ((w2.alloc (.cells (madeCells #[.int .i64 0] z) 3)).alloc (.cells #[.slice (some ⟨w2.heap.size, 0, none⟩) z z] 22)).alloc (.cells #[.slice SA k sc] 111) = W0 := ⟨_, rfl⟩
    rw [hW0] at m2 ck cs hsz a3 ⊢
    clear hW0 m0 k0 s0 a1 a2 b2 b3 k2
    have M0 := Lib.hid m2
    have A0 := Lib.hid a3
    have hrow := T3.out.b a3
    have SR := Lib.hid (show 0 < k → ∃ b off, SA = some ⟨b, off, none⟩ ∧ b < W0.heap.size ∧ b ≠ w2.heap.size ∧ ∀ j, j < k * 2 → W0.cell? ⟨b, off + j, none⟩ = some (.int .i64 (stF E P j)) from fun h0 => by
      obtain ⟨b, off, hA, hlt, _⟩ := T3.out (by omega)
      obtain ⟨b', off', hA', _, hc⟩ := hrow (by omega)
      rw [hA] at hA'
      injection hA' with e1; injection e1 with e1 e2
      subst e1 e2
      exact ⟨b, off, hA, by omega, by omega, fun j hj => hc j (by omega)⟩)
    clear m2 a3 hrow
    refine wpIn_rangeFunc_ownH (α := Fin k) rfl (by omega) (gf := 130) (lb := #[.pointer (some ⟨w2.heap.size + 1 + 1, 0, none⟩)]) rfl trivial (enters_of Try.func130 (by kernel_rfl) rfl)
      (back_stops Fence.wide (8 - 1) trivial rfl (by omega) (w2.heap.size + 1 + 1) W0.heap.size w2.heap.size SA k sc (stF E P) (by omega) W0 (by omega) (by omega) (Nat.le_refl _) cs SR.out) KpG.trans (kpG_b (Nat.le_refl _)) (Below.refl _ _) (fun _ => rfl)
      (fun pre W => (W.cell? ⟨w2.heap.size + 1, 0, none⟩ = some (.slice (some ⟨w2.heap.size, 0, none⟩) z z) ∧ GOwn W 3 w2.heap.size z (intV (tpF E P (eH seed q S) Y (pre.map Fin.val))) ∧ W0.heap.size ≤ W.heap.size) ∧ Below w2.heap.size w2 W)
      (fun _ _ _ => False)
      (OwnFrom.and (Own.from (fun s A B row hs hg hr => ⟨cell_kept hs.1 hg hr, gown_kept hs.2.1 hg hr, Nat.le_trans hs.2.2 hg.size⟩) _) (ownFrom_below (Nat.le_refl _) (by omega)))
      (fun _ _ _ _ _ hs _ _ => hs)
      ⟨⟨ck, M0.out.congr (fun _ _ => rfl), Nat.le_refl _⟩, A0.out⟩
      (fun x a' W => ∃ Bx, W0.heap.size ≤ Bx ∧ W.heap[Bx]? = some (.cells #[.int .i64 (stF E P (x.val * 2)), .int .i64 (stF E P (x.val * 2 + 1))] 115 (0, 0)) ∧ a' = { tmps := #[.int .i64 seed, .slice KA n kc, .slice VA n vc, .int .i64 q, .int .i64 v, undef, undef, .pointer (some ⟨w.heap.size, 0, none⟩), undef, undef, .pointer (some ⟨w.heap.size + 1, 0, none⟩), .bool false, .pointer (some ⟨w1.heap.size, 0, none⟩), .slice SA k sc, .bool true, .pointer (some ⟨w2.heap.size + 1, 0, none⟩), undef, .pointer (some ⟨Bx, 0, none⟩), .tuple #[.agg #[.int .i64 z, .slice A n c], .slice SA k sc, .bool true], .int .i64 seed, .slice KA n kc, .int .i64 q, .tuple #[.agg #[.int .i64 z, .slice A n c], .slice SA k sc, .bool true], .agg #[.int .i64 z, .slice A n c], .slice SA k sc, .bool true, .bool true, .bool false, .bool false, .slice VA n vc, .slice KA n kc, .int .i64 n, .int .i64 v, .bool true, .bool false, .bool false, undef, .pointer (some ⟨w1.heap.size, 0, none⟩), .int .i64 z, .slice (some ⟨w2.heap.size, 0, none⟩) z z, .slice SA k sc, .func (.func 130) #[] #[.pointer (some ⟨w2.heap.size + 1 + 1, 0, none⟩)], .int .i64 x.val, .agg #[.int .i64 (stF E P (x.val * 2)), .int .i64 (stF E P (x.val * 2 + 1))], undef, undef, undef, undef, undef, undef, undef, undef, undef, undef, undef, undef, undef, undef, undef, undef, undef, undef, undef, undef, undef, undef, undef], defers := [] })
      (fun x a' _ X Y row hs hg hr => by obtain ⟨Bx, h1, h2, h3⟩ := hs; exact ⟨Bx, h1, (grownBy_keeps_cells hg (fun r e => (hr r e).2) h2 rfl).trans h2, h3⟩)
      ?assign ?body ?done ?stop
    case assign =>
      rintro l pre x W K ⟨⟨hc1, hg1, hs1⟩, hB1⟩ hK
      unfold encSt
      gi_wp2
      exact hK _ _ ((KeepsOthers.alloc _ _).from _) ⟨by simp, fun b h1 _ => Below.heap_alloc W _ b (by omega)⟩ ⟨⟨(below_al (Below.refl _ _)).cell (p := ⟨w2.heap.size + 1, 0, none⟩) (show w2.heap.size + 1 < _ by omega) |>.trans hc1, hg1.alloc _, by simp; omega⟩, hB1.alloc hB1.size _⟩ ⟨W.heap.size, hs1, Go.Deep.blk_alloc_new _ _, rfl⟩
    case body =>
      rintro l pre x a' W hl ⟨r, hr⟩ ⟨⟨hc1, hg1, hs1⟩, hB1⟩ ⟨Bx, hBx, bX, rfl⟩ hlt
      have HC1 := Lib.hid hc1
      have HG1 := Lib.hid hg1
      have HB1 := Lib.hid hB1
      have BX := Lib.hid (show NBX w2.heap.size Bx #[.int .i64 (stF E P (x.val * 2)), .int .i64 (stF E P (x.val * 2 + 1))] 115 W from ⟨bX, by omega⟩)
      obtain ⟨hEn, hPz⟩ := HBD.out x.val x.isLt
      have HCB := Lib.hid (HTB.out pre)
      have HSN := Lib.hid (show tpF E P (eH seed q S) Y ((pre ++ [x]).map Fin.val) = tpS E P (eH seed q S) Y (tpF E P (eH seed q S) Y (pre.map Fin.val)) x.val by rw [List.map_append]; exact tpF_snoc _ _ _ _ _ _)
      have q1 : stF E P (x.val * 2) = (E x.val : Int) := by unfold stF; rw [if_pos (by omega), show x.val * 2 / 2 = x.val by omega]
      have q2 : stF E P (x.val * 2 + 1) = (P x.val : Int) := by unfold stF; rw [if_neg (by omega), show (x.val * 2 + 1) / 2 = x.val by omega]
      rw [q1, q2] at BX ⊢
      clear hc1 hg1 hB1 bX q1 q2
      obtain ⟨e, he⟩ : ∃ e, E x.val = e := ⟨_, rfl⟩
      obtain ⟨pp, hp⟩ : ∃ pp, P x.val = pp := ⟨_, rfl⟩
      have HSP := Lib.hid (show tpS E P (eH seed q S) Y (tpF E P (eH seed q S) Y (pre.map Fin.val)) x.val = upd (tpF E P (eH seed q S) Y (pre.map Fin.val)) pp ((((Y e).toNat ^^^ xorN (tpF E P (eH seed q S) Y (pre.map Fin.val)) (eH seed q S e) 3 : Nat)) : Int) by unfold tpS; rw [he, hp])
      rw [he] at hEn BX ⊢
      rw [hp] at hPz BX ⊢
      clear he hp
      generalize hC : tpF E P (eH seed q S) Y (pre.map Fin.val) = C at *
      clear hC
      have c1 := HC1.out
      have c2 := (V3.out.b HB1.out).cell 0 _ rfl
      have c3 := (NH3.out.b HB1.out).cell 1 _ rfl
      have c4 := BX.out.cell 0 _ rfl
      have c5 := BX.out.cell 1 _ rfl
      have HBW := Lib.hid (B3.out.trans (HB1.out.mono B3.out.size))
      obtain ⟨vb, vo, rfl, hvl, hvc⟩ := HY.out (by omega)
      have c6 := (HBW.out.cell (p := ⟨vb, vo + e, none⟩) hvl).trans (hvc e hEn)
      have HW3 := H3.out.b HB1.out
      obtain ⟨hb9, ho9, rfl, _, hc9⟩ := HW3.1 (by omega)
      have c7 := hc9 e hEn
      unfold sliceV at c7
      have HR9 := Lib.hid (HW3.2 e hEn)
      have HYN := Lib.hid (HVB.out e hEn)
      have HYE := Lib.hid (val_lt HVB.out hEn)
      have HXL := Lib.hid (xorN_lt HCB.out 3 (HHB.out e hEn))
      have hp8 : 2 ^ v ≤ 2 ^ 8 := Nat.pow_le_pow_right (by omega) hv8
      have HVX := Lib.hid (show bits .xor .i64 (Y e) ((xorN C (eH seed q S e) 3 : Nat) : Int) = ((((Y e).toNat ^^^ xorN C (eH seed q S e) 3 : Nat)) : Int) by
        obtain ⟨y, hy⟩ := Int.eq_ofNat_of_zero_le HYN.out.1
        have h7 := HYE.out
        have h8 := HXL.out
        rw [hy] at h7 ⊢
        rw [Int.toNat_natCast] at h7 ⊢
        exact i64_xor_nat y _ (by omega) (by omega))
      have c8 := HG1.out.cell hPz
      have f8 := HG1.out.frozen pp
      unfold intV at c8
      have HAD := Lib.hid (fun W' (h1 : IRow W' (some ⟨w2.heap.size, 0, none⟩) z C) (h2 : IRow W' (D e) 3 (eH seed q S e)) => impl_addAt (some ⟨w2.heap.size, 0, none⟩) z z C (D e) 3 (dd e) (eH seed q S e) W' (by omega) (by omega) h1 h2 (inAll_255 hv8 HCB.out) (HHB.out e hEn))
      clear hvc hc9 HW3
      gi_wp2_with (fail)
      have hmix : Try.prog.follows .mixedOrders = true := by kernel_rfl
      have g1 : (0 : Int) ≤ (e : Int) := by omega
      have g2 : (e : Int) < (n : Int) := by omega
      have g3 : (0 : Int) ≤ (pp : Int) := by omega
      have g4 : (pp : Int) < (z : Int) := by omega
      refine wpIn_region_roundH (S := fun W' => W'.cell? ⟨w2.heap.size + 1, 0, none⟩ = some (.slice (some ⟨w2.heap.size, 0, none⟩) z z) ∧ W'.cell? ⟨Bx, 0, none⟩ = some (.int .i64 e) ∧ W'.cell? ⟨Bx, 1, none⟩ = some (.int .i64 pp) ∧ W'.cell? ⟨w.heap.size, 0, none⟩ = some (.slice (some ⟨vb, vo, none⟩) n vc) ∧ W'.cell? ⟨w1.heap.size, 1, none⟩ = some (.slice (some ⟨hb9, ho9, none⟩) n c) ∧ W'.cell? ⟨vb, vo + e, none⟩ = some (.int .i64 (Y e)) ∧ W'.cell? ⟨hb9, ho9 + e, none⟩ = some (.slice (D e) 3 (dd e))) hmix (by kernel_rfl) ⟨c1, c4, c5, c2, c3, c6, c7⟩ (fun hHeld => ?_)
      refine wpAnyH_take (i := 0) (v := ?_) rfl (by kernel_rfl) (by kernel_rfl) (by kernel_rfl) (fun _ _ _ h => h) (Or.inl ⟨by rfl, ?_⟩) hHeld ?_
      rotate_left
      · (intro w hSw; (try dsimp only at hSw); go_simp; try with_reducible rfl)
      try simp only [Act.put, List.setIfInBounds_toArray, List.set_cons_zero, List.set_cons_succ]
      refine wpAnyH_take (i := 1) (v := ?_) rfl (by kernel_rfl) (by kernel_rfl) (by kernel_rfl) (fun _ _ _ h => h) (Or.inl ⟨by rfl, ?_⟩) hHeld ?_
      rotate_left
      · (intro w hSw; (try dsimp only at hSw); go_simp; try with_reducible rfl)
      try simp only [Act.put, List.setIfInBounds_toArray, List.set_cons_zero, List.set_cons_succ]
      refine wpAnyH_take (i := 2) (v := ?_) rfl (by kernel_rfl) (by kernel_rfl) (by kernel_rfl) (fun _ _ _ h => h) (Or.inl ⟨by rfl, ?_⟩) hHeld ?_
      rotate_left
      · (intro w hSw; (try dsimp only at hSw); go_simp; try with_reducible rfl)
      try simp only [Act.put, List.setIfInBounds_toArray, List.set_cons_zero, List.set_cons_succ]
      refine wpAnyH_take (i := 3) (v := ?_) rfl (by kernel_rfl) (by kernel_rfl) (by kernel_rfl) (fun _ _ _ h => h) (Or.inl ⟨by rfl, ?_⟩) hHeld ?_
      rotate_left
      · (intro w hSw; (try dsimp only at hSw); go_simp; try with_reducible rfl)
      try simp only [Act.put, List.setIfInBounds_toArray, List.set_cons_zero, List.set_cons_succ]
      refine wpAnyH_take (i := 4) (v := ?_) rfl (by kernel_rfl) (by kernel_rfl) (by kernel_rfl) (fun _ _ _ h => h) (Or.inl ⟨by rfl, ?_⟩) hHeld ?_
      rotate_left
      · (intro w hSw; (try dsimp only at hSw); go_simp; try with_reducible rfl)
      try simp only [Act.put, List.setIfInBounds_toArray, List.set_cons_zero, List.set_cons_succ]
      refine wpAnyH_take (i := 5) (v := ?_) rfl (by kernel_rfl) (by kernel_rfl) (by kernel_rfl) (fun _ _ _ h => h) (Or.inl ⟨by rfl, ?_⟩) hHeld ?_
      rotate_left
      · (intro w hSw; (try dsimp only at hSw); go_simp; try with_reducible rfl)
      try simp only [Act.put, List.setIfInBounds_toArray, List.set_cons_zero, List.set_cons_succ]
      refine wpAnyH_take (i := 6) (v := ?_) rfl (by kernel_rfl) (by kernel_rfl) (by kernel_rfl) (fun _ _ _ h => h) (Or.inl ⟨by rfl, ?_⟩) hHeld ?_
      rotate_left
      · (intro w hSw; (try dsimp only at hSw); go_simp; try with_reducible rfl)
      try simp only [Act.put, List.setIfInBounds_toArray, List.set_cons_zero, List.set_cons_succ]
      refine wpAnyH_take (i := 7) (v := ?_) rfl (by kernel_rfl) (by kernel_rfl) (by kernel_rfl) (fun _ _ _ h => h) (Or.inl ⟨by rfl, ?_⟩) hHeld ?_
      rotate_left
      · (intro w hSw; (try dsimp only at hSw); go_simp; try with_reducible rfl)
      try simp only [Act.put, List.setIfInBounds_toArray, List.set_cons_zero, List.set_cons_succ]
      refine wpAnyH_take (i := 8) (v := ?_) rfl (by kernel_rfl) (by kernel_rfl) (by kernel_rfl) (fun _ _ _ h => h) (Or.inl ⟨by rfl, ?_⟩) hHeld ?_
      rotate_left
      · (intro w hSw; (try dsimp only at hSw); go_simp; try with_reducible rfl)
      try simp only [Act.put, List.setIfInBounds_toArray, List.set_cons_zero, List.set_cons_succ]
      refine wpAnyH_take (i := 9) (v := ?_) rfl (by kernel_rfl) (by kernel_rfl) (by kernel_rfl) (fun _ _ _ h => h) (Or.inl ⟨by rfl, ?_⟩) hHeld ?_
      rotate_left
      · (intro w hSw; (try dsimp only at hSw); go_simp; try with_reducible rfl)
      try simp only [Act.put, List.setIfInBounds_toArray, List.set_cons_zero, List.set_cons_succ]
      refine wpAnyH_take (i := 10) (v := ?_) rfl (by kernel_rfl) (by kernel_rfl) (by kernel_rfl) (fun _ _ _ h => h) (Or.inl ⟨by rfl, ?_⟩) hHeld ?_
      rotate_left
      · (intro w hSw; (try dsimp only at hSw); go_simp; try with_reducible rfl)
      try simp only [Act.put, List.setIfInBounds_toArray, List.set_cons_zero, List.set_cons_succ]
      refine wpAnyH_take (i := 11) (v := ?_) rfl (by kernel_rfl) (by kernel_rfl) (by kernel_rfl) (fun _ _ _ h => h) (Or.inl ⟨by rfl, ?_⟩) hHeld ?_
      rotate_left
      · (intro w hSw; (try dsimp only at hSw); go_simp; try with_reducible rfl)
      try simp only [Act.put, List.setIfInBounds_toArray, List.set_cons_zero, List.set_cons_succ]
      refine wpAnyH_take (i := 12) (v := ?_) rfl (by kernel_rfl) (by kernel_rfl) (by kernel_rfl) (fun _ _ _ h => h) (Or.inl ⟨by rfl, ?_⟩) hHeld ?_
      rotate_left
      · (intro w hSw; (try dsimp only at hSw); go_simp; try with_reducible rfl)
      try simp only [Act.put, List.setIfInBounds_toArray, List.set_cons_zero, List.set_cons_succ]
      refine wpAnyH_take (i := 13) (v := ?_) rfl (by kernel_rfl) (by kernel_rfl) (by kernel_rfl) (fun _ _ _ h => h) (Or.inl ⟨by rfl, ?_⟩) hHeld ?_
      rotate_left
      · (intro w hSw; (try dsimp only at hSw); go_simp; try with_reducible rfl)
      try simp only [Act.put, List.setIfInBounds_toArray, List.set_cons_zero, List.set_cons_succ]
      refine wpAnyH_take (i := 14) (v := ?_) rfl (by kernel_rfl) (by kernel_rfl) (by kernel_rfl) (fun _ _ _ h => h) (Or.inl ⟨by rfl, ?_⟩) hHeld ?_
      rotate_left
      · (intro w hSw; (try dsimp only at hSw); go_simp; try with_reducible rfl)
      try simp only [Act.put, List.setIfInBounds_toArray, List.set_cons_zero, List.set_cons_succ]
      refine wpAnyH_ready (rs := [15]) (by kernel_rfl) (by simp) ?_
      refine AllReadyH.cons rfl (fun K hK => ?_) AllReadyH.nil
      go_simp
      go_at_call 113
      refine (HAD.out _ (show IRow W.drew (some ⟨w2.heap.size, 0, none⟩) z C from HG1.out.row) (show IRow W.drew (D e) 3 (eH seed q S e) from HR9.out)).mono ?_
      rintro e5 W5 ⟨rfl, rfl⟩
      refine hK.out _ _ hHeld (fun _ => ?_)
      clear hK K
      try simp only [Act.put, List.setIfInBounds_toArray, List.set_cons_zero, List.set_cons_succ]
      refine wpAnyH_take (i := 16) (v := .int .i64 ((((Y e).toNat ^^^ xorN C (eH seed q S e) 3 : Nat)) : Int)) rfl (by kernel_rfl) (by kernel_rfl) (by kernel_rfl) (fun _ _ _ h => h) (Or.inl ⟨by rfl, ?_⟩) hHeld ?_
      · have hvx := HVX.out
        intro w hSw
        go_simp
        try simp only [hvx]
      try simp only [Act.put, List.setIfInBounds_toArray, List.set_cons_zero, List.set_cons_succ]
      refine wpAnyH_take (i := 17) (v := ?_) rfl (by kernel_rfl) (by kernel_rfl) (by kernel_rfl) (fun _ _ _ h => h) (Or.inl ⟨by rfl, ?_⟩) hHeld ?_
      rotate_left
      · (intro w hSw; (try dsimp only at hSw); go_simp; try with_reducible rfl)
      try simp only [Act.put, List.setIfInBounds_toArray, List.set_cons_zero, List.set_cons_succ]
      refine wpAnyH_ready (rs := [18]) (by kernel_rfl) (by simp) ?_
      refine AllReadyH.cons rfl (fun K hK => ?_) AllReadyH.nil
      go_simp
      refine hK.out _ _ ?_ (fun _ => ?_)
      · have u1 := World.block_lt_of_cell? _ _ (V3.out.cell 0 _ rfl)
        have u2 := World.block_lt_of_cell? _ _ (NH3.out.cell 0 _ rfl)
        have u3 : hb9 < w2.heap.size := by
          obtain ⟨_, _, e1, h, _⟩ := H3.out.1 (by omega)
          injection e1 with e1; injection e1 with e1 e2
          omega
        have hwb := B3.out.size
        have hw0 := A0.out.size
        simp only at u1 u2
        exact ⟨(only_cell (by omega)).trans c1, (only_cell (by omega)).trans c4, (only_cell (by omega)).trans c5, (only_cell (by omega)).trans c2, (only_cell (by omega)).trans c3, (only_cell (by omega)).trans c6, (only_cell (by omega)).trans c7⟩
      clear hK K
      refine wpAnyH_done (by kernel_rfl) ?_ _
      refine ⟨((KeepsOthers.setCell W _ _).trans (KeepsOthers.drew _)).from _, ⟨by simp, fun b h1 h2 => Go.Deep.blk_setCell_other _ _ _ _ h2⟩, ⟨(only_cell (by omega)).trans c1, ?_, by simpa using hs1⟩, (below_setAt HB1.out (Nat.le_refl _) _).trans (below_drewN (Below.refl _ _) 1)⟩
      rw [HSN.out, HSP.out]
      exact (HG1.out.set pp (.int .i64 ((((Y e).toNat ^^^ xorN C (eH seed q S e) 3 : Nat)) : Int))).congr (fun j _ => by unfold intV upd; split <;> rfl)
    case done =>
      rintro D' ys W hD hys ⟨⟨hc1, hg1, hs1⟩, hB1⟩ hK
      rw [hys] at hg1
      have HC1 := Lib.hid hc1
      have HG1 := Lib.hid hg1
      have HB1 := Lib.hid hB1
      have HKD := Lib.hid hK
      clear hc1 hg1 hB1 hK
      have N4 := Lib.hid (N3.out.b HB1.out)
      have c1 := HC1.out
      have r0 := N4.out.cell 0 _ rfl
      have r1 := N4.out.cell 1 _ rfl
      have r2 := N4.out.cell 2 _ rfl
      have r3 := N4.out.cell 3 _ rfl
      have g0 := N4.out.free 0
      have g1 := N4.out.free 1
      have g2 := N4.out.free 2
      have g3 := N4.out.free 3
      simp only [World.size_alloc] at r0 r1 r2 r3 g0 g1 g2 g3 N4
      gi_wp2_with (fail)
      have N5 := Lib.hid ((((N4.out.set 0 (.int .i64 seed)).set 1 (.int .i64 q)).set 2 (.int .i64 v)).set 3 (.slice (some ⟨w2.heap.size, 0, none⟩) z z))
      have hw2 : w.heap.size + 1 < w2.heap.size := by have := World.block_lt_of_cell? _ _ (N3.out.cell 0 _ rfl); simpa using this
      have hA0 := A0.out.size
      have BW := Lib.hid (below_setAt (b := w.heap.size + 1) (o := 3) (below_setAt (b := w.heap.size + 1) (o := 2) (below_setAt (b := w.heap.size + 1) (o := 1) (below_setAt (b := w.heap.size + 1) (o := 0) (B3.out.trans (HB1.out.mono B3.out.size)) (Nat.le_succ _) (.int .i64 seed)) (Nat.le_succ _) (.int .i64 q)) (Nat.le_succ _) (.int .i64 v)) (Nat.le_succ _) (.slice (some ⟨w2.heap.size, 0, none⟩) z z))
      have HBL := Lib.hid (fun (b : Nat) (h : b ≠ w.heap.size + 1) => show ((((W.setCell ⟨w.heap.size + 1, 0, none⟩ (.int .i64 seed)).setCell ⟨w.heap.size + 1, 1, none⟩ (.int .i64 q)).setCell ⟨w.heap.size + 1, 2, none⟩ (.int .i64 v)).setCell ⟨w.heap.size + 1, 3, none⟩ (.slice (some ⟨w2.heap.size, 0, none⟩) z z)).heap[b]? = W.heap[b]? from (Go.Deep.blk_setCell_other _ _ _ _ h).trans ((Go.Deep.blk_setCell_other _ _ _ _ h).trans ((Go.Deep.blk_setCell_other _ _ _ _ h).trans (Go.Deep.blk_setCell_other _ _ _ _ h))))
      generalize (((W.setCell ⟨w.heap.size + 1, 0, none⟩ (.int .i64 seed)).setCell ⟨w.heap.size + 1, 1, none⟩ (.int .i64 q)).setCell ⟨w.heap.size + 1, 2, none⟩ (.int .i64 v)).setCell ⟨w.heap.size + 1, 3, none⟩ (.slice (some ⟨w2.heap.size, 0, none⟩) z z) = W5 at *
      have hk5 := (HBL.out D' (by omega)).trans HKD.out
      have N6 := Lib.hid (show NBX _ _ _ 57 (W5.putObj D' (.deferred none)) from ⟨(World.putObj_heap_other (by omega)).trans N5.out.blk, N5.out.ge⟩)
      have s0 := N6.out.cell 0 (.int .i64 seed) (by simp)
      have s1 := N6.out.cell 1 (.int .i64 q) (by simp)
      have s2 := N6.out.cell 2 (.int .i64 v) (by simp)
      have s3 := N6.out.cell 3 (.slice (some ⟨w2.heap.size, 0, none⟩) z z) (by simp)
      have GO := Lib.hid (show GOwn (W5.putObj D' (.deferred none)) 3 w2.heap.size z (intV (tpF E P (eH seed q S) Y (backL k k))) from by
        obtain ⟨cc, k1, k2, k3⟩ := HG1.out
        exact ⟨cc, (World.putObj_heap_other (by omega)).trans ((HBL.out _ (by omega)).trans k1), k2, k3⟩)
      refine ⟨by simp, .inl ⟨_, _, rfl, run_takeDeferred hk5, ?_⟩⟩
      refine ⟨.tuple #[.agg #[.int .i64 seed, .int .i64 q, .int .i64 v, (.slice (some ⟨w2.heap.size, 0, none⟩) z z)], .bool true], by simp [results, Try.results87, go_sem, s0, s1, s2, s3], ?_⟩
      refine HFIN.out _ _ (fun h => absurd h (by have := HL.out; omega)) (fun _ => ?_)
      exact ⟨_, _, rfl, (ow_of_own (m := z) GO.out (Nat.le_refl _) (Nat.le_refl _)).mono (by omega) (by simp), BW.out.trans (belowK_b (w := w2) (by omega) W5 D' _ _ (by omega) hk5 rfl rfl)⟩
    case stop =>
      rintro D' c' pre W _ _ h _
      exact h.elim
  · obtain ⟨A, c, rfl⟩ := hp hL
    have HL := Lib.hid hL
    clear h0 hp hL
    have hal := (Below.refl w1.heap.size w1).alloc (Nat.le_refl _) (.cells #[.int .i64 z, .slice A n c] 109)
    have N2 := Lib.hid (N1.out.b hal)
    have B2 := Lib.hid (B1.out.trans (hal.mono B1.out.size))
    clear hal
    have r0 := N2.out.cell 0 _ rfl
    have r1 := N2.out.cell 1 _ rfl
    have r2 := N2.out.cell 2 _ rfl
    have r3 := N2.out.cell 3 _ rfl
    have g0 := N2.out.free 0
    have g1 := N2.out.free 1
    have g2 := N2.out.free 2
    have g3 := N2.out.free 3
    simp only [World.size_alloc] at r0 r1 r2 r3 g0 g1 g2 g3 N2
    gi_wp2_with (fail)
    refine ⟨trivial, ?_⟩
    gi_wp2_with (fail)
    have N4 := Lib.hid ((((N2.out.set 0 (.int .i64 0)).set 1 (.int .i64 0)).set 2 (.int .i64 0)).set 3 (.slice none 0 0))
    have s0 := N4.out.cell 0 (.int .i64 0) (by simp)
    have s1 := N4.out.cell 1 (.int .i64 0) (by simp)
    have s2 := N4.out.cell 2 (.int .i64 0) (by simp)
    have s3 := N4.out.cell 3 (.slice none 0 0) (by simp)
    refine ⟨.tuple #[.agg #[.int .i64 0, .int .i64 0, .int .i64 0, .slice none 0 0], .bool false], by simp [results, Try.results87, go_sem, s0, s1, s2, s3], ?_⟩
    refine HFIN.out _ _ (fun _ => ?_) (fun h => absurd h (by have := HL.out; omega))
    exact ⟨none, 0, rfl, ow_zero _ _ _ _ _ _, below_setAt (below_setAt (below_setAt (below_setAt B2.out (Nat.le_succ _) _) (Nat.le_succ _) _) (Nat.le_succ _) _) (Nat.le_succ _) _⟩
end
end Go.Proofs.Ytpajbcgdoedleab

/- TableByPeeling: the program's, where its arguments don't do. -/
namespace Go.Proofs.Ytpajbcgdoedleab
open Go.RowKit

section
variable {seed : Int} {KA VA : Option Addr} {n kc m vc : Nat} {S : Nat → ByteArray} {Y : Nat → Int} {w : World}
set_option maxRecDepth 100000 in
set_option maxHeartbeats 4000000 in
theorem impl_tableByPeeling_no {g v : Int} (hn : n ≤ 1048576) (hm : m ≤ 1048576) (hs : ∀ i, i < n → (S i).size ≤ maxLen) (hk : GRow w KA n (strV S)) (hr : IRow w VA m Y) (hno : ¬ (keyedB seed S n g = true ∧ TpV v m Y n)) :
    Calls Try.prog 87 #[.int .i64 seed, .slice KA n kc, .slice VA m vc, .int .i64 g, .int .i64 v] w (TaOwn 0 0 0 0 (fun _ => 0) false w) := by
  have N0 := Lib.hid (nbx0 (w.alloc (.cells #[.slice VA m vc] 22)) #[.int .i64 0, .int .i64 0, .int .i64 0, .slice none 0 0] 57)
  have V0 := Lib.hid ((nbx0 w #[.slice VA m vc] 22).b ((Below.refl _ _).alloc (Nat.le_refl _) (.cells #[.int .i64 0, .int .i64 0, .int .i64 0, .slice none 0 0] 57)))
  have B0 := Lib.hid (((Below.refl w.heap.size w).alloc (Nat.le_refl _) (.cells #[.slice VA m vc] 22)).alloc (by simp) (.cells #[.int .i64 0, .int .i64 0, .int .i64 0, .slice none 0 0] 57))
  simp only [World.size_alloc] at N0
  have HS := Lib.hid hs
  have HK := Lib.hid hk
  have HY := Lib.hid hr
  have HNO := Lib.hid hno
  clear hs hk hr hno
  rcases hkb : keyedB seed S n g with _ | _
  · have HKB := Lib.hid hkb
    clear hkb
    go_enter Try.func87, Try.ntmps87
    go_wp2_with fail
    refine (impl_peelKeys_no (kc := kc) hn HS.out (HK.out.b B0.out) HKB.out).mono ?_; rintro e w1 ⟨rfl, hb⟩
    have hal := (Below.refl w1.heap.size w1).alloc (Nat.le_refl _) (.cells #[.int .i64 0, .slice none 0 0] 109)
    have N2 := Lib.hid ((N0.out.b hb).b hal)
    have B2 := Lib.hid ((B0.out.trans (hb.mono B0.out.size)).trans (hal.mono (Nat.le_trans B0.out.size hb.size)))
    clear hb hal
    have r0 := N2.out.cell 0 _ rfl
    have r1 := N2.out.cell 1 _ rfl
    have r2 := N2.out.cell 2 _ rfl
    have r3 := N2.out.cell 3 _ rfl
    have g0 := N2.out.free 0
    have g1 := N2.out.free 1
    have g2 := N2.out.free 2
    have g3 := N2.out.free 3
    go_wp2_with fail
    have N4 := Lib.hid ((((N2.out.set 0 (.int .i64 0)).set 1 (.int .i64 0)).set 2 (.int .i64 0)).set 3 (.slice none 0 0))
    have s0 := N4.out.cell 0 (.int .i64 0) (by simp)
    have s1 := N4.out.cell 1 (.int .i64 0) (by simp)
    have s2 := N4.out.cell 2 (.int .i64 0) (by simp)
    have s3 := N4.out.cell 3 (.slice none 0 0) (by simp)
    refine bodyPost_ret (v := .tuple #[.agg #[.int .i64 0, .int .i64 0, .int .i64 0, .slice none 0 0], .bool false]) (by simp [results, Try.results87, go_sem, s0, s1, s2, s3]) rfl ?_
    exact ⟨none, 0, rfl, ow_zero _ _ _ _ _ _, below_setAt (below_setAt (below_setAt (below_setAt B2.out (Nat.le_succ _) _) (Nat.le_succ _) _) (Nat.le_succ _) _) (Nat.le_succ _) _⟩
  · have hky := hkb
    unfold keyedB at hky
    simp only [Bool.and_eq_true, decide_eq_true_eq] at hky
    obtain ⟨⟨hsd, hkk⟩, h1, h2⟩ := hky
    obtain ⟨q, rfl⟩ : ∃ q : Nat, g = q := ⟨g.toNat, by omega⟩
    have h1' : 1 ≤ q := by omega
    have h2' : q ≤ 24 := by omega
    have HNV := Lib.hid (show ¬ TpV v m Y n from fun h => HNO.out ⟨hkb, h⟩)
    clear hkb
    obtain ⟨z, hz⟩ : ∃ z, z = 3 * q := ⟨_, rfl⟩
    have HZ := Lib.hid hz
    clear hz
    go_enter Try.func87, Try.ntmps87
    go_wp2_with fail
    refine (impl_peelKeys (kc := kc) HS.out (HK.out.b B0.out) hsd hkk h1' h2').mono ?_
    rintro e w1 hpost
    rw [← HZ.out] at hpost
    obtain ⟨k, _, _, hb, h0, hp⟩ := hpost
    have N1 := Lib.hid (N0.out.b hb)
    have V1 := Lib.hid (V0.out.b hb)
    have B1 := Lib.hid (B0.out.trans (hb.mono B0.out.size))
    clear hb
    rcases Nat.eq_zero_or_pos (leftL (goneS z (fun _ => 3) (eH seed q S) n zeroC k) n).length with hL | hL
    · obtain ⟨A, c, SA, sc, rfl, _, _⟩ := h0 hL
      clear h0 hp hL
      have hal := (Below.refl w1.heap.size w1).alloc (Nat.le_refl _) (.cells #[.int .i64 z, .slice A n c] 109)
      have N2 := Lib.hid (N1.out.b hal)
      have V2 := Lib.hid (V1.out.b hal)
      have B2 := Lib.hid (B1.out.trans (hal.mono B1.out.size))
      clear hal
      have v0 := V2.out.cell 0 _ rfl
      go_wp2_with fail
      refine (impl_areValues (b := false) (by simp only [Bool.false_eq_true, false_iff]; exact HNV.out) hm (IRow.b HY.out B2.out)).mono ?_; rintro e w2 ⟨rfl, hb⟩
      have N3 := Lib.hid (N2.out.b hb)
      have B3 := Lib.hid (B2.out.trans (hb.mono B2.out.size))
      clear hb v0
      have r0 := N3.out.cell 0 _ rfl
      have r1 := N3.out.cell 1 _ rfl
      have r2 := N3.out.cell 2 _ rfl
      have r3 := N3.out.cell 3 _ rfl
      have g0 := N3.out.free 0
      have g1 := N3.out.free 1
      have g2 := N3.out.free 2
      have g3 := N3.out.free 3
      go_wp2_with fail
      have N4 := Lib.hid ((((N3.out.set 0 (.int .i64 0)).set 1 (.int .i64 0)).set 2 (.int .i64 0)).set 3 (.slice none 0 0))
      have s0 := N4.out.cell 0 (.int .i64 0) (by simp)
      have s1 := N4.out.cell 1 (.int .i64 0) (by simp)
      have s2 := N4.out.cell 2 (.int .i64 0) (by simp)
      have s3 := N4.out.cell 3 (.slice none 0 0) (by simp)
      refine bodyPost_ret (v := .tuple #[.agg #[.int .i64 0, .int .i64 0, .int .i64 0, .slice none 0 0], .bool false]) (by simp [results, Try.results87, go_sem, s0, s1, s2, s3]) rfl ?_
      exact ⟨none, 0, rfl, ow_zero _ _ _ _ _ _, below_setAt (below_setAt (below_setAt (below_setAt B3.out (Nat.le_succ _) _) (Nat.le_succ _) _) (Nat.le_succ _) _) (Nat.le_succ _) _⟩
    · obtain ⟨A, c, rfl⟩ := hp hL
      clear h0 hp hL
      have hal := (Below.refl w1.heap.size w1).alloc (Nat.le_refl _) (.cells #[.int .i64 z, .slice A n c] 109)
      have N2 := Lib.hid (N1.out.b hal)
      have B2 := Lib.hid (B1.out.trans (hal.mono B1.out.size))
      clear hal
      have r0 := N2.out.cell 0 _ rfl
      have r1 := N2.out.cell 1 _ rfl
      have r2 := N2.out.cell 2 _ rfl
      have r3 := N2.out.cell 3 _ rfl
      have g0 := N2.out.free 0
      have g1 := N2.out.free 1
      have g2 := N2.out.free 2
      have g3 := N2.out.free 3
      go_wp2_with fail
      have N4 := Lib.hid ((((N2.out.set 0 (.int .i64 0)).set 1 (.int .i64 0)).set 2 (.int .i64 0)).set 3 (.slice none 0 0))
      have s0 := N4.out.cell 0 (.int .i64 0) (by simp)
      have s1 := N4.out.cell 1 (.int .i64 0) (by simp)
      have s2 := N4.out.cell 2 (.int .i64 0) (by simp)
      have s3 := N4.out.cell 3 (.slice none 0 0) (by simp)
      refine bodyPost_ret (v := .tuple #[.agg #[.int .i64 0, .int .i64 0, .int .i64 0, .slice none 0 0], .bool false]) (by simp [results, Try.results87, go_sem, s0, s1, s2, s3]) rfl ?_
      exact ⟨none, 0, rfl, ow_zero _ _ _ _ _ _, below_setAt (below_setAt (below_setAt (below_setAt B2.out (Nat.le_succ _) _) (Nat.le_succ _) _) (Nat.le_succ _) _) (Nat.le_succ _) _⟩
end
end Go.Proofs.Ytpajbcgdoedleab

/- The law of TableByPeeling, walked: what both sides answer comes in as hypotheses. -/
namespace Go.Proofs.Ytpajbcgdoedleab
open Go.RowKit

theorem TaOwn.row {z0 z1 z2 : Int} {n : Nat} {X : Nat → Int} {b : Bool} {w w' : World} {e : Ending} (h : TaOwn z0 z1 z2 n X b w e w') : ∃ A c, e = .returned (.tuple #[.agg #[.int .i64 z0, .int .i64 z1, .int .i64 z2, .slice A n c], .bool b]) ∧ GRow w' A n (intV X) ∧ Below w.heap.size w w' := by
  obtain ⟨A, c, h1, h2, h3⟩ := h
  exact ⟨A, c, h1, (Ow.rd h2).row (Nat.le_refl _), h3⟩
theorem tpPost_two {seed : Int} {q v n : Nat} {S : Nat → ByteArray} {Y : Nat → Int} : ∃ (z0 z1 z2 : Int) (m : Nat) (X : Nat → Int) (b : Bool), m ≤ 3 * q ∧ ∀ (w : World) (e : Ending) (w' : World), TpPost seed q v (3 * q) n S Y w e w' → TaOwn z0 z1 z2 m X b w e w' := by
  obtain ⟨k, hk, hf⟩ := goes_ex (3 * q) (fun _ => 3) (eH seed q S) n zeroC
  rcases Nat.eq_zero_or_pos (leftL (goneS (3 * q) (fun _ => 3) (eH seed q S) n zeroC k) n).length with hL | hL
  · refine ⟨seed, q, v, 3 * q, tpF (stE (3 * q) (fun _ => 3) (eH seed q S) n zeroC) (stP (3 * q) (fun _ => 3) (eH seed q S) n zeroC) (eH seed q S) Y (backL k k), true, Nat.le_refl _, fun w e w' h => ?_⟩
    obtain ⟨j, hj, hg, h1, h2⟩ := h
    obtain rfl := goes_same hk hf hj hg
    exact h1 hL
  · refine ⟨0, 0, 0, 0, fun _ => 0, false, Nat.zero_le _, fun w e w' h => ?_⟩
    obtain ⟨j, hj, hg, h1, h2⟩ := h
    obtain rfl := goes_same hk hf hj hg
    exact h2 hL
end Go.Proofs.Ytpajbcgdoedleab
