/- The model's Hyper of keys. -/
import Derived.Test.YtpajbcgdoedleabPush
import Derived.Test.YtpajbcgdoedleabKeyRow
import Derived.Test.YtpajbcgdoedleabLoads
import Derived.Deep.DeepCutAuto
namespace Go.Proofs.Ytpajbcgdoedleab
open Go.RowKit

/-- The places of a key's edge. -/
def eH (seed seg : Int) (S : Nat → ByteArray) (i j : Nat) : Int := placeI seed j (S i).data.toList seg + j * seg
theorem eH_bd {seed : Int} {g : Nat} {S : Nat → ByteArray} {i j : Nat} (h1 : 1 ≤ g) (_h2 : g ≤ 24) (hj : j < 3) : 0 ≤ placeI seed j (S i).data.toList (g : Int) ∧ placeI seed j (S i).data.toList (g : Int) < g ∧ 0 ≤ ((j * g : Nat) : Int) ∧ (j * g : Nat) ≤ 48 := by
  obtain ⟨h3, h4⟩ := placeI_bd seed j (S i).data.toList g (by omega)
  refine ⟨h3, h4, by omega, ?_⟩
  have : j * g ≤ 2 * 24 := Nat.mul_le_mul (by omega) (by omega)
  omega
theorem seedB_part {seed : Int} (h : seedB seed 0 = true) (j : Nat) (hj : j < 3) : seedB seed j = true := by
  unfold seedB at *
  simp only [decide_eq_true_eq] at *
  omega
set_option maxRecDepth 100000 in
set_option maxHeartbeats 2000000 in
theorem spec_peTriple (seed : Int) (g : Nat) (S : Nat → ByteArray) (i : Nat) (w : World) (hs : (S i).size ≤ maxLen) (hsd : seedB seed 0 = true) (h1 : 1 ≤ g) (h2 : g ≤ 24) :
    Calls Try.prog 121 #[.int .i64 seed, .string (S i), .int .i64 g] w fun e w' => ∃ A c, e = .returned (.slice A 3 c) ∧ w'.ownsRow w.heap.size 3 1 (.slice A 3 c) 3 (vals (intV (eH seed g S i)) 3) ∧ Below w.heap.size w w' := by
  go_enter Try.func121, Try.ntmps121
  go_wp2_with fail
  go_loopw [7, 8] (fun v i' wr => ∃ (q : Nat) (A1 : Option Addr) (k1 : Nat), q ≤ 3 ∧ i' = .int .i64 q ∧ v = .slice A1 q k1 ∧ Hid (wr.ownsRow w.heap.size 3 1 (.slice A1 q k1) q (vals (intV (eH seed g S i)) q)) ∧ Hid (Below w.heap.size w wr)) (fun _ i' _ => 3 - (intOf i').toNat)
  case atStart => exact ⟨0, none, 0, by omega, rfl, rfl, Lib.hid (World.ownsRow_nil _ _ _ _), Lib.hid (Below.refl _ _)⟩
  case round =>
    obtain ⟨q, A1, k1, hq, rfl, rfl, HO, HB⟩ := hrel
    have hsz := HB.out.size
    by_cases hlt : q < 3
    · obtain ⟨p0, p1, p2, p3⟩ := eH_bd (seed := seed) (S := S) (i := i) h1 h2 hlt
      have hsq := seedB_part hsd q hlt
      have e1 : IntKind.i64.wrap ((q : Int) * (g : Int)) = ((q * g : Nat) : Int) := by rw [← Int.natCast_mul]; exact IntWalk.i64_in _ (by omega)
      have HV := Lib.hid (show intV (eH seed g S i) q = .int .i64 (placeI seed q (S i).data.toList g + ((q * g : Nat) : Int)) by unfold intV eH; push_cast; rfl)
      have HC := Lib.hid (spec_biPlace seed q g (S i) wr hs hsq (by omega) (by omega))
      generalize placeI seed (q : Int) (S i).data.toList (g : Int) = v at *
      generalize q * g = u at *
      have e2 : IntKind.i64.wrap (v + (u : Int)) = v + (u : Int) := IntWalk.i64_in _ (by omega)
      go_wp2_with fail
      refine HC.out.mono ?_; rintro e w2 ⟨rfl, rfl⟩
      go_wp2_with (at_builtin; refine wpList_push rfl _ _ 22 rfl w.heap.size 3 (.int .i64 0) 8 Try.underlying22 infoI rfl A1 q k1 (intV (eH seed g S i)) (.int .i64 (v + (u : Int))) wr rfl HO.out rfl HV.out rfl (by omega) (by omega) hsz ?_)
      intro A' c' w3 hown' hb3
      have HO3 := Lib.hid hown'
      have HB3 := Lib.hid (HB.out.trans hb3)
      clear hown' hb3 HO HB
      go_wp2_with fail
      go_roundw
      case rel => exact ⟨q + 1, A', c', by omega, by go_num, rfl, HO3, HB3⟩
      case measure => simp [intOf]; omega
    · obtain rfl : q = 3 := by omega
      go_wp2_with fail
      go_ret
      exact ⟨A1, k1, rfl, HO.out, HB.out⟩

theorem PH.start (w : World) (z : Int) (L : Nat → Nat) (V : Nat → Nat → Int) (D : Nat → Option Addr) (dd : Nat → Nat) : PH w z L V 0 D dd none 0 none 0 0 ((w.alloc (.cells #[.int .i64 0, .slice none 0 0] 109)).alloc (.cells #[.int .i64 z, .slice none 0 0] 109)) :=
  ⟨((Below.refl _ _).alloc (Nat.le_refl _) _).alloc (by simp) _, NBX.b ⟨Go.Deep.blk_alloc_new _ _, Nat.le_refl _⟩ ((Below.refl _ _).alloc (Nat.le_refl _) _), ⟨by have := Go.Deep.blk_alloc_new (w.alloc (.cells #[.int .i64 0, .slice none 0 0] 109)) (.cells #[.int .i64 z, .slice none 0 0] 109); simpa using this, by omega⟩, World.ownsRow_nil _ _ _ _, fun j hj => absurd hj (by omega)⟩
set_option maxRecDepth 100000 in
set_option maxHeartbeats 4000000 in
theorem spec_peHyper (seed : Int) (g : Nat) (KA : Option Addr) (n kc : Nat) (S : Nat → ByteArray) (w : World) (hn : n ≤ 40) (hs : ∀ i, i < n → (S i).size ≤ maxLen) (hr : GRow w KA n (strV S)) (hsd : seedB seed 0 = true) (h1 : 1 ≤ g) (h2 : g ≤ 24) :
    Calls Try.prog 108 #[.int .i64 seed, .slice KA n kc, .int .i64 g] w fun e w' => ∃ A c D dd, e = .returned (.agg #[.int .i64 ((3 * g : Nat) : Int), .slice A n c]) ∧ HOwn (w.heap.size + 1) A n c D dd (fun _ => 3) (eH seed g S) w' ∧ Below w.heap.size w w' := by
  have HR := Lib.hid hr
  have HS := Lib.hid hs
  have P0 := Lib.hid (PH.start w ((3 * g : Nat) : Int) (fun _ => 3) (eH seed g S) (fun _ => none) (fun _ => 0))
  have e1 : IntKind.i64.wrap ((3 : Int) * (g : Int)) = ((3 * g : Nat) : Int) := by rw [show (3 : Int) * (g : Int) = ((3 * g : Nat) : Int) by push_cast; rfl]; exact IntWalk.i64_in _ (by omega)
  clear hr hs
  go_enter Try.func108, Try.ntmps108
  go_wp2_with fail
  go_loopw [15] (fun i wr => ∃ (q : Nat) (D : Nat → Option Addr) (dd : Nat → Nat) (A : Option Addr) (c : Nat), q ≤ n ∧ i = .int .i64 q ∧ Hid (PH w ((3 * g : Nat) : Int) (fun _ => 3) (eH seed g S) q D dd A c A q c wr)) (fun i _ => n - (intOf i).toNat)
  case atStart => exact ⟨0, _, _, none, 0, Nat.zero_le _, rfl, P0⟩
  case round =>
    obtain ⟨q, D, dd, A, c, hq, rfl, HP⟩ := hrel
    have hsz := HP.out.size
    have r1 := HP.out.box.cell 1 _ rfl
    have f1 := HP.out.box.free 1
    have r0 := HP.out.box.cell 0 _ rfl
    by_cases hlt : q < n
    · obtain ⟨b, off, rfl, _, hc⟩ := (HR.out.b HP.out.below) (by omega)
      have hcq := hc q hlt
      unfold strV at hcq
      have hsq := HS.out q hlt
      clear hc
      go_upto_region 5 with fail
      go_region_law (first
          | (have hz := R5; clear hz; refine step_pushG rfl (.tmp 20) (.tmp 25) 107 22 (.slice none 0 0) 24 Try.underlying107 infoSl rfl rfl rfl rfl (R5.out.ext A2 c2) CY.out HFV.out rfl ?_ ?_ ?_ ?_; omega; omega; exact R5.out.size; intro A' c' w5 ho5 hg5; have R6 := Lib.hid (R5.out.push ho5 hg5 HX5.out); have k6 := R6.out.box.cell 1 _ rfl; have f6 := R6.out.box.free 1; clear ho5 hg5)
          | (go_simp; go_at_call 121; (refine (spec_peTriple seed g S q _ hsq hsd h1 h2).mono ?_); rintro e w4 ⟨A2, c2, rfl, ho2, hb'⟩; have hb := of_drew hb'; have R4 := Lib.hid (HP.out.b hb); have k4 := R4.out.box.cell 1 _ rfl; have R5 := Lib.hid (R4.out.al (.cells #[.slice A2 3 c2] 22)); have k5 := R5.out.box.cell 1 _ rfl; have HX5 := Lib.hid (owned_low (owned_b ho2 ((Below.refl w4.heap.size w4).alloc (Nat.le_refl _) (.cells #[.slice A2 3 c2] 22))) hsz); have CY := Lib.hid ((boxed w4 #[.slice A2 3 c2] 22).now 0 _ rfl); have HFV := Lib.hid (show sliceV (upd D q A2) (fun _ => 3) (upd dd q c2) q = .slice A2 3 c2 by unfold sliceV upd; rw [if_pos rfl, if_pos rfl]); clear hb hb' ho2))
      all_goals
          have HP2 := Lib.hid R6.out.store
          go_wp2_with fail
          go_roundw
          case rel => exact ⟨q + 1, _, _, A', c', by omega, by go_num, HP2⟩
          case measure => simp [intOf]; omega
    · obtain rfl : q = n := by omega
      have r2 := HP.out.res.cell 0 _ rfl
      have r3 := HP.out.res.cell 1 _ rfl
      have f2 := HP.out.res.free 0
      have f3 := HP.out.res.free 1
      go_wp2_with fail
      refine bodyPost_ret (v := .agg #[.int .i64 ((3 * g : Nat) : Int), .slice A q c]) (by simp [results, Try.results108, go_sem, r2, r3]) rfl ?_
      exact ⟨A, c, D, dd, rfl, ((HP.out.own.away (by omega) _).away (by omega) _).low (by omega), below_setAt (below_setAt HP.out.below (Nat.le_refl _) _) (Nat.le_refl _) _⟩
end Go.Proofs.Ytpajbcgdoedleab
