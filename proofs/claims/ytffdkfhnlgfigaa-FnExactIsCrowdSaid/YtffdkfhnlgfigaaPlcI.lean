/- Placements: the program's sets of cells and its check. -/
import Derived.Test.YtffdkfhnlgfigaaPlcM
import Derived.Test.YtffdkfhnlgfigaaContI
import Derived.Test.YtffdkfhnlgfigaaBitmath
namespace Go.Proofs.Ytffdkfhnlgfigaa
open Go.RowKit

theorem infoCs : (Try.prog.info? 124).map (fun i => (i.zero, i.size, i.bytes)) = some (some (.int .u64 0), 1, 8) := by kernel_rfl
theorem ofInt_u64 (a : Nat) (ha : a < 18446744073709551616) : (BitVec.ofInt 64 (a : Int)).toNat = a := by
  rw [BitVec.ofInt_natCast, BitVec.toNat_ofNat]; exact Nat.mod_eq_of_lt (by omega)
theorem two64 {p : Nat} (hp : p < 64) : 2 ^ p < 18446744073709551616 := by
  have : 2 ^ p < 2 ^ 64 := Nat.pow_lt_pow_right (by omega) hp
  omega
theorem u64_or_nat (a b : Nat) (ha : a < 18446744073709551616) (hb : b < 18446744073709551616) : bits .or .u64 (a : Int) (b : Int) = ((a ||| b : Nat) : Int) := by
  have hx : a ||| b < 2 ^ 64 := Nat.or_lt_two_pow (by omega) (by omega)
  show IntKind.u64.wrap ((BitVec.ofInt 64 (a : Int) ||| BitVec.ofInt 64 (b : Int)).toNat : Int) = _
  rw [BitVec.toNat_or, ofInt_u64 a ha, ofInt_u64 b hb, IntKind.wrap_u64]
  omega
theorem u64_and_one (a : Nat) (ha : a < 18446744073709551616) : bits .and .u64 (a : Int) 1 = ((a % 2 : Nat) : Int) := by
  show IntKind.u64.wrap ((BitVec.ofInt 64 (a : Int) &&& BitVec.ofInt 64 ((1 : Nat) : Int)).toNat : Int) = _
  rw [BitVec.toNat_and, ofInt_u64 a ha, ofInt_u64 1 (by omega), IntKind.wrap_u64, Nat.and_one_is_mod]
  omega
/-- The set of the first q cells. -/
def setN (V : Nat → Int) : Nat → Nat
  | 0 => 0
  | q + 1 => setN V q ||| 2 ^ (V q).toNat
theorem setN_lt {V : Nat → Int} (h : ∀ k, k < 2 → ∃ p : Nat, V k = (p : Int) ∧ p < 64) : ∀ q, q ≤ 2 → setN V q < 18446744073709551616
  | 0, _ => by unfold setN; omega
  | q + 1, hq => by
    obtain ⟨p, h1, h2⟩ := h q (by omega)
    unfold setN
    rw [h1, Int.toNat_natCast]
    have a := setN_lt h q (by omega)
    have b := two64 h2
    have := Nat.or_lt_two_pow (n := 64) (x := setN V q) (y := 2 ^ p) (by omega) (by omega)
    omega
theorem setN_bit {V : Nat → Int} (h : ∀ k, k < 2 → ∃ p : Nat, V k = (p : Int) ∧ p < 64) (c : Nat) : ∀ q, q ≤ 2 → ((setN V q).testBit c = true ↔ ∃ k, k < q ∧ V k = (c : Int))
  | 0, _ => by unfold setN; simp
  | q + 1, hq => by
    obtain ⟨p, h1, h2⟩ := h q (by omega)
    unfold setN
    rw [Nat.testBit_or, Bool.or_eq_true, setN_bit h c q (by omega), h1, Int.toNat_natCast, Nat.testBit_two_pow]
    simp only [decide_eq_true_eq]
    constructor
    · rintro (⟨k, k1, k2⟩ | e)
      · exact ⟨k, by omega, k2⟩
      · exact ⟨q, by omega, by rw [h1, e]⟩
    · rintro ⟨k, k1, k2⟩
      by_cases e : k = q
      · subst e; exact .inr (by rw [h1] at k2; omega)
      · exact .inl ⟨k, by omega, k2⟩
def setV (V : Nat → Nat → Int) (i : Nat) : Value := .int .u64 (setN (V i) 2 : Nat)
/-- The sets under way. -/
def wayV (V : Nat → Nat → Int) (k q : Nat) (j : Nat) : Value := .int .u64 ((if j < k then setN (V j) 2 else if j = k then setN (V k) q else 0 : Nat) : Int)
theorem wayV_next (V : Nat → Nat → Int) (k j : Nat) : wayV V k 2 j = wayV V (k + 1) 0 j := by
  unfold wayV
  by_cases h1 : j < k
  · rw [if_pos h1, if_pos (by omega)]
  · by_cases h2 : j = k
    · subst h2; rw [if_neg h1, if_pos rfl, if_pos (by omega)]
    · rw [if_neg h1, if_neg h2, if_neg (by omega)]
      by_cases h3 : j = k + 1
      · subst h3; rw [if_pos rfl]; rfl
      · rw [if_neg h3]
theorem wayV_set (V : Nat → Nat → Int) (k q j : Nat) : (if j = k then Value.int .u64 ((setN (V k) (q + 1) : Nat) : Int) else wayV V k q j) = wayV V k (q + 1) j := by
  unfold wayV
  by_cases h2 : j = k
  · subst h2; rw [if_pos rfl, if_neg (by omega), if_pos rfl]
  · rw [if_neg h2, if_neg h2, if_neg h2]
/-- What cellSetsOf answers. -/
def SetsIs (n : Nat) (V : Nat → Nat → Int) (ok : Bool) (w : World) (e : Ending) (w' : World) : Prop :=
  Below w.heap.size w w' ∧ ((ok = false ∧ e = .returned (.tuple #[.slice none 0 0, .bool false])) ∨ (ok = true ∧ ∃ A c, e = .returned (.tuple #[.slice A n c, .bool true]) ∧ GRow w' A n (setV V)))
theorem celV2_bd {z P : Int} {S : Nat → ByteArray} (h : sizeB z P = true) (i k : Nat) : ∃ p : Nat, celV2 z P S i k = (p : Int) ∧ p < 64 := by
  obtain ⟨_, _, p1, p2⟩ := sizeB_out h
  obtain ⟨P, rfl⟩ := Int.eq_ofNat_of_zero_le (show 0 ≤ P by omega)
  obtain ⟨q, h1, h2⟩ := celF_bd (z := z) (x := (S i).data.toList) (P := P) k (by omega)
  exact ⟨q, h1, by omega⟩
set_option maxRecDepth 100000 in
set_option maxHeartbeats 2000000 in
theorem impl_cellSetsOf (z P : Int) (KA : Option Addr) (n kc : Nat) (S : Nat → ByteArray) (w : World) (hn : n ≤ 1048576) (hs : ∀ i, i < n → (S i).size ≤ maxLen) (hr : GRow w KA n (strV S)) :
    Calls Try.prog 87 #[.int .i64 z, .slice KA n kc, .int .i64 P] w (SetsIs n (celV2 z P S) (sizeB z P && keysB S n) w) := by
  have HR := Lib.hid hr
  have HS := Lib.hid hs
  clear hr hs
  cases h1 : sizeB z P with
  | false =>
    go_enter Try.func87, Try.ntmps87
    go_wp2_with fail
    refine (impl_hasCells z P _).mono ?_; rintro e w' ⟨rfl, rfl⟩
    rw [h1]
    go_wp2_with fail
    go_ret2
    exact ⟨Below.refl _ _, .inl ⟨rfl, rfl⟩⟩
  | true =>
    cases h2 : keysB S n with
    | false =>
      go_enter Try.func87, Try.ntmps87
      go_wp2_with fail
      refine (impl_hasCells z P _).mono ?_; rintro e w' ⟨rfl, rfl⟩
      rw [h1]
      go_wp2_with fail
      refine (impl_areKeys KA n kc S _ hn HS.out HR.out).mono ?_; rintro e w' ⟨rfl, rfl⟩
      rw [h2]
      go_wp2_with fail
      go_ret2
      exact ⟨Below.refl _ _, .inl ⟨rfl, rfl⟩⟩
    | true =>
      have hmk := fun W => run_make_row' (P := Try.prog) 121 124 (.int .u64 0) 8 Try.underlying121 infoCs rfl .i64 .i64 n (by omega) (by omega) W
      have O0 := Lib.hid (show GOwn (w.alloc (.cells (madeCells #[.int .u64 0] n) 124)) 124 w.heap.size n (wayV (celV2 z P S) 0 0) from
        (GOwn.made w 124 (.int .u64 0) n).congr (fun i _ => by unfold wayV; rw [if_neg (by omega)]; by_cases e : i = 0 <;> simp [e, setN]))
      have B0 := Lib.hid ((Below.refl w.heap.size w).alloc (Nat.le_refl _) (.cells (madeCells #[.int .u64 0] n) 124))
      have HC := Lib.hid (fun i (hi : i < n) W => impl_cellsOf z P (S i) W (HS.out i hi) h1)
      have HD := Lib.hid (fun i k => celV2_bd (S := S) h1 i k)
      have HL := Lib.hid (fun i q (hq : q ≤ 2) => setN_lt (V := celV2 z P S i) (fun k _ => celV2_bd h1 i k) q hq)
      go_enter Try.func87, Try.ntmps87
      go_wp2_with fail
      refine (impl_hasCells z P _).mono ?_; rintro e w' ⟨rfl, rfl⟩
      rw [h1]
      go_wp2_with fail
      refine (impl_areKeys KA n kc S _ hn HS.out HR.out).mono ?_; rintro e w' ⟨rfl, rfl⟩
      rw [h2]
      go_wp2_with fail
      clear hmk
      go_loopw [27] (fun i wr => ∃ k : Nat, k ≤ n ∧ i = .int .i64 k ∧ Hid (GOwn wr 124 w.heap.size n (wayV (celV2 z P S) k 0)) ∧ Hid (Below w.heap.size w wr)) (fun i _ => n - (intOf i).toNat)
      case atStart => exact ⟨0, Nat.zero_le _, rfl, O0, B0⟩
      case round =>
        obtain ⟨k, hk, rfl, HO, HB⟩ := hrel
        have hsz := HB.out.size
        by_cases hlt : k < n
        · obtain ⟨b, off, hKA, _, hc⟩ := HR.out.below HB.out (Nat.le_refl _) (by omega)
          subst hKA
          have hck := hc k hlt
          unfold strV at hck
          clear hc
          have HC1 := HC.out k hlt wr
          have hgl := HO.out.lt
          go_wp2_with fail
          refine HC1.mono ?_; rintro e w2 ⟨rfl, rfl⟩
          have HX := Lib.hid (celW_orow z (S k).data.toList P wr)
          have HB2 := Lib.hid (celW_below z (S k).data.toList P wr)
          unfold celV
          generalize celW z (S k).data.toList P wr = w2 at *
          have hs2 := HB2.out.size
          have HO2 := Lib.hid (HO.out.b HB2.out)
          have HB3 := Lib.hid (HB.out.trans (HB2.out.mono hsz))
          generalize wr.heap.size = gx at *
          go_wp2_with fail
          go_loopw [37] (fun i wr => ∃ q : Nat, q ≤ 2 ∧ i = .int .i64 q ∧ Hid (GOwn wr 124 w.heap.size n (wayV (celV2 z P S) k q)) ∧ Hid (Below w.heap.size w wr) ∧ Hid (ORow wr gx 2 (celV2 z P S k))) (fun i _ => 2 - (intOf i).toNat)
          case atStart => exact ⟨0, by omega, rfl, HO2, HB3, HX⟩
          case round =>
            obtain ⟨q, hq, rfl, HO4, HB4, HX4⟩ := hrel
            by_cases hq2 : q < 2
            · obtain ⟨p, hp1, hp2⟩ := HD.out k q
              have hx := HX4.out.cell hq2
              rw [hp1] at hx
              have hy := HO4.out.cell hlt
              have hf := HO4.out.frozen k
              have HY := Lib.hid (show wayV (celV2 z P S) k q k = .int .u64 ((setN (celV2 z P S k) q : Nat) : Int) by unfold wayV; rw [if_neg (by omega), if_pos rfl])
              rw [HY.out] at hy
              have HE := Lib.hid (show setN (celV2 z P S k) (q + 1) = setN (celV2 z P S k) q ||| 2 ^ p by rw [setN, hp1, Int.toNat_natCast])
              have HLq := Lib.hid (HL.out k q (by omega))
              have HW := Lib.hid (two64 hp2)
              have HOR := Lib.hid (show bits .or .u64 ((setN (celV2 z P S k) q : Nat) : Int) (IntKind.u64.wrap (2 ^ p)) = ((setN (celV2 z P S k) (q + 1) : Nat) : Int) by
                have e : ((2 : Int) ^ p) = ((2 ^ p : Nat) : Int) := by push_cast; rfl
                have hW := HW.out
                have e2 : IntKind.u64.wrap ((2 ^ p : Nat) : Int) = ((2 ^ p : Nat) : Int) := (show ∀ x : Nat, x < 18446744073709551616 → IntKind.u64.wrap (x : Int) = (x : Int) from fun x hx => by rw [IntKind.wrap_u64]; omega) _ hW
                rw [e, e2, HE.out]
                exact u64_or_nat _ _ HLq.out hW)
              have HO6 := Lib.hid (((HO4.out.set k (.int .u64 ((setN (celV2 z P S k) (q + 1) : Nat) : Int))).congr (fun j _ => wayV_set (celV2 z P S) k q j)).drewN 1)
              have HB6 := Lib.hid (below_drewN (below_setAt (b := w.heap.size) (o := k) HB4.out (Nat.le_refl _) (.int .u64 ((setN (celV2 z P S k) (q + 1) : Nat) : Int))) 1)
              have HX6 := Lib.hid ((HX4.out.setAt (b := w.heap.size) (o := k) (by omega) (.int .u64 ((setN (celV2 z P S k) (q + 1) : Nat) : Int))).drewN 1)
              clear hp1
              go_wp2_with fail
              go_region
              go_wp2_with fail
              rw [HOR.out]
              go_roundw
              case rel => exact ⟨q + 1, by omega, by go_num, HO6, HB6, HX6⟩
              case measure => simp [intOf]; omega
            · obtain rfl : q = 2 := by omega
              have HO5 := Lib.hid (HO4.out.congr (fun j _ => wayV_next (celV2 z P S) k j))
              go_wp2_with fail
              go_roundw
              case rel => exact ⟨k + 1, by omega, by go_num, HO5, HB4⟩
              case measure => simp [intOf]; omega
        · obtain rfl : k = n := by omega
          go_wp2_with fail
          go_ret2
          exact ⟨HB.out, .inr ⟨rfl, _, _, rfl, (HO.out.congr (fun j hj => by unfold wayV setV; rw [if_pos hj])).row⟩⟩
end Go.Proofs.Ytffdkfhnlgfigaa
