/- Directories of counts: what they hold; the code's way to them. -/
import Derived.Test.YtockhjdhihehlaaCount
import Derived.Test.YtockhjdhihehlaaGen
import Derived.Test.YtockhjdhihehlaaDir
namespace Go.Proofs.Ytockhjdhihehlaa
open Go.RowKit

abbrev wdR (X : Nat → Int) : Nat → Nat := fun i => (X i).toNat
theorem field_word {W : Nat → Nat} {k : Nat} (h : W k < 65536) : fieldN W (16 * k) 16 = W k := by
  apply Nat.eq_of_testBit_eq
  intro j
  rw [fieldN_bit]
  by_cases c : j < 16
  · simp only [c, decide_true, Bool.true_and]
    unfold bitN
    rw [show (16 * k + j) / 16 = k by omega, show (16 * k + j) % 16 = j by omega]
  · simp only [c, decide_false, Bool.false_and]
    rw [Nat.testBit_lt_two_pow]
    exact Nat.lt_of_lt_of_le h (Nat.pow_le_pow_right (n := 2) (by omega) (show 16 ≤ j by omega))
theorem pc_word {W : Nat → Nat} {k : Nat} (h : W k < 65536) : pcF (W k) = cntN W (16 * k) 16 := by
  rw [← pc_field W 16 (by omega), field_word h]
theorem cnt_word {W : Nat → Nat} {k : Nat} (h : W k < 65536) : cntN W 0 (16 * (k + 1)) = cntN W 0 (16 * k) + pcF (W k) := by
  rw [pc_word h, show 16 * (k + 1) = 16 * k + 16 by omega, cntN_add, Nat.zero_add]
/-- The bits that are on before the s-th block of 64 bits. -/
def supI (W : Nat → Nat) (s : Nat) : Int := cntN W 0 (64 * s)
/-- The bits that are on before the b-th block of 16 bits, in its block of 64. -/
def blkI (W : Nat → Nat) (b : Nat) : Int := cntN W (64 * (b / 4)) (16 * b - 64 * (b / 4))
theorem blk_val (W : Nat → Nat) (b : Nat) : (cntN W 0 (16 * b) : Int) - supI W (b / 4) = blkI W b := by
  unfold supI blkI
  have h := cntN_add W (64 * (b / 4)) (16 * b - 64 * (b / 4)) 0
  rw [show 64 * (b / 4) + (16 * b - 64 * (b / 4)) = 16 * b by omega, Nat.zero_add] at h
  omega
/-- A valid Ranked. -/
def RankOk (z : Int) (n : Nat) (X : Nat → Int) (s : Nat) (Y : Nat → Int) (b : Nat) (Z : Nat → Int) : Prop :=
  Good z n X ∧ ((s : Int) = (z + 63) / 64 ∧ ∀ i, i < s → Y i = supI (wdR X) i) ∧ (b : Int) = (z + 15) / 16 ∧ ∀ i, i < b → Z i = blkI (wdR X) i

set_option maxRecDepth 100000 in
set_option maxHeartbeats 2000000 in
theorem impl_directoryOf (z s : Nat) (A : Option Addr) (n c : Nat) (X : Nat → Int) (w : World) (hn : n ≤ 1048576) (hr : IRow w A n X) (hg : Good z n X) (hs : s = (z + 63) / 64) :
    Calls Try.prog 82 #[.agg #[.int .i64 z, .slice A n c]] w fun e w' => ∃ g h, e = .returned (.tuple #[.slice (some ⟨g, 0, none⟩) s s, .slice (some ⟨h, 0, none⟩) n n]) ∧ w.heap.size ≤ g ∧ w.heap.size ≤ h ∧ g ≠ h ∧ ORow w' g s (supI (wdR X)) ∧ ORow w' h n (blkI (wdR X)) ∧ Below w.heap.size w w' := by
  have L0 := Lib.hid (LS.start (z := (z : Int)) (c := c) hr 58)
  have HR := Lib.hid hr
  have HG := Lib.hid hg
  have hz1 : z ≤ 4096 := by have := hg.2.1; omega
  have hnz : n = (z + 15) / 16 := by have := hg.2.2.1; omega
  have HNZ := Lib.hid hnz
  have HS := Lib.hid hs
  have hn2 : n ≤ 256 := by omega
  have hs2 : s ≤ 64 := by omega
  have hmk := fun W => run_make_row' (P := Try.prog) 22 3 (.int .i64 0) 8 Try.underlying22 infoI rfl .i64 .i64 s (by omega) (by omega) W
  have hmk2 := fun W => run_make_row' (P := Try.prog) 22 3 (.int .i64 0) 8 Try.underlying22 infoI rfl .i64 .i64 n (by omega) (by omega) W
  have hsz : ((z : Int) + 63) / 64 = (s : Int) := by omega
  have HSZ := Lib.hid hsz
  clear hr hg hnz hs hsz
  go_enter Try.func82, Try.ntmps82
  go_wp2_with fail
  refine (impl_superCount _ _ (by omega) (by omega)).mono ?_; rintro e w' ⟨rfl, rfl⟩
  rw [HSZ.out]
  go_wp2_with fail
  have hb0 := (((Below.refl w.heap.size w).alloc (Nat.le_refl _) (.cells #[.int .i64 z, .slice A n c] 58)).alloc (by simp) (.cells (madeCells #[.int .i64 0] s) 3)).alloc (by simp; omega) (.cells (madeCells #[.int .i64 0] n) 3)
  have ho1 := (ORow.made (w.alloc (.cells #[.int .i64 z, .slice A n c] 58)) s).alloc (.cells (madeCells #[.int .i64 0] n) 3)
  have ho2 := ORow.made ((w.alloc (.cells #[.int .i64 z, .slice A n c] 58)).alloc (.cells (madeCells #[.int .i64 0] s) 3)) n
  simp only [World.size_alloc] at ho1 ho2
  have HB0 := Lib.hid hb0
  have HO1 := Lib.hid ho1
  have HO2 := Lib.hid ho2
  have R0 := Lib.hid (good_row HG.out HR.out)
  clear hb0 ho1 ho2 hmk hmk2 L0
  go_loopw [6, 21] (fun on i wr => ∃ (k : Nat), k ≤ n ∧ i = .int .i64 k ∧ on = .int .i64 (cntN (wdR X) 0 (16 * k) : Nat) ∧ ORow wr (w.heap.size + 1) s (fun j => if 4 * j < k then supI (wdR X) j else 0) ∧ ORow wr (w.heap.size + 1 + 1) n (fun j => if j < k then blkI (wdR X) j else 0) ∧ Below w.heap.size w wr) (fun _ i _ => n - (intOf i).toNat)
  case atStart => exact ⟨0, Nat.zero_le _, rfl, rfl, HO1.out.congr (fun j _ => by simp), HO2.out.congr (fun j _ => by simp), HB0.out⟩
  case round =>
    obtain ⟨k, hk, rfl, rfl, hs1, ht1, hb⟩ := hrel
    have HS1 := Lib.hid hs1
    have HT0 := Lib.hid ht1
    have HB := Lib.hid hb
    have hcl := cntN_le (wdR X) (16 * k) 0
    clear hs1 ht1
    by_cases hlt : k < n
    · obtain ⟨b, off, rfl, _, hc⟩ := R0.out.1.below hb (Nat.le_refl _) (by omega)
      have hck := hc k hlt
      have hwk : wdR X k < 65536 := R0.out.2 k hlt
      have HC := Lib.hid (cnt_word (W := wdR X) hwk)
      have hcl2 := cntN_le (wdR X) (16 * (k + 1)) 0
      rw [HC.out] at hcl2
      have hk4 : k / 4 < s := by have := HS.out; have := HNZ.out; omega
      have hq1 : (k : Int) / 4 < (s : Int) := by omega
      have hq2 : 0 ≤ (k : Int) / 4 := by omega
      have hG : ∃ G, pcF (wdR X k) = G := ⟨_, rfl⟩
      obtain ⟨G, hG⟩ := hG
      rw [hG] at HC hcl2
      have hV : ∃ V, cntN (wdR X) 0 (16 * k) = V := ⟨_, rfl⟩
      obtain ⟨V, hV⟩ := hV
      rw [hV] at HC hcl2 hcl ⊢
      have hF : ∃ F, wdR X k = F := ⟨_, rfl⟩
      obtain ⟨F, hF⟩ := hF
      change World.cell? _ _ = some (.int .i64 ((wdR X k : Nat) : Int)) at hck
      rw [hF] at hck hwk hG
      clear hc hb
      by_cases h4 : k % 4 = 0
      · -- a new block of 64 bits
        have e4 : ((k : Int) % 4 == 0) = true := by simp; omega
        have hx1 := HS1.out.cell (i := k / 4) hk4
        have hf1 := HS1.out.frozen (k / 4)
        have HS2 := Lib.hid (HS1.out.set (k / 4) V)
        have hx2 := HS2.out.cell (i := k / 4) hk4
        rw [if_pos rfl] at hx2
        have HT1 := Lib.hid (HT0.out.setAt (b := w.heap.size + 1) (o := k / 4) (by omega) (.int .i64 V))
        have hx3 := HT1.out.cell (i := k) hlt
        have hf3 := HT1.out.frozen k
        have HU := Lib.hid (show (0 : Int) = blkI (wdR X) k by rw [← blk_val]; unfold supI; rw [show 64 * (k / 4) = 16 * k by omega, hV]; omega)
        go_wp2_with fail
        refine (onesCount F _ (by omega)).mono ?_; rintro e w2 ⟨rfl, rfl⟩
        rw [hG]
        go_wp2_with fail
        go_roundw
        case rel =>
          refine ⟨k + 1, by omega, by go_num, by rw [HC.out]; go_num, ?_, ?_, below_setAt (below_setAt HB.out (by omega) _) (by omega) _⟩
          · refine ((HS2.out.setAt (by omega) _).congr (fun j hj => ?_))
            show (if j = k / 4 then (V : Int) else _) = _
            by_cases e : j = k / 4
            · subst e
              rw [if_pos rfl, if_pos (by omega)]
              unfold supI; rw [show 64 * (k / 4) = 16 * k by omega, hV]
            · rw [if_neg e]
              by_cases e2 : 4 * j < k
              · rw [if_pos e2, if_pos (by omega)]
              · rw [if_neg e2, if_neg (by omega)]
          · refine ((HT1.out.set k _).congr (fun j hj => ?_))
            by_cases e : j = k
            · subst e
              rw [if_pos rfl, if_pos (by omega), ← HU.out]
            · rw [if_neg e]
              by_cases e2 : j < k
              · rw [if_pos e2, if_pos (by omega)]
              · rw [if_neg e2, if_neg (by omega)]
        case measure => simp [intOf]; omega
      · -- inside one
        have e4 : ((k : Int) % 4 == 0) = false := by simp; omega
        have hx2 := HS1.out.cell (i := k / 4) hk4
        rw [if_pos (by omega)] at hx2
        have hu1 := cntN_le (wdR X) (64 * (k / 4)) 0
        have hu2 : supI (wdR X) (k / 4) = ((cntN (wdR X) 0 (64 * (k / 4)) : Nat) : Int) := rfl
        rw [hu2] at hx2
        have HU := Lib.hid (show (V : Int) - cntN (wdR X) 0 (64 * (k / 4)) = blkI (wdR X) k by rw [← blk_val, hV]; rfl)
        generalize cntN (wdR X) 0 (64 * (k / 4)) = U at *
        have hx3 := HT0.out.cell (i := k) hlt
        have hf3 := HT0.out.frozen k
        go_wp2_with fail
        refine (onesCount F _ (by omega)).mono ?_; rintro e w2 ⟨rfl, rfl⟩
        rw [hG]
        go_wp2_with fail
        go_roundw
        case rel =>
          refine ⟨k + 1, by omega, by go_num, by rw [HC.out]; go_num, ?_, ?_, below_setAt HB.out (by omega) _⟩
          · refine ((HS1.out.setAt (by omega) _).congr (fun j hj => ?_))
            by_cases e2 : 4 * j < k
            · rw [if_pos e2, if_pos (by omega)]
            · rw [if_neg e2, if_neg (by omega)]
          · refine ((HT0.out.set k _).congr (fun j hj => ?_))
            by_cases e : j = k
            · subst e
              rw [if_pos rfl, if_pos (by omega), ← HU.out]
            · rw [if_neg e]
              by_cases e2 : j < k
              · rw [if_pos e2, if_pos (by omega)]
              · rw [if_neg e2, if_neg (by omega)]
        case measure => simp [intOf]; omega
    · obtain rfl : k = n := by omega
      clear hb
      go_wp2_with fail
      go_ret2
      refine ⟨_, _, rfl, by omega, by omega, by omega, HS1.out.congr (fun j hj => ?_), HT0.out.congr (fun j hj => ?_), HB.out⟩
      · rw [if_pos (by have := HS.out; have := HNZ.out; omega)]
      · rw [if_pos hj]
end Go.Proofs.Ytockhjdhihehlaa
