/- The code's side of balanced vectors: the partners of all bits, by a stack of the open ones. -/
import Derived.Test.YtmampgkhobbdcabParenS
import Derived.Test.YtmampgkhobbdcabGen
import Derived.Test.YtmampgkhobbdcabGrow
import Derived.Deep.RegionHeld3
namespace Go.Proofs.Ytmampgkhobbdcab
open Go.RowKit

abbrev wd (X : Nat → Int) : Nat → Nat := fun i => (X i).toNat
theorem vals_congr {F G : Nat → Value} {k : Nat} (h : ∀ i, i < k → F i = G i) : vals F k = vals G k := by
  unfold vals; exact List.map_congr_left (fun i hi => h i (List.mem_range.1 hi))
theorem owned_pop {w : World} {B : Nat} {e : TypeId} {A : Option Addr} {k c : Nat} {F : Nat → Value} (h : w.ownsRow B e 1 (.slice A (k + 1) c) (k + 1) (vals F (k + 1))) : w.ownsRow B e 1 (.slice A k c) k (vals F k) := by
  refine ⟨by simp [vals], ?_⟩
  rcases h.2 with ⟨_, h2⟩ | ⟨g, cap, cur, hv, hg, hh, h1, h2, h3, h4⟩
  · omega
  · injection hv with e1 e2 e3
    subst e1; subst e3
    refine .inr ⟨g, c, cur, rfl, hg, hh, by omega, h2, h3, ?_⟩
    have h5 := congrArg (List.take k) h4
    have h6 : (vals F k).take k = vals F k := List.take_of_length_le (Nat.le_of_eq (vals_len F k))
    rw [List.take_take, vals_snoc, List.take_append_of_le_length (Nat.le_of_eq (vals_len F k).symm), h6, Nat.min_eq_left (by omega)] at h5
    rw [← h5, Nat.mul_one]
theorem owned_room {w : World} {B : Nat} {e : TypeId} {A : Option Addr} {k c : Nat} {xs : List Value} (h : w.ownsRow B e 1 (.slice A k c) k xs) : k ≤ c ∧ c ≤ maxLen := by
  obtain ⟨A', c', hv, h1, h2⟩ := owned_slice h
  injection hv with _ _ e3
  subst e3
  exact ⟨h1, h2⟩
theorem owned_setAt {w : World} {B : Nat} {e : TypeId} {A : Option Addr} {k c : Nat} {xs : List Value} (h : w.ownsRow B e 1 (.slice A k c) k xs) {b o : Nat} (hb : b < B) (v : Value) : (w.setCell ⟨b, o, none⟩ v).ownsRow B e 1 (.slice A k c) k xs :=
  h.kept (grown_setCell (World.grownBy.refl w _) o v) (by
    by_cases e : (Value.slice A k c).ownBlock = none
    · exact .inl e
    · refine .inr (fun e2 => ?_)
      have := (h.lt _ e2).1
      omega)

def stkV (S : Nat → Nat) (t : Nat) : Value := .int .i64 (S t : Int)

set_option maxRecDepth 100000 in
set_option maxHeartbeats 4000000 in
theorem impl_partnersOf (z : Nat) (A : Option Addr) (n c : Nat) (X : Nat → Int) (w : World) (hn : n ≤ 1048576) (hr : IRow w A n X) (hg : Good z n X) :
    Calls Try.prog 39 #[.agg #[.int .i64 z, .slice A n c]] w fun e w' =>
      (¬ Bal (wd X) z ∧ ∃ A' m' c', e = .returned (.tuple #[.slice A' m' c', .bool false]) ∧ Below w.heap.size w w') ∨
      (Bal (wd X) z ∧ ∃ A' c' P, e = .returned (.tuple #[.slice A' z c', .bool true]) ∧ IRow w' A' z P ∧ Mates (wd X) z P ∧ Below w.heap.size w w') := by
  have L0 := Lib.hid (LS.start (z := (z : Int)) (c := c) hr 28)
  have HG := Lib.hid hg
  have hz : z ≤ 16 * n := by have := hg.2.2.1; omega
  have hz1 : z ≤ 4096 := by have := hg.2.1; omega
  clear hr hg
  have hmk := fun W => run_make_row' (P := Try.prog) 22 3 (.int .i64 0) 8 Try.underlying22 infoI rfl .i64 .i64 z (by omega) (by omega) W
  go_enter Try.func39, Try.ntmps39
  go_wp2_with fail
  refine (isBits_yes hn L0.out.row HG.out).mono ?_; rintro e w1 ⟨rfl, hb⟩
  have L1 := Lib.hid (L0.out.step hb)
  clear hb L0
  obtain ⟨hs1, c0, c1⟩ := L1.out.box
  go_wp2_with fail
  clear c0 c1 hs1
  go_loopw [5, 16] (fun op i wr => ∃ (q d : Nat) (A1 : Option Addr) (k1 : Nat) (S : Nat → Nat) (P : Nat → Int), q ≤ z ∧ i = .int .i64 q ∧ op = .slice A1 d k1 ∧ d ≤ q ∧ wr.ownsRow (w1.heap.size + 1) 3 1 (.slice A1 d k1) d (vals (stkV S) d) ∧ ORow wr w1.heap.size z P ∧ Hid (Stk (wd X) q d S ∧ Par (wd X) q d S P) ∧ Below w1.heap.size w1 wr ∧ w1.heap.size + 1 ≤ wr.heap.size) (fun _ i _ => z - (intOf i).toNat)
  case atStart => exact ⟨0, 0, none, 0, fun _ => 0, fun _ => 0, by omega, rfl, rfl, by omega, World.ownsRow_nil _ _ _ _, (ORow.made _ _).congr (fun _ _ => rfl), ⟨Stk.zero _ _, Par.zero _ _ _⟩, (Below.refl _ _).alloc (Nat.le_refl _) _, by simp⟩
  case round =>
    obtain ⟨q, d, A1, k1, S, P, hq, rfl, rfl, hdq, hown, ho, hst, hl, hsz⟩ := hrel
    have HB := Lib.hid hl
    have L3 := Lib.hid (L1.out.step hl)
    obtain ⟨hs1, c0, c1⟩ := L3.out.box
    have HO := Lib.hid hown
    have HP := Lib.hid ho
    have HST := Lib.hid hst
    have hroom := owned_room hown
    clear hl hown ho hst
    by_cases hlt : q < z
    · cases hbit : bitN (wd X) q with
      | true =>
        go_wp2_with fail
        refine (impl_isOn A n c (wd X) q _ hn (good_row HG.out L3.out.row) (by omega)).mono ?_; rintro e w2 ⟨rfl, rfl⟩
        rw [hbit]
        go_wp2_with (at_builtin; refine wpList_push rfl _ _ 22 rfl (w1.heap.size + 1) 3 (.int .i64 0) 8 Try.underlying22 infoI rfl A1 d k1 (stkV (fun t => if t < d then S t else q)) (.int .i64 q) wr rfl (by rw [vals_congr (G := stkV S) (fun i hi => by simp [stkV, hi])]; exact HO.out) rfl (by simp [stkV]) rfl (by omega) (by omega) hsz ?_)
        intro A' c' w3 hown' hb3
        have HO3 := Lib.hid hown'
        have HB3 := Lib.hid (HB.out.trans (hb3.mono (by omega)))
        have HP3 := Lib.hid (HP.out.of_block (hb3.block _ (by omega)))
        have hsz3 := Nat.le_trans hsz hb3.size
        clear hown' hb3 HO HP L3 c0 c1 HB
        go_wp2_with fail
        go_roundw
        case rel => exact ⟨q + 1, d + 1, A', c', _, P, by omega, by go_num, rfl, by omega, HO3.out, HP3.out, ⟨HST.out.out.1.push hbit, HST.out.out.2.push hbit⟩, HB3.out, hsz3⟩
        case measure => simp [intOf]; omega
      | false =>
        cases d with
        | zero =>
          go_wp2_with fail
          refine (impl_isOn A n c (wd X) q _ hn (good_row HG.out L3.out.row) (by omega)).mono ?_; rintro e w2 ⟨rfl, rfl⟩
          rw [hbit]
          go_wp2_with fail
          go_ret2
          exact .inl ⟨HST.out.out.1.bad hbit hlt, _, _, _, rfl, L3.out.below⟩
        | succ d =>
          have hSd := HST.out.out.1.lt d (by omega)
          obtain ⟨b, off, rfl, _, hc⟩ := (owned_vec HO.out).row (by omega)
          have hck := hc d (by omega)
          unfold stkV at hck
          clear hc
          have hx1 := HP.out.cell hlt
          have hf1 := HP.out.frozen q
          have HP2 := Lib.hid (HP.out.set q (S d))
          have hx2 := HP2.out.cell (i := S d) (by omega)
          have hf2 := HP2.out.frozen (S d)
          have ek : ((d + 1 : Nat) : Int) - 1 = (d : Int) := by omega
          go_wp2_with fail
          refine (impl_isOn A n c (wd X) q _ hn (good_row HG.out L3.out.row) (by omega)).mono ?_; rintro e w2 ⟨rfl, rfl⟩
          rw [hbit]
          go_wp2_with fail
          go_roundw
          case rel => exact ⟨q + 1, d, _, _, S, _, by omega, by go_num, rfl, by omega, owned_setAt (owned_setAt (owned_pop HO.out) (by omega) _) (by omega) _, HP2.out.set (S d) q, ⟨HST.out.out.1.pop hbit, HST.out.out.2.pop HST.out.out.1 hbit⟩, (HB.out.setCell (Nat.le_refl _) _).setCell (Nat.le_refl _) _, by simpa using hsz⟩
          case measure => simp [intOf]; omega
    · obtain rfl : q = z := by omega
      cases d with
      | zero =>
        go_wp2_with fail
        go_ret2
        exact .inr ⟨HST.out.out.1.bal, _, _, P, rfl, HP.out.row, HST.out.out.2.all, L3.out.below⟩
      | succ d =>
        go_wp2_with fail
        go_ret2
        exact .inl ⟨HST.out.out.1.unbal, _, _, _, rfl, L3.out.below⟩
end Go.Proofs.Ytmampgkhobbdcab
