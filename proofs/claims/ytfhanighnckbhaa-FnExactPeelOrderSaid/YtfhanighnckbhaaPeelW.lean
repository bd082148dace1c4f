/- The model's steps of peeling: the first edge with a place, a list without a number. -/
import Derived.Test.YtfhanighnckbhaaPeelT
import Derived.Test.YtfhanighnckbhaaFre
namespace Go.Proofs.Ytfhanighnckbhaa
open Go.RowKit

set_option maxRecDepth 100000 in
set_option maxHeartbeats 4000000 in
theorem spec_peWith (z : Nat) (A : Option Addr) (n c : Nat) (B : Nat → Option Addr) (l d : Nat → Nat) (X : Nat → Nat → Int) (EA : Option Addr) (m ec : Nat) (E : Nat → Nat) (p k : Nat) (w : World) (hm : m ≤ 64) (hr : HR w A n B l d X) (hl : ∀ i, i < n → l i ≤ 1048576) (he : IRow w EA m (idxV E)) (hL : EdIdx n m E) (hk : k < m)
    (hhit : ∃ j, j < l (E k) ∧ X (E k) j = (p : Int)) (hmiss : ∀ t, t < k → ¬ ∃ j, j < l (E t) ∧ X (E t) j = (p : Int)) :
    Calls Try.prog 99 #[.agg #[.int .i64 z, .slice A n c], .slice EA m ec, .int .i64 p] w fun e w' => e = .returned (.int .i64 ((E k : Nat) : Int)) ∧ Below w.heap.size w w' := by
  have L0 := Lib.hid (LH.start (z := (z : Int)) (c := c) hr 26)
  have HE0 := Lib.hid he
  have HLn := Lib.hid hl
  have HL := Lib.hid hL
  have HH := Lib.hid hhit
  have HM := Lib.hid hmiss
  clear hr hl he hL hhit hmiss
  go_enter Try.func99, Try.ntmps99
  go_wp2_with fail
  go_loopw [11] (fun i wr => ∃ q : Nat, q ≤ k ∧ i = .int .i64 q ∧ Hid (LH w w.heap.size z A n c B l d X wr)) (fun i _ => (k + 1) - (intOf i).toNat)
  case atStart => exact ⟨0, Nat.zero_le _, rfl, L0⟩
  case round =>
    obtain ⟨q, hq, rfl, HLr⟩ := hrel
    obtain ⟨hsz, b0, b1⟩ := HLr.out.box
    have hql : q < m := by omega
    obtain ⟨be, oe, rfl, _, hce⟩ := (HE0.out.b HLr.out.below) (by omega)
    have hek := hce q hql
    unfold idxV at hek
    have hEk := HL.out q hql
    obtain ⟨bk, off, rfl, hbl, hc⟩ := HLr.out.row.1 (by omega)
    have hcq := hc _ hEk
    unfold sliceV at hcq
    have HX := Lib.hid (HLr.out.row.2 _ hEk)
    have hlq := HLn.out _ hEk
    clear hc hce
    by_cases hlt : q < k
    · have HN := Lib.hid (HM.out q hlt)
      generalize E q = u at hek hEk hcq HX hlq HN
      go_wp2_with fail
      refine (spec_l1Has (B u) (l u) (d u) (X u) (p : Int) _ hlq HX.out).mono ?_; rintro e2 w2 ⟨b, rfl, hbb, rfl⟩
      obtain rfl : b = false := by
        cases b with
        | false => rfl
        | true => exact absurd (hbb.1 rfl) HN.out
      clear hbb
      go_wp2_with fail
      go_roundw
      case rel => exact ⟨q + 1, by omega, by go_num, HLr⟩
      case measure => simp [intOf]; omega
    · obtain rfl : q = k := by omega
      generalize hu : E q = u at hek hEk hcq HX hlq HH
      have HU := Lib.hid hu
      clear hu
      go_wp2_with fail
      refine (spec_l1Has (B u) (l u) (d u) (X u) (p : Int) _ hlq HX.out).mono ?_; rintro e2 w2 ⟨b, rfl, hbb, rfl⟩
      have hb1 := hbb.2 HH.out
      subst hb1
      clear hbb
      go_wp2_with fail
      go_ret
      exact ⟨by rw [HU.out]; rfl, HLr.out.below⟩

/-- A list without a number. -/
def dropL (e : Nat) : List Nat → List Nat := List.filter (fun x => x != e)
theorem dropL_left (G : Nat → Bool) (e : Nat) : ∀ k, dropL e (leftL G k) = leftL (upd G e true) k
  | 0 => rfl
  | k + 1 => by
    have ih := dropL_left G e k
    rw [leftL, leftL]
    by_cases h : k = e
    · subst h
      have h1 : upd G k true k = true := by unfold upd; rw [if_pos rfl]
      rw [h1, if_pos rfl, ← ih]
      by_cases hg : G k = true
      · rw [if_pos hg]
      · rw [if_neg hg]; unfold dropL; rw [List.filter_append]; simp
    · have h1 : upd G e true k = G k := by unfold upd; rw [if_neg h]
      rw [h1]
      by_cases hg : G k = true
      · rw [if_pos hg, if_pos hg]; exact ih
      · rw [if_neg hg, if_neg hg, ← ih]; unfold dropL; rw [List.filter_append]; simp [h]
end Go.Proofs.Ytfhanighnckbhaa
