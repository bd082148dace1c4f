/- Which steps are a peel order: the process of given steps; allows of the program. -/
import Derived.Test.YtfhanighnckbhaaPeelN
import Derived.Test.YtfhanighnckbhaaObjPS
namespace Go.Proofs.Ytfhanighnckbhaa
open Go.RowKit

/-- What is gone behind k of the steps Y. -/
def goneI (Y : Nat → Int) : Nat → Nat → Bool
  | 0 => fun _ => false
  | k + 1 => upd (goneI Y k) (Y (k * 2)).toNat true
/-- The step (E, P) can be made. -/
def StOk (n : Nat) (l : Nat → Nat) (X : Nat → Nat → Int) (G : Nat → Bool) (E P : Int) : Prop :=
  (0 ≤ E ∧ E < n) ∧ G E.toNat = false ∧ (∃ t, t < l E.toNat ∧ X E.toNat t = P) ∧ degF l X G n P.toNat = 1
def AllSt (n : Nat) (l : Nat → Nat) (X : Nat → Nat → Int) (Y : Nat → Int) (k : Nat) : Prop := ∀ j, j < k → StOk n l X (goneI Y j) (Y (j * 2)) (Y (j * 2 + 1))
def OrdP (n : Nat) (l : Nat → Nat) (X : Nat → Nat → Int) (m : Nat) (Y : Nat → Int) : Prop := AllSt n l X Y m ∧ (leftL (goneI Y m) n).length = 0
theorem allSt_succ {n : Nat} {l : Nat → Nat} {X : Nat → Nat → Int} {Y : Nat → Int} {k : Nat} (h : AllSt n l X Y k) (h2 : StOk n l X (goneI Y k) (Y (k * 2)) (Y (k * 2 + 1))) : AllSt n l X Y (k + 1) := fun j hj => by
  by_cases e : j = k
  · subst e; exact h2
  · exact h j (by omega)
set_option maxRecDepth 100000 in
set_option maxHeartbeats 4000000 in
theorem allows_is {w : World} {pb gb db z n c : Nat} {A : Option Addr} {B : Nat → Option Addr} {l d : Nat → Nat} {X : Nat → Nat → Int} {G : Nat → Bool} (E P : Int) (wi : World) (hr : HR w A n B l d X) (h : PG w pb gb db z n c A l X G wi) (hg : HyperOk z n l X) :
    Calls Try.prog 73 #[.pointer (some ⟨pb, 0, none⟩), .agg #[.int .i64 E, .int .i64 P]] wi (BoolIs (StOk n l X G E P) wi) := by
  have HP := Lib.hid (h.b ((Below.refl wi.heap.size wi).alloc (Nat.le_refl _) (.cells #[.int .i64 E, .int .i64 P] 82)))
  have NB := nbx0 wi #[.int .i64 E, .int .i64 P] 82
  have FB := Lib.hid ((Below.refl wi.heap.size wi).alloc (Nat.le_refl _) (.cells #[.int .i64 E, .int .i64 P] 82))
  have x0 := NB.cell 0 _ rfl
  have x1 := NB.cell 1 _ rfl
  obtain ⟨q0, q1, q2⟩ := HP.out.cells
  have hgl := HP.out.gone
  have HR1 := hr.b HP.out.below
  have HG := Lib.hid hg
  have HST := Lib.hid (rfl : StOk n l X G E P = ((0 ≤ E ∧ E < n) ∧ G E.toNat = false ∧ (∃ t, t < l E.toNat ∧ X E.toNat t = P) ∧ degF l X G n P.toNat = 1))
  clear h NB hr hg
  by_cases h0 : 0 ≤ E
  rotate_left
  · have d0 : decide ((0 : Int) ≤ E) = false := by simpa using h0
    have HN := Lib.hid (show ¬ StOk n l X G E P from fun h => h0 h.1.1)
    go_enter Try.func73, Try.ntmps73
    go_wp2_with fail
    go_quiet (fail)
    go_wp2_with fail
    go_ret
    exact ⟨false, rfl, by simp only [Bool.false_eq_true, false_iff]; exact HN.out, below_drewN FB.out _⟩
  have d0 : decide ((0 : Int) ≤ E) = true := by simpa using h0
  by_cases h1 : E < n
  rotate_left
  · have d1 : decide (E < (n : Int)) = false := by simpa using h1
    have HN := Lib.hid (show ¬ StOk n l X G E P from fun h => h1 h.1.2)
    go_enter Try.func73, Try.ntmps73
    go_wp2_with fail
    go_quiet (fail)
    go_wp2_with fail
    go_ret
    exact ⟨false, rfl, by simp only [Bool.false_eq_true, false_iff]; exact HN.out, below_drewN FB.out _⟩
  obtain ⟨e, rfl⟩ := Int.eq_ofNat_of_zero_le h0
  have he : e < n := by omega
  have d1 : decide ((e : Int) < (n : Int)) = true := by simpa using h1
  have i0 : (0 : Int) ≤ (e : Int) := h0
  have i1 : (e : Int) < (n : Int) := h1
  have hge : _ := GOwn.cell hgl he
  obtain ⟨be, oe, hA, hbe, hce⟩ := HR1.1 (by omega)
  have hcr := hce e he
  unfold sliceV at hcr
  subst hA
  have HRow := Lib.hid (HR1.2 e he)
  have h3 := HG.out.three e he
  have HC := Lib.hid (fun (b : Bool) (hb : b = true ↔ ∃ t, t < l e ∧ X e t = P) (W : World) (hW : IRow W (B e) (l e) (X e)) => (show Calls Try.prog 104 #[.slice (B e) (l e) (d e), .int .i64 P] W (fun en w' => en = .returned (.bool b) ∧ W = w') from
    (contains_is (B e) (l e) (d e) (X e) P W (by omega) hW).mono fun en w' ⟨b', h1, h2, h3⟩ => ⟨by rw [h1, show b' = b from Bool.eq_iff_iff.2 (h2.trans hb.symm)], h3⟩))
  unfold boolV at hge
  clear hce HR1 h3
  cases hgo : G e with
  | true =>
    have HN := Lib.hid (show ¬ StOk n l X G e P from fun h => by have h2 := h.2.1; rw [Int.toNat_natCast, hgo] at h2; cases h2)
    rw [hgo] at hge
    clear hgo
    go_enter Try.func73, Try.ntmps73
    go_wp2_with fail
    go_quiet (fail)
    go_wp2_with fail
    go_ret
    exact ⟨false, rfl, by simp only [Bool.false_eq_true, false_iff]; exact HN.out, below_drewN FB.out _⟩
  | false =>
    rw [hgo] at hge
    by_cases hc : ∃ t, t < l e ∧ X e t = P
    rotate_left
    · have HN := Lib.hid (show ¬ StOk n l X G e P from fun h => hc (by have h2 := h.2.2.1; rwa [Int.toNat_natCast] at h2))
      have HC1 := Lib.hid (HC.out false (by simp only [Bool.false_eq_true, false_iff]; exact hc))
      clear hc hgo HC
      go_enter Try.func73, Try.ntmps73
      go_wp2_with fail
      go_quiet ((go_at_call 104; exact quiet_left (HC1.out _ HRow.out)))
      go_wp2_with fail
      go_ret
      exact ⟨false, rfl, by simp only [Bool.false_eq_true, false_iff]; exact HN.out, below_drewN FB.out _⟩
    have HC1 := Lib.hid (HC.out true (by simp only [true_iff]; exact hc))
    obtain ⟨p, rfl⟩ : ∃ p : Nat, P = p := by
      obtain ⟨t, ht, hx⟩ := hc
      have := HG.out.inn e he t ht
      exact ⟨P.toNat, by omega⟩
    have hpz : p < z := by
      obtain ⟨t, ht, hx⟩ := hc
      have := HG.out.inn e he t ht
      omega
    have HV := Lib.hid (show (degF l X G n p == 1) = true ↔ StOk n l X G e p by
      simp only [beq_iff_eq]
      constructor
      · intro h; exact ⟨⟨h0, h1⟩, by rw [Int.toNat_natCast]; exact hgo, by rw [Int.toNat_natCast]; exact hc, by rw [Int.toNat_natCast]; exact h⟩
      · intro h; have := h.2.2.2; rwa [Int.toNat_natCast] at this)
    have HF := Lib.hid (fun W (hW : PG w pb gb db z n c (some ⟨be, oe, none⟩) l X G W) => isFree_is p W hW hpz)
    clear hc hgo HC
    generalize (degF l X G n p == 1) = bv at *
    go_enter Try.func73, Try.ntmps73
    go_wp2_with fail
    go_quiet ((first
      | (go_at_call 104; exact quiet_left (HC1.out _ HRow.out))
      | (go_at_call 105; exact quiet_left (HF.out _ (HP.out.b (below_drewN (Below.refl _ _) _))))))
    go_wp2_with fail
    go_ret
    exact ⟨bv, rfl, HV.out, below_drewN FB.out _⟩
end Go.Proofs.Ytfhanighnckbhaa
