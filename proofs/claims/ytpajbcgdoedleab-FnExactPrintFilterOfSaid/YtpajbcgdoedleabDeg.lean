/- Degrees: both sides. -/
import Derived.Test.YtpajbcgdoedleabEdge
namespace Go.Proofs.Ytpajbcgdoedleab
open Go.RowKit

/-- How many of the first k numbers are p. -/
def cntE (X : Nat → Int) (p : Int) : Nat → Nat
  | 0 => 0
  | k + 1 => cntE X p k + (if X k = p then 1 else 0)
/-- How many of the first k edges, taken by E, have p. -/
def degN (E : Nat → Nat) (l : Nat → Nat) (X : Nat → Nat → Int) (p : Int) : Nat → Nat
  | 0 => 0
  | k + 1 => degN E l X p k + cntE (X (E k)) p (l (E k))
theorem cntE_le (X : Nat → Int) (p : Int) : ∀ k, cntE X p k ≤ k
  | 0 => Nat.le_refl _
  | k + 1 => by have := cntE_le X p k; unfold cntE; split <;> omega
theorem degN_le {E : Nat → Nat} {l : Nat → Nat} {X : Nat → Nat → Int} {p : Int} : ∀ k, (∀ i, i < k → l (E i) = 3) → degN E l X p k ≤ 3 * k
  | 0, _ => Nat.le_refl _
  | k + 1, h => by
    have h1 := degN_le (E := E) (l := l) (X := X) (p := p) k (fun i hi => h i (by omega))
    have h2 := cntE_le (X (E k)) p (l (E k))
    have h3 := h k (by omega)
    unfold degN; omega
theorem risT_in {h : Int} {n : Nat} {X : Nat → Int} (hr : RisT h n X) {i : Nat} (hi : i < n) : 0 ≤ X i ∧ X i ≤ h := ⟨(hr i hi).1, (hr i hi).2.1⟩
/-- Degrees at a point of the two loops. -/
def dgF (E : Nat → Nat) (l : Nat → Nat) (X : Nat → Nat → Int) (k j : Nat) (p : Nat) : Int := ((degN E l X p k + cntE (X (E k)) p j : Nat) : Int)
theorem dgF_step {E : Nat → Nat} {l : Nat → Nat} {X : Nat → Nat → Int} {k j x : Nat} (hx : X (E k) j = (x : Int)) (p : Nat) : (if p = x then dgF E l X k j x + 1 else dgF E l X k j p) = dgF E l X k (j + 1) p := by
  unfold dgF
  rw [cntE]
  by_cases e : p = x
  · subst e
    rw [if_pos rfl, if_pos hx]; push_cast; omega
  · rw [if_neg e, if_neg (by rw [hx]; omega)]; simp
theorem dgF_next {E : Nat → Nat} {l : Nat → Nat} {X : Nat → Nat → Int} (k : Nat) (p : Nat) : dgF E l X k (l (E k)) p = dgF E l X (k + 1) 0 p := by
  unfold dgF; rw [degN]; simp [cntE]
theorem dgF_end {E : Nat → Nat} {l : Nat → Nat} {X : Nat → Nat → Int} (k : Nat) (p : Nat) : dgF E l X k 0 p = ((degN E l X p k : Nat) : Int) := by unfold dgF; simp [cntE]

set_option maxRecDepth 100000 in
set_option maxHeartbeats 4000000 in
theorem impl_degreesOf (z : Nat) (A : Option Addr) (n c : Nat) (B : Nat → Option Addr) (l d : Nat → Nat) (X : Nat → Nat → Int) (w : World) (hn : n ≤ 40) (hz : z ≤ 72) (hr : HR w A n B l d X) (h3 : ∀ i, i < n → l i = 3) (hx : ∀ i, i < n → ∀ j, j < l i → 0 ≤ X i j ∧ X i j < z) :
    Calls Try.prog 142 #[.slice A n c, .int .i64 z] w fun e w' => ∃ g, e = .returned (.slice (some ⟨g, 0, none⟩) z z) ∧ w.heap.size ≤ g ∧ ORow w' g z (fun p => dgF (fun i => i) l X n 0 p) ∧ Below w.heap.size w w' := by
  have HR := Lib.hid hr
  have H3 := Lib.hid h3
  have HX := Lib.hid hx
  have hmk := fun W => run_make_row' (P := Try.prog) 22 3 (.int .i64 0) 8 Try.underlying22 infoI rfl .i64 .i64 z (by omega) (by omega) W
  clear hr h3 hx
  go_enter Try.func142, Try.ntmps142
  go_wp2_with fail
  go_loopw [14] (fun i wr => ∃ k : Nat, k ≤ n ∧ i = .int .i64 k ∧ Hid (ORow wr w.heap.size z (fun p => dgF (fun i => i) l X k 0 p)) ∧ Hid (Below w.heap.size w wr)) (fun i _ => n - (intOf i).toNat)
  case atStart => exact ⟨0, Nat.zero_le _, rfl, Lib.hid ((ORow.made w z).congr (fun p _ => by simp [dgF, degN, cntE])), Lib.hid ((Below.refl _ _).alloc (Nat.le_refl _) _)⟩
  case round =>
    obtain ⟨k, hk, rfl, HO, HB⟩ := hrel
    by_cases hlt : k < n
    · obtain ⟨bk, off, rfl, hbl, hc⟩ := (HR.out.b HB.out).1 (by omega)
      have hcq := hc k hlt
      unfold sliceV at hcq
      have hl3 := H3.out k hlt
      have hxk := HX.out k hlt
      have RK := Lib.hid (HR.out.2 k hlt)
      have HBd := Lib.hid (fun p => degN_le (E := fun i => i) (l := l) (X := X) (p := p) k (fun i hi => H3.out i (by omega)))
      have HNx := Lib.hid (fun p => dgF_next (E := fun i => i) (l := l) (X := X) k p)
      simp only [hl3] at hcq hxk RK HNx
      clear hc
      generalize B k = Bk at hcq RK
      generalize d k = dk at hcq
      go_wp2_with fail
      go_loopw [20] (fun i wi => ∃ j : Nat, j ≤ 3 ∧ i = .int .i64 j ∧ Hid (ORow wi w.heap.size z (fun p => dgF (fun i => i) l X k j p)) ∧ Hid (Below w.heap.size w wi)) (fun i _ => 3 - (intOf i).toNat)
      case atStart => exact ⟨0, Nat.zero_le _, rfl, HO, HB⟩
      case round =>
        obtain ⟨j, hj, rfl, HO2, HB2⟩ := hrel
        by_cases hlj : j < 3
        · obtain ⟨b2, o2, rfl, _, hc2⟩ := (RK.out.b HB2.out) (by omega)
          have hcj := hc2 j hlj
          obtain ⟨x0, x1⟩ := hxk j hlj
          obtain ⟨x, hx⟩ : ∃ x : Nat, X k j = (x : Int) := ⟨(X k j).toNat, by omega⟩
          have HST := Lib.hid (fun p => dgF_step (E := fun i => i) (l := l) (X := X) (k := k) (j := j) hx p)
          rw [hx] at hcj x1
          have hxz : x < z := by omega
          have hco := HO2.out.cell hxz
          have hfo := HO2.out.frozen x
          have hbd : 0 ≤ dgF (fun i => i) l X k j x ∧ dgF (fun i => i) l X k j x ≤ 200 := by
            have h1 := HBd.out x
            have h2 := cntE_le (X k) x j
            show 0 ≤ ((degN (fun i => i) l X x k + cntE (X k) x j : Nat) : Int) ∧ ((degN (fun i => i) l X x k + cntE (X k) x j : Nat) : Int) ≤ 200
            constructor <;> omega
          obtain ⟨v, hv⟩ : ∃ v, v = dgF (fun i => i) l X k j x := ⟨_, rfl⟩
          rw [← hv] at hco hbd
          have HV := Lib.hid hv
          have e1 : IntKind.i64.wrap (v + 1) = v + 1 := IntWalk.i64_in _ (by omega)
          clear hc2 hv x0 hx hxk
          go_wp2_with fail
          go_roundw
          case rel => exact ⟨j + 1, by omega, by go_num, Lib.hid ((HO2.out.set x _).congr (fun p hp => by rw [← HST.out p, HV.out])), Lib.hid (below_setAt HB2.out (Nat.le_refl _) _)⟩
          case measure => simp [intOf]; omega
        · obtain rfl : j = 3 := by omega
          go_wp2_with fail
          go_roundw
          case rel => exact ⟨k + 1, by omega, by go_num, Lib.hid (HO2.out.congr (fun p _ => HNx.out p)), HB2⟩
          case measure => simp [intOf]; omega
    · obtain rfl : k = n := by omega
      go_wp2_with fail
      go_ret
      exact ⟨_, rfl, Nat.le_refl _, HO.out, HB.out⟩
end Go.Proofs.Ytpajbcgdoedleab
