/- The model's degrees; HyperDegrees of both sides. -/
import Derived.Test.YtpajbcgdoedleabDeg
import Derived.Test.YtpajbcgdoedleabIsHyp
namespace Go.Proofs.Ytpajbcgdoedleab
open Go.RowKit

/-- A row of indices of edges. -/
def EdIdx (n m : Nat) (E : Nat → Nat) : Prop := ∀ t, t < m → E t < n
def idxV (E : Nat → Nat) (t : Nat) : Int := ((E t : Nat) : Int)
set_option maxRecDepth 100000 in
set_option maxHeartbeats 4000000 in
theorem spec_peDegrees (z : Nat) (A : Option Addr) (n c : Nat) (B : Nat → Option Addr) (l d : Nat → Nat) (X : Nat → Nat → Int) (EA : Option Addr) (m ec : Nat) (E : Nat → Nat) (w : World) (hn : n ≤ 40) (hm : m ≤ 60) (hz : z ≤ 72) (hr : HR w A n B l d X) (he : IRow w EA m (idxV E)) (hE : EdIdx n m E) (h3 : ∀ i, i < n → l i = 3) (hx : ∀ i, i < n → ∀ j, j < l i → 0 ≤ X i j ∧ X i j < z) :
    Calls Try.prog 131 #[.agg #[.int .i64 z, .slice A n c], .slice EA m ec] w fun e w' => ∃ g, e = .returned (.slice (some ⟨g, 0, none⟩) z z) ∧ w.heap.size < g ∧ ORow w' g z (fun p => dgF E l X m 0 p) ∧ Below w.heap.size w w' := by
  have L0 := Lib.hid (LH.start (z := (z : Int)) (c := c) hr 109)
  have HR0 := Lib.hid hr
  have HE0 := Lib.hid he
  have HE := Lib.hid hE
  have H3 := Lib.hid h3
  have HX := Lib.hid hx
  have hmk := fun W => run_make_row' (P := Try.prog) 22 3 (.int .i64 0) 8 Try.underlying22 infoI rfl .i64 .i64 z (by omega) (by omega) W
  clear hr h3 hx he hE
  obtain ⟨hsz, b0, b1⟩ := L0.out.box
  have O1 := Lib.hid (ORow.made (w.alloc (.cells #[.int .i64 z, .slice A n c] 109)) z)
  have L1 := Lib.hid (L0.out.step ((Below.refl _ _).alloc (Nat.le_refl _) (.cells (madeCells #[.int .i64 0] z) 3)))
  simp only [World.size_alloc] at O1
  go_enter Try.func131, Try.ntmps131
  go_wp2_with fail
  go_loopw [15] (fun i wr => ∃ k : Nat, k ≤ m ∧ i = .int .i64 k ∧ Hid (ORow wr (w.heap.size + 1) z (fun p => dgF E l X k 0 p)) ∧ Hid (LH w w.heap.size z A n c B l d X wr)) (fun i _ => m - (intOf i).toNat)
  case atStart => exact ⟨0, Nat.zero_le _, rfl, Lib.hid (O1.out.congr (fun p _ => by simp [dgF, degN, cntE])), L1⟩
  case round =>
    obtain ⟨k, hk, rfl, HO, HL⟩ := hrel
    clear b0 b1 hsz
    obtain ⟨hsz, b0, b1⟩ := HL.out.box
    by_cases hlt : k < m
    · obtain ⟨be, oe, rfl, _, hce⟩ := (HE0.out.b HL.out.below) (by omega)
      have hek := hce k hlt
      unfold idxV at hek
      have hEk := HE.out k hlt
      have HBd := Lib.hid (fun p => degN_le (E := E) (l := l) (X := X) (p := p) k (fun i hi => H3.out _ (HE.out i (by omega))))
      have HNx := Lib.hid (fun p => dgF_next (E := E) (l := l) (X := X) k p)
      have HST := Lib.hid (fun (j x : Nat) (hx : X (E k) j = (x : Int)) (p : Nat) => dgF_step (E := E) (l := l) (X := X) (k := k) (j := j) hx p)
      have HDF := Lib.hid (fun (j p : Nat) => (show dgF E l X k j p = ((degN E l X p k + cntE (X (E k)) p j : Nat) : Int) from rfl))
      have hl3 := H3.out _ hEk
      have hxk := HX.out _ hEk
      have RK := Lib.hid (HR0.out.2 _ hEk)
      clear hce
      generalize E k = u at *
      obtain ⟨bk, off, rfl, hbl, hc⟩ := HL.out.row.1 (by omega)
      have hcq := hc u hEk
      unfold sliceV at hcq
      simp only [hl3] at hcq hxk RK HNx
      clear hc
      generalize B u = Bk at hcq RK
      generalize d u = dk at hcq
      go_wp2_with fail
      go_loopw [25] (fun i wi => ∃ j : Nat, j ≤ 3 ∧ i = .int .i64 j ∧ Hid (ORow wi (w.heap.size + 1) z (fun p => dgF E l X k j p)) ∧ Hid (LH w w.heap.size z (some ⟨bk, off, none⟩) n c B l d X wi)) (fun i _ => 3 - (intOf i).toNat)
      case atStart => exact ⟨0, Nat.zero_le _, rfl, HO, HL⟩
      case round =>
        obtain ⟨j, hj, rfl, HO2, HL2⟩ := hrel
        by_cases hlj : j < 3
        · obtain ⟨b2, o2, rfl, _, hc2⟩ := (RK.out.b HL2.out.below) (by omega)
          have hcj := hc2 j hlj
          obtain ⟨x0, x1⟩ := hxk j hlj
          obtain ⟨x, hx⟩ : ∃ x : Nat, X u j = (x : Int) := ⟨(X u j).toNat, by omega⟩
          have HS2 := Lib.hid (HST.out j x hx)
          rw [hx] at hcj x1
          have hxz : x < z := by omega
          have hco := HO2.out.cell hxz
          have hfo := HO2.out.frozen x
          have hbd : 0 ≤ dgF E l X k j x ∧ dgF E l X k j x ≤ 300 := by
            have h1 := HBd.out x
            have h2 := cntE_le (X u) x j
            rw [HDF.out]
            constructor <;> omega
          obtain ⟨v, hv⟩ : ∃ v, v = dgF E l X k j x := ⟨_, rfl⟩
          rw [← hv] at hco hbd
          have HV := Lib.hid hv
          have e1 : IntKind.i64.wrap (v + 1) = v + 1 := IntWalk.i64_in _ (by omega)
          clear hc2 hv x0 hx hxk
          go_wp2_with fail
          go_roundw
          case rel => exact ⟨j + 1, by omega, by go_num, Lib.hid ((HO2.out.set x _).congr (fun p hp => by rw [← HS2.out p, HV.out])), Lib.hid (HL2.out.put HR0.out (B' := w.heap.size + 1) (by omega) (by omega) (Nat.le_refl _) _)⟩
          case measure => simp [intOf]; omega
        · obtain rfl : j = 3 := by omega
          go_wp2_with fail
          go_roundw
          case rel => exact ⟨k + 1, by omega, by go_num, Lib.hid (HO2.out.congr (fun p _ => HNx.out p)), HL2⟩
          case measure => simp [intOf]; omega
    · obtain rfl : k = m := by omega
      go_wp2_with fail
      go_ret
      exact ⟨_, rfl, by omega, HO.out, HL.out.below⟩
end Go.Proofs.Ytpajbcgdoedleab
