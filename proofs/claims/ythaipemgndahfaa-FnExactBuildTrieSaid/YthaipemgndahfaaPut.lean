/- setField, PutField, PutBit of the program. -/
import Derived.Test.YthaipemgndahfaaGrow
namespace Go.Proofs.Ythaipemgndahfaa
open Go.RowKit

def PutIs (W : Nat → Nat) (g m a0 width v : Nat) (w : World) (e : Ending) (w' : World) : Prop :=
  e = .returned (.tuple #[]) ∧ (∃ W1, PutSt W m a0 v (a0 + width) W1 ∧ ORow w' g m (fun i => (W1 i : Int))) ∧ w.grownBy w' (some g)
theorem only_drew {a w : World} {row : Option Nat} (h : a.grownBy w row) : a.grownBy w.drew row := ⟨h.os, h.tape, h.output, h.size, h.block⟩
theorem only_drewN {a w : World} {row : Option Nat} (h : a.grownBy w row) (n : Nat) : a.grownBy (w.drewN n) row := ⟨h.os, h.tape, h.output, h.size, h.block⟩

set_option maxRecDepth 100000 in
set_option maxHeartbeats 2000000 in
theorem impl_setField (g m : Nat) (W : Nat → Nat) (a0 width0 val0 : Nat) (w : World) (hm : m ≤ 256) (ho : ORow w g m (fun i => (W i : Int))) (hW : ∀ i, i < m → W i < 65536) (ha : a0 + width0 ≤ 16 * m) (hw : width0 ≤ 24) (hv : val0 < 16777216) :
    Calls Try.prog 78 #[.slice (some ⟨g, 0, none⟩) m m, .int .i64 a0, .int .i64 width0, .int .i64 val0] w (PutIs W g m a0 width0 val0 w) := by
  have HS := Lib.hid (PutSt.start W m a0 val0 hW)
  have HO := Lib.hid ho
  clear hW ho
  go_enter Try.func78, Try.ntmps78
  go_wp2_with fail
  go_loopw [1, 2, 3] (fun a b c wr => ∃ A Wd V : Nat, a = .int .i64 A ∧ b = .int .i64 Wd ∧ c = .int .i64 V ∧ a0 ≤ A ∧ Wd ≤ 24 ∧ A + Wd ≤ 16 * m ∧ V < 16777216 ∧ Hid (A + Wd = a0 + width0) ∧ Hid (V = val0 / 2 ^ (A - a0)) ∧
      (∃ W1, PutSt W m a0 val0 A W1 ∧ ORow wr g m (fun i => (W1 i : Int))) ∧ w.grownBy wr (some g)) (fun _ b _ _ => (intOf b).toNat)
  case atStart => exact ⟨a0, width0, val0, rfl, rfl, rfl, Nat.le_refl _, hw, ha, hv, rfl, (by show val0 = _; simp), ⟨W, HS.out, HO.out⟩, World.grownBy.refl w _⟩
  case round =>
    obtain ⟨A, Wd, V, rfl, rfl, rfl, hA, hWd, hAW, hV, hsum, hVe, ⟨W1, hst, hor⟩, hgr⟩ := hrel
    have HST := Lib.hid hst
    have HG := Lib.hid hgr
    have HOR := Lib.hid hor
    by_cases hlt : 0 < Wd
    · obtain ⟨P, hP⟩ : ∃ P : Nat, P = min Wd (16 - A % 16) := ⟨_, rfl⟩
      have hP1 : 1 ≤ P := by omega
      have hP2 : P ≤ Wd := by omega
      have hP3 : A % 16 + P ≤ 16 := by omega
      have hmin : min (Wd : Int) (16 - (A : Int) % 16) = (P : Int) := by omega
      have hx := hor.cell (i := A / 16) (by omega)
      have hf := hor.frozen (A / 16)
      have hWb := hst.1 (A / 16) (by omega)
      obtain ⟨N, hN, hNe, hNb⟩ := put_word (W1 (A / 16)) V P (A % 16) hWb hV (by omega) hP3
      have hM := mask_lt P (A % 16) hP3
      have hQ := shl_lt V (A % 16) hV (by omega)
      have h1 : (A : Int) / 16 < (m : Int) := by omega
      have h2 : 0 ≤ (A : Int) / 16 := by omega
      have h3 : ((A : Int) / 16).toNat = A / 16 := by omega
      have h4 : ((A : Int) % 16).toNat = A % 16 := by omega
      obtain ⟨p0, p1⟩ := two_bd (m := P) (k := 16) (by omega)
      have h5 : 0 < 2 ^ P := Nat.pow_pos (by omega)
      have hMe : ((2 : Int) ^ P - 1) * 2 ^ (A % 16) = (((2 ^ P - 1) * 2 ^ (A % 16) : Nat) : Int) := by rw [Int.natCast_mul, Int.natCast_sub h5]; push_cast; rfl
      have hQe : (V : Int) * 2 ^ (A % 16) = ((V * 2 ^ (A % 16) : Nat) : Int) := by push_cast; rfl
      have HNE := Lib.hid hNe
      have HNB := Lib.hid hNb
      have HN := Lib.hid hN
      have HPm := Lib.hid hP
      generalize (2 ^ P - 1) * 2 ^ (A % 16) = M at *
      generalize V * 2 ^ (A % 16) = Q at *
      clear hst hor hgr hNe hNb hN hP h5
      go_wp2_with fail
      go_region
      go_wp2_with fail
      go_quiet (fail)
      go_wp2_with fail
      rw [HNE.out]
      go_roundw
      case rel =>
        refine ⟨A + P, Wd - P, V / 2 ^ P, by go_num, by go_num, by rw [cast_quot], by omega, by omega, by omega, Nat.lt_of_le_of_lt (Nat.div_le_self _ _) hV, ?_, ?_, ⟨_, HST.out.step hA hP3 HN.out (by rw [← hVe.out]; exact HNB.out), ?_⟩, only_drewN (only_drew (grown_setCell HG.out _ _)) _⟩
        · show _ = _; have := hsum.out; omega
        · show _ = _; rw [hVe.out, Nat.div_div_eq_div_mul, ← Nat.pow_add]; congr 2; omega
        · refine ORow.drewN (w := (wr.setCell _ _).drew) ?_ nq
          exact (HOR.out.set (A / 16) (N : Int)).congr (fun j _ => by by_cases e : j = A / 16 <;> simp [e])
      case measure => simp [intOf]; omega
    · obtain rfl : Wd = 0 := by omega
      have hs := hsum.out
      obtain rfl : A = a0 + width0 := by omega
      go_wp2_with fail
      go_end0
      exact ⟨rfl, ⟨W1, HST.out, HOR.out⟩, HG.out⟩
end Go.Proofs.Ythaipemgndahfaa
