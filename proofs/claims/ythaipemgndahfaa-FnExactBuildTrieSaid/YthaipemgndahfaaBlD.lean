/- Bloom filters: what is valid, the probes of a key, the bits that are on behind keys, rows of words by their bits. -/
import Derived.Test.YthaipemgndahfaaTaV
import Derived.Test.YthaipemgndahfaaOwnB
namespace Go.Proofs.Ythaipemgndahfaa
open Go.RowKit

def fiB (z0 z1 z2 : Int) : Bool := decide (0 ≤ z0 ∧ z0 ≤ 9999) && (decide (1 ≤ z1 ∧ z1 ≤ 8) && decide (1 ≤ z2 ∧ z2 ≤ 512))
theorem fiB_out {z0 z1 z2 : Int} (h : fiB z0 z1 z2 = true) : (0 ≤ z0 ∧ z0 ≤ 9999) ∧ (1 ≤ z1 ∧ z1 ≤ 8) ∧ 1 ≤ z2 ∧ z2 ≤ 512 := by
  unfold fiB at h; simp only [Bool.and_eq_true, decide_eq_true_eq] at h; exact h
theorem fiB_nat {z0 z1 z2 : Int} (h : fiB z0 z1 z2 = true) : ∃ p z : Nat, z1 = p ∧ z2 = z ∧ 1 ≤ p ∧ p ≤ 8 ∧ 1 ≤ z ∧ z ≤ 512 := by
  have := fiB_out h
  exact ⟨z1.toNat, z2.toNat, by omega, by omega, by omega, by omega, by omega, by omega⟩
/-- A valid Bloom filter. -/
def BlV (z0 z1 z2 : Int) (n : Nat) (X : Nat → Int) : Prop := fiB z0 z1 z2 = true ∧ Good z2 n X
/-- The probes of a key. -/
def prI (z0 : Int) (s : ByteArray) (z : Int) (j : Nat) : Int := placeI z0 j s.data.toList z
def prN (z0 : Int) (s : ByteArray) (z : Int) (j : Nat) : Nat := (prI z0 s z j).toNat
theorem prI_nat (z0 : Int) (s : ByteArray) {z : Nat} (h : 1 ≤ z) (j : Nat) : prI z0 s z j = (prN z0 s z j : Int) ∧ prN z0 s z j < z := by
  obtain ⟨h0, h1⟩ := placeI_bd z0 j s.data.toList z (by omega)
  exact ⟨(Int.toNat_of_nonneg h0).symm, by unfold prN prI; omega⟩
theorem prI_seed {z0 : Int} (h : 0 ≤ z0 ∧ z0 ≤ 9999) {j : Nat} (hj : j < 8) : seedB z0 j = true := by
  unfold seedB; simp; omega
/-- The bits F, and those at m places on, too. -/
def onP (F : Nat → Bool) (P : Nat → Nat) : Nat → Nat → Bool
  | 0 => F
  | m + 1 => fun k => onP F P m k || decide (k = P m)
/-- Whether the bits at m places are on. -/
def hasP (F : Nat → Bool) (P : Nat → Nat) : Nat → Bool
  | 0 => true
  | m + 1 => hasP F P m && F (P m)
theorem hasP_no {F : Nat → Bool} {P : Nat → Nat} {j : Nat} (h : F (P j) = false) : ∀ m, j < m → hasP F P m = false
  | 0, hj => absurd hj (by omega)
  | m + 1, hj => by
    rw [hasP]
    by_cases e : j = m
    · subst e; rw [h, Bool.and_false]
    · rw [hasP_no h m (by omega), Bool.false_and]
/-- The bits F, and those at the probes of k keys on, too. -/
def onK (F : Nat → Bool) (z0 : Int) (p : Nat) (z : Int) (S : Nat → ByteArray) : Nat → Nat → Bool
  | 0 => F
  | i + 1 => onP (onK F z0 p z S i) (prN z0 (S i) z) p
/-- The bits of a row of words. -/
def bitX (X : Nat → Int) (k : Nat) : Bool := bitN (fun i => (X i).toNat) k
/-- Block g holds words with the bits F. -/
def OB (w : World) (g m : Nat) (F : Nat → Bool) : Prop := ∃ W : Nat → Nat, (∀ i, i < m → W i < 65536) ∧ (∀ k, k < 16 * m → bitN W k = F k) ∧ ORow w g m (fun i => (W i : Int))
section
variable {w w' : World} {g m : Nat} {F G : Nat → Bool}
theorem OB.own (h : OB w g m F) : ORow w g m (fun i => (wordsOf F i : Int)) := by
  obtain ⟨W, h1, h2, h3⟩ := h
  have he := words_eq h1 h2
  exact h3.congr (fun i hi => by rw [he i hi])
theorem OB.lt (h : OB w g m F) : g < w.heap.size := by
  obtain ⟨W, h1, h2, h3⟩ := h
  exact h3.lt
theorem OB.of_block (h : OB w g m F) (e : w'.heap[g]? = w.heap[g]?) : OB w' g m F := by
  obtain ⟨W, h1, h2, h3⟩ := h
  exact ⟨W, h1, h2, h3.of_block e⟩
theorem OB.b (h : OB w g m F) (hb : Below w.heap.size w w') : OB w' g m F := h.of_block (hb.block g h.lt)
theorem OB.setAt (h : OB w g m F) {b o : Nat} (ha : g ≠ b) (v : Value) : OB (w.setCell ⟨b, o, none⟩ v) g m F := h.of_block (Go.Deep.blk_setCell_other _ _ _ _ ha)
theorem OB.alloc (h : OB w g m F) (o : Obj) : OB (w.alloc o) g m F := h.of_block (Go.Deep.blk_alloc_lt _ _ _ h.lt)
theorem OB.drewN (h : OB w g m F) (k : Nat) : OB (w.drewN k) g m F := h
theorem OB.drew (h : OB w g m F) : OB w.drew g m F := h
theorem OB.congr (h : OB w g m F) (e : ∀ k, k < 16 * m → F k = G k) : OB w g m G := by
  obtain ⟨W, h1, h2, h3⟩ := h
  exact ⟨W, h1, fun k hk => by rw [h2 k hk, e k hk], h3⟩
end
theorem good_nat {z : Int} {n : Nat} {X : Nat → Int} (h : Good z n X) : ∀ i, i < n → 0 ≤ X i ∧ X i < 65536 := fun i hi => by
  have h1 := h.2.2.2 i hi
  have h2 := cap_le z i
  omega
theorem ob_good {w : World} {g n : Nat} {z : Int} {X : Nat → Int} (h : ORow w g n X) (hg : Good z n X) : OB w g n (bitX X) :=
  ⟨fun i => (X i).toNat, fun i hi => by have := good_nat hg i hi; show (X i).toNat < 65536; omega, fun _ _ => rfl, h.congr (fun i hi => by have := good_nat hg i hi; show X i = (((X i).toNat : Nat) : Int); omega)⟩
theorem ob_zero {w : World} {g n : Nat} (h : ORow w g n (fun _ => 0)) : OB w g n (fun _ => false) :=
  ⟨fun _ => 0, fun _ _ => by show 0 < 65536; omega, fun _ _ => by simp [bitN], h.congr (fun _ _ => rfl)⟩
theorem wrow_good {w : World} {A : Option Addr} {n : Nat} {z : Int} {X : Nat → Int} (h : IRow w A n X) (hg : Good z n X) : WRow w A n (fun i => (X i).toNat) := good_row hg h
/-- The bit at a place has been turned on. -/
def OnIs (F : Nat → Bool) (g m i : Nat) (w : World) (e : Ending) (w' : World) : Prop :=
  e = .returned (.tuple #[]) ∧ OB w' g m (fun k => F k || decide (k = i)) ∧ w.grownBy w' (some g)
set_option maxRecDepth 100000 in
set_option maxHeartbeats 2000000 in
theorem impl_setFieldC (g m c : Nat) (W : Nat → Nat) (a0 width0 val0 : Nat) (w : World) (hm : m ≤ 256) (ho : ORow w g m (fun i => (W i : Int))) (hW : ∀ i, i < m → W i < 65536) (ha : a0 + width0 ≤ 16 * m) (hw : width0 ≤ 24) (hv : val0 < 16777216) :
    Calls Try.prog 78 #[.slice (some ⟨g, 0, none⟩) m c, .int .i64 a0, .int .i64 width0, .int .i64 val0] w (PutIs W g m a0 width0 val0 w) := by
  have HS := Lib.hid (PutSt.start W m a0 val0 hW)
  have HO := Lib.hid ho
  clear hW ho
  go_enter Try.func78, Try.ntmps78
  go_wp2_with fail
  go_loopw [1, 2, 3] (fun a b c wr => ∃ A Wd V : Nat, a = .int .i64 A ∧ b = .int .i64 Wd ∧ c = .int .i64 V ∧ a0 ≤ A ∧ Wd ≤ 24 ∧ A + Wd ≤ 16 * m ∧ V < 16777216 ∧ Hid (A + Wd = a0 + width0) ∧ Hid (V = val0 / 2 ^ (A - a0)) ∧
      (∃ W1, PutSt W m a0 val0 A W1 ∧ ORow wr g m (fun i => (W1 i : Int))) ∧ w.grownBy wr (some g)) (fun _ b _ _ => (intOf b).toNat)
  case atStart => exact ⟨a0, width0, val0, rfl, rfl, rfl, Nat.le_refl _, hw, ha, hv, rfl, (by show val0 = _; simp), ⟨W, HS.out, HO.out⟩, World.grownBy.refl w _⟩
  case round =>
    obtain ⟨A, Wd, V, rfl, rfl, rfl, hA, hWd, hAW, hV, hsum, hVe, ⟨W1, hst, hor⟩, hgr⟩ := hrel
    have HST := Lib.hid hst
    have HG := Lib.hid hgr
    have HOR := Lib.hid hor
    by_cases hlt : 0 < Wd
    · obtain ⟨P, hP⟩ : ∃ P : Nat, P = min Wd (16 - A % 16) := ⟨_, rfl⟩
      have hP1 : 1 ≤ P := by omega
      have hP2 : P ≤ Wd := by omega
      have hP3 : A % 16 + P ≤ 16 := by omega
      have hmin : min (Wd : Int) (16 - (A : Int) % 16) = (P : Int) := by omega
      have hx := hor.cell (i := A / 16) (by omega)
      have hf := hor.frozen (A / 16)
      have hWb := hst.1 (A / 16) (by omega)
      obtain ⟨N, hN, hNe, hNb⟩ := put_word (W1 (A / 16)) V P (A % 16) hWb hV (by omega) hP3
      have hM := mask_lt P (A % 16) hP3
      have hQ := shl_lt V (A % 16) hV (by omega)
      have h1 : (A : Int) / 16 < (m : Int) := by omega
      have h2 : 0 ≤ (A : Int) / 16 := by omega
      have h3 : ((A : Int) / 16).toNat = A / 16 := by omega
      have h4 : ((A : Int) % 16).toNat = A % 16 := by omega
      obtain ⟨p0, p1⟩ := two_bd (m := P) (k := 16) (by omega)
      have h5 : 0 < 2 ^ P := Nat.pow_pos (by omega)
      have hMe : ((2 : Int) ^ P - 1) * 2 ^ (A % 16) = (((2 ^ P - 1) * 2 ^ (A % 16) : Nat) : Int) := by rw [Int.natCast_mul, Int.natCast_sub h5]; push_cast; rfl
      have hQe : (V : Int) * 2 ^ (A % 16) = ((V * 2 ^ (A % 16) : Nat) : Int) := by push_cast; rfl
      have HNE := Lib.hid hNe
      have HNB := Lib.hid hNb
      have HN := Lib.hid hN
      have HPm := Lib.hid hP
      generalize (2 ^ P - 1) * 2 ^ (A % 16) = M at *
      generalize V * 2 ^ (A % 16) = Q at *
      clear hst hor hgr hNe hNb hN hP h5
      go_wp2_with fail
      go_region
      go_wp2_with fail
      go_quiet (fail)
      go_wp2_with fail
      rw [HNE.out]
      go_roundw
      case rel =>
        refine ⟨A + P, Wd - P, V / 2 ^ P, by go_num, by go_num, by rw [cast_quot], by omega, by omega, by omega, Nat.lt_of_le_of_lt (Nat.div_le_self _ _) hV, ?_, ?_, ⟨_, HST.out.step hA hP3 HN.out (by rw [← hVe.out]; exact HNB.out), ?_⟩, only_drewN (only_drew (grown_setCell HG.out _ _)) _⟩
        · show _ = _; have := hsum.out; omega
        · show _ = _; rw [hVe.out, Nat.div_div_eq_div_mul, ← Nat.pow_add]; congr 2; omega
        · refine ORow.drewN (w := (wr.setCell _ _).drew) ?_ nq
          exact (HOR.out.set (A / 16) (N : Int)).congr (fun j _ => by by_cases e : j = A / 16 <;> simp [e])
      case measure => simp [intOf]; omega
    · obtain rfl : Wd = 0 := by omega
      have hs := hsum.out
      obtain rfl : A = a0 + width0 := by omega
      go_wp2_with fail
      go_end0
      exact ⟨rfl, ⟨W1, HST.out, HOR.out⟩, HG.out⟩
theorem impl_setOn {g m c i : Nat} {F : Nat → Bool} {w : World} (h : OB w g m F) (hm : m ≤ 256) (hi : i < 16 * m) :
    Calls Try.prog 78 #[.slice (some ⟨g, 0, none⟩) m c, .int .i64 i, .int .i64 1, .int .i64 1] w (OnIs F g m i w) := by
  obtain ⟨W, h1, h2, h3⟩ := h
  refine (impl_setFieldC g m c W i 1 1 w hm h3 h1 (by omega) (by omega) (by omega)).mono ?_
  rintro e w' ⟨he, ⟨W1, ⟨p1, p2⟩, ho⟩, hg⟩
  refine ⟨he, ⟨W1, p1, fun k hk => ?_, ho⟩, hg⟩
  rw [p2 k hk]
  by_cases e : k = i
  · subst e; rw [if_pos (by omega)]; simp
  · rw [if_neg (by omega), h2 k hk]; simp [e]
theorem spec_setOn {z : Int} {g m c i : Nat} {F : Nat → Bool} {w : World} (h : OB w g m F) (hm : m ≤ 256) (hi : i < 16 * m) :
    Calls Try.prog 82 #[.agg #[.int .i64 z, .slice (some ⟨g, 0, none⟩) m c], .int .i64 i] w (OnIs F g m i w) := by
  obtain ⟨W, h1, h2, h3⟩ := h
  refine (spec_biSet z g m c i W w hm h3 h1 hi).mono ?_
  rintro e w' ⟨he, ⟨W1, p1, p2, ho⟩, hg⟩
  exact ⟨he, ⟨W1, p1, fun k hk => by rw [p2 k hk, h2 k hk], ho⟩, hg⟩
end Go.Proofs.Ythaipemgndahfaa
