/- The program reads the numbers of a Sparse: SparseList. -/
import Derived.Test.YtffdkfhnlgfigaaListS
import Derived.Test.YtffdkfhnlgfigaaQuietC
namespace Go.Proofs.Ytffdkfhnlgfigaa
open Go.RowKit

section
variable {zc zL zw zl : Int} {nl : Nat} {Xl : Nat → Int} {zh : Int} {nh : Nat} {Xh : Nat → Int} {c L w : Nat} {f g : Nat → Nat}
theorem SpIs.same (h : SpIs zc zL zw zl nl Xl zh nh Xh c L w f) (k : SpIs zc zL zw zl nl Xl zh nh Xh c L w g) : ∀ i, i < c → f i = g i := by
  intro i
  induction i using Nat.strongRecOn with
  | ind i ih =>
    intro hi
    have hp : f i / 2 ^ w + i = g i / 2 ^ w + i := by
      rcases Nat.lt_trichotomy (f i / 2 ^ w + i) (g i / 2 ^ w + i) with e | e | e
      · have := k.found hi (a := f i / 2 ^ w + i) (fun h0 => by rw [← ih (i - 1) (by omega) (by omega)]; exact h.num.at_lt (by omega) hi) _ (Nat.le_refl _) e
        rw [h.hit hi] at this; cases this
      · exact e
      · have := h.found hi (a := g i / 2 ^ w + i) (fun h0 => by rw [ih (i - 1) (by omega) (by omega)]; exact k.num.at_lt (by omega) hi) _ (Nat.le_refl _) e
        rw [k.hit hi] at this; cases this
    have h1 := split_num (f i) w
    have h2 := split_num (g i) w
    rw [← h.field hi] at h1
    rw [← k.field hi] at h2
    rw [show f i / 2 ^ w = g i / 2 ^ w by omega] at h1
    omega
/-- Where a valid Sparse has one more number, one more bit is on, and its field is there. -/
theorem SpIs.next (h : SpIs zc zL zw zl nl Xl zh nh Xh c L w f) {m : Nat} {P : Nat → Nat} (o : OnesTo (fun i => (Xh i).toNat) (aft P m) m P) (hm : m < c) (hp : aft P m ≤ hzN c L w) : ¬ NoneFrom (fun i => (Xh i).toNat) true zh (aft P m) := fun hn => by
  have hpl := h.places o hp
  have h1 : aft P m ≤ f m / 2 ^ w + m := by
    unfold aft
    by_cases e0 : m = 0
    · simp [e0]
    · rw [if_neg e0, hpl.2 (m - 1) (by omega)]; have := h.num.at_lt (i := m - 1) (j := m) (by omega) hm; omega
  have := hn _ h1 (by rw [h.eh]; exact_mod_cast h.num.at_top hm)
  rw [h.hit hm] at this; cases this
theorem SpIs.room (h : SpIs zc zL zw zl nl Xl zh nh Xh c L w f) {m : Nat} (hm : m < c) : Room zl nl Xl ((m * w : Nat) : Int) (w : Int) := by
  have h3 : (m + 1) * w ≤ c * w := Nat.mul_le_mul_right _ hm
  rw [Nat.succ_mul] at h3
  have := h.num.width; have := h.el
  exact ⟨h.goodl, by omega, by omega, by omega, by omega⟩
end
/-- What SparseList answers. -/
def SpAns (z0 z1 z2 z3 : Int) (n1 : Nat) (X1 : Nat → Int) (z4 : Int) (n2 : Nat) (X2 : Nat → Int) (w : World) (e : Ending) (w' : World) : Prop :=
  ((∃ c L v f A k, SpIs z0 z1 z2 z3 n1 X1 z4 n2 X2 c L v f ∧ e = .returned (.tuple #[.slice A c k, .bool true]) ∧ Ow w.heap.size w'.heap.size 3 A c (intV (numI f)) w' ∧ c ≤ k) ∨
    (¬ SpV z0 z1 z2 z3 n1 X1 z4 n2 X2 ∧ e = .returned (.tuple #[.slice none 0 0, .bool false]))) ∧ Below w.heap.size w w'
theorem run_make_ints (n : Nat) (hn : n ≤ 4096) (W : World) : (Instr.makeSlice 28 (.int .i64 n) (.int .i64 n)).run Try.prog W = .ok (.slice (some ⟨W.heap.size, 0, none⟩) n n) (W.alloc (.cells (madeCells #[.int .i64 0] n) 3)) :=
  run_make_row' (P := Try.prog) 28 3 (.int .i64 0) 8 Try.underlying28 infoI rfl .i64 .i64 n (by omega) (by omega) W
theorem list_set {Y : Nat → Int} {V : Nat → Nat} {v m k : Nat} {P : Nat → Nat} {x : Int} (h : ∀ i, i < m → Y i = numI (gv V v P) i) (hx : x = numI (gv V v (putP P m k)) m) : ∀ i, i < m + 1 → (if i = m then x else Y i) = numI (gv V v (putP P m k)) i := fun i hi => by
  by_cases e : i = m
  · rw [if_pos e, e]; exact hx
  · rw [if_neg e, h i (by omega)]; unfold numI; rw [gv_put (by omega)]

theorem impl_read_any (z : Int) (A : Option Addr) (n c : Nat) (X : Nat → Int) (a width : Nat) (w : World) (hn : n ≤ 1048576) (hr : IRow w A n X) :
    Calls Try.prog 94 #[.agg #[.int .i64 z, .slice A n c], .int .i64 a, .int .i64 width] w fun e w' => ∃ (x : Int) (b : Bool), e = .returned (.tuple #[.int .i64 x, .bool b]) ∧ Below w.heap.size w w' := by
  by_cases h : Room z n X a width
  · exact (impl_read_yes z A n c X a width w hn hr h).mono fun _ _ ⟨he, hb⟩ => ⟨_, _, he, hb⟩
  · exact (impl_read_no z A n c X a width w hn hr h).mono fun _ _ ⟨he, hb⟩ => ⟨_, _, he, hb⟩
theorem SpAns.no {z0 z1 z2 z3 z4 : Int} {n1 n2 : Nat} {X1 X2 : Nat → Int} {w w' : World} {e : Ending} (h : ¬ SpV z0 z1 z2 z3 n1 X1 z4 n2 X2) (he : e = .returned (.tuple #[.slice none 0 0, .bool false])) (hb : Below w.heap.size w w') : SpAns z0 z1 z2 z3 n1 X1 z4 n2 X2 w e w' := ⟨.inr ⟨h, he⟩, hb⟩
theorem ow_of_orow' {w : World} {g n lo : Nat} {X : Nat → Int} (h : ORow w g n X) (hl : lo ≤ g) : Ow lo w.heap.size 3 (some ⟨g, 0, none⟩) n (intV X) w := ow_of_own (m := n) (show GOwn w 3 g n (intV X) from h) hl (Nat.le_refl _)

section
variable (A1 : Option Addr) (n1 c1 : Nat) (X1 : Nat → Int) (A2 : Option Addr) (n2 c2 : Nat) (X2 : Nat → Int) (w : World)
set_option maxRecDepth 100000 in
set_option maxHeartbeats 8000000 in
theorem impl_list_mid (c L v : Nat) (z3 z4 : Int) (hn1 : n1 ≤ 1048576) (hn2 : n2 ≤ 1048576) (h1 : IRow w A1 n1 X1) (h2 : IRow w A2 n2 X2) (hc : c ≤ 60) (hL1 : 1 ≤ L) (hL : L ≤ 100000) (hwd : IsW c L v) :
    Calls Try.prog 49 #[.agg (spC c L v z3 A1 n1 c1 z4 A2 n2 c2)] w (SpAns c L v z3 n1 X1 z4 n2 X2 w) := by
  have HW := Lib.hid hwd
  have hv := isW_le hwd hL
  have HS0 := Lib.hid (SL.start (z0 := c) (z1 := L) (z2 := v) (z3 := z3) (z4 := z4) (c1 := c1) (c2 := c2) h1 h2)
  have HR1 := Lib.hid h1
  have HR2 := Lib.hid h2
  have hmk := fun W => run_make_ints c (by omega) W
  clear h1 h2 hwd
  go_enter Try.func49, Try.ntmps49
  unfold spC
  go_wp2_with fail
  refine (impl_width_yes c L v _ hc hL1 hL HW.out).mono ?_; rintro e w' ⟨rfl, rfl⟩
  go_wp2_with fail
  have SA := Lib.hid (HS0.out.al (.cells (madeCells #[.int .i64 0] c) 3))
  have OA := ORow.made (w.alloc (.cells (spC c L v z3 A1 n1 c1 z4 A2 n2 c2) 32)) c
  simp only [World.size_alloc] at OA
  have HOA := Lib.hid OA
  clear HS0 OA hmk
  go_loopw [7, 35] (fun fr i wr => ∃ (m : Nat) (P : Nat → Nat) (Y : Nat → Int), m ≤ c ∧ i = .int .i64 m ∧ fr = .int .i64 (aft P m : Nat) ∧ (m = 0 ∨ (aft P m : Int) ≤ z4 ∧ Good z4 n2 X2) ∧ OnesTo (fun i => (X2 i).toNat) (aft P m) m P ∧ (∀ i, i < m → Y i = numI (gv (fun i => (X1 i).toNat) v P) i) ∧ ORow wr (w.heap.size + 1) c Y ∧ SL w c L v z3 A1 n1 c1 X1 z4 A2 n2 c2 X2 wr) (fun _ i _ => c - (intOf i).toNat)
  case atStart => exact ⟨0, fun _ => 0, _, Nat.zero_le _, rfl, rfl, .inl rfl, OnesTo.start _ _, fun i hi => absurd hi (by omega), HOA.out, SA.out⟩
  case round =>
    obtain ⟨m, P, Y, hm, rfl, rfl, hgz, hon, hY, hrow, hsl⟩ := hrel
    have HON := Lib.hid hon
    have HY := Lib.hid hY
    have HRW := Lib.hid hrow
    have HSL := Lib.hid hsl
    have HGZ := Lib.hid hgz
    obtain ⟨q0, q1, q2, q3, q4, q5, q6⟩ := hsl.cells
    clear hgz hon hY hrow hsl SA HOA
    by_cases hlt : m < c
    · obtain ⟨mw, hmw⟩ : ∃ mw, mw = m * v := ⟨_, rfl⟩
      have hmwi : (m : Int) * (v : Int) = (mw : Int) := by rw [hmw]; push_cast; rfl
      have hmwc : mw ≤ 960 := by rw [hmw]; exact Nat.mul_le_mul (n₁ := m) (m₁ := v) (n₂ := 60) (m₂ := 16) (by omega) (by omega)
      have HMW := Lib.hid hmw
      clear hmw
      obtain ⟨ap, hap⟩ : ∃ ap, ap = aft P m := ⟨_, rfl⟩
      rw [← hap]
      have HAP := Lib.hid hap
      clear hap
      by_cases hg2 : Good z4 n2 X2
      rotate_left
      · have HF := Lib.hid hg2
        clear hg2
        have HNV := Lib.hid (show ¬ SpV c L v z3 n1 X1 z4 n2 X2 from fun ⟨_, _, _, _, h⟩ => HF.out h.goodh)
        go_wp2_with fail
        refine (impl_next_bad z4 A2 n2 c2 X2 ap true _ hn2 HSL.out.high (.inl HF.out)).mono ?_; rintro e w1 ⟨rfl, hb⟩
        have S1 := Lib.hid (HSL.out.step hb)
        clear hb q0 q1 q2 q3 q4 q5 q6
        obtain ⟨q0, q1, q2, q3, q4, q5, q6⟩ := S1.out.cells
        go_wp2_with fail
        refine (impl_read_any z3 A1 n1 c1 X1 mw v _ hn1 S1.out.low).mono ?_; rintro e w2 ⟨x, b, rfl, hb⟩
        have S2 := Lib.hid (S1.out.step hb)
        clear hb q0 q1 q2 q3 q4 q5 q6
        go_wp2_with fail
        go_ret2
        exact SpAns.no HNV.out rfl S2.out.below
      have HG2 := Lib.hid hg2
      have hz4 := hg2.2.1
      have hz40 := hg2.1
      clear hg2
      have hapz : (ap : Int) ≤ z4 := by
        rcases HGZ.out with h | h
        · subst h; rw [HAP.out]; simp [aft]; exact hz40
        · rw [HAP.out]; exact h.1
      obtain ⟨zh, rfl⟩ := Int.eq_ofNat_of_zero_le hz40
      by_cases hfound : ∃ k, Found (fun i => (X2 i).toNat) true (zh : Int) ap k
      rotate_left
      · have hnone : NoneFrom (fun i => (X2 i).toNat) true (zh : Int) ap := by
          rcases found_or (fun i => (X2 i).toNat) true (zh : Int) zh ap (by omega) with h | h
          · exact absurd h hfound
          · exact h
        have HNV := Lib.hid (show ¬ SpV c L v z3 n1 X1 zh n2 X2 from fun h => by
          obtain ⟨f, h⟩ := h.at
          have e4 := h.eh
          exact h.next HON.out hlt (by rw [← HAP.out]; omega) (by rw [← HAP.out]; exact hnone))
        have HNF := Lib.hid hnone
        clear hnone hfound
        go_wp2_with fail
        refine (impl_next_none zh A2 n2 c2 X2 ap true _ hn2 HSL.out.high HG2.out HNF.out).mono ?_; rintro e w1 ⟨rfl, hb⟩
        have S1 := Lib.hid (HSL.out.step hb)
        clear hb q0 q1 q2 q3 q4 q5 q6
        obtain ⟨q0, q1, q2, q3, q4, q5, q6⟩ := S1.out.cells
        go_wp2_with fail
        refine (impl_read_any z3 A1 n1 c1 X1 mw v _ hn1 S1.out.low).mono ?_; rintro e w2 ⟨x, b, rfl, hb⟩
        have S2 := Lib.hid (S1.out.step hb)
        clear hb q0 q1 q2 q3 q4 q5 q6
        go_wp2_with fail
        go_ret2
        exact SpAns.no HNV.out rfl S2.out.below
      obtain ⟨k, hk⟩ := hfound
      have hk1 := hk.1
      have hk2 := hk.2.1
      have HK := Lib.hid hk
      clear hk
      by_cases hroom : Room z3 n1 X1 (mw : Int) (v : Int)
      rotate_left
      · have HNV := Lib.hid (show ¬ SpV c L v z3 n1 X1 zh n2 X2 from fun h => by
          obtain ⟨f, h⟩ := h.at
          exact hroom (by rw [HMW.out]; exact h.room hlt))
        have HRM := Lib.hid hroom
        clear hroom
        go_wp2_with fail
        refine (impl_next_yes zh A2 n2 c2 X2 ap k true _ hn2 HSL.out.high HG2.out HK.out).mono ?_; rintro e w1 ⟨rfl, hb⟩
        have S1 := Lib.hid (HSL.out.step hb)
        clear hb q0 q1 q2 q3 q4 q5 q6
        obtain ⟨q0, q1, q2, q3, q4, q5, q6⟩ := S1.out.cells
        go_wp2_with fail
        refine (impl_read_no z3 A1 n1 c1 X1 mw v _ hn1 S1.out.low HRM.out).mono ?_; rintro e w2 ⟨rfl, hb⟩
        have S2 := Lib.hid (S1.out.step hb)
        clear hb q0 q1 q2 q3 q4 q5 q6
        go_wp2_with fail
        go_ret2
        exact SpAns.no HNV.out rfl S2.out.below
      have HRM := Lib.hid hroom
      clear hroom
      have hmk : m ≤ k := by
        have h1 : m ≤ ap := by
          rw [HAP.out]
          rcases Nat.eq_zero_or_pos m with e | e
          · omega
          · have := HON.out.ge (m - 1) (by omega); unfold aft; rw [if_neg (by omega)]; omega
        omega
      obtain ⟨q, hq⟩ : ∃ q, q = k - m := ⟨_, rfl⟩
      have hkq : (k : Int) - (m : Int) = (q : Int) := by omega
      obtain ⟨D, hD⟩ : ∃ D, D = q * 2 ^ v := ⟨_, rfl⟩
      have hqD : (q : Int) * 2 ^ v = (D : Int) := by rw [hD]; push_cast; rfl
      have hp16 : 2 ^ v ≤ 65536 := two_le16 hv
      have hDb : D ≤ 268435456 := by rw [hD]; exact Nat.mul_le_mul (n₁ := q) (m₁ := 2 ^ v) (n₂ := 4096) (m₂ := 65536) (by omega) hp16
      obtain ⟨fv, hfv⟩ : ∃ fv, fv = fieldN (fun i => (X1 i).toNat) mw v := ⟨_, rfl⟩
      have hfl := fieldN_lt (fun i => (X1 i).toNat) v mw
      rw [← hfv] at hfl
      have hfb : fv ≤ 65536 := by omega
      have HF := Lib.hid (show ((D : Int) + (fv : Int)) = numI (gv (fun i => (X1 i).toNat) v (putP P m k)) m from by unfold numI; rw [gv_at, ← hq, ← hD, ← HMW.out, ← hfv]; push_cast; rfl)
      have hrd := fun (W : World) (hW : IRow W A1 n1 X1) => impl_read_yes z3 A1 n1 c1 X1 mw v W hn1 hW HRM.out
      rw [← hfv] at hrd
      have HRD := Lib.hid hrd
      clear hq hD hfv hfl hp16 hrd
      go_wp2_with fail
      refine (impl_next_yes zh A2 n2 c2 X2 ap k true _ hn2 HSL.out.high HG2.out HK.out).mono ?_; rintro e w1 ⟨rfl, hb⟩
      have S1 := Lib.hid (HSL.out.step hb)
      have R1 := Lib.hid (HRW.out.b hb)
      clear hb q0 q1 q2 q3 q4 q5 q6
      obtain ⟨q0, q1, q2, q3, q4, q5, q6⟩ := S1.out.cells
      go_wp2_with fail
      refine (HRD.out _ S1.out.low).mono ?_; rintro e w2 ⟨rfl, hb⟩
      have S2 := Lib.hid (S1.out.step hb)
      have R2 := Lib.hid (R1.out.b hb)
      clear hb q0 q1 q2 q3 q4 q5 q6 S1 R1
      have hcell := R2.out.cell hlt
      have hfroz := R2.out.frozen m
      go_wp2_with fail
      have S3 := Lib.hid (S2.out.low' HR1.out HR2.out (B := w.heap.size + 1) (by omega) (below_setAt (b := w.heap.size + 1) (o := m) (Below.refl _ _) (Nat.le_refl _) (.int .i64 ((D : Int) + (fv : Int)))))
      have R3 := Lib.hid (R2.out.set m ((D : Int) + (fv : Int)))
      have hkz : k + 1 ≤ zh := by omega
      go_roundw
      case rel => exact ⟨m + 1, putP P m k, _, by omega, by go_num, by rw [aft_succ, putP_at]; go_num, .inr ⟨by rw [aft_succ, putP_at]; omega, HG2.out⟩, by rw [aft_succ, putP_at]; exact HON.out.jump rfl (by rw [← HAP.out]; exact hk1) HK.out.2.2.1 (by rw [← HAP.out]; exact HK.out.2.2.2), list_set HY.out HF.out, R3.out, S3.out⟩
      case measure => simp [intOf]; omega
    · obtain rfl : m = c := by omega
      obtain ⟨G, hG⟩ : ∃ G, G = gv (fun i => (X1 i).toNat) v P := ⟨_, rfl⟩
      rw [← hG] at HY
      have HGG := Lib.hid hG
      clear hG
      have HRW2 := Lib.hid (HRW.out.congr HY.out)
      -- what a valid Sparse says of these numbers
      have HT := Lib.hid (show SpV m L v z3 n1 X1 z4 n2 X2 → SpIs m L v z3 n1 X1 z4 n2 X2 m L v G from fun h => by
        obtain ⟨f, h⟩ := h.at
        have hap : aft P m ≤ hzN m L v := by
          rcases HGZ.out with h0 | h0
          · subst h0; simp [aft]
          · have := h.eh; have := h0.1; omega
        rw [HGG.out]
        exact h.congr fun i hi => (h.value HON.out hap hi).symm)
      clear HRW HY
      by_cases hok : SpOk m (numI G) L
      rotate_left
      · have HF := Lib.hid hok
        clear hok
        go_wp2_with fail
        refine (impl_build_no (some ⟨w.heap.size + 1, 0, none⟩) m m (numI G) L _ (by omega) HRW2.out.row HF.out).mono ?_; rintro e w1 ⟨B1, d1, B2, d2, rfl, _, _, _, hb⟩
        unfold spC
        have S1 := Lib.hid (HSL.out.step hb)
        have HNV := Lib.hid (show ¬ SpV m L v z3 n1 X1 z4 n2 X2 from fun h => HF.out (spN_ok (HT.out h).num))
        clear hb q0 q1 q2 q3 q4 q5 q6
        go_wp2_with fail
        go_ret2
        exact SpAns.no HNV.out rfl (S1.out.al _).below
      have HN := Lib.hid (show SpN m L v G from ⟨hc, hL1, hL, HW.out, fun i hi => by have := hok.2.2.2 i hi; unfold numI at this; omega, fun i hi => by
        have := (hok.2.2.2 (i + 1) hi).2.2 (by omega); rw [show i + 1 - 1 = i by omega] at this; unfold numI at this; omega⟩)
      clear hok
      obtain ⟨zl, hzl⟩ : ∃ zl, zl = m * v := ⟨_, rfl⟩
      obtain ⟨zh, hzh⟩ : ∃ zh, zh = hzN m L v := ⟨_, rfl⟩
      obtain ⟨nl, hnl⟩ : ∃ nl, nl = (m * v + 15) / 16 := ⟨_, rfl⟩
      obtain ⟨nh, hnh⟩ : ∃ nh, nh = (hzN m L v + 15) / 16 := ⟨_, rfl⟩
      have hlow : zl ≤ 960 := by rw [hzl]; exact HN.out.lows
      have hhigh : zh ≤ 200 := by rw [hzh]; exact HN.out.high
      rw [← hzl] at hnl
      rw [← hzh] at hnh
      have hnl2 : nl ≤ 1048576 := by omega
      have hnh2 : nh ≤ 1048576 := by omega
      have HZL := Lib.hid hzl
      have HZH := Lib.hid hzh
      have HNL := Lib.hid hnl
      have HNH := Lib.hid hnh
      clear hzl hzh hnl hnh
      go_wp2_with fail
      refine (impl_build_yes (some ⟨w.heap.size + 1, 0, none⟩) m m L v G _ HN.out HRW2.out.row nl nh (by rw [← HZL.out]; exact HNL.out) (by rw [← HZH.out]; exact HNH.out)).mono ?_; rintro e w1 ⟨B1, d1, B2, d2, rfl, o1, o2, _, hb⟩
      rw [← HZL.out, ← HZH.out]
      unfold spC
      have S1 := Lib.hid ((HSL.out.step hb).al (.cells #[.int .i64 m, .int .i64 L, .int .i64 v, .int .i64 zl, .slice B1 nl d1, .int .i64 zh, .slice B2 nh d2] 32))
      have hba := (Below.refl w1.heap.size w1).alloc (Nat.le_refl _) (.cells #[.int .i64 m, .int .i64 L, .int .i64 v, .int .i64 zl, .slice B1 nl d1, .int .i64 zh, .slice B2 nh d2] 32)
      have R1 := Lib.hid (IRow.b (show IRow w1 B1 nl _ from o1.rd.row (Nat.le_refl _)) hba)
      have R2 := Lib.hid (IRow.b (show IRow w1 B2 nh _ from o2.rd.row (Nat.le_refl _)) hba)
      have RG := Lib.hid (ORow.b (ORow.b HRW2.out hb) hba)
      have NB : Hid (NBX w1.heap.size w1.heap.size #[.int .i64 m, .int .i64 L, .int .i64 v, .int .i64 zl, .slice B1 nl d1, .int .i64 zh, .slice B2 nh d2] 32 (w1.alloc (.cells #[.int .i64 m, .int .i64 L, .int .i64 v, .int .i64 zl, .slice B1 nl d1, .int .i64 zh, .slice B2 nh d2] 32))) := Lib.hid ⟨Go.Deep.blk_alloc_new _ _, Nat.le_refl _⟩
      clear o1 o2 hb hba q0 q1 q2 q3 q4 q5 q6
      obtain ⟨q0, q1, q2, q3, q4, q5, q6⟩ := S1.out.cells
      have f3 := NB.out.cell 3 _ rfl
      have f4 := NB.out.cell 4 _ rfl
      have f5 := NB.out.cell 5 _ rfl
      have f6 := NB.out.cell 6 _ rfl
      go_wp2_with fail
      refine (impl_equalBits z3 zl A1 B1 n1 c1 nl d1 X1 _ _ hn1 hnl2 S1.out.low R1.out).mono ?_; rintro e w7 ⟨b1, rfl, hb1, hb⟩
      have S7 := Lib.hid (S1.out.step hb)
      have NB7 := Lib.hid (NB.out.b hb)
      have Q7 := Lib.hid (R2.out.b hb)
      have RG7 := Lib.hid (RG.out.b hb)
      have HB1 := Lib.hid hb1
      clear hb hb1 S1 NB R1 R2 RG q0 q1 q2 q3 q4 q5 q6 f3 f4 f5 f6
      obtain ⟨q0, q1, q2, q3, q4, q5, q6⟩ := S7.out.cells
      have f5 := NB7.out.cell 5 _ rfl
      have f6 := NB7.out.cell 6 _ rfl
      cases b1 with
      | false =>
        have HNV := Lib.hid (show ¬ SpV m L v z3 n1 X1 z4 n2 X2 from fun h => by
          have h := HT.out h
          refine absurd (HB1.out.2 ⟨by rw [h.el, HZL.out], by rw [h.enl, HNL.out, HZL.out], fun i hi => h.xl i hi⟩) (by simp))
        go_wp2_with fail
        go_ret2
        exact SpAns.no HNV.out rfl S7.out.below
      | true =>
        go_wp2_with fail
        refine (impl_equalBits z4 zh A2 B2 n2 c2 nh d2 X2 _ _ hn2 hnh2 S7.out.high Q7.out).mono ?_; rintro e w8 ⟨b2, rfl, hb2, hb⟩
        have S8 := Lib.hid (S7.out.step hb)
        have RG8 := Lib.hid (RG7.out.b hb)
        have HB2 := Lib.hid hb2
        clear hb hb2
        cases b2 with
        | false =>
          have HNV := Lib.hid (show ¬ SpV m L v z3 n1 X1 z4 n2 X2 from fun h => by
            have h := HT.out h
            refine absurd (HB2.out.2 ⟨by rw [h.eh, HZH.out], by rw [h.enh, HNH.out, HZH.out], fun i hi => h.xh i hi⟩) (by simp))
          go_wp2_with fail
          go_ret2
          exact SpAns.no HNV.out rfl S8.out.below
        | true =>
          have g1 := HB1.out.1 (by simp)
          have g2 := HB2.out.1 (by simp)
          have HV := Lib.hid (show SpIs m L v z3 n1 X1 z4 n2 X2 m L v G from ⟨HN.out, rfl, rfl, rfl, by rw [g1.1, HZL.out], by rw [g1.2.1, HNL.out, HZL.out], fun i hi => g1.2.2 i hi, by rw [g2.1, HZH.out], by rw [g2.2.1, HNH.out, HZH.out], fun i hi => g2.2.2 i hi⟩)
          clear g1 g2
          go_wp2_with fail
          go_ret2
          exact ⟨.inl ⟨m, L, v, G, _, _, HV.out, rfl, ow_of_orow' RG8.out (by omega), Nat.le_refl _⟩, S8.out.below⟩
set_option maxRecDepth 100000 in
set_option maxHeartbeats 2000000 in
theorem impl_sparseList (z0 z1 z2 z3 z4 : Int) (hn1 : n1 ≤ 1048576) (hn2 : n2 ≤ 1048576) (h1 : IRow w A1 n1 X1) (h2 : IRow w A2 n2 X2) :
    Calls Try.prog 49 #[.agg (spC z0 z1 z2 z3 A1 n1 c1 z4 A2 n2 c2)] w (SpAns z0 z1 z2 z3 n1 X1 z4 n2 X2 w) := by
  by_cases hw : WOk z0 z1
  rotate_left
  · have HF := Lib.hid hw
    have HB := Lib.hid ((Below.refl w.heap.size w).alloc (Nat.le_refl _) (.cells (spC z0 z1 z2 z3 A1 n1 c1 z4 A2 n2 c2) 32))
    clear hw
    go_enter Try.func49, Try.ntmps49
    unfold spC
    go_wp2_with fail
    refine (impl_width_no z0 z1 _ HF.out).mono ?_; rintro e w' ⟨rfl, rfl⟩
    go_wp2_with fail
    go_ret2
    exact SpAns.no (fun ⟨c, L, v, f, h⟩ => HF.out ⟨by have := h.ec; omega, by have := h.ec; have := h.num.hc; omega, by have := h.eL; have := h.num.h1; omega, by have := h.eL; have := h.num.hL; omega⟩) rfl HB.out
  obtain ⟨c, L, v, rfl, rfl, hc, hL1, hL, hwd⟩ := wOk_nat hw
  by_cases a2 : z2 = v
  · subst a2
    exact impl_list_mid A1 n1 c1 X1 A2 n2 c2 X2 w c L v z3 z4 hn1 hn2 h1 h2 hc hL1 hL hwd
  · have HNV := Lib.hid (show ¬ SpV c L z2 z3 n1 X1 z4 n2 X2 from fun ⟨c', L', v', f, h⟩ => a2 (by
      have e1 := h.ec; have e2 := h.eL; have e3 := h.ew
      obtain rfl : c = c' := by omega
      obtain rfl : L = L' := by omega
      rw [isW_uniq hwd h.num.wd]; exact e3))
    have HWD := Lib.hid hwd
    have d1 : (z2 != (v : Int)) = true := by simpa using a2
    have HB := Lib.hid ((Below.refl w.heap.size w).alloc (Nat.le_refl _) (.cells (spC c L z2 z3 A1 n1 c1 z4 A2 n2 c2) 32))
    clear a2 hwd hw
    go_enter Try.func49, Try.ntmps49
    unfold spC
    go_wp2_with fail
    refine (impl_width_yes c L v _ hc hL1 hL HWD.out).mono ?_; rintro e w' ⟨rfl, rfl⟩
    go_wp2_with fail
    go_ret2
    exact SpAns.no HNV.out rfl HB.out
theorem SpAns.yes {z0 z1 z2 z3 z4 : Int} {c L v : Nat} {f : Nat → Nat} (h : SpIs z0 z1 z2 z3 n1 X1 z4 n2 X2 c L v f) (e : Ending) (w' : World) (ha : SpAns z0 z1 z2 z3 n1 X1 z4 n2 X2 w e w') :
    ∃ A k, e = .returned (.tuple #[.slice A c k, .bool true]) ∧ Ow w.heap.size w'.heap.size 3 A c (intV (numI f)) w' ∧ c ≤ k ∧ Below w.heap.size w w' := by
  obtain ⟨ha, hb⟩ := ha
  rcases ha with ⟨c', L', v', g, A, k, hg, he, ho, hk⟩ | ⟨hn, _⟩
  · have u := h.uniq hg
    obtain ⟨rfl, rfl, rfl⟩ := u
    exact ⟨A, k, he, ho.congr (fun i hi => by unfold intV numI; rw [hg.same h i hi]), hk, hb⟩
  · exact absurd ⟨c, L, v, f, h⟩ hn
theorem SpAns.not {z0 z1 z2 z3 z4 : Int} (h : ¬ SpV z0 z1 z2 z3 n1 X1 z4 n2 X2) (e : Ending) (w' : World) (ha : SpAns z0 z1 z2 z3 n1 X1 z4 n2 X2 w e w') : e = .returned (.tuple #[.slice none 0 0, .bool false]) ∧ Below w.heap.size w w' := by
  obtain ⟨ha, hb⟩ := ha
  rcases ha with ⟨c', L', v', g, A, k, hg, _⟩ | ⟨_, he⟩
  · exact absurd ⟨c', L', v', g, hg⟩ h
  · exact ⟨he, hb⟩
end
end Go.Proofs.Ytffdkfhnlgfigaa
