/- The model's insertion of a string into an increasing list. -/
import Derived.Test.YthaipemgndahfaaApp
import Derived.Test.YthaipemgndahfaaStrM
namespace Go.Proofs.Ythaipemgndahfaa
open Go.RowKit

def insB (X : Nat → ByteArray) (k : Nat) (x : ByteArray) (i : Nat) : ByteArray := if i < k then X i else if i = k then x else X (i - 1)
def subS (A : Option Addr) (a k : Nat) : Option Addr := if k = a then A else A.map (·.add a)
theorem run_headS (A : Option Addr) (n k u : Nat) (hu : u ≤ k) (W : World) :
    (Instr.slice 22 (.slice A n k) none (some (.int .i64 u)) none).run Try.prog W = .ok (.slice A u k) W := by
  unfold Instr.slice
  simp [go_sem, Instr.sliceBounds, Instr.sliceBound, run_underlying Try.underlying22, hu]
theorem run_tailS (A : Option Addr) (n k a : Nat) (ha : a ≤ n) (_hnk : n ≤ k) (W : World) :
    (Instr.slice 22 (.slice A n k) (some (.int .i64 a)) none none).run Try.prog W = .ok (.slice (subS A a k) (n - a) (k - a)) W := by
  unfold Instr.slice
  simp [go_sem, Instr.sliceBounds, Instr.sliceBound, run_underlying Try.underlying22, subS, ha]
  try omega
theorem tail_rowS {w : World} {A : Option Addr} {n k a : Nat} {X : Nat → ByteArray} (h : GRow w A n (strV X)) (ha : a ≤ n) (hnk : n ≤ k) : GRow w (subS A a k) (n - a) (strV fun i => X (a + i)) := fun h0 => by
  obtain ⟨b, off, rfl, hl, hc⟩ := h (by omega)
  refine ⟨b, off + a, ?_, hl, fun i hi => ?_⟩
  · unfold subS; rw [if_neg (by omega)]; simp [addr_add]
  · rw [show off + a + i = off + (a + i) by omega]; exact hc (a + i) (by omega)
abbrev ltS (x y : ByteArray) : Bool := Go.Op.bytesLess x.toList y.toList
theorem ltS_is {x y : ByteArray} : ltS x y = decide (x.data.toList < y.data.toList) := by unfold ltS; rw [bl_eq, ba_toList, ba_toList]
theorem ltS_irr (x : ByteArray) : ltS x x = false := by rw [ltS_is]; simp
theorem ltS_asym {x y : ByteArray} (h : ltS x y = true) : ltS y x = false := by
  rw [ltS_is] at *
  simp only [decide_eq_true_eq, decide_eq_false_iff_not] at *
  exact fun k => bs_irr _ (bs_tr h k)
theorem ltS_ne {x y : ByteArray} (h : ltS x y = true) : (y.toList == x.toList) = false := by
  rw [ltS_is] at h
  rw [ba_toList, ba_toList]
  simp only [decide_eq_true_eq] at h
  simp only [beq_eq_false_iff_ne, ne_eq]
  exact fun e => bs_irr _ (e ▸ h)
section
variable (A : Option Addr) (n c : Nat) (X : Nat → ByteArray) (x : ByteArray) (k : Nat) (w : World)
set_option maxRecDepth 100000 in
set_option maxHeartbeats 2000000 in
theorem spec_l1PutS_has (hn : n ≤ 4096) (hr : GRow w A n (strV X)) (hk : k < n) (h1 : ∀ i, i < k → ltS (X i) x = true) (hx : X k = x) :
    Calls Try.prog 56 #[.slice A n c, .string x] w fun e w' => e = .returned (.slice A n c) ∧ w = w' := by
  have H1 := Lib.hid h1
  have HX := Lib.hid hx
  obtain ⟨b, off, rfl, hbl, hcc⟩ := hr (by omega)
  have HC := Lib.hid hcc
  clear h1 hx hr hcc
  go_enter Try.func56, Try.ntmps56
  go_wp2_with fail
  go_loop [5] (fun i => ∃ q : Nat, q ≤ k ∧ i = .int .i64 q) (fun i => k - (intOf i).toNat)
  case atStart => exact ⟨0, Nat.zero_le _, rfl⟩
  case round =>
    obtain ⟨q, hq, rfl⟩ := hrel
    have hqn : q < n := by omega
    have hxq : w.cell? ⟨b, off + q, none⟩ = some (.string (X q)) := HC.out q hqn
    by_cases hlt : q < k
    · have d1 : Go.Op.bytesLess (X q).toList x.toList = true := H1.out q hlt
      go_wp2_with fail
      go_round
      case rel => exact ⟨q + 1, by omega, by go_num⟩
      case measure => simp [intOf]; omega
    · obtain rfl : q = k := by omega
      rw [HX.out] at hxq
      have d1 : Go.Op.bytesLess x.toList x.toList = false := ltS_irr x
      have d2 : (x.toList == x.toList) = true := by simp
      go_wp2_with fail
      go_ret
      exact ⟨rfl, rfl⟩
set_option maxRecDepth 100000 in
set_option maxHeartbeats 4000000 in
theorem spec_l1PutS_new (hn : n ≤ 4096) (hnc : n ≤ c) (hr : GRow w A n (strV X)) (hk : k ≤ n) (h1 : ∀ i, i < k → ltS (X i) x = true) (h2 : k < n → ltS x (X k) = true) :
    Calls Try.prog 56 #[.slice A n c, .string x] w fun e w' => ∃ A' c', e = .returned (.slice A' (n + 1) c') ∧ w'.ownsRow w.heap.size 9 1 (.slice A' (n + 1) c') (n + 1) (vals (strV (insB X k x)) (n + 1)) ∧ Below w.heap.size w w' := by
  have H1 := Lib.hid h1
  have H2 := Lib.hid h2
  have HR := Lib.hid hr
  have HRA := Lib.hid (show GRow (w.alloc (.cells #[] 9)) A k (strV X) from GRow.b (fun h0 => by obtain ⟨b, off, hA, hl, hc⟩ := hr (by omega); exact ⟨b, off, hA, hl, fun i hi => hc i (by omega)⟩) ((Below.refl _ _).alloc (Nat.le_refl _) _))
  have HO := Lib.hid (World.ownsRow_made (e := 9) (size := 1) w #[] 0 (Nat.le_refl _) (by simp [maxLen]) (by simp))
  have hhd := fun W => run_headS A n c k (by omega) W
  have htl := fun W => run_tailS A n c k hk hnc W
  clear h1 h2 hr
  go_enter Try.func56, Try.ntmps56
  go_wp2_with fail
  go_loop [5] (fun i => ∃ q : Nat, q ≤ k ∧ i = .int .i64 q) (fun i => k - (intOf i).toNat)
  case atStart => exact ⟨0, Nat.zero_le _, rfl⟩
  case round =>
    obtain ⟨q, hq, rfl⟩ := hrel
    by_cases hlt : q < k
    · obtain ⟨b, off, rfl, hbl, hcc⟩ := HR.out (by omega)
      have hxq : w.cell? ⟨b, off + q, none⟩ = some (.string (X q)) := hcc q (by omega)
      have hqn : q < n := by omega
      have d1 : Go.Op.bytesLess (X q).toList x.toList = true := H1.out q hlt
      clear hcc
      go_wp2_with fail
      go_round
      case rel => exact ⟨q + 1, by omega, by go_num⟩
      case measure => simp [intOf]; omega
    · obtain rfl : q = k := by omega
      have hall : ∀ (A1 : Option Addr) (c1 : Nat) (w1 : World), w1.ownsRow w.heap.size 9 1 (.slice A1 (q) c1) (q) (vals (catV (strV X) (strV X) 0) (q)) → w1.ownsRow w.heap.size 9 1 (.slice A1 (q) c1) (q) (vals (strV (insB X q x)) (q)) := fun A1 c1 w1 h => by
        rw [vals_congr (F := catV (strV X) (strV X) 0) (G := strV (insB X q x)) (fun i hi => by unfold catV strV insB; rw [if_neg (by omega), Nat.sub_zero, if_pos (by omega)])] at h
        exact h
      have HALL := Lib.hid hall
      have HF := Lib.hid (show strV (insB X q x) (q) = .string x by unfold strV insB; rw [if_neg (by omega), if_pos (by omega)])
      have hfin : ∀ (A1 : Option Addr) (c1 : Nat) (w1 : World), w1.ownsRow w.heap.size 9 1 (.slice A1 (q + 1 + (n - q)) c1) (q + 1 + (n - q)) (vals (catV (strV (insB X q x)) (strV fun i => X (q + i)) (q + 1)) (q + 1 + (n - q))) → w1.ownsRow w.heap.size 9 1 (.slice A1 (n + 1) c1) (n + 1) (vals (strV (insB X q x)) (n + 1)) := fun A1 c1 w1 h => by
        rw [show q + 1 + (n - q) = n + 1 by omega, vals_congr (F := catV (strV (insB X q x)) (strV fun i => X (q + i)) (q + 1)) (G := strV (insB X q x)) (fun i hi => by
          unfold catV
          by_cases e : i < q + 1
          · rw [if_pos e]
          · rw [if_neg e]; show Value.string (X (q + (i - (q + 1)))) = Value.string (insB X q x i); unfold insB; rw [if_neg (by omega), if_neg (by omega), show q + (i - (q + 1)) = i - 1 by omega])] at h
        exact h
      have HFIN := Lib.hid hfin
      clear hall hfin
      have key : ∀ (a0 : Bool), True := fun _ => trivial
      clear key
      by_cases hqn : q < n
      all_goals first
        | (obtain ⟨b, off, hA, hbl, hcc⟩ := HR.out (show 0 < n by omega)
           have hxq : w.cell? ⟨b, off + q, none⟩ = some (.string (X q)) := hcc q hqn
           have hlx := H2.out hqn
           have d1 : Go.Op.bytesLess (X q).toList x.toList = false := ltS_asym hlx
           have d2 : ((X q).toList == x.toList) = false := ltS_ne hlx
           clear hcc hlx)
        | (have dn : decide ((q : Int) < (n : Int)) = false := by simp; omega
           have dm : decide (q < n) = false := by simp; omega)
      all_goals
        try subst hA
        go_wp2_with (at_builtin; refine wpList_append_vals rfl _ _ 22 rfl w.heap.size 9 (.string ByteArray.empty) 16 Try.underlying22 infoS rfl (F := strV X) (G := strV X) rfl rfl HO.out HRA.out (fun _ _ => rfl) (by omega) (by omega) (by simp) ?_)
        intro A1 c1 w1 ho1 hb1
        have O1 := Lib.hid (HALL.out _ _ _ ho1)
        have HB1 := Lib.hid (((Below.refl w.heap.size w).alloc (Nat.le_refl _) (.cells #[] 9)).trans hb1)
        have hs1 := HB1.out.size
        clear ho1 hb1
        go_wp2_with (at_builtin; refine wpList_push rfl _ _ 22 rfl w.heap.size 9 (.string ByteArray.empty) 16 Try.underlying22 infoS rfl A1 _ c1 (strV (insB X _ x)) (.string x) w1 rfl O1.out rfl HF.out rfl (by omega) (by omega) hs1 ?_)
        intro A2 c2 w2 ho2 hb2
        have O2 := Lib.hid ho2
        have HB2 := Lib.hid (HB1.out.trans hb2)
        have hs2 := HB2.out.size
        clear ho2 hb2
        have HT := Lib.hid (tail_rowS (k := c) (HR.out.b HB2.out) hk hnc)
        go_wp2_with (at_builtin; refine wpList_append_vals rfl _ _ 22 rfl w.heap.size 9 (.string ByteArray.empty) 16 Try.underlying22 infoS rfl rfl rfl O2.out HT.out (fun _ _ => rfl) (by omega) (by omega) hs2 ?_)
        intro A3 c3 w3 ho3 hb3
        have O3 := Lib.hid (HFIN.out _ _ _ ho3)
        have HB3 := Lib.hid (HB2.out.trans hb3)
        clear ho3 hb3
        go_wp2_with fail
        go_ret
        exact ⟨A3, c3, by rw [show q + 1 + (n - q) = n + 1 by omega]; rfl, O3.out, HB3.out⟩
end
end Go.Proofs.Ythaipemgndahfaa
