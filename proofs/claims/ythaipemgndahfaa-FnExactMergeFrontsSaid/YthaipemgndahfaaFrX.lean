/- The merge of two sorted lists of strings by the program; the same strings, each once. -/
import Derived.Test.YthaipemgndahfaaFrI
import Derived.Test.YthaipemgndahfaaTrS
import Derived.Sort.OwnSorted
import Derived.Lib.OwnBridge
namespace Go.Proofs.Ythaipemgndahfaa
open Go.RowKit

/-- The row lies below block B. -/
def GLow (w : World) (B : Nat) (A : Option Addr) (n : Nat) (F : Nat → Value) : Prop := 0 < n → ∃ b off, A = some ⟨b, off, none⟩ ∧ b < B ∧ ∀ k, k < n → w.cell? ⟨b, off + k, none⟩ = some (F k)
section
variable {w w' : World} {A : Option Addr} {n B : Nat} {F : Nat → Value} {S : Nat → ByteArray}
theorem GLow.of (h : GRow w A n F) : GLow w w.heap.size A n F := h
theorem GLow.row (h : GLow w B A n F) (hB : B ≤ w.heap.size) : GRow w A n F := fun hn => by
  obtain ⟨b, off, hA, hl, hc⟩ := h hn
  exact ⟨b, off, hA, by omega, hc⟩
theorem GLow.b (h : GLow w B A n F) (hb : Below B w w') : GLow w' B A n F := fun hn => by
  obtain ⟨b, off, hA, hl, hc⟩ := h hn
  exact ⟨b, off, hA, hl, fun k hk => by rw [hb.cell (show (⟨b, off + k, none⟩ : Addr).block < B from hl)]; exact hc k hk⟩
theorem GLow.tail {k : Nat} (h : GLow w B A (n + 1) (strV S)) (hnk : n + 1 ≤ k) : GLow w B (subS A 1 k) n (strV fun i => S (i + 1)) := fun h0 => by
  obtain ⟨b, off, rfl, hl, hc⟩ := h (by omega)
  refine ⟨b, off + 1, ?_, hl, fun i hi => ?_⟩
  · unfold subS; rw [if_neg (by omega)]; simp [addr_add]
  · rw [show off + 1 + i = off + (i + 1) by omega]; exact hc (i + 1) (by omega)
end
theorem run_tail1 (A : Option Addr) (n k : Nat) (hnk : n + 1 ≤ k) (W : World) :
    (Instr.slice 22 (.slice A (n + 1) k) (some (.int .i64 1)) none none).run Try.prog W = .ok (.slice (subS A 1 k) n (k - 1)) W := by
  have h := run_tailS A (n + 1) k 1 (by omega) hnk W
  simpa using h
theorem run_make_capS (N : Nat) (hN : N ≤ 4096) (W : World) : (Instr.makeSlice 22 (.int .i64 0) (.int .i64 N)).run Try.prog W = .ok (.slice (some ⟨W.heap.size, 0, none⟩) 0 N) (W.alloc (.cells (madeCells #[.string ByteArray.empty] N) 9)) := by
  obtain ⟨i0, hi, hz0, hz1, hz2⟩ := info_parts infoS
  have h := run_makeSlice (P := Try.prog) (w := W) 22 9 i0 (.string ByteArray.empty) Try.underlying22 hi hz0 .i64 .i64 0 (N : Int)
  rw [hz1, hz2, show (Value.string ByteArray.empty).cells = #[.string ByteArray.empty] from rfl] at h
  simpa using h (by omega) (by omega) (by omega) (by omega) (by omega)
theorem lsOf_cons (S : Nat → ByteArray) (n : Nat) : lsOf S (n + 1) = (S 0).data.toList :: lsOf (fun i => S (i + 1)) n := by
  rw [Nat.add_comm, lsOf_add]
  simp only [lsOf, List.range_one, List.map_cons, List.map_nil, List.singleton_append]
  congr 1
  exact List.map_congr_left (fun i _ => by rw [Nat.add_comm])
/-- Two sorted lists being merged: what is merged, what is left of both. -/
structure MS (LA LB M X Y : List Byt) : Prop where
  sx : (M ++ X).Pairwise (· ≤ ·)
  sy : (M ++ Y).Pairwise (· ≤ ·)
  mem : ∀ x, (x ∈ M ∨ x ∈ X ∨ x ∈ Y) ↔ (x ∈ LA ∨ x ∈ LB)
  len : M.length + X.length + Y.length = LA.length + LB.length
theorem MS.swap {LA LB M X Y : List Byt} (h : MS LA LB M X Y) : MS LA LB M Y X :=
  ⟨h.sy, h.sx, fun x => (show _ ↔ _ by constructor <;> (rintro (a | a | a) <;> simp [a])).trans (h.mem x), by have := h.len; omega⟩
theorem MS.take {LA LB M X Y : List Byt} {x : Byt} (h : MS LA LB M (x :: X) Y) (hy : ∀ y, Y.head? = some y → x ≤ y) : MS LA LB (M ++ [x]) X Y := by
  have h1 := List.pairwise_append.1 h.sy
  have h2 := List.pairwise_append.1 h.sx
  refine ⟨by rw [List.append_assoc]; exact h.sx, List.pairwise_append.2 ⟨List.pairwise_append.2 ⟨h1.1, by simp, fun a ha b hb => h2.2.2 a ha b (by simp at hb; simp [hb])⟩, h1.2.1, fun a ha b hb => ?_⟩, fun z => ?_, by have := h.len; simp at *; omega⟩
  · rcases List.mem_append.1 ha with ha | ha
    · exact h1.2.2 a ha b hb
    · rw [List.mem_singleton] at ha; subst ha
      cases Y with
      | nil => cases hb
      | cons y Y =>
        have h3 := hy y rfl
        rcases List.mem_cons.1 hb with rfl | hb
        · exact h3
        · exact List.le_trans h3 ((List.pairwise_cons.1 h1.2.1).1 b hb)
  · rw [← h.mem z]
    simp only [List.mem_append, List.mem_cons, List.not_mem_nil, or_false]
    constructor
    · rintro ((a | a) | a | a) <;> simp [a]
    · rintro (a | (a | a) | a) <;> simp [a]
/-- What the merge answers. -/
def MsIs (LA LB : List Byt) (w : World) (e : Ending) (w' : World) : Prop :=
  ∃ A c R, e = .returned (.slice A R.length c) ∧ w'.ownsRow w.heap.size 9 1 (.slice A R.length c) R.length (vals (strV (rowS R)) R.length) ∧ R.Pairwise (· ≤ ·) ∧ (∀ x, x ∈ R ↔ x ∈ LA ∨ x ∈ LB) ∧ R.length = LA.length + LB.length ∧ Below w.heap.size w w'
theorem ms_end {LA LB M : List Byt} {k n' m' : Nat} {F' G' : Nat → ByteArray} {w w4 : World} {A4 : Option Addr} {k4 : Nat} (hk : M.length = k) (h : MS LA LB M (lsOf F' n') (lsOf G' m'))
    (ho : w4.ownsRow w.heap.size 9 1 (.slice A4 (k + n' + m') k4) (k + n' + m') (vals (catV (catV (strV (rowS M)) (strV F') k) (strV G') (k + n')) (k + n' + m'))) (hb : Below w.heap.size w w4) (h0 : n' = 0 ∨ m' = 0) :
    MsIs LA LB w (.returned (.slice A4 (k + n' + m') k4)) w4 := by
  let T : Nat → ByteArray := fun i => if i < k + n' then (if i < k then rowS M i else F' (i - k)) else G' (i - (k + n'))
  have hT : lsOf T (k + n' + m') = M ++ lsOf F' n' ++ lsOf G' m' := by
    rw [lsOf_add, lsOf_add]
    congr 1
    · congr 1
      · rw [← hk]
        rw [lsOf_congr (S' := rowS M) (fun i hi => by show T i = _; simp only [T]; rw [if_pos (by omega), if_pos (by omega)]), rowS_ls]
      · exact lsOf_congr (fun i hi => by show T (k + i) = _; simp only [T]; rw [if_pos (by omega), if_neg (by omega), Nat.add_sub_cancel_left])
    · exact lsOf_congr (fun i hi => by show T (k + n' + i) = _; simp only [T]; rw [if_neg (by omega), Nat.add_sub_cancel_left])
  have hlen : (M ++ lsOf F' n' ++ lsOf G' m').length = k + n' + m' := by simp [hk, lsOf_len]; omega
  refine ⟨A4, k4, M ++ lsOf F' n' ++ lsOf G' m', by rw [hlen], ?_, ?_, fun x => ?_, ?_, hb⟩
  · rw [hlen, vals_congr (F := strV (rowS (M ++ lsOf F' n' ++ lsOf G' m'))) (G := catV (catV (strV (rowS M)) (strV F') k) (strV G') (k + n'))]
    · exact ho
    · intro i hi
      have hr := row_of_ls (S := rowS (M ++ lsOf F' n' ++ lsOf G' m')) (S' := T) (n := k + n' + m') (by rw [hT, ← hlen, rowS_ls]) i hi
      unfold strV catV
      rw [hr]
      simp only [T]
      by_cases e1 : i < k + n'
      · rw [if_pos e1, if_pos e1]
        by_cases e2 : i < k
        · rw [if_pos e2, if_pos e2]
        · rw [if_neg e2, if_neg e2]
      · rw [if_neg e1, if_neg e1]
  · rcases h0 with e | e
    · subst e; rw [show lsOf F' 0 = [] from rfl, List.append_nil]; exact h.sy
    · subst e; rw [show lsOf G' 0 = [] from rfl, List.append_nil]; exact h.sx
  · rw [← h.mem x]; simp only [List.mem_append]; constructor
    · rintro ((a | a) | a) <;> simp [a]
    · rintro (a | a | a) <;> simp [a]
  · have := h.len; rw [hlen]; rw [lsOf_len, lsOf_len, hk] at this; omega
def lenV (v : Value) : Nat := match v with | .slice _ n _ => n | _ => 0
theorem push_lst {w : World} {B c k : Nat} {A : Option Addr} {O : List Byt} (hk : O.length = k) (y : Byt) (h : w.ownsRow B 9 1 (.slice A k c) k (vals (strV (rowS O)) k)) :
    w.ownsRow B 9 1 (.slice A k c) k (vals (strV (rowS (O ++ [y]))) k) := by
  subst hk; exact push_ls y h
set_option maxRecDepth 100000 in
set_option maxHeartbeats 4000000 in
theorem impl_mergeSortedS (A1 : Option Addr) (n c1 : Nat) (F : Nat → ByteArray) (A2 : Option Addr) (m c2 : Nat) (G : Nat → ByteArray) (w : World) (hn : n ≤ 60) (hm : m ≤ 60) (h1 : GRow w A1 n (strV F)) (h2 : GRow w A2 m (strV G)) (k1 : n ≤ c1) (k2 : m ≤ c2) (s1 : (lsOf F n).Pairwise (· ≤ ·)) (s2 : (lsOf G m).Pairwise (· ≤ ·)) :
    Calls Try.prog 58 #[.slice A1 n c1, .slice A2 m c2] w (MsIs (lsOf F n) (lsOf G m) w) := by
  have HS := Lib.hid (show MS (lsOf F n) (lsOf G m) [] (lsOf F n) (lsOf G m) from ⟨by simpa using s1, by simpa using s2, fun x => by simp, by simp⟩)
  obtain ⟨N, hN⟩ : ∃ N, N = n + m := ⟨_, rfl⟩
  have L1 := Lib.hid ((GLow.of h1).b ((Below.refl _ _).alloc (Nat.le_refl _) (.cells (madeCells #[.string ByteArray.empty] N) 9)))
  have L2 := Lib.hid ((GLow.of h2).b ((Below.refl _ _).alloc (Nat.le_refl _) (.cells (madeCells #[.string ByteArray.empty] N) 9)))
  have FB := Lib.hid ((Below.refl w.heap.size w).alloc (Nat.le_refl _) (.cells (madeCells #[.string ByteArray.empty] N) 9))
  have OW := Lib.hid (World.ownsRow_made (base := w.heap.size) (e := 9) (size := 1) w (madeCells #[.string ByteArray.empty] N) N (Nat.le_refl _) (by unfold maxLen; omega) (by simp [madeCells]))
  have hNi : (n : Int) + (m : Int) = (N : Int) := by omega
  have hmk := fun W => run_make_capS N (by omega) W
  have HNN := Lib.hid hN
  clear h1 h2 s1 s2 hN
  go_enter Try.func58, Try.ntmps58
  go_wp2_with fail
  go_loopw [0, 1, 5] (fun a b v wr => ∃ (k : Nat) (M : List Byt) (n' : Nat) (F' : Nat → ByteArray) (m' : Nat) (G' : Nat → ByteArray) (A B : Option Addr) (ca cb : Nat) (Am : Option Addr) (km : Nat), a = .slice A n' ca ∧ b = .slice B m' cb ∧ v = .slice Am k km ∧ M.length = k ∧ MS (lsOf F n) (lsOf G m) M (lsOf F' n') (lsOf G' m') ∧ n' ≤ ca ∧ m' ≤ cb ∧ GLow wr w.heap.size A n' (strV F') ∧ GLow wr w.heap.size B m' (strV G') ∧ wr.ownsRow w.heap.size 9 1 (.slice Am k km) k (vals (strV (rowS M)) k) ∧ Below w.heap.size w wr) (fun a b _ _ => lenV a + lenV b)
  case atStart => exact ⟨0, [], n, F, m, G, A1, A2, c1, c2, _, N, rfl, rfl, rfl, rfl, HS.out, k1, k2, L1.out, L2.out, OW.out, FB.out⟩
  case round =>
    obtain ⟨k, M, n', F', m', G', A, B, ca, cb, Am, km, rfl, rfl, rfl, hMk, hmg, hca, hcb, hla, hlb, how, hbr⟩ := hrel
    have HMG := Lib.hid hmg
    have LA := Lib.hid hla
    have LB := Lib.hid hlb
    have HWR := Lib.hid how
    have FBr := Lib.hid hbr
    have hsz := hbr.size
    have hlen := hmg.len
    rw [lsOf_len, lsOf_len, lsOf_len, lsOf_len, hMk] at hlen
    have HMK := Lib.hid hMk
    have hkb : k ≤ 120 := by omega
    clear hmg hla hlb how hbr hlen hMk
    by_cases h1 : 0 < n' ∧ 0 < m'
    · obtain ⟨nn, rfl⟩ : ∃ nn, n' = nn + 1 := ⟨n' - 1, by omega⟩
      obtain ⟨mm, rfl⟩ : ∃ mm, m' = mm + 1 := ⟨m' - 1, by omega⟩
      obtain ⟨ba, oa, rfl, hba, hxa⟩ := LA.out (by omega)
      obtain ⟨bb, ob, rfl, hbb, hxb⟩ := LB.out (by omega)
      have hx0 : wr.cell? ⟨ba, oa, none⟩ = some (.string (F' 0)) := by have h := hxa 0 (by omega); rwa [Nat.add_zero] at h
      have hy0 : wr.cell? ⟨bb, ob, none⟩ = some (.string (G' 0)) := by have h := hxb 0 (by omega); rwa [Nat.add_zero] at h
      have HMG2 := Lib.hid HMG.out
      rw [lsOf_cons F' nn, lsOf_cons G' mm] at HMG2
      have e1 : (0 : Int) < ((nn : Int) + 1) := by omega
      have e2 : (0 : Int) < ((mm : Int) + 1) := by omega
      have hsl1 := fun W => run_tail1 (some ⟨ba, oa, none⟩) nn ca hca W
      have hsl2 := fun W => run_tail1 (some ⟨bb, ob, none⟩) mm cb hcb W
      clear hxa hxb h1
      by_cases hlt : ltS (G' 0) (F' 0) = true
      · have d1 : Go.Op.bytesLess (G' 0).toList (F' 0).toList = true := hlt
        have HNX := Lib.hid (show MS (lsOf F n) (lsOf G m) (M ++ [(G' 0).data.toList]) (lsOf (fun i => G' (i + 1)) mm) (lsOf F' (nn + 1)) from (by rw [lsOf_cons F' nn]; exact HMG2.out.swap.take (fun y hy => by rw [ltS_is, decide_eq_true_eq] at hlt; simp at hy; subst hy; exact List.le_of_lt hlt)))
        have HWP := Lib.hid (push_lst HMK.out (G' 0).data.toList HWR.out)
        clear hlt
        go_wp2_with fail
        go_quiet (fail)
        have LAq := Lib.hid (LA.out.b (below_drewN (Below.refl _ _) nq))
        have LBq := Lib.hid (LB.out.b (below_drewN (Below.refl _ _) nq))
        have FBq := Lib.hid (below_drewN FBr.out nq)
        have HWD := Lib.hid (show (wr.drewN nq).ownsRow w.heap.size 9 1 (.slice Am k km) k _ from HWP.out)
        have hszq : w.heap.size ≤ (wr.drewN nq).heap.size := hsz
        have hx0q : (wr.drewN nq).cell? ⟨ba, oa, none⟩ = some (.string (F' 0)) := hx0
        have hy0q : (wr.drewN nq).cell? ⟨bb, ob, none⟩ = some (.string (G' 0)) := hy0
        generalize wr.drewN nq = wq at *
        clear LA LB FBr HWR HWP hsz hx0 hy0
        go_wp2_with (at_builtin; refine wpList_push rfl _ _ 22 rfl w.heap.size 9 (.string ByteArray.empty) 16 Try.underlying22 infoS rfl Am k km (strV (rowS (M ++ [(G' 0).data.toList]))) (.string (G' 0)) wq rfl HWD.out rfl (by rw [← HMK.out]; unfold strV; rw [rowS_new rfl]) rfl (by omega) (by omega) hszq ?_)
        intro A3 k3 w3 ho3 hb3
        have HO3 := Lib.hid ho3
        have HB3 := Lib.hid (FBq.out.trans hb3)
        have LX3 := Lib.hid ((LBq.out.b hb3).tail hcb)
        have LY3 := Lib.hid (LAq.out.b hb3)
        clear ho3 hb3 hx0q hy0q
        go_wp2_with fail
        go_roundw
        case rel => exact ⟨k + 1, _, mm, _, nn + 1, _, _, _, _, _, _, _, rfl, rfl, rfl, by rw [List.length_append, HMK.out]; rfl, HNX.out, by omega, hca, LX3.out, LY3.out, HO3.out, HB3.out⟩
        case measure => simp [lenV] <;> omega
      · have d1 : Go.Op.bytesLess (G' 0).toList (F' 0).toList = false := by simpa using hlt
        have HNX := Lib.hid (show MS (lsOf F n) (lsOf G m) (M ++ [(F' 0).data.toList]) (lsOf (fun i => F' (i + 1)) nn) (lsOf G' (mm + 1)) from (by rw [lsOf_cons G' mm]; exact HMG2.out.take (fun y hy => by rw [ltS_is, decide_eq_true_eq] at hlt; simp at hy; subst hy; exact bs_le.1 hlt)))
        have HWP := Lib.hid (push_lst HMK.out (F' 0).data.toList HWR.out)
        clear hlt
        go_wp2_with fail
        go_quiet (fail)
        have LAq := Lib.hid (LA.out.b (below_drewN (Below.refl _ _) nq))
        have LBq := Lib.hid (LB.out.b (below_drewN (Below.refl _ _) nq))
        have FBq := Lib.hid (below_drewN FBr.out nq)
        have HWD := Lib.hid (show (wr.drewN nq).ownsRow w.heap.size 9 1 (.slice Am k km) k _ from HWP.out)
        have hszq : w.heap.size ≤ (wr.drewN nq).heap.size := hsz
        have hx0q : (wr.drewN nq).cell? ⟨ba, oa, none⟩ = some (.string (F' 0)) := hx0
        have hy0q : (wr.drewN nq).cell? ⟨bb, ob, none⟩ = some (.string (G' 0)) := hy0
        generalize wr.drewN nq = wq at *
        clear LA LB FBr HWR HWP hsz hx0 hy0
        go_wp2_with (at_builtin; refine wpList_push rfl _ _ 22 rfl w.heap.size 9 (.string ByteArray.empty) 16 Try.underlying22 infoS rfl Am k km (strV (rowS (M ++ [(F' 0).data.toList]))) (.string (F' 0)) wq rfl HWD.out rfl (by rw [← HMK.out]; unfold strV; rw [rowS_new rfl]) rfl (by omega) (by omega) hszq ?_)
        intro A3 k3 w3 ho3 hb3
        have HO3 := Lib.hid ho3
        have HB3 := Lib.hid (FBq.out.trans hb3)
        have LX3 := Lib.hid ((LAq.out.b hb3).tail hca)
        have LY3 := Lib.hid (LBq.out.b hb3)
        clear ho3 hb3 hx0q hy0q
        go_wp2_with fail
        go_roundw
        case rel => exact ⟨k + 1, _, nn, _, mm + 1, _, _, _, _, _, _, _, rfl, rfl, rfl, by rw [List.length_append, HMK.out]; rfl, HNX.out, by omega, hcb, LX3.out, LY3.out, HO3.out, HB3.out⟩
        case measure => simp [lenV] <;> omega
    · have HL := Lib.hid (show k + n' + m' = N from by have h := HMG.out.len; rw [lsOf_len, lsOf_len, lsOf_len, lsOf_len, HMK.out] at h; rw [HNN.out]; exact h)
      have hlb : k + n' + m' ≤ 120 := by have := HL.out; omega
      have H1 := Lib.hid h1
      by_cases hn0 : 0 < n'
      · have d0 : decide (0 < n') = true := by simpa using hn0
        have d1 : decide (0 < m') = false := by simp; omega
        clear h1 hn0
        go_wp2_with (at_builtin; refine wpList_append_vals rfl (.tmp 37) (.tmp 38) 22 rfl w.heap.size 9 (.string ByteArray.empty) 16 Try.underlying22 infoS rfl (F := strV (rowS M)) (G := strV F') rfl rfl HWR.out (LA.out.row hsz) (fun _ _ => rfl) (by omega) (by omega) hsz ?_)
        intro A3 k3 w3 ho3 hb3
        have HO3 := Lib.hid ho3
        have LB3 := Lib.hid (LB.out.b hb3)
        have HB3 := Lib.hid (FBr.out.trans hb3)
        have hsz3 : w.heap.size ≤ w3.heap.size := Nat.le_trans hsz hb3.size
        clear ho3 hb3 HWR LA LB FBr
        go_wp2_with (at_builtin; refine wpList_append_vals rfl (.tmp 40) (.tmp 41) 22 rfl w.heap.size 9 (.string ByteArray.empty) 16 Try.underlying22 infoS rfl (F := catV (strV (rowS M)) (strV F') k) (G := strV G') rfl rfl HO3.out (LB3.out.row hsz3) (fun _ _ => rfl) (by omega) (by omega) hsz3 ?_)
        intro A4 k4 w4 ho4 hb4
        have HO4 := Lib.hid ho4
        have HB4 := Lib.hid (HB3.out.trans hb4)
        clear ho4 hb4 HO3 LB3 HB3
        go_wp2_with fail
        go_ret
        exact ms_end HMK.out HMG.out HO4.out HB4.out (by have := H1.out; omega)
      · have d0 : decide (0 < n') = false := by simp; omega
        clear h1 hn0
        go_wp2_with (at_builtin; refine wpList_append_vals rfl (.tmp 37) (.tmp 38) 22 rfl w.heap.size 9 (.string ByteArray.empty) 16 Try.underlying22 infoS rfl (F := strV (rowS M)) (G := strV F') rfl rfl HWR.out (LA.out.row hsz) (fun _ _ => rfl) (by omega) (by omega) hsz ?_)
        intro A3 k3 w3 ho3 hb3
        have HO3 := Lib.hid ho3
        have LB3 := Lib.hid (LB.out.b hb3)
        have HB3 := Lib.hid (FBr.out.trans hb3)
        have hsz3 : w.heap.size ≤ w3.heap.size := Nat.le_trans hsz hb3.size
        clear ho3 hb3 HWR LA LB FBr
        go_wp2_with (at_builtin; refine wpList_append_vals rfl (.tmp 40) (.tmp 41) 22 rfl w.heap.size 9 (.string ByteArray.empty) 16 Try.underlying22 infoS rfl (F := catV (strV (rowS M)) (strV F') k) (G := strV G') rfl rfl HO3.out (LB3.out.row hsz3) (fun _ _ => rfl) (by omega) (by omega) hsz3 ?_)
        intro A4 k4 w4 ho4 hb4
        have HO4 := Lib.hid ho4
        have HB4 := Lib.hid (HB3.out.trans hb4)
        clear ho4 hb4 HO3 LB3 HB3
        go_wp2_with fail
        go_ret
        exact ms_end HMK.out HMG.out HO4.out HB4.out (by have := H1.out; omega)

end Go.Proofs.Ythaipemgndahfaa
