/- The merge of two sorted lists: the program's and the model's. -/
import Derived.Test.YtdkkflejpcgipaaMrgM
import Derived.Test.YtdkkflejpcgipaaApp
import Derived.Test.YtdkkflejpcgipaaSliceS
namespace Go.Proofs.Ytdkkflejpcgipaa
open Go.RowKit

theorem run_slice_tail (A : Option Addr) (n k : Nat) (W : World) :
    (Instr.slice 25 (.slice A (n + 1) k) (some (.int .i64 1)) none none).run Try.prog W = .ok (.slice (subA A 1 k) n (k - 1)) W := by
  unfold Instr.slice
  simp [go_sem, Instr.sliceBounds, Instr.sliceBound, run_underlying Try.underlying25, subA]
  intro h; omega
theorem tail_row {w : World} {A : Option Addr} {n k : Nat} {X : Nat → Int} (h : IRow w A (n + 1) X) (hnk : n + 1 ≤ k) : IRow w (subA A 1 k) n (fun i => X (i + 1)) :=
  (subA_row (a := 1) (u := n + 1) h (Nat.le_refl _) hnk).congr (fun i _ => by rw [Nat.add_comm])
theorem row_low {w w' : World} {A : Option Addr} {n B : Nat} {X : Nat → Int} (h : IRow w A n X) (hb : Below B w w') (h0 : ∀ b o, A = some ⟨b, o, none⟩ → 0 < n → b < B) : IRow w' A n X := fun hn => by
  obtain ⟨b, off, rfl, hlt, hc⟩ := h hn
  exact ⟨b, off, rfl, Nat.lt_of_lt_of_le hlt hb.size, fun k hk => by rw [hb.cell (show (⟨b, off + k, none⟩ : Addr).block < B from h0 b off rfl hn)]; exact hc k hk⟩
/-- A row that lies below block B. -/
def LRow (w : World) (B : Nat) (A : Option Addr) (n : Nat) (X : Nat → Int) : Prop := 0 < n → ∃ b off, A = some ⟨b, off, none⟩ ∧ b < B ∧ ∀ k, k < n → w.cell? ⟨b, off + k, none⟩ = some (.int .i64 (X k))
section
variable {w w' : World} {A : Option Addr} {n B : Nat} {X : Nat → Int}
theorem LRow.of (h : IRow w A n X) : LRow w w.heap.size A n X := h
theorem LRow.row (h : LRow w B A n X) (hB : B ≤ w.heap.size) : IRow w A n X := fun hn => by
  obtain ⟨b, off, hA, hl, hc⟩ := h hn
  exact ⟨b, off, hA, by omega, hc⟩
theorem LRow.b (h : LRow w B A n X) (hb : Below B w w') : LRow w' B A n X := fun hn => by
  obtain ⟨b, off, hA, hl, hc⟩ := h hn
  exact ⟨b, off, hA, hl, fun k hk => by rw [hb.cell (show (⟨b, off + k, none⟩ : Addr).block < B from hl)]; exact hc k hk⟩
theorem LRow.tail {k : Nat} (h : LRow w B A (n + 1) X) (hnk : n + 1 ≤ k) : LRow w B (subA A 1 k) n (fun i => X (i + 1)) := fun h0 => by
  obtain ⟨b, off, rfl, hl, hc⟩ := h (by omega)
  refine ⟨b, off + 1, ?_, hl, fun i hi => ?_⟩
  · unfold subA; rw [if_neg (by omega)]; simp [addr_add]
  · rw [show off + 1 + i = off + (i + 1) by omega]; exact hc (i + 1) (by omega)
end
theorem run_make_cap (N : Nat) (hN : N ≤ 4096) (W : World) : (Instr.makeSlice 25 (.int .i64 0) (.int .i64 N)).run Try.prog W = .ok (.slice (some ⟨W.heap.size, 0, none⟩) 0 N) (W.alloc (.cells (madeCells #[.int .i64 0] N) 3)) := by
  obtain ⟨i0, hi, hz0, hz1, hz2⟩ := info_parts infoI
  have h := run_makeSlice (P := Try.prog) (w := W) 25 3 i0 (.int .i64 0) Try.underlying25 hi hz0 .i64 .i64 0 (N : Int)
  rw [hz1, hz2, show (Value.int .i64 0).cells = #[.int .i64 0] from rfl] at h
  simpa using h (by omega) (by omega) (by omega) (by omega) (by omega)
theorem owned_putI {w : World} {B k c : Nat} {A : Option Addr} {M : Nat → Int} (x : Int) (h : w.ownsRow B 3 1 (.slice A k c) k (vals (intV M) k)) : w.ownsRow B 3 1 (.slice A k c) k (vals (intV (putI M k x)) k) := by
  rw [vals_congr (F := intV (putI M k x)) (G := intV M) (fun i hi => by unfold intV; rw [putI_lt hi])]; exact h
def lenOf (v : Value) : Nat := match v with | .slice _ n _ => n | _ => 0
def MrgIs (N : Nat) (M : Nat → Int) (w : World) (e : Ending) (w' : World) : Prop := ∃ A k, e = .returned (.slice A N k) ∧ Ow w.heap.size w'.heap.size 3 A N (intV M) w' ∧ N ≤ k ∧ Below w.heap.size w w'

theorem mrg_vals {n m k n' m' N : Nat} {F G M F' G' Mt : Nat → Int} (ht : MrgOf n F m G Mt) (h : Mrg n F m G k M n' F' m' G') (hN : N = n + m) (h0 : n' = 0 ∨ m' = 0) : ∀ i, i < N → catV (catV (intV M) (intV F') k) (intV G') (k + n') i = intV Mt i := fun i hi => by
  have e := h.len
  rcases h0 with e0 | e0
  · subst e0
    have := (h.swap.done).same ht i (by omega)
    unfold intV at *
    rw [← this]
    unfold catV catI
    by_cases c : i < k
    · rw [if_pos (show i < k + 0 by omega), if_pos c, if_pos c]
    · rw [if_neg (show ¬ i < k + 0 by omega), if_neg c, show i - (k + 0) = i - k by omega]
  · subst e0
    have := h.done.same ht i (by omega)
    unfold intV at *
    rw [← this]
    unfold catV catI
    rw [if_pos (show i < k + n' by omega)]
    by_cases c : i < k
    · rw [if_pos c, if_pos c]
    · rw [if_neg c, if_neg c]
theorem mrg_end {n m k n' m' N : Nat} {F G M F' G' Mt : Nat → Int} {w w4 : World} {A4 : Option Addr} {k4 : Nat} (ht : MrgOf n F m G Mt) (h : Mrg n F m G k M n' F' m' G') (hN : N = n + m)
    (ho : w4.ownsRow w.heap.size 3 1 (.slice A4 (k + n' + m') k4) (k + n' + m') (vals (catV (catV (intV M) (intV F') k) (intV G') (k + n')) (k + n' + m'))) (hb : Below w.heap.size w w4) (h0 : n' = 0 ∨ m' = 0) :
    MrgIs N Mt w (.returned (.slice A4 (k + n' + m') k4)) w4 := by
  have e := h.len
  obtain rfl : N = k + n' + m' := by omega
  exact ⟨A4, k4, rfl, (ow_of_gvec (owned_vec ho) (Nat.le_refl _)).congr (mrg_vals ht h hN h0), owned_cap ho, hb⟩
set_option maxRecDepth 100000 in
set_option maxHeartbeats 4000000 in
theorem impl_mergeSorted (A1 : Option Addr) (n c1 : Nat) (F : Nat → Int) (A2 : Option Addr) (m c2 : Nat) (G : Nat → Int) (w : World) (hn : n ≤ 60) (hm : m ≤ 60) (h1 : IRow w A1 n F) (h2 : IRow w A2 m G) (k1 : n ≤ c1) (k2 : m ≤ c2) (s1 : SrtN n F) (s2 : SrtN m G) (M : Nat → Int) (hM : MrgOf n F m G M) :
    Calls Try.prog 75 #[.slice A1 n c1, .slice A2 m c2] w (MrgIs (n + m) M w) := by
  have HM := Lib.hid hM
  have HS := Lib.hid (Mrg.start s1 s2 (fun _ => 0))
  obtain ⟨N, hN⟩ : ∃ N, N = n + m := ⟨_, rfl⟩
  rw [← hN]
  have L1 := Lib.hid ((LRow.of h1).b ((Below.refl _ _).alloc (Nat.le_refl _) (.cells (madeCells #[.int .i64 0] N) 3)))
  have L2 := Lib.hid ((LRow.of h2).b ((Below.refl _ _).alloc (Nat.le_refl _) (.cells (madeCells #[.int .i64 0] N) 3)))
  have FB := Lib.hid ((Below.refl w.heap.size w).alloc (Nat.le_refl _) (.cells (madeCells #[.int .i64 0] N) 3))
  have OW := Lib.hid (World.ownsRow_made (base := w.heap.size) (e := 3) (size := 1) w (madeCells #[.int .i64 0] N) N (Nat.le_refl _) (by unfold maxLen; omega) (by simp [madeCells]))
  have hNi : (n : Int) + (m : Int) = (N : Int) := by omega
  have hmk := fun W => run_make_cap N (by omega) W
  have HNN := Lib.hid hN
  clear h1 h2 s1 s2 hM hN
  go_enter Try.func75, Try.ntmps75
  go_wp2_with fail
  go_loopw [0, 1, 5] (fun a b v wr => ∃ (k : Nat) (M : Nat → Int) (n' : Nat) (F' : Nat → Int) (m' : Nat) (G' : Nat → Int) (A B : Option Addr) (ca cb : Nat) (Am : Option Addr) (km : Nat), a = .slice A n' ca ∧ b = .slice B m' cb ∧ v = .slice Am k km ∧ Mrg n F m G k M n' F' m' G' ∧ n' ≤ ca ∧ m' ≤ cb ∧ LRow wr w.heap.size A n' F' ∧ LRow wr w.heap.size B m' G' ∧ wr.ownsRow w.heap.size 3 1 (.slice Am k km) k (vals (intV M) k) ∧ Below w.heap.size w wr) (fun a b _ _ => lenOf a + lenOf b)
  case atStart => exact ⟨0, fun _ => 0, n, F, m, G, A1, A2, c1, c2, _, N, rfl, rfl, rfl, HS.out, k1, k2, L1.out, L2.out, OW.out, FB.out⟩
  case round =>
    obtain ⟨k, M, n', F', m', G', A, B, ca, cb, Am, km, rfl, rfl, rfl, hmg, hca, hcb, hla, hlb, how, hbr⟩ := hrel
    have HMG := Lib.hid hmg
    have LA := Lib.hid hla
    have LB := Lib.hid hlb
    have HWR := Lib.hid how
    have FBr := Lib.hid hbr
    have hsz := hbr.size
    have hlen := hmg.len
    have hkb : k ≤ 120 := by omega
    clear hmg hla hlb how hbr hlen
    by_cases h1 : 0 < n' ∧ 0 < m'
    · obtain ⟨nn, rfl⟩ : ∃ nn, n' = nn + 1 := ⟨n' - 1, by omega⟩
      obtain ⟨mm, rfl⟩ : ∃ mm, m' = mm + 1 := ⟨m' - 1, by omega⟩
      obtain ⟨ba, oa, rfl, hba, hxa⟩ := LA.out (by omega)
      obtain ⟨bb, ob, rfl, hbb, hxb⟩ := LB.out (by omega)
      have hx0 := hxa 0 (by omega)
      have hy0 := hxb 0 (by omega)
      rw [Nat.add_zero] at hx0 hy0
      have e1 : (0 : Int) < ((nn : Int) + 1) := by omega
      have e2 : (0 : Int) < ((mm : Int) + 1) := by omega
      have hsl1 := fun W => run_slice_tail (some ⟨ba, oa, none⟩) nn ca W
      have hsl2 := fun W => run_slice_tail (some ⟨bb, ob, none⟩) mm cb W
      clear hxa hxb h1
      by_cases hlt : G' 0 < F' 0
      · have d1 : decide (G' 0 < F' 0) = true := by simpa using hlt
        have HNX := Lib.hid (HMG.out.swap.take (fun _ => by omega))
        have HWP := Lib.hid (owned_putI (G' 0) HWR.out)
        clear hlt
        go_wp2_with fail
        go_quiet (fail)
        have LAq := Lib.hid (LA.out.b (below_drewN (Below.refl _ _) nq))
        have LBq := Lib.hid (LB.out.b (below_drewN (Below.refl _ _) nq))
        have FBq := Lib.hid (below_drewN FBr.out nq)
        have HWD := Lib.hid (show (wr.drewN nq).ownsRow w.heap.size 3 1 (.slice Am k km) k _ from HWP.out)
        have hszq : w.heap.size ≤ (wr.drewN nq).heap.size := hsz
        have hx0q : (wr.drewN nq).cell? ⟨ba, oa, none⟩ = some (.int .i64 (F' 0)) := hx0
        have hy0q : (wr.drewN nq).cell? ⟨bb, ob, none⟩ = some (.int .i64 (G' 0)) := hy0
        generalize wr.drewN nq = wq at *
        clear LA LB FBr HWR HWP hsz hx0 hy0
        go_wp2_with (at_builtin; refine wpList_push rfl _ _ 25 rfl w.heap.size 3 (.int .i64 0) 8 Try.underlying25 infoI rfl Am k km (intV (putI M k (G' 0))) (.int .i64 (G' 0)) wq rfl HWD.out rfl (by unfold intV; rw [putI_at]) rfl (by omega) (by omega) hszq ?_)
        intro A3 k3 w3 ho3 hb3
        have HO3 := Lib.hid ho3
        have HB3 := Lib.hid (FBq.out.trans hb3)
        have LX3 := Lib.hid ((LBq.out.b hb3).tail hcb)
        have LY3 := Lib.hid (LAq.out.b hb3)
        clear ho3 hb3 hx0q hy0q
        go_wp2_with fail
        go_roundw
        case rel => exact ⟨k + 1, _, mm, _, nn + 1, _, _, _, _, _, _, _, rfl, rfl, rfl, HNX.out, by omega, hca, LX3.out, LY3.out, HO3.out, HB3.out⟩
        case measure => simp [lenOf] <;> omega
      · have d1 : decide (G' 0 < F' 0) = false := by simpa using hlt
        have HNX := Lib.hid (HMG.out.take (fun _ => by omega))
        have HWP := Lib.hid (owned_putI (F' 0) HWR.out)
        clear hlt
        go_wp2_with fail
        go_quiet (fail)
        have LAq := Lib.hid (LA.out.b (below_drewN (Below.refl _ _) nq))
        have LBq := Lib.hid (LB.out.b (below_drewN (Below.refl _ _) nq))
        have FBq := Lib.hid (below_drewN FBr.out nq)
        have HWD := Lib.hid (show (wr.drewN nq).ownsRow w.heap.size 3 1 (.slice Am k km) k _ from HWP.out)
        have hszq : w.heap.size ≤ (wr.drewN nq).heap.size := hsz
        have hx0q : (wr.drewN nq).cell? ⟨ba, oa, none⟩ = some (.int .i64 (F' 0)) := hx0
        have hy0q : (wr.drewN nq).cell? ⟨bb, ob, none⟩ = some (.int .i64 (G' 0)) := hy0
        generalize wr.drewN nq = wq at *
        clear LA LB FBr HWR HWP hsz hx0 hy0
        go_wp2_with (at_builtin; refine wpList_push rfl _ _ 25 rfl w.heap.size 3 (.int .i64 0) 8 Try.underlying25 infoI rfl Am k km (intV (putI M k (F' 0))) (.int .i64 (F' 0)) wq rfl HWD.out rfl (by unfold intV; rw [putI_at]) rfl (by omega) (by omega) hszq ?_)
        intro A3 k3 w3 ho3 hb3
        have HO3 := Lib.hid ho3
        have HB3 := Lib.hid (FBq.out.trans hb3)
        have LX3 := Lib.hid ((LAq.out.b hb3).tail hca)
        have LY3 := Lib.hid (LBq.out.b hb3)
        clear ho3 hb3 hx0q hy0q
        go_wp2_with fail
        go_roundw
        case rel => exact ⟨k + 1, _, nn, _, mm + 1, _, _, _, _, _, _, _, rfl, rfl, rfl, HNX.out, by omega, hcb, LX3.out, LY3.out, HO3.out, HB3.out⟩
        case measure => simp [lenOf] <;> omega
    · have HL := Lib.hid (show k + n' + m' = N from by rw [HNN.out]; exact HMG.out.len)
      have hlb : k + n' + m' ≤ 120 := by have := HL.out; omega
      have H1 := Lib.hid h1
      by_cases hn0 : 0 < n'
      · have d0 : decide (0 < n') = true := by simpa using hn0
        have d1 : decide (0 < m') = false := by simp; omega
        clear h1 hn0
        go_wp2_with (at_builtin; refine wpList_append_vals rfl (.tmp 37) (.tmp 38) 25 rfl w.heap.size 3 (.int .i64 0) 8 Try.underlying25 infoI rfl (F := intV M) (G := intV F') rfl rfl HWR.out (grow_of (LA.out.row hsz)) (fun _ _ => rfl) (by omega) (by omega) hsz ?_)
        intro A3 k3 w3 ho3 hb3
        have HO3 := Lib.hid ho3
        have LB3 := Lib.hid (LB.out.b hb3)
        have HB3 := Lib.hid (FBr.out.trans hb3)
        have hsz3 : w.heap.size ≤ w3.heap.size := Nat.le_trans hsz hb3.size
        clear ho3 hb3 HWR LA LB FBr
        go_wp2_with (at_builtin; refine wpList_append_vals rfl (.tmp 40) (.tmp 41) 25 rfl w.heap.size 3 (.int .i64 0) 8 Try.underlying25 infoI rfl (F := catV (intV M) (intV F') k) (G := intV G') rfl rfl HO3.out (grow_of (LB3.out.row hsz3)) (fun _ _ => rfl) (by omega) (by omega) hsz3 ?_)
        intro A4 k4 w4 ho4 hb4
        have HO4 := Lib.hid ho4
        have HB4 := Lib.hid (HB3.out.trans hb4)
        clear ho4 hb4 HO3 LB3 HB3
        go_wp2_with fail
        go_ret
        exact mrg_end HM.out HMG.out HNN.out HO4.out HB4.out (by have := H1.out; omega)
      · have d0 : decide (0 < n') = false := by simp; omega
        clear h1 hn0
        go_wp2_with (at_builtin; refine wpList_append_vals rfl (.tmp 37) (.tmp 38) 25 rfl w.heap.size 3 (.int .i64 0) 8 Try.underlying25 infoI rfl (F := intV M) (G := intV F') rfl rfl HWR.out (grow_of (LA.out.row hsz)) (fun _ _ => rfl) (by omega) (by omega) hsz ?_)
        intro A3 k3 w3 ho3 hb3
        have HO3 := Lib.hid ho3
        have LB3 := Lib.hid (LB.out.b hb3)
        have HB3 := Lib.hid (FBr.out.trans hb3)
        have hsz3 : w.heap.size ≤ w3.heap.size := Nat.le_trans hsz hb3.size
        clear ho3 hb3 HWR LA LB FBr
        go_wp2_with (at_builtin; refine wpList_append_vals rfl (.tmp 40) (.tmp 41) 25 rfl w.heap.size 3 (.int .i64 0) 8 Try.underlying25 infoI rfl (F := catV (intV M) (intV F') k) (G := intV G') rfl rfl HO3.out (grow_of (LB3.out.row hsz3)) (fun _ _ => rfl) (by omega) (by omega) hsz3 ?_)
        intro A4 k4 w4 ho4 hb4
        have HO4 := Lib.hid ho4
        have HB4 := Lib.hid (HB3.out.trans hb4)
        clear ho4 hb4 HO3 LB3 HB3
        go_wp2_with fail
        go_ret
        exact mrg_end HM.out HMG.out HNN.out HO4.out HB4.out (by have := H1.out; omega)

theorem at_one (F : Nat → Int) (i : Nat) : (fun j => F (i + (j + 1))) = fun j => F (i + 1 + j) := by funext j; congr 1; omega
theorem Mrg.takeA {n m k n' m' i q : Nat} {F G M P Q : Nat → Int} (h : Mrg n F m G k M (n' + 1) (fun j => P (i + j)) m' (fun j => Q (q + j))) (hle : 0 < m' → P i ≤ Q q) : Mrg n F m G (k + 1) (putI M k (P i)) n' (fun j => P (i + 1 + j)) m' (fun j => Q (q + j)) := by
  have := h.take (by simpa using hle)
  simp only [Nat.add_zero] at this
  rw [at_one] at this; exact this
set_option maxRecDepth 100000 in
set_option maxHeartbeats 4000000 in
theorem spec_spMerge (A1 : Option Addr) (n c1 : Nat) (F : Nat → Int) (A2 : Option Addr) (m c2 : Nat) (G : Nat → Int) (w : World) (hn : n ≤ 60) (hm : m ≤ 60) (h1 : IRow w A1 n F) (h2 : IRow w A2 m G) (s1 : SrtN n F) (s2 : SrtN m G) (M : Nat → Int) (hM : MrgOf n F m G M) :
    Calls Try.prog 73 #[.slice A1 n c1, .slice A2 m c2] w (MrgIs (n + m) M w) := by
  have HM := Lib.hid hM
  have HS : Hid (Mrg n F m G 0 (fun _ => 0) n (fun j => F (0 + j)) m (fun j => G (0 + j))) := Lib.hid (by simp only [Nat.zero_add]; exact Mrg.start s1 s2 (fun _ => 0))
  have R1 := Lib.hid h1
  have R2 := Lib.hid h2
  have L1 := Lib.hid (LRow.of h1)
  have L2 := Lib.hid (LRow.of h2)
  clear h1 h2 s1 s2 hM
  go_enter Try.func73, Try.ntmps73
  go_wp2_with fail
  go_loopw [5, 6, 7] (fun v a b wr => ∃ (i q : Nat) (M : Nat → Int) (n' m' : Nat) (Am : Option Addr) (km : Nat), v = .slice Am (i + q) km ∧ a = .int .i64 i ∧ b = .int .i64 q ∧ Hid (i + n' = n) ∧ Hid (q + m' = m) ∧ Mrg n F m G (i + q) M n' (fun j => F (i + j)) m' (fun j => G (q + j)) ∧ LRow wr w.heap.size A1 n F ∧ LRow wr w.heap.size A2 m G ∧ wr.ownsRow w.heap.size 3 1 (.slice Am (i + q) km) (i + q) (vals (intV M) (i + q)) ∧ Below w.heap.size w wr) (fun _ a b _ => (n - (intOf a).toNat) + (m - (intOf b).toNat))
  case atStart => exact ⟨0, 0, fun _ => 0, n, m, none, 0, rfl, rfl, rfl, Lib.hid (by omega), Lib.hid (by omega), HS.out, L1.out, L2.out, World.ownsRow_nil _ _ _ _, Below.refl _ _⟩
  case round =>
    obtain ⟨i, q, M, n', m', Am, km, rfl, rfl, rfl, hin, hqm, hmg, hla, hlb, how, hbr⟩ := hrel
    have HMG := Lib.hid hmg
    have LA := Lib.hid hla
    have LB := Lib.hid hlb
    have HWR := Lib.hid how
    have FBr := Lib.hid hbr
    have hsz := hbr.size
    have hi1 : i ≤ n := by have := hin.out; omega
    have hq1 : q ≤ m := by have := hqm.out; omega
    clear hmg hla hlb how hbr
    by_cases hgo : i < n ∨ q < m
    · by_cases hA : q = m ∨ (i < n ∧ F i ≤ G q)
      · have hin2 : i < n := by
          rcases hA with h | h
          · omega
          · exact h.1
        obtain ⟨nn, hnn⟩ : ∃ nn, n' = nn + 1 := ⟨n' - 1, by have := hin.out; omega⟩
        subst hnn
        have HIN2 := Lib.hid (show i + 1 + nn = n by have := hin.out; omega)
        have HNX := Lib.hid (HMG.out.takeA (P := F) (Q := G) (fun h0 => by
          rcases hA with h | h
          · have := hqm.out; omega
          · exact h.2))
        have HWP := Lib.hid (owned_putI (F i) HWR.out)
        obtain ⟨ba, oa, rfl, hba, hxa⟩ := LA.out (by omega)
        have hx := hxa i hin2
        have e0 : (i : Int) < (n : Int) := by omega
        clear hxa
        by_cases hqm2 : q = m
        · have d1 : ((q : Int) == (m : Int)) = true := by simp; omega
          clear hA hgo hqm2
          go_wp2_with fail
          go_quiet (fail)
          have LAq := Lib.hid (LA.out.b (below_drewN (Below.refl _ _) nq))
          have LBq := Lib.hid (LB.out.b (below_drewN (Below.refl _ _) nq))
          have FBq := Lib.hid (below_drewN FBr.out nq)
          have HWD := Lib.hid (show (wr.drewN nq).ownsRow w.heap.size 3 1 (.slice Am (i + q) km) (i + q) _ from HWP.out)
          have hszq : w.heap.size ≤ (wr.drewN nq).heap.size := hsz
          have hxq : (wr.drewN nq).cell? ⟨ba, oa + i, none⟩ = some (.int .i64 (F i)) := hx
          generalize wr.drewN nq = wq at *
          clear LA LB FBr HWR HWP hsz hx
          go_wp2_with (at_builtin; refine wpList_push rfl (.tmp 39) (.tmp 44) 25 rfl w.heap.size 3 (.int .i64 0) 8 Try.underlying25 infoI rfl Am (i + q) km (intV (putI M (i + q) (F i))) (.int .i64 (F i)) wq rfl HWD.out rfl (by unfold intV; rw [putI_at]) rfl (by omega) (by omega) hszq ?_)
          intro A3 k3 w3 ho3 hb3
          have HO3 := Lib.hid ho3
          have HB3 := Lib.hid (FBq.out.trans hb3)
          have LA3 := Lib.hid (LAq.out.b hb3)
          have LB3 := Lib.hid (LBq.out.b hb3)
          clear ho3 hb3 hxq
          go_wp2_with fail
          go_roundw
          case rel => exact ⟨i + 1, q, putI M (i + q) (F i), nn, m', A3, k3, by rw [show i + 1 + q = i + q + 1 by omega], by go_num, rfl, HIN2, hqm, by rw [show i + 1 + q = i + q + 1 by omega]; exact HNX.out, LA3.out, LB3.out, by rw [show i + 1 + q = i + q + 1 by omega]; exact HO3.out, HB3.out⟩
          case measure => simp [intOf] <;> omega
        · have hq2 : q < m := by omega
          have d1 : ((q : Int) == (m : Int)) = false := by simp; omega
          have hle : decide (F i ≤ G q) = true := by
            rcases hA with h | h
            · exact absurd h hqm2
            · simpa using h.2
          obtain ⟨bb, ob, rfl, hbb, hxb⟩ := LB.out (by omega)
          have hy := hxb q hq2
          have e1 : (q : Int) < (m : Int) := by omega
          clear hA hgo hqm2 hxb
          go_wp2_with fail
          go_quiet (fail)
          have LAq := Lib.hid (LA.out.b (below_drewN (Below.refl _ _) nq))
          have LBq := Lib.hid (LB.out.b (below_drewN (Below.refl _ _) nq))
          have FBq := Lib.hid (below_drewN FBr.out nq)
          have HWD := Lib.hid (show (wr.drewN nq).ownsRow w.heap.size 3 1 (.slice Am (i + q) km) (i + q) _ from HWP.out)
          have hszq : w.heap.size ≤ (wr.drewN nq).heap.size := hsz
          have hxq : (wr.drewN nq).cell? ⟨ba, oa + i, none⟩ = some (.int .i64 (F i)) := hx
          generalize wr.drewN nq = wq at *
          clear LA LB FBr HWR HWP hsz hx hy
          go_wp2_with (at_builtin; refine wpList_push rfl (.tmp 39) (.tmp 44) 25 rfl w.heap.size 3 (.int .i64 0) 8 Try.underlying25 infoI rfl Am (i + q) km (intV (putI M (i + q) (F i))) (.int .i64 (F i)) wq rfl HWD.out rfl (by unfold intV; rw [putI_at]) rfl (by omega) (by omega) hszq ?_)
          intro A3 k3 w3 ho3 hb3
          have HO3 := Lib.hid ho3
          have HB3 := Lib.hid (FBq.out.trans hb3)
          have LA3 := Lib.hid (LAq.out.b hb3)
          have LB3 := Lib.hid (LBq.out.b hb3)
          clear ho3 hb3 hxq
          go_wp2_with fail
          go_roundw
          case rel => exact ⟨i + 1, q, putI M (i + q) (F i), nn, m', A3, k3, by rw [show i + 1 + q = i + q + 1 by omega], by go_num, rfl, HIN2, hqm, by rw [show i + 1 + q = i + q + 1 by omega]; exact HNX.out, LA3.out, LB3.out, by rw [show i + 1 + q = i + q + 1 by omega]; exact HO3.out, HB3.out⟩
          case measure => simp [intOf] <;> omega
      · have hq2 : q < m := by omega
        obtain ⟨mm, hmm⟩ : ∃ mm, m' = mm + 1 := ⟨m' - 1, by have := hqm.out; omega⟩
        subst hmm
        have HQM2 := Lib.hid (show q + 1 + mm = m by have := hqm.out; omega)
        have HNX := Lib.hid ((HMG.out.swap.takeA (P := G) (Q := F) (fun h0 => by
          have h1 : i < n := by have := hin.out; omega
          have : ¬ F i ≤ G q := fun h => hA (.inr ⟨h1, h⟩)
          omega)).swap)
        have HWP := Lib.hid (owned_putI (G q) HWR.out)
        obtain ⟨bb, ob, rfl, hbb, hxb⟩ := LB.out (by omega)
        have hy := hxb q hq2
        have e1 : (q : Int) < (m : Int) := by omega
        have d1 : ((q : Int) == (m : Int)) = false := by simp; omega
        clear hxb
        by_cases hin2 : i < n
        · have hle : decide (F i ≤ G q) = false := by
            simp only [decide_eq_false_iff_not]; exact fun h => hA (.inr ⟨hin2, h⟩)
          obtain ⟨ba, oa, rfl, hba, hxa⟩ := LA.out (by omega)
          have hx := hxa i hin2
          have e0 : (i : Int) < (n : Int) := by omega
          clear hA hgo hxa
          go_wp2_with fail
          go_quiet (fail)
          have LAq := Lib.hid (LA.out.b (below_drewN (Below.refl _ _) nq))
          have LBq := Lib.hid (LB.out.b (below_drewN (Below.refl _ _) nq))
          have FBq := Lib.hid (below_drewN FBr.out nq)
          have HWD := Lib.hid (show (wr.drewN nq).ownsRow w.heap.size 3 1 (.slice Am (i + q) km) (i + q) _ from HWP.out)
          have hszq : w.heap.size ≤ (wr.drewN nq).heap.size := hsz
          have hxq : (wr.drewN nq).cell? ⟨bb, ob + q, none⟩ = some (.int .i64 (G q)) := hy
          generalize wr.drewN nq = wq at *
          clear LA LB FBr HWR HWP hsz hx hy
          go_wp2_with (at_builtin; refine wpList_push rfl (.tmp 48) (.tmp 53) 25 rfl w.heap.size 3 (.int .i64 0) 8 Try.underlying25 infoI rfl Am (i + q) km (intV (putI M (i + q) (G q))) (.int .i64 (G q)) wq rfl HWD.out rfl (by unfold intV; rw [putI_at]) rfl (by omega) (by omega) hszq ?_)
          intro A3 k3 w3 ho3 hb3
          have HO3 := Lib.hid ho3
          have HB3 := Lib.hid (FBq.out.trans hb3)
          have LA3 := Lib.hid (LAq.out.b hb3)
          have LB3 := Lib.hid (LBq.out.b hb3)
          clear ho3 hb3 hxq
          go_wp2_with fail
          go_roundw
          case rel => exact ⟨i, q + 1, putI M (i + q) (G q), n', mm, A3, k3, by rw [show i + (q + 1) = i + q + 1 by omega], rfl, by go_num, hin, HQM2, by rw [show i + (q + 1) = i + q + 1 by omega]; exact HNX.out, LA3.out, LB3.out, by rw [show i + (q + 1) = i + q + 1 by omega]; exact HO3.out, HB3.out⟩
          case measure => simp [intOf] <;> omega
        · have d2 : decide (i < n) = false := by simp; omega
          clear hA hgo
          go_wp2_with fail
          go_quiet (fail)
          have LAq := Lib.hid (LA.out.b (below_drewN (Below.refl _ _) nq))
          have LBq := Lib.hid (LB.out.b (below_drewN (Below.refl _ _) nq))
          have FBq := Lib.hid (below_drewN FBr.out nq)
          have HWD := Lib.hid (show (wr.drewN nq).ownsRow w.heap.size 3 1 (.slice Am (i + q) km) (i + q) _ from HWP.out)
          have hszq : w.heap.size ≤ (wr.drewN nq).heap.size := hsz
          have hxq : (wr.drewN nq).cell? ⟨bb, ob + q, none⟩ = some (.int .i64 (G q)) := hy
          generalize wr.drewN nq = wq at *
          clear LA LB FBr HWR HWP hsz hy
          go_wp2_with (at_builtin; refine wpList_push rfl (.tmp 48) (.tmp 53) 25 rfl w.heap.size 3 (.int .i64 0) 8 Try.underlying25 infoI rfl Am (i + q) km (intV (putI M (i + q) (G q))) (.int .i64 (G q)) wq rfl HWD.out rfl (by unfold intV; rw [putI_at]) rfl (by omega) (by omega) hszq ?_)
          intro A3 k3 w3 ho3 hb3
          have HO3 := Lib.hid ho3
          have HB3 := Lib.hid (FBq.out.trans hb3)
          have LA3 := Lib.hid (LAq.out.b hb3)
          have LB3 := Lib.hid (LBq.out.b hb3)
          clear ho3 hb3 hxq
          go_wp2_with fail
          go_roundw
          case rel => exact ⟨i, q + 1, putI M (i + q) (G q), n', mm, A3, k3, by rw [show i + (q + 1) = i + q + 1 by omega], rfl, by go_num, hin, HQM2, by rw [show i + (q + 1) = i + q + 1 by omega]; exact HNX.out, LA3.out, LB3.out, by rw [show i + (q + 1) = i + q + 1 by omega]; exact HO3.out, HB3.out⟩
          case measure => simp [intOf] <;> omega
    · have hi2 : n' = 0 := by have := hin.out; omega
      have hq2 : m' = 0 := by have := hqm.out; omega
      subst hi2 hq2
      have hi3 : i = n := by have := hin.out; omega
      have hq3 : q = m := by have := hqm.out; omega
      subst hi3 hq3
      have HE := Lib.hid (HMG.out.done)
      have d0 : decide ((i : Int) < (i : Int)) = false := by simp
      clear hgo hin hqm
      go_wp2_with fail
      go_ret
      exact ⟨Am, km, rfl, (ow_of_gvec (owned_vec HWR.out) (Nat.le_refl _)).congr (fun j hj => by unfold intV; rw [← HE.out.same HM.out j hj]; unfold catI; rw [if_pos hj]), owned_cap HWR.out, FBr.out⟩
end Go.Proofs.Ytdkkflejpcgipaa
