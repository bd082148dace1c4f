/- IsPeelOrder of both sides. -/
import Derived.Test.YtfhanighnckbhaaPeelI
import Derived.Deep.DeepCutAuto
namespace Go.Proofs.Ytfhanighnckbhaa
open Go.RowKit

theorem lst_has {L : List Nat} {x : Int} : (∃ i, i < L.length ∧ lstV L i = x) ↔ (0 ≤ x ∧ x.toNat ∈ L) := by
  constructor
  · rintro ⟨i, hi, h⟩
    unfold lstV at h
    rw [List.getD_eq_getElem?_getD, List.getElem?_eq_getElem hi] at h
    simp only [Option.getD_some] at h
    refine ⟨by omega, ?_⟩
    rw [← h, Int.toNat_natCast]
    exact List.getElem_mem hi
  · rintro ⟨h0, h⟩
    obtain ⟨i, hi, h⟩ := List.getElem_of_mem h
    refine ⟨i, hi, ?_⟩
    unfold lstV
    rw [List.getD_eq_getElem?_getD, List.getElem?_eq_getElem hi]
    simp only [Option.getD_some]
    rw [h]; omega
theorem dgR_ge {l : Nat → Nat} {X : Nat → Nat → Int} {G : Nat → Bool} {p : Int} {i : Nat} (hg : G i = false) (hc : 0 < cntE (X i) p (l i)) : ∀ k, i < k → 0 < dgR l X G p k
  | 0, h => by omega
  | k + 1, h => by
    rw [dgR]
    by_cases e : i = k
    · subst e; rw [hg]; simp; omega
    · have := dgR_ge hg hc k (by omega); omega
/-- The one edge that has a free place. -/
theorem edg_one {l : Nat → Nat} {X : Nat → Nat → Int} {n : Nat} {G : Nat → Bool} {p e : Nat} (h : degF l X G n p = 1) (he : e < n) (hg : G e = false) (hc : ∃ t, t < l e ∧ X e t = (p : Int)) : edg l X n G p = e := by
  obtain ⟨f1, f2, f3, _⟩ := edg_first h
  generalize edg l X n G p = f at *
  by_cases hne : f = e
  · exact hne
  · exfalso
    have h1 := dgR_take (l := l) (X := X) (p := (p : Int)) hg n he
    have h2 := (cntE_pos (X := X e) (p := (p : Int)) (l e)).2 hc
    have h3 : upd G e true f = false := by unfold upd; rw [if_neg hne]; exact f2
    have h4 := dgR_ge (l := l) (X := X) h3 ((cntE_pos (X := X f) (p := (p : Int)) (l f)).2 f3) n f1
    unfold degF at h
    omega
theorem GRow.drewN' {w : World} {A : Option Addr} {n : Nat} {F : Nat → Value} (h : GRow w A n F) (k : Nat) : GRow (w.drewN k) A n F := h
/-- The model's loop: the Hyper's box, the step's box, the edges that are left. -/
structure SO (w : World) (z : Int) (A : Option Addr) (n c : Nat) (B : Nat → Option Addr) (l d : Nat → Nat) (X : Nat → Nat → Int) (LA : Option Addr) (k : Nat) (V : Nat → Int) (q : Nat) (E P : Int) (wi : World) : Prop where
  lh : LH w w.heap.size z A n c B l d X wi
  nb : NBX w.heap.size q #[.int .i64 E, .int .i64 P] 82 wi
  lf : IRow wi LA k V
section
variable {w wi wj : World} {z : Int} {A : Option Addr} {n c : Nat} {B : Nat → Option Addr} {l d : Nat → Nat} {X : Nat → Nat → Int} {LA : Option Addr} {k q : Nat} {V : Nat → Int} {E P : Int}
theorem SO.step (h : SO w z A n c B l d X LA k V q E P wi) (hb : Below wi.heap.size wi wj) : SO w z A n c B l d X LA k V q E P wj := ⟨h.lh.step hb, h.nb.b hb, h.lf.b hb⟩
theorem SO.five (h : SO w z A n c B l d X LA k V q E P wi) : w.heap.size < wi.heap.size ∧ wi.cell? ⟨w.heap.size, 0, none⟩ = some (.int .i64 z) ∧ wi.cell? ⟨w.heap.size, 1, none⟩ = some (.slice A n c) ∧ wi.cell? ⟨q, 0, none⟩ = some (.int .i64 E) ∧ wi.cell? ⟨q, 1, none⟩ = some (.int .i64 P) :=
  ⟨h.lh.box.1, h.lh.box.2.1, h.lh.box.2.2, h.nb.cell 0 _ rfl, h.nb.cell 1 _ rfl⟩
end
theorem has_is {A : Option Addr} {c : Nat} {L : List Nat} {x : Int} {b : Bool} (hb : b = true ↔ (0 ≤ x ∧ x.toNat ∈ L)) (hn : L.length ≤ 1048576) (W : World) (hr : IRow W A L.length (lstV L)) : Calls Try.prog 94 #[.slice A L.length c, .int .i64 x] W fun e w' => e = .returned (.bool b) ∧ W = w' :=
  (spec_l1Has A L.length c (lstV L) x W hn hr).mono fun e w' ⟨b', h1, h2, h3⟩ => ⟨by rw [h1, show b' = b from Bool.eq_iff_iff.2 ((h2.trans lst_has).trans hb.symm)], h3⟩
set_option maxRecDepth 100000 in
set_option maxHeartbeats 8000000 in
theorem spec_peOrder (z : Nat) (A : Option Addr) (n c : Nat) (B : Nat → Option Addr) (l d : Nat → Nat) (X : Nat → Nat → Int) (SA : Option Addr) (m sc : Nat) (Y : Nat → Int) (w : World) (hr : HR w A n B l d X) (h : HyperOk z n l X) (hm : m ≤ 1048576) (hy : GRow w SA (2 * m) (intV Y)) :
    Calls Try.prog 70 #[.agg #[.int .i64 z, .slice A n c], .slice SA m sc] w (BoolIs (OrdP n l X m Y) w) := by
  have L0 := Lib.hid (LH.start (z := (z : Int)) (c := c) hr 26)
  have HG := Lib.hid h
  have HY := Lib.hid hy
  have hn40 := h.2.2.1
  have hz72 : z ≤ 72 := by have := h.2.1; omega
  have HL3 := Lib.hid (fun i (hi : i < n) => (show l i ≤ 1048576 by have := HG.out.three i hi; omega))
  clear hr h hy
  obtain ⟨hsz0, b0, b1⟩ := L0.out.box
  go_enter Try.func70, Try.ntmps70
  go_wp2_with fail
  refine (spec_peAll z A n c B l d X _ hn40 L0.out.row).mono ?_; rintro e w1 ⟨LA, lc, rfl, hol, hb⟩
  have L1 := Lib.hid (L0.out.step hb)
  have hlen0 : (leftL (goneI Y 0) n).length = n := by show (leftL (fun _ => false) n).length = n; rw [leftL_none]; simp
  have HOL := Lib.hid (show w1.ownsRow (w.heap.size + 1) 3 1 (.slice LA (leftL (goneI Y 0) n).length lc) (leftL (goneI Y 0) n).length (vals (intV (lstV (leftL (goneI Y 0) n))) (leftL (goneI Y 0) n).length) by
    rw [hlen0, vals_congr (F := intV (lstV (leftL (goneI Y 0) n))) (G := intV (idxV allE)) (fun i hi => by
      unfold intV; congr 1
      show lstV (leftL (fun _ => false) n) i = ((i : Nat) : Int)
      rw [leftL_none]; unfold lstV; rw [List.getD_eq_getElem?_getD, List.getElem?_range hi]; rfl)]
    exact owned_low hol (by simp))
  have HL0 := Lib.hid hlen0
  clear hb hol L0 b0 b1 hsz0 hlen0
  go_wp2_with fail
  go_loopw [5, 12] (fun lv i wr => ∃ (k : Nat) (LA : Option Addr) (lc : Nat), k ≤ m ∧ i = .int .i64 k ∧ lv = .slice LA (leftL (goneI Y k) n).length lc ∧ Hid (AllSt n l X Y k) ∧ Hid (wr.ownsRow (w.heap.size + 1) 3 1 (.slice LA (leftL (goneI Y k) n).length lc) (leftL (goneI Y k) n).length (vals (intV (lstV (leftL (goneI Y k) n))) (leftL (goneI Y k) n).length)) ∧ Hid (LH w w.heap.size z A n c B l d X wr)) (fun _ i _ => m - (intOf i).toNat)
  case atStart => exact ⟨0, LA, lc, Nat.zero_le _, rfl, by rw [HL0.out], Lib.hid (fun j hj => absurd hj (by omega)), HOL, L1⟩
  case round =>
    obtain ⟨k, LA, lc, hk, rfl, rfl, HS, HL, HLr⟩ := hrel
    have hall := leftL_len (goneI Y k) n
    by_cases hlt : k < m
    · obtain ⟨b, off, rfl, _, hcc⟩ := (HY.out.b HLr.out.below) (by omega)
      have x0 := hcc (k * 2) (by omega)
      have x1 := hcc (k * 2 + 1) (by omega)
      rw [← Nat.add_assoc] at x1
      dsimp only [intV] at x0 x1
      have hup : goneI Y (k + 1) = upd (goneI Y k) (Y (k * 2)).toNat true := rfl
      have HSN := Lib.hid (fun (hh : ¬ StOk n l X (goneI Y k) (Y (k * 2)) (Y (k * 2 + 1))) => (show ¬ OrdP n l X m Y from fun h => hh (h.1 k hlt)))
      have HSY := Lib.hid (fun (hh : StOk n l X (goneI Y k) (Y (k * 2)) (Y (k * 2 + 1))) => allSt_succ HS.out hh)
      clear hcc
      generalize Y (k * 2) = E at *
      generalize Y (k * 2 + 1) = P at *
      have hG : ∃ G, G = goneI Y k := ⟨_, rfl⟩
      obtain ⟨G, hG⟩ := hG
      rw [← hG] at hup HSN HSY hall HL
      have HUP := Lib.hid hup
      have HGG := Lib.hid hG
      rw [← hG]
      clear hup hG
      have hidx := Lib.hid (left_idx G n)
      have T0 := Lib.hid (show SO w z A n c B l d X LA (leftL G n).length (lstV (leftL G n)) wr.heap.size E P (wr.alloc (.cells #[.int .i64 E, .int .i64 P] 82)) from ⟨HLr.out.step ((Below.refl _ _).alloc (Nat.le_refl _) _), ⟨Go.Deep.blk_alloc_new _ _, HLr.out.below.size⟩, ((owned_vec HL.out).row).b ((Below.refl _ _).alloc (Nat.le_refl _) _)⟩)
      have AL := Lib.hid ((Below.refl wr.heap.size wr).alloc (Nat.le_refl _) (.cells #[.int .i64 E, .int .i64 P] 82))
      go_upto_region 5 with fail
      generalize (wr.alloc (.cells #[.int .i64 E, .int .i64 P] 82)) = wq at *
      have TD := Lib.hid (T0.out.step (Below.drew (Below.refl _ _)))
      obtain ⟨t0, a0, a1, a2, a3⟩ := T0.out.five
      by_cases hin : 0 ≤ E ∧ E.toNat ∈ leftL G n
      rotate_left
      · have H1 := Lib.hid (fun W hW => has_is (A := LA) (c := lc) (L := leftL G n) (x := E) (b := false) (by simp only [Bool.false_eq_true, false_iff]; exact hin) (by omega) W hW)
        have HN := Lib.hid (HSN.out (fun hh => hin ⟨hh.1.1, mem_leftL.2 ⟨by have := hh.1; omega, hh.2.1⟩⟩))
        clear hin
        go_quiet ((go_at_call 94; exact quiet_left (H1.out _ (irow (GRow.drewN' (grow_of T0.out.lf) _)))))
        have T1 := Lib.hid (T0.out.step (below_drewN (Below.refl _ _) nq))
        clear a0 a1 a2 a3
        go_wp2_with fail
        go_ret
        exact ⟨false, rfl, by simp only [Bool.false_eq_true, false_iff]; exact HN.out, T1.out.lh.below⟩
      obtain ⟨hE0, hmem⟩ := hin
      obtain ⟨e, rfl⟩ := Int.eq_ofNat_of_zero_le hE0
      rw [Int.toNat_natCast] at hmem
      obtain ⟨hen, hge⟩ := mem_leftL.1 hmem
      have H1 := Lib.hid (fun W hW => has_is (A := LA) (c := lc) (L := leftL G n) (x := (e : Int)) (b := true) (by simp only [true_iff]; exact ⟨hE0, by rw [Int.toNat_natCast]; exact hmem⟩) (by omega) W hW)
      have HF := Lib.hid (fun W (h1 : HR W A n B l d X) (h2 : IRow W LA (leftL G n).length (lstV (leftL G n))) => (show Calls Try.prog 77 #[.agg #[.int .i64 z, .slice A n c], .slice LA (leftL G n).length lc] W (fun e w' => ∃ FA fc, e = .returned (.slice FA (freL (degF l X G n) z).length fc) ∧ IRow w' FA (freL (degF l X G n) z).length (lstV (freL (degF l X G n) z)) ∧ Below W.heap.size W w') from
        (spec_peFree z A n c B l d X LA (leftL G n).length lc (fun t => (leftL G n).getD t 0) W hn40 (by omega) hz72 h1 h2 hidx.out HG.out.three HG.out.inn).mono fun e w' ⟨FA, fc, he, ho, hb⟩ => by rw [deg_left] at he ho; exact ⟨FA, fc, he, (owned_vec ho).row, hb⟩))
      have hfl := freL_len (degF l X G n) z
      by_cases hpf : 0 ≤ P ∧ P.toNat ∈ freL (degF l X G n) z
      rotate_left
      · have H2 := Lib.hid (fun FA fc W hW => has_is (A := FA) (c := fc) (L := freL (degF l X G n) z) (x := P) (b := false) (by simp only [Bool.false_eq_true, false_iff]; exact hpf) (by omega) W hW)
        have HN := Lib.hid (HSN.out (fun hh => hpf (by
          obtain ⟨t, ht, hx⟩ := hh.2.2.1
          rw [Int.toNat_natCast] at ht hx
          have := HG.out.inn e hen t ht
          exact ⟨by omega, mem_freL.2 ⟨by omega, hh.2.2.2⟩⟩)))
        clear hpf hmem hge
        have HK := Lib.hid (fun (w' : World) (h : Below wq.heap.size wq w') => (T0.out.step h).five.2)
        refine wp_region_held_drew (S := fun w' => w'.cell? ⟨w.heap.size, 0, none⟩ = some (.int .i64 z) ∧ w'.cell? ⟨w.heap.size, 1, none⟩ = some (.slice A n c) ∧ w'.cell? ⟨wr.heap.size, 0, none⟩ = some (.int .i64 e) ∧ w'.cell? ⟨wr.heap.size, 1, none⟩ = some (.int .i64 P)) (by kernel_rfl) (by go_keep) (fun hHeld => ?_)
        refine wpAnyH_take (i := 0) (oi := { dst := some 16, op := Op.move (Operand.tmp 5), type := 47, pos := "l4_peel.go:233", after := #[], guard := none }) (v := ?v0) rfl (by kernel_rfl) (by kernel_rfl) (by kernel_rfl) (fun _ _ _ h => h) (Or.inl ⟨by rfl, ?h0⟩) (by assumption) ?_
        case h0 => (intro w9 hSw; (try dsimp only at hSw); go_simp; try with_reducible rfl)
        try simp only [Act.put, List.setIfInBounds_toArray, List.set_cons_zero, List.set_cons_succ]
        refine wpAnyH_take (i := 1) (oi := { dst := some 17, op := Op.fieldAddr 82 (Operand.tmp 7) 0, type := 0, pos := "l4_peel.go:233", after := #[], guard := none }) (v := ?v1) rfl (by kernel_rfl) (by kernel_rfl) (by kernel_rfl) (fun _ _ _ h => h) (Or.inl ⟨by rfl, ?h1⟩) (by assumption) ?_
        case h1 => (intro w9 hSw; (try dsimp only at hSw); go_simp; try with_reducible rfl)
        try simp only [Act.put, List.setIfInBounds_toArray, List.set_cons_zero, List.set_cons_succ]
        refine wpAnyH_take (i := 2) (oi := { dst := some 18, op := Op.load 3 (Operand.tmp 17), type := 3, pos := "l4_peel.go:233", after := #[{ on := 1, ground := Ground.data }], guard := none }) (v := ?v2) rfl (by kernel_rfl) (by kernel_rfl) (by kernel_rfl) (fun _ _ _ h => h) (Or.inl ⟨by rfl, ?h2⟩) (by assumption) ?_
        case h2 => (intro w9 hSw; (try dsimp only at hSw); go_simp; try with_reducible rfl)
        try simp only [Act.put, List.setIfInBounds_toArray, List.set_cons_zero, List.set_cons_succ]
        refine wpAnyH_ready (rs := [3]) (by kernel_rfl) (by simp) ?_
        refine AllReadyH.cons (o := { dst := some 19, op := Op.call { callee := Callee.value (Operand.func 94), args := #[Operand.tmp 16, Operand.tmp 18], argTypes := #[47, 3] }, type := 4, pos := "l4_peel.go:233", after := #[{ on := 0, ground := Ground.data }, { on := 2, ground := Ground.data }], guard := none }) rfl (fun K hK => ?_) AllReadyH.nil
        go_simp
        go_at_call 94; refine (H1.out _ TD.out.lf).mono ?_; rintro e w1 ⟨rfl, rfl⟩
        refine hK.out _ _ (by assumption) (fun hHeld => ?_)
        clear hK K
        try simp only [Act.put, List.setIfInBounds_toArray, List.set_cons_zero, List.set_cons_succ]
        refine wpAnyH_take (i := 4) (oi := { dst := some 20, op := Op.unOp UnOp.not 4 (Operand.tmp 19), type := 4, pos := "l4_peel.go:233", after := #[{ on := 3, ground := Ground.data }], guard := none }) (v := ?v4) rfl (by kernel_rfl) (by kernel_rfl) (by kernel_rfl) (fun _ _ _ h => h) (Or.inl ⟨by rfl, ?h4⟩) (by assumption) ?_
        case h4 => (intro w9 hSw; (try dsimp only at hSw); go_simp; try with_reducible rfl)
        try simp only [Act.put, List.setIfInBounds_toArray, List.set_cons_zero, List.set_cons_succ]
        refine wpAnyH_take (i := 5) (oi := { dst := some 21, op := Op.move (Operand.tmp 20), type := 4, pos := "l4_peel.go:233", after := #[{ on := 4, ground := Ground.data }, { on := 3, ground := Ground.chain }], guard := none }) (v := ?v5) rfl (by kernel_rfl) (by kernel_rfl) (by kernel_rfl) (fun _ _ _ h => h) (Or.inl ⟨by rfl, ?h5⟩) (by assumption) ?_
        case h5 => (intro w9 hSw; (try dsimp only at hSw); go_simp; try with_reducible rfl)
        try simp only [Act.put, List.setIfInBounds_toArray, List.set_cons_zero, List.set_cons_succ]
        refine wpAnyH_take (i := 6) (oi := { dst := some 22, op := Op.load 26 (Operand.tmp 2), type := 26, pos := "l4_peel.go:233", after := #[{ on := 5, ground := Ground.guard }], guard := some (5, false) }) (v := ?v6) rfl (by kernel_rfl) (by kernel_rfl) (by kernel_rfl) (fun _ _ _ h => h) (Or.inl ⟨by rfl, ?h6⟩) (by assumption) ?_
        case h6 => (intro w9 hSw; (try dsimp only at hSw); go_simp; try with_reducible rfl)
        try simp only [Act.put, List.setIfInBounds_toArray, List.set_cons_zero, List.set_cons_succ]
        refine wpAnyH_take (i := 7) (oi := { dst := some 23, op := Op.move (Operand.tmp 5), type := 47, pos := "l4_peel.go:233", after := #[{ on := 5, ground := Ground.guard }], guard := some (5, false) }) (v := ?v7) rfl (by kernel_rfl) (by kernel_rfl) (by kernel_rfl) (fun _ _ _ h => h) (Or.inl ⟨by rfl, ?h7⟩) (by assumption) ?_
        case h7 => (intro w9 hSw; (try dsimp only at hSw); go_simp; try with_reducible rfl)
        try simp only [Act.put, List.setIfInBounds_toArray, List.set_cons_zero, List.set_cons_succ]
        refine wpAnyH_take (i := 9) (oi := { dst := some 25, op := Op.fieldAddr 82 (Operand.tmp 7) 1, type := 0, pos := "l4_peel.go:233", after := #[{ on := 5, ground := Ground.guard }], guard := some (5, false) }) (v := ?v9) rfl (by kernel_rfl) (by kernel_rfl) (by kernel_rfl) (fun _ _ _ h => h) (Or.inl ⟨by rfl, ?h9⟩) (by assumption) ?_
        case h9 => (intro w9 hSw; (try dsimp only at hSw); go_simp; try with_reducible rfl)
        try simp only [Act.put, List.setIfInBounds_toArray, List.set_cons_zero, List.set_cons_succ]
        refine wpAnyH_take (i := 10) (oi := { dst := some 26, op := Op.load 3 (Operand.tmp 25), type := 3, pos := "l4_peel.go:233", after := #[{ on := 9, ground := Ground.data }, { on := 5, ground := Ground.guard }], guard := some (5, false) }) (v := ?v10) rfl (by kernel_rfl) (by kernel_rfl) (by kernel_rfl) (fun _ _ _ h => h) (Or.inl ⟨by rfl, ?h10⟩) (by assumption) ?_
        case h10 => (intro w9 hSw; (try dsimp only at hSw); go_simp; try with_reducible rfl)
        try simp only [Act.put, List.setIfInBounds_toArray, List.set_cons_zero, List.set_cons_succ]
        refine wpAnyH_ready (rs := [8]) (by kernel_rfl) (by simp) ?_
        refine AllReadyH.cons (o := { dst := some 24, op := Op.call { callee := Callee.value (Operand.func 77), args := #[Operand.tmp 22, Operand.tmp 23], argTypes := #[26, 47] }, type := 47, pos := "l4_peel.go:233", after := #[{ on := 6, ground := Ground.data }, { on := 7, ground := Ground.data }, { on := 5, ground := Ground.chain }, { on := 5, ground := Ground.guard }], guard := some (5, false) }) rfl (fun K hK => ?_) AllReadyH.nil
        go_simp
        go_at_call 77; refine (HF.out _ TD.out.lh.row TD.out.lf).mono ?_; rintro e w2 ⟨FA, fc, rfl, hf, hb'⟩; have hq2 := of_drew hb'; have F2 := Lib.hid hf; clear hb' hf
        refine hK.out _ _ (HK.out _ hq2) (fun hHeld => ?_)
        clear hK K
        try simp only [Act.put, List.setIfInBounds_toArray, List.set_cons_zero, List.set_cons_succ]
        refine wpAnyH_ready (rs := [11]) (by kernel_rfl) (by simp) ?_
        refine AllReadyH.cons (o := { dst := some 27, op := Op.call { callee := Callee.value (Operand.func 94), args := #[Operand.tmp 24, Operand.tmp 26], argTypes := #[47, 3] }, type := 4, pos := "l4_peel.go:233", after := #[{ on := 8, ground := Ground.data }, { on := 10, ground := Ground.data }, { on := 8, ground := Ground.chain }, { on := 5, ground := Ground.guard }], guard := some (5, false) }) rfl (fun K hK => ?_) AllReadyH.nil
        go_simp
        go_at_call 94; refine (H2.out _ _ _ F2.out).mono ?_; rintro e w3 ⟨rfl, rfl⟩
        refine hK.out _ _ (HK.out _ hq2) (fun hHeld => ?_)
        clear hK K
        try simp only [Act.put, List.setIfInBounds_toArray, List.set_cons_zero, List.set_cons_succ]
        refine wpAnyH_take (i := 12) (oi := { dst := some 28, op := Op.unOp UnOp.not 4 (Operand.tmp 27), type := 4, pos := "l4_peel.go:233", after := #[{ on := 11, ground := Ground.data }, { on := 5, ground := Ground.guard }], guard := some (5, false) }) (v := ?v12) rfl (by kernel_rfl) (by kernel_rfl) (by kernel_rfl) (fun _ _ _ h => h) (Or.inl ⟨by rfl, ?h12⟩) (by assumption) ?_
        case h12 => (intro w9 hSw; (try dsimp only at hSw); go_simp; try with_reducible rfl)
        try simp only [Act.put, List.setIfInBounds_toArray, List.set_cons_zero, List.set_cons_succ]
        refine wpAnyH_take (i := 13) (oi := { dst := some 29, op := Op.pick (Operand.tmp 21) (Operand.const (Value.bool true)) (Operand.tmp 28), type := 4, pos := "l4_peel.go:233", after := #[{ on := 5, ground := Ground.data }, { on := 12, ground := Ground.data }], guard := none }) (v := ?v13) rfl (by kernel_rfl) (by kernel_rfl) (by kernel_rfl) (fun _ _ _ h => h) (Or.inl ⟨by rfl, ?h13⟩) (by assumption) ?_
        case h13 => (intro w9 hSw; (try dsimp only at hSw); go_simp; try with_reducible rfl)
        try simp only [Act.put, List.setIfInBounds_toArray, List.set_cons_zero, List.set_cons_succ]
        refine wpAnyH_take (i := 14) (oi := { dst := some 30, op := Op.move (Operand.tmp 29), type := 4, pos := "l4_peel.go:233", after := #[{ on := 13, ground := Ground.data }, { on := 11, ground := Ground.chain }], guard := none }) (v := ?v14) rfl (by kernel_rfl) (by kernel_rfl) (by kernel_rfl) (fun _ _ _ h => h) (Or.inl ⟨by rfl, ?h14⟩) (by assumption) ?_
        case h14 => (intro w9 hSw; (try dsimp only at hSw); go_simp; try with_reducible rfl)
        try simp only [Act.put, List.setIfInBounds_toArray, List.set_cons_zero, List.set_cons_succ]
        refine wpAnyH_take (i := 15) (oi := { dst := some 31, op := Op.load 26 (Operand.tmp 2), type := 26, pos := "l4_peel.go:233", after := #[{ on := 14, ground := Ground.guard }], guard := some (14, false) }) (v := undef) rfl (by kernel_rfl) (by kernel_rfl) (by kernel_rfl) (fun _ _ _ h => h) (Or.inr ⟨by rfl, rfl⟩) (by assumption) ?_
        try simp only [Act.put, List.setIfInBounds_toArray, List.set_cons_zero, List.set_cons_succ]
        refine wpAnyH_take (i := 16) (oi := { dst := some 32, op := Op.move (Operand.tmp 5), type := 47, pos := "l4_peel.go:233", after := #[{ on := 14, ground := Ground.guard }], guard := some (14, false) }) (v := undef) rfl (by kernel_rfl) (by kernel_rfl) (by kernel_rfl) (fun _ _ _ h => h) (Or.inr ⟨by rfl, rfl⟩) (by assumption) ?_
        try simp only [Act.put, List.setIfInBounds_toArray, List.set_cons_zero, List.set_cons_succ]
        refine wpAnyH_take (i := 17) (oi := { dst := some 33, op := Op.fieldAddr 82 (Operand.tmp 7) 1, type := 0, pos := "l4_peel.go:233", after := #[{ on := 14, ground := Ground.guard }], guard := some (14, false) }) (v := undef) rfl (by kernel_rfl) (by kernel_rfl) (by kernel_rfl) (fun _ _ _ h => h) (Or.inr ⟨by rfl, rfl⟩) (by assumption) ?_
        try simp only [Act.put, List.setIfInBounds_toArray, List.set_cons_zero, List.set_cons_succ]
        refine wpAnyH_take (i := 18) (oi := { dst := some 34, op := Op.load 3 (Operand.tmp 33), type := 3, pos := "l4_peel.go:233", after := #[{ on := 17, ground := Ground.data }, { on := 14, ground := Ground.guard }], guard := some (14, false) }) (v := undef) rfl (by kernel_rfl) (by kernel_rfl) (by kernel_rfl) (fun _ _ _ h => h) (Or.inr ⟨by rfl, rfl⟩) (by assumption) ?_
        try simp only [Act.put, List.setIfInBounds_toArray, List.set_cons_zero, List.set_cons_succ]
        refine wpAnyH_take (i := 19) (oi := { dst := some 35, op := Op.call { callee := Callee.value (Operand.func 99), args := #[Operand.tmp 31, Operand.tmp 32, Operand.tmp 34], argTypes := #[26, 47, 3] }, type := 3, pos := "l4_peel.go:233", after := #[{ on := 15, ground := Ground.data }, { on := 16, ground := Ground.data }, { on := 18, ground := Ground.data }, { on := 14, ground := Ground.chain }, { on := 14, ground := Ground.guard }], guard := some (14, false) }) (v := undef) rfl (by kernel_rfl) (by kernel_rfl) (by kernel_rfl) (fun _ _ _ h => h) (Or.inr ⟨by rfl, rfl⟩) (by assumption) ?_
        try simp only [Act.put, List.setIfInBounds_toArray, List.set_cons_zero, List.set_cons_succ]
        refine wpAnyH_take (i := 20) (oi := { dst := some 36, op := Op.fieldAddr 82 (Operand.tmp 7) 0, type := 0, pos := "l4_peel.go:233", after := #[{ on := 14, ground := Ground.guard }], guard := some (14, false) }) (v := undef) rfl (by kernel_rfl) (by kernel_rfl) (by kernel_rfl) (fun _ _ _ h => h) (Or.inr ⟨by rfl, rfl⟩) (by assumption) ?_
        try simp only [Act.put, List.setIfInBounds_toArray, List.set_cons_zero, List.set_cons_succ]
        refine wpAnyH_take (i := 21) (oi := { dst := some 37, op := Op.load 3 (Operand.tmp 36), type := 3, pos := "l4_peel.go:233", after := #[{ on := 20, ground := Ground.data }, { on := 14, ground := Ground.guard }], guard := some (14, false) }) (v := undef) rfl (by kernel_rfl) (by kernel_rfl) (by kernel_rfl) (fun _ _ _ h => h) (Or.inr ⟨by rfl, rfl⟩) (by assumption) ?_
        try simp only [Act.put, List.setIfInBounds_toArray, List.set_cons_zero, List.set_cons_succ]
        refine wpAnyH_take (i := 22) (oi := { dst := some 38, op := Op.binOp BinOp.neq 3 (Operand.tmp 35) (Operand.tmp 37) 3, type := 4, pos := "l4_peel.go:233", after := #[{ on := 19, ground := Ground.data }, { on := 21, ground := Ground.data }, { on := 14, ground := Ground.guard }], guard := some (14, false) }) (v := undef) rfl (by kernel_rfl) (by kernel_rfl) (by kernel_rfl) (fun _ _ _ h => h) (Or.inr ⟨by rfl, rfl⟩) (by assumption) ?_
        try simp only [Act.put, List.setIfInBounds_toArray, List.set_cons_zero, List.set_cons_succ]
        refine wpAnyH_take (i := 23) (oi := { dst := some 39, op := Op.pick (Operand.tmp 30) (Operand.const (Value.bool true)) (Operand.tmp 38), type := 4, pos := "l4_peel.go:233", after := #[{ on := 14, ground := Ground.data }, { on := 22, ground := Ground.data }], guard := none }) (v := ?v23) rfl (by kernel_rfl) (by kernel_rfl) (by kernel_rfl) (fun _ _ _ h => h) (Or.inl ⟨by rfl, ?h23⟩) (by assumption) ?_
        case h23 => (intro w9 hSw; (try dsimp only at hSw); go_simp; try with_reducible rfl)
        try simp only [Act.put, List.setIfInBounds_toArray, List.set_cons_zero, List.set_cons_succ]
        refine wpAnyH_done (by kernel_rfl) ?_ _
        all_goals
          have T1 := Lib.hid (T0.out.step hq2)
          clear a0 a1 a2 a3
          go_wp2_with fail
          go_ret
          exact ⟨false, rfl, by simp only [Bool.false_eq_true, false_iff]; exact HN.out, T1.out.lh.below⟩
      obtain ⟨hP0, hpm⟩ := hpf
      obtain ⟨p, rfl⟩ := Int.eq_ofNat_of_zero_le hP0
      rw [Int.toNat_natCast] at hpm
      obtain ⟨hpz, hdeg⟩ := mem_freL.1 hpm
      have H2 := Lib.hid (fun FA fc W hW => has_is (A := FA) (c := fc) (L := freL (degF l X G n) z) (x := (p : Int)) (b := true) (by simp only [true_iff]; exact ⟨hP0, by rw [Int.toNat_natCast]; exact hpm⟩) (by omega) W hW)
      obtain ⟨kk, hkk, hek, hhit, hmiss⟩ := edg_at (l := l) (X := X) (n := n) (G := G) hdeg
      have HW := Lib.hid (fun W (h1 : HR W A n B l d X) (h2 : IRow W LA (leftL G n).length (lstV (leftL G n))) => (show Calls Try.prog 99 #[.agg #[.int .i64 z, .slice A n c], .slice LA (leftL G n).length lc, .int .i64 (p : Int)] W (fun e w' => e = .returned (.int .i64 ((edg l X n G p : Nat) : Int)) ∧ Below W.heap.size W w') from
        (spec_peWith z A n c B l d X LA (leftL G n).length lc (fun t => (leftL G n).getD t 0) p kk W (by omega) h1 HL3.out h2 hidx.out hkk hhit hmiss).mono fun e w' ⟨h3, h4⟩ => ⟨by rw [h3]; show Ending.returned (.int .i64 (((leftL G n).getD kk 0 : Nat) : Int)) = _; rw [hek], h4⟩))
      have HST := Lib.hid (show edg l X n G p = e ↔ StOk n l X G e p from ⟨fun hh => ⟨⟨hE0, by omega⟩, by rw [Int.toNat_natCast]; exact hge, by rw [Int.toNat_natCast, ← hh]; exact (edg_first hdeg).2.2.1, by rw [Int.toNat_natCast]; exact hdeg⟩, fun hh => edg_one hdeg hen hge (by have h2 := hh.2.2.1; rwa [Int.toNat_natCast] at h2)⟩)
      clear hmem hpm hdeg hhit hmiss hek hkk
      generalize edg l X n G p = f at *
      by_cases hfe : f = e
      rotate_left
      · have d0 : (((f : Nat) : Int) != (e : Int)) = true := by simp; omega
        have HN := Lib.hid (HSN.out (fun hh => hfe (HST.out.2 hh)))
        clear hfe
        have HK := Lib.hid (fun (w' : World) (h : Below wq.heap.size wq w') => (T0.out.step h).five.2)
        go_region_held3 (fun w' => w'.cell? ⟨w.heap.size, 0, none⟩ = some (.int .i64 z) ∧ w'.cell? ⟨w.heap.size, 1, none⟩ = some (.slice A n c) ∧ w'.cell? ⟨wr.heap.size, 0, none⟩ = some (.int .i64 e) ∧ w'.cell? ⟨wr.heap.size, 1, none⟩ = some (.int .i64 p))
          (first | with_reducible exact HK.out _ hq3 | with_reducible exact HK.out _ hq2 | (go_keep; done))
          (first
            | (have hz := R3; clear hz; go_at_call 99; refine (HW.out _ (T0.out.step hq2).lh.row (T0.out.step hq2).lf).mono ?_; rintro e w3 ⟨rfl, hb⟩; have hq3 := hq2.trans (hb.mono hq2.size); clear hb)
            | (have hz := F2; clear hz; go_at_call 94; refine (H2.out _ _ _ F2.out).mono ?_; rintro e w3 ⟨rfl, rfl⟩; have R3 : True := trivial)
            | (go_at_call 77; (first | refine (HF.out _ T0.out.lh.row T0.out.lf).mono ?_ | refine (HF.out _ TD.out.lh.row TD.out.lf).mono ?_); rintro e w2 ⟨FA, fc, rfl, hf, hb'⟩; have hq2 := of_drew hb'; have F2 := Lib.hid hf; clear hb' hf)
            | (go_at_call 94; (first | refine (H1.out _ T0.out.lf).mono ?_ | refine (H1.out _ TD.out.lf).mono ?_); rintro e w1 ⟨rfl, rfl⟩))
        all_goals
          have T1 := Lib.hid (T0.out.step hq3)
          clear a0 a1 a2 a3
          go_wp2_with fail
          go_ret
          exact ⟨false, rfl, by simp only [Bool.false_eq_true, false_iff]; exact HN.out, T1.out.lh.below⟩
      subst hfe
      have d0 : (((f : Nat) : Int) != (f : Int)) = false := by simp
      have HY2 := Lib.hid (HSY.out (HST.out.1 rfl))
      have HK := Lib.hid (fun (w' : World) (h : Below wq.heap.size wq w') => (T0.out.step h).five.2)
      go_region_held3 (fun w' => w'.cell? ⟨w.heap.size, 0, none⟩ = some (.int .i64 z) ∧ w'.cell? ⟨w.heap.size, 1, none⟩ = some (.slice A n c) ∧ w'.cell? ⟨wr.heap.size, 0, none⟩ = some (.int .i64 f) ∧ w'.cell? ⟨wr.heap.size, 1, none⟩ = some (.int .i64 p))
        (first | with_reducible exact HK.out _ hq3 | with_reducible exact HK.out _ hq2 | (go_keep; done))
        (first
          | (have hz := R3; clear hz; go_at_call 99; refine (HW.out _ (T0.out.step hq2).lh.row (T0.out.step hq2).lf).mono ?_; rintro e w3 ⟨rfl, hb⟩; have hq3 := hq2.trans (hb.mono hq2.size); clear hb)
          | (have hz := F2; clear hz; go_at_call 94; refine (H2.out _ _ _ F2.out).mono ?_; rintro e w3 ⟨rfl, rfl⟩; have R3 : True := trivial)
          | (go_at_call 77; (first | refine (HF.out _ T0.out.lh.row T0.out.lf).mono ?_ | refine (HF.out _ TD.out.lh.row TD.out.lf).mono ?_); rintro e w2 ⟨FA, fc, rfl, hf, hb'⟩; have hq2 := of_drew hb'; have F2 := Lib.hid hf; clear hb' hf)
          | (go_at_call 94; (first | refine (H1.out _ T0.out.lf).mono ?_ | refine (H1.out _ TD.out.lf).mono ?_); rintro e w1 ⟨rfl, rfl⟩))
      all_goals
        have T1 := Lib.hid (T0.out.step hq3)
        have B1 := Lib.hid (AL.out.trans (hq3.mono AL.out.size))
        clear a0 a1 a2 a3
        obtain ⟨t1, a0, a1, a2, a3⟩ := T1.out.five
        go_wp2_with fail
        refine (spec_l1Drop LA lc (leftL G n) f _ (by omega) T1.out.lf).mono ?_; rintro e8 w8 ⟨FA8, fc8, he8, hof8, hb8⟩
        have hdl : dropL f (leftL G n) = leftL (goneI Y (k + 1)) n := by rw [dropL_left, HUP.out, Int.toNat_natCast]
        rw [hdl] at he8 hof8
        subst he8
        have HL8 := Lib.hid (owned_low hof8 (show w.heap.size + 1 ≤ _ from t1))
        have HLr8 := Lib.hid (T1.out.lh.step hb8)
        clear hb8 hof8 hdl
        go_wp2_with fail
        go_roundw
        case rel => exact ⟨k + 1, FA8, fc8, by omega, by go_num, rfl, HY2, HL8, HLr8⟩
        case measure => simp [intOf]; omega
    · obtain rfl : k = m := by omega
      have HV := Lib.hid (show (((leftL (goneI Y k) n).length : Int) == 0) = true ↔ OrdP n l X k Y from by
        simp only [beq_iff_eq]; exact ⟨fun h => ⟨HS.out, by omega⟩, fun h => by have := h.2; omega⟩)
      generalize (leftL (goneI Y k) n).length = v at *
      go_wp2_with fail
      go_ret
      exact ⟨_, rfl, by exact HV.out, HLr.out.below⟩
/-- What IsPeelOrder answers. -/
def TwoB (p : Prop) (ok : Bool) (w : World) (e : Ending) (w' : World) : Prop := ∃ b : Bool, e = .returned (.tuple #[.bool b, .bool ok]) ∧ (b = true ↔ p) ∧ Below w.heap.size w w'
set_option maxRecDepth 100000 in
set_option maxHeartbeats 2000000 in
theorem spec_isPeelOrder (z : Nat) (A : Option Addr) (n c : Nat) (l : Nat → Nat) (X : Nat → Nat → Int) (SA : Option Addr) (m sc : Nat) (Y : Nat → Int) (w : World) (hn : n + sumL l n ≤ 1048576) (hr : HRow w A n l X) (h : HyperOk z n l X) (hm : m ≤ 1048576) (hy : GRow w SA (2 * m) (intV Y)) :
    Calls Try.prog 41 #[.agg #[.int .i64 z, .slice A n c], .slice SA m sc] w (TwoB (OrdP n l X m Y) true w) := by
  obtain ⟨B, d, hr⟩ := hr
  have L0 := Lib.hid (LH.start (z := (z : Int)) (c := c) hr 26)
  have HG := Lib.hid h
  have HY := Lib.hid hy
  clear hr h hy
  go_enter Try.func41, Try.ntmps41
  go_wp2_with fail
  refine (spec_peGood_is z A n c l X _ true hn ⟨B, d, L0.out.row⟩ (by simp only [true_iff]; exact HG.out)).mono ?_; rintro e w1 ⟨rfl, hb⟩
  have L1 := Lib.hid (L0.out.step hb)
  clear hb L0
  obtain ⟨hsz, b0, b1⟩ := L1.out.box
  go_wp2_with fail
  refine (spec_peOrder z A n c B l d X SA m sc Y _ L1.out.row HG.out hm (HY.out.b L1.out.below)).mono ?_; rintro e w2 ⟨b, rfl, hbv, hb⟩
  have L2 := Lib.hid (L1.out.step hb)
  have HBV := Lib.hid hbv
  clear hb hbv
  go_wp2_with fail
  go_ret2
  exact ⟨b, rfl, HBV.out, L2.out.below⟩
set_option maxRecDepth 100000 in
set_option maxHeartbeats 1000000 in
theorem spec_isPeelOrder_no (z : Int) (A : Option Addr) (n c : Nat) (l : Nat → Nat) (X : Nat → Nat → Int) (SA : Option Addr) (m sc : Nat) (w : World) (hn : n + sumL l n ≤ 1048576) (hr : HRow w A n l X) (h : ¬ HyperOk z n l X) :
    Calls Try.prog 41 #[.agg #[.int .i64 z, .slice A n c], .slice SA m sc] w fun e w' => e = .returned (.tuple #[.bool false, .bool false]) ∧ Below w.heap.size w w' := by
  obtain ⟨B, d, hr⟩ := hr
  have L0 := Lib.hid (LH.start (z := z) (c := c) hr 26)
  have HG := Lib.hid h
  clear hr h
  go_enter Try.func41, Try.ntmps41
  go_wp2_with fail
  refine (spec_peGood_is z A n c l X _ false hn ⟨B, d, L0.out.row⟩ (by simp only [Bool.false_eq_true, false_iff]; exact HG.out)).mono ?_; rintro e w1 ⟨rfl, hb⟩
  have L1 := Lib.hid (L0.out.step hb)
  clear hb L0
  go_wp2_with fail
  go_ret2
  exact ⟨rfl, L1.out.below⟩
set_option maxRecDepth 100000 in
set_option maxHeartbeats 1000000 in
theorem impl_isPeelOrder_no (z : Int) (A : Option Addr) (n c : Nat) (l : Nat → Nat) (X : Nat → Nat → Int) (SA : Option Addr) (m sc : Nat) (w : World) (hn : n + sumL l n ≤ 1048576) (hr : HRow w A n l X) (h : ¬ HyperOk z n l X) :
    Calls Try.prog 43 #[.agg #[.int .i64 z, .slice A n c], .slice SA m sc] w fun e w' => e = .returned (.tuple #[.bool false, .bool false]) ∧ Below w.heap.size w w' := by
  obtain ⟨B, d, hr⟩ := hr
  have L0 := Lib.hid (LH.start (z := z) (c := c) hr 26)
  have HG := Lib.hid h
  clear hr h
  go_enter Try.func43, Try.ntmps43
  go_wp2_with fail
  refine (impl_isHyper_is z A n c l X _ false hn ⟨B, d, L0.out.row⟩ (by simp only [Bool.false_eq_true, false_iff]; exact HG.out)).mono ?_; rintro e w1 ⟨rfl, hb⟩
  have L1 := Lib.hid (L0.out.step hb)
  clear hb L0
  go_wp2_with fail
  go_ret2
  exact ⟨rfl, L1.out.below⟩
set_option maxRecDepth 100000 in
set_option maxHeartbeats 8000000 in
theorem impl_isPeelOrder (z : Nat) (A : Option Addr) (n c : Nat) (l : Nat → Nat) (X : Nat → Nat → Int) (SA : Option Addr) (m sc : Nat) (Y : Nat → Int) (w : World) (hn : n + sumL l n ≤ 1048576) (hr : HRow w A n l X) (h : HyperOk z n l X) (hm : m ≤ 1048576) (hy : GRow w SA (2 * m) (intV Y)) :
    Calls Try.prog 43 #[.agg #[.int .i64 z, .slice A n c], .slice SA m sc] w (TwoB (OrdP n l X m Y) true w) := by
  obtain ⟨B, d, hr⟩ := hr
  have L0 := Lib.hid (LH.start (z := (z : Int)) (c := c) hr 26)
  have HG := Lib.hid h
  have HY := Lib.hid hy
  have hn40 := h.2.2.1
  clear hr h hy
  go_enter Try.func43, Try.ntmps43
  go_wp2_with fail
  refine (impl_isHyper_is z A n c l X _ true hn ⟨B, d, L0.out.row⟩ (by simp only [true_iff]; exact HG.out)).mono ?_; rintro e w1 ⟨rfl, hb⟩
  have L1 := Lib.hid (L0.out.step hb)
  clear hb L0
  obtain ⟨hsz, b0, b1⟩ := L1.out.box
  go_wp2_with fail
  refine (startPeeling_is z A n c B l d X _ L1.out.row HG.out).mono ?_; rintro e w2 ⟨pb, gb, db, rfl, hpg⟩
  have HP1 := Lib.hid hpg
  have HRW := Lib.hid L1.out.row
  have HB1 := Lib.hid L1.out.below
  clear hpg b0 b1 hsz
  go_wp2_with fail
  go_loopw [16] (fun i wr => ∃ k : Nat, k ≤ m ∧ i = .int .i64 k ∧ Hid (AllSt n l X Y k) ∧ Hid (PG w1 pb gb db z n c A l X (goneI Y k) wr)) (fun i _ => m - (intOf i).toNat)
  case atStart => exact ⟨0, Nat.zero_le _, rfl, Lib.hid (fun j hj => absurd hj (by omega)), HP1⟩
  case round =>
    obtain ⟨k, hk, rfl, HS, HP⟩ := hrel
    have HBw := Lib.hid (HB1.out.trans (HP.out.below.mono HB1.out.size))
    by_cases hlt : k < m
    · obtain ⟨b, off, rfl, _, hcc⟩ := (HY.out.b HBw.out) (by omega)
      have x0 := hcc (k * 2) (by omega)
      have x1 := hcc (k * 2 + 1) (by omega)
      rw [← Nat.add_assoc] at x1
      dsimp only [intV] at x0 x1
      have HUP := Lib.hid (show goneI Y (k + 1) = upd (goneI Y k) (Y (k * 2)).toNat true from rfl)
      have HSN := Lib.hid (fun (hh : ¬ StOk n l X (goneI Y k) (Y (k * 2)) (Y (k * 2 + 1))) => (show ¬ OrdP n l X m Y from fun h => hh (h.1 k hlt)))
      have HSY := Lib.hid (fun (hh : StOk n l X (goneI Y k) (Y (k * 2)) (Y (k * 2 + 1))) => allSt_succ HS.out hh)
      clear hcc
      generalize Y (k * 2) = E at *
      generalize Y (k * 2 + 1) = P at *
      have NB0 := Lib.hid (nbx0 wr #[.int .i64 E, .int .i64 P] 82)
      have HPa := Lib.hid (HP.out.b ((Below.refl wr.heap.size wr).alloc (Nat.le_refl _) (.cells #[.int .i64 E, .int .i64 P] 82)))
      have AL := Lib.hid ((Below.refl wr.heap.size wr).alloc (Nat.le_refl _) (.cells #[.int .i64 E, .int .i64 P] 82))
      go_wp2_with fail
      refine (allows_is E P _ HRW.out HPa.out HG.out).mono ?_; rintro e w3 ⟨bv, rfl, hbv, hb⟩
      have HP3 := Lib.hid (HPa.out.b hb)
      have NB3 := Lib.hid (NB0.out.b hb)
      have HB3 := Lib.hid (HBw.out.trans ((AL.out.trans (hb.mono AL.out.size)).mono HBw.out.size))
      have HBV := Lib.hid hbv
      clear hb hbv
      cases bv with
      | false =>
        have HN := Lib.hid (HSN.out (fun hh => by have := HBV.out.2 hh; cases this))
        go_wp2_with fail
        go_ret2
        exact ⟨false, rfl, by simp only [Bool.false_eq_true, false_iff]; exact HN.out, HB3.out⟩
      | true =>
        have hst : StOk n l X (goneI Y k) E P := by first | exact HBV.out.1 rfl | exact HBV.out.1 trivial
        have HY2 := Lib.hid (HSY.out hst)
        obtain ⟨⟨hE0, hEn⟩, hge, _, _⟩ := hst
        obtain ⟨e, rfl⟩ := Int.eq_ofNat_of_zero_le hE0
        rw [Int.toNat_natCast] at hge
        have x0 := NB3.out.cell 0 _ rfl
        have x1 := NB3.out.cell 1 _ rfl
        go_wp2_with fail
        refine (takeAway_is e _ HRW.out HP3.out (by omega) HG.out.three HG.out.inn (by omega) hge).mono ?_; rintro e4 w4 ⟨rfl, hpg4, _⟩
        have HP4 := Lib.hid (show PG w1 pb gb db z n c A l X (goneI Y (k + 1)) w4 by rw [HUP.out, Int.toNat_natCast]; exact hpg4)
        clear hpg4
        go_wp2_with fail
        go_roundw
        case rel => exact ⟨k + 1, by omega, by go_num, HY2, HP4⟩
        case measure => simp [intOf]; omega
    · obtain rfl : k = m := by omega
      have hlen := leftL_len (goneI Y k) n
      go_wp2_with fail
      refine (left_is _ HP.out (by omega)).mono ?_; rintro e w3 ⟨FA, fc, rfl, hol, hb⟩
      have HB3 := Lib.hid (HBw.out.trans (hb.mono HBw.out.size))
      have HV := Lib.hid (show (((leftL (goneI Y k) n).length : Int) == 0) = true ↔ OrdP n l X k Y from by
        simp only [beq_iff_eq]; exact ⟨fun h => ⟨HS.out, by omega⟩, fun h => by have := h.2; omega⟩)
      clear hb hol
      generalize (leftL (goneI Y k) n).length = v at *
      go_wp2_with fail
      go_ret2
      exact ⟨_, rfl, by exact HV.out, HB3.out⟩
end Go.Proofs.Ytfhanighnckbhaa
