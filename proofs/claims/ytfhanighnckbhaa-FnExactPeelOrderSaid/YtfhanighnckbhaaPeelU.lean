/- An edge taken away; a peeling begun. -/
import Derived.Test.YtfhanighnckbhaaPeelT
import Derived.Deep.DeepCutAuto
namespace Go.Proofs.Ytfhanighnckbhaa
open Go.RowKit

theorem tch_set {S : Nat → Prop} (w : World) (q i : Nat) (v : Value) (h : S q) : Tch S w (w.setCell ⟨q, i, none⟩ v) :=
  have ho := only_set w q i v
  ⟨ho.os, ho.tape, ho.output, ho.size, fun k hk hn => ho.block k hk (by
    by_cases e : k = q
    · subst e; exact absurd h hn
    · omega)⟩
def dgT (l : Nat → Nat) (X : Nat → Nat → Int) (G : Nat → Bool) (n e j : Nat) (p : Nat) : Int := degF l X G n p - (cntE (X e) p j : Nat)
theorem dgT_zero (l : Nat → Nat) (X : Nat → Nat → Int) (G : Nat → Bool) (n e p : Nat) : dgT l X G n e 0 p = degF l X G n p := by unfold dgT; simp [cntE]
theorem dgT_step {l : Nat → Nat} {X : Nat → Nat → Int} {G : Nat → Bool} {n e j x : Nat} (hx : X e j = (x : Int)) (p : Nat) : (if p = x then dgT l X G n e j x - 1 else dgT l X G n e j p) = dgT l X G n e (j + 1) p := by
  unfold dgT
  rw [cntE]
  by_cases h : p = x
  · subst h
    rw [if_pos rfl, if_pos hx]; push_cast; omega
  · rw [if_neg h, if_neg (by rw [hx]; omega)]; simp
theorem dgT_end {l : Nat → Nat} {X : Nat → Nat → Int} {G : Nat → Bool} {n e : Nat} (hg : G e = false) (he : e < n) (p : Nat) : dgT l X G n e (l e) p = degF l X (upd G e true) n p := by
  unfold dgT degF
  have := dgR_take (l := l) (X := X) (p := (p : Int)) hg n he
  omega
set_option maxRecDepth 100000 in
set_option maxHeartbeats 4000000 in
theorem takeAway_is {w : World} {pb gb db z n c : Nat} {A : Option Addr} {B : Nat → Option Addr} {l d : Nat → Nat} {X : Nat → Nat → Int} {G : Nat → Bool} (e : Nat) (wi : World) (hr : HR w A n B l d X) (h : PG w pb gb db z n c A l X G wi) (hn : n ≤ 64) (h3 : ∀ i, i < n → l i = 3) (hx : ∀ i, i < n → ∀ j, j < l i → 0 ≤ X i j ∧ X i j < z) (he : e < n) (hg : G e = false) :
    Calls Try.prog 74 #[.pointer (some ⟨pb, 0, none⟩), .int .i64 e] wi fun en w' => en = .returned (.tuple #[]) ∧ PG w pb gb db z n c A l X (upd G e true) w' ∧ Tch (fun k => k = gb ∨ k = db) wi w' := by
  have HR0 := Lib.hid hr
  have HP := Lib.hid h
  have HX := Lib.hid (hx e he)
  have HG := Lib.hid hg
  have HEnd := Lib.hid (fun p => dgT_end (l := l) (X := X) hg he p)
  have HBd := Lib.hid (fun p => dgR_le (l := l) (X := X) (G := G) (p := p) n h3)
  obtain ⟨q0, q1, q2⟩ := HP.out.cells
  have hplt := HP.out.box.lt
  have hgc := HP.out.gone.cell he
  have hgf := HP.out.gone.frozen e
  have hlo := HP.out.lo
  have hne := HP.out.ne
  have hge := HP.out.box.ge
  have hgl := HP.out.gone.lt
  have h3e := h3 e he
  clear hr h hx hg
  have HR1 := Lib.hid (HR0.out.b HP.out.below)
  obtain ⟨bk, off, rfl, hbl, hc⟩ := HR1.out.1 (by omega)
  have RK := Lib.hid (HR0.out.2 e he)
  have N1 := Lib.hid (nbx_farG HP.out.box (only_set wi gb e (.bool true)) (by omega))
  have D1 := Lib.hid (show ORow (wi.setCell ⟨gb, e, none⟩ (.bool true)) db z (fun p => degF l X G n p) from GOwn.setAt (F := intV (fun p => degF l X G n p)) HP.out.deg (by omega) _)
  have O1 := Lib.hid ((HP.out.gone.set e (.bool true)).congr (G := boolV (upd G e true)) (fun i _ => by unfold boolV upd; by_cases h : i = e <;> simp [h]))
  have F1 := Lib.hid (below_setAt HP.out.below (show w.heap.size ≤ gb by omega) (o := e) (.bool true))
  have W1 := Lib.hid (tch_set (S := fun k => k = gb ∨ k = db) wi gb e (.bool true) (.inl rfl))
  have hcq : (wi.setCell ⟨gb, e, none⟩ (.bool true)).cell? ⟨bk, off + e, none⟩ = some (sliceV B l d e) := by
    obtain ⟨b2, o2, hA, _, hc2⟩ := (HR0.out.b F1.out).1 (by omega)
    injection hA with hA; injection hA with h1 h2
    subst h1 h2
    exact hc2 e he
  obtain ⟨q0', q1', q2'⟩ : (wi.setCell ⟨gb, e, none⟩ (.bool true)).cell? ⟨pb, 0, none⟩ = some (.slice (some ⟨bk, off, none⟩) n c) ∧ (wi.setCell ⟨gb, e, none⟩ (.bool true)).cell? ⟨pb, 1, none⟩ = some (.slice (some ⟨gb, 0, none⟩) n n) ∧ (wi.setCell ⟨gb, e, none⟩ (.bool true)).cell? ⟨pb, 2, none⟩ = some (.slice (some ⟨db, 0, none⟩) z z) := ⟨N1.out.cell 0 _ rfl, N1.out.cell 1 _ rfl, N1.out.cell 2 _ rfl⟩
  unfold sliceV at hcq
  rw [h3e] at hcq RK HX
  rw [h3e] at HEnd
  clear hc h3 HR1
  generalize B e = Bk at hcq RK
  generalize d e = dk at hcq
  go_enter Try.func74, Try.ntmps74
  go_wp2_with fail
  go_loopw [20] (fun i wr => ∃ j : Nat, j ≤ 3 ∧ i = .int .i64 j ∧ Hid (NBX w.heap.size pb #[.slice (some ⟨bk, off, none⟩) n c, .slice (some ⟨gb, 0, none⟩) n n, .slice (some ⟨db, 0, none⟩) z z] 108 wr) ∧ Hid (GOwn wr 4 gb n (boolV (upd G e true))) ∧ Hid (ORow wr db z (fun p => dgT l X G n e j p)) ∧ Hid (Below w.heap.size w wr) ∧ Hid (Tch (fun k => k = gb ∨ k = db) wi wr)) (fun i _ => 3 - (intOf i).toNat)
  case atStart => exact ⟨0, by omega, rfl, N1, O1, Lib.hid (D1.out.congr (fun p _ => (dgT_zero l X G n e p).symm)), F1, W1⟩
  case round =>
    obtain ⟨j, hj, rfl, HN, HO, HD, HF, HW⟩ := hrel
    have r2 := HN.out.cell 2 _ rfl
    by_cases hlj : j < 3
    · obtain ⟨b2, o2, rfl, _, hc2⟩ := (RK.out.b HF.out) (by omega)
      have hcj := hc2 j hlj
      obtain ⟨x0, x1⟩ := HX.out j hlj
      obtain ⟨x, hx⟩ : ∃ x : Nat, X e j = (x : Int) := ⟨(X e j).toNat, by omega⟩
      have HST := Lib.hid (fun p => dgT_step (l := l) (X := X) (G := G) (n := n) (e := e) (j := j) hx p)
      rw [hx] at hcj x1
      have hxz : x < z := by omega
      have hco := HD.out.cell hxz
      have hfo := HD.out.frozen x
      have hbd : -300 ≤ dgT l X G n e j x ∧ dgT l X G n e j x ≤ 300 := by
        have h1 := HBd.out x
        have h2 := cntE_le (X e) x j
        unfold dgT degF
        constructor <;> omega
      obtain ⟨v, hv⟩ : ∃ v, v = dgT l X G n e j x := ⟨_, rfl⟩
      rw [← hv] at hco hbd
      have HV := Lib.hid hv
      have e1 : IntKind.i64.wrap (v - 1) = v - 1 := IntWalk.i64_in _ (by omega)
      clear hc2 hv x0 hx
      go_wp2_with fail
      go_roundw
      case rel => exact ⟨j + 1, by omega, by go_num, Lib.hid (nbx_farG HN.out (only_set _ db x _) (by omega)), Lib.hid (HO.out.setAt (by omega) _), Lib.hid ((HD.out.set x _).congr (fun p hp => by rw [← HST.out p, HV.out])), Lib.hid (below_setAt HF.out (by omega) _), Lib.hid (HW.out.trans (tch_set _ db x _ (.inr rfl)))⟩
      case measure => simp [intOf]; omega
    · obtain rfl : j = 3 := by omega
      go_wp2_with fail
      go_end0
      exact ⟨rfl, ⟨HF.out, HN.out, HO.out, HD.out.congr (fun p _ => HEnd.out p), hlo, hne⟩, HW.out⟩
end Go.Proofs.Ytfhanighnckbhaa
