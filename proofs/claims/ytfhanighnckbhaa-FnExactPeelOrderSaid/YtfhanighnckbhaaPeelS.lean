/- A Hyper on its way: what the program's peeling holds, and what its methods tell. -/
import Derived.Test.YtfhanighnckbhaaCoreI
import Derived.Test.YtfhanighnckbhaaPush
namespace Go.Proofs.Ytfhanighnckbhaa
open Go.RowKit

/-- How many of the edges below k that are still there have p. -/
def dgR (l : Nat → Nat) (X : Nat → Nat → Int) (G : Nat → Bool) (p : Int) : Nat → Nat
  | 0 => 0
  | k + 1 => dgR l X G p k + (if G k then 0 else cntE (X k) p (l k))
def degF (l : Nat → Nat) (X : Nat → Nat → Int) (G : Nat → Bool) (n : Nat) (p : Nat) : Int := ((dgR l X G p n : Nat) : Int)
theorem dgR_none (l : Nat → Nat) (X : Nat → Nat → Int) (p : Int) : ∀ k, dgR l X (fun _ => false) p k = degN (fun i => i) l X p k
  | 0 => rfl
  | k + 1 => by rw [dgR, degN, dgR_none l X p k]; simp
theorem dgR_same {l : Nat → Nat} {X : Nat → Nat → Int} {G H : Nat → Bool} {p : Int} : ∀ k, (∀ i, i < k → G i = H i) → dgR l X G p k = dgR l X H p k
  | 0, _ => rfl
  | k + 1, h => by rw [dgR, dgR, dgR_same k (fun i hi => h i (by omega)), h k (by omega)]
theorem dgR_take {l : Nat → Nat} {X : Nat → Nat → Int} {G : Nat → Bool} {p : Int} {e : Nat} (hg : G e = false) : ∀ k, e < k → dgR l X (upd G e true) p k + cntE (X e) p (l e) = dgR l X G p k
  | 0, h => by omega
  | k + 1, h => by
    rw [dgR, dgR]
    by_cases e1 : e = k
    · subst e1
      rw [dgR_same (G := upd G e true) (H := G) e (fun i hi => by unfold upd; rw [if_neg (by omega)]), hg]
      simp [upd]
    · have ih := dgR_take (l := l) (X := X) (p := p) hg k (by omega)
      have : upd G e true k = G k := by unfold upd; rw [if_neg (by omega)]
      rw [this]; omega
theorem dgR_le {l : Nat → Nat} {X : Nat → Nat → Int} {G : Nat → Bool} {p : Int} : ∀ k, (∀ i, i < k → l i = 3) → dgR l X G p k ≤ 3 * k
  | 0, _ => Nat.le_refl _
  | k + 1, h => by
    have h1 := dgR_le (G := G) (p := p) (l := l) (X := X) k (fun i hi => h i (by omega))
    have h2 := cntE_le (X k) p (l k)
    have h3 := h k (by omega)
    rw [dgR]; split <;> omega
/-- What a peeling holds: its box, which edges are gone, the degrees. -/
structure PG (w : World) (pb gb db z n c : Nat) (A : Option Addr) (l : Nat → Nat) (X : Nat → Nat → Int) (G : Nat → Bool) (wi : World) : Prop where
  below : Below w.heap.size w wi
  box : NBX w.heap.size pb #[.slice A n c, .slice (some ⟨gb, 0, none⟩) n n, .slice (some ⟨db, 0, none⟩) z z] 108 wi
  gone : GOwn wi 4 gb n (boolV G)
  deg : ORow wi db z (fun p => degF l X G n p)
  lo : w.heap.size ≤ gb ∧ w.heap.size ≤ db
  ne : gb ≠ db ∧ gb ≠ pb ∧ db ≠ pb
section
variable {w wi wj : World} {pb gb db z n c : Nat} {A : Option Addr} {l : Nat → Nat} {X : Nat → Nat → Int} {G : Nat → Bool}
theorem PG.b (h : PG w pb gb db z n c A l X G wi) (hb : Below wi.heap.size wi wj) : PG w pb gb db z n c A l X G wj :=
  ⟨h.below.trans (hb.mono h.below.size), h.box.b hb, h.gone.b hb, h.deg.b hb, h.lo, h.ne⟩
theorem PG.cells (h : PG w pb gb db z n c A l X G wi) : wi.cell? ⟨pb, 0, none⟩ = some (.slice A n c) ∧ wi.cell? ⟨pb, 1, none⟩ = some (.slice (some ⟨gb, 0, none⟩) n n) ∧ wi.cell? ⟨pb, 2, none⟩ = some (.slice (some ⟨db, 0, none⟩) z z) :=
  ⟨h.box.cell 0 _ rfl, h.box.cell 1 _ rfl, h.box.cell 2 _ rfl⟩
end
set_option maxRecDepth 100000 in
set_option maxHeartbeats 1000000 in
theorem isFree_is {w : World} {pb gb db z n c : Nat} {A : Option Addr} {l : Nat → Nat} {X : Nat → Nat → Int} {G : Nat → Bool} (p : Nat) (wi : World) (h : PG w pb gb db z n c A l X G wi) (hp : p < z) :
    Calls Try.prog 105 #[.pointer (some ⟨pb, 0, none⟩), .int .i64 p] wi fun e w' => e = .returned (.bool (degF l X G n p == 1)) ∧ wi = w' := by
  obtain ⟨q0, q1, q2⟩ := h.cells
  have hd := h.deg.cell hp
  have hlt := h.box.lt
  clear h
  generalize degF l X G n p = v at *
  go_enter Try.func105, Try.ntmps105
  go_wp2_with fail
  go_ret
  exact ⟨rfl, rfl⟩
set_option maxRecDepth 100000 in
set_option maxHeartbeats 4000000 in
theorem freePlaces_is {w : World} {pb gb db z n c : Nat} {A : Option Addr} {l : Nat → Nat} {X : Nat → Nat → Int} {G : Nat → Bool} (wi : World) (h : PG w pb gb db z n c A l X G wi) (hz : z ≤ 72) :
    Calls Try.prog 101 #[.pointer (some ⟨pb, 0, none⟩)] wi fun e w' => ∃ FA fc, e = .returned (.slice FA (freL (degF l X G n) z).length fc) ∧ w'.ownsRow wi.heap.size 3 1 (.slice FA (freL (degF l X G n) z).length fc) (freL (degF l X G n) z).length (vals (intV (lstV (freL (degF l X G n) z))) (freL (degF l X G n) z).length) ∧ Below wi.heap.size wi w' := by
  have HP := Lib.hid h
  obtain ⟨D, hD⟩ : ∃ D, D = degF l X G n := ⟨_, rfl⟩
  rw [← hD]
  have HDD := Lib.hid hD
  clear h hD
  obtain ⟨q0, q1, q2⟩ := HP.out.cells
  have hplt := HP.out.box.lt
  go_enter Try.func101, Try.ntmps101
  go_wp2_with fail
  go_loopw [3, 10] (fun v i wr => ∃ (q : Nat) (A1 : Option Addr) (k1 : Nat), q ≤ z ∧ i = .int .i64 q ∧ v = .slice A1 (freL D q).length k1 ∧ Hid (wr.ownsRow wi.heap.size 3 1 (.slice A1 (freL D q).length k1) (freL D q).length (vals (intV (lstV (freL D q))) (freL D q).length)) ∧ Hid (Below wi.heap.size wi wr)) (fun _ i _ => z - (intOf i).toNat)
  case atStart => exact ⟨0, none, 0, Nat.zero_le _, rfl, rfl, Lib.hid (World.ownsRow_nil _ _ _ _), Lib.hid (Below.refl _ _)⟩
  case round =>
    obtain ⟨q, A1, k1, hq, rfl, rfl, HO, HL⟩ := hrel
    have hlen := HL.out.size
    have hal := freL_len D q
    by_cases hlt : q < z
    · have HPr := Lib.hid (HP.out.b HL.out)
      have HF := Lib.hid (fun W (hW : PG w pb gb db z n c A l X G W) => isFree_is q W hW hlt)
      rw [show degF l X G n q = D q by rw [HDD.out]] at HF
      by_cases hc : D q = 1
      · have HA := Lib.hid (show freL D (q + 1) = freL D q ++ [q] by rw [freL, if_pos hc])
        have HPu := Lib.hid (push_lst (x := q) HO.out)
        have HV := Lib.hid (show intV (lstV (freL D q ++ [q])) (freL D q).length = .int .i64 (q : Int) by unfold intV; rw [lstV_new])
        rw [hc] at HF
        clear hc
        go_wp2_with fail
        refine (HF.out _ HPr.out).mono ?_; rintro e w2 ⟨rfl, rfl⟩
        go_upto_region 6 with fail
        go_wp2_with (at_builtin; refine wpList_push rfl _ _ 47 rfl wi.heap.size 3 (.int .i64 0) 8 Try.underlying47 infoI rfl A1 (freL D q).length k1 (intV (lstV (freL D q ++ [q]))) (.int .i64 (q : Int)) _ rfl HPu.out rfl HV.out rfl (by omega) (by omega) (by omega) ?_)
        intro A' c' w5 hown' hb5
        have L5 := Lib.hid (HL.out.trans hb5)
        have hlen1 : (freL D q).length + 1 = (freL D (q + 1)).length := by rw [HA.out]; simp
        rw [← HA.out] at hown'
        have HO5 := Lib.hid hown'
        clear hown' hb5 HO HL HPu
        go_wp2_with fail
        go_roundw
        case rel => exact ⟨q + 1, A', c', by omega, by go_num, by rw [← hlen1], by rw [← hlen1]; exact HO5, L5⟩
        case measure => simp [intOf]; omega
      · have HA := Lib.hid (show freL D (q + 1) = freL D q by rw [freL, if_neg hc])
        have d1 : (D q == 1) = false := by simpa using hc
        rw [d1] at HF
        clear hc
        go_wp2_with fail
        refine (HF.out _ HPr.out).mono ?_; rintro e w2 ⟨rfl, rfl⟩
        go_wp2_with fail
        go_roundw
        case rel => exact ⟨q + 1, A1, k1, by omega, by go_num, by rw [HA.out], by rw [HA.out]; exact HO, HL⟩
        case measure => simp [intOf]; omega
    · obtain rfl : q = z := by omega
      go_wp2_with fail
      go_ret
      exact ⟨A1, k1, rfl, HO.out, HL.out⟩
end Go.Proofs.Ytfhanighnckbhaa
