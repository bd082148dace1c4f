/- Several texts in one: PeelS, PeelT, PeelU, PeelV, PeelW, PeelX, PeelM. -/
import Derived.Test.YtpajbcgdoedleabCoreI
import Derived.Test.YtpajbcgdoedleabPush
import Derived.Test.YtpajbcgdoedleabCont
import Derived.Deep.DeepCutAuto
import Derived.Deep.RegionHeld3
import Derived.Test.YtpajbcgdoedleabFre

/- A Hyper on its way: what the program's peeling holds, and what its methods tell. -/
namespace Go.Proofs.Ytpajbcgdoedleab
open Go.RowKit

/-- How many of the edges below k that are still there have p. -/
def dgR (l : Nat → Nat) (X : Nat → Nat → Int) (G : Nat → Bool) (p : Int) : Nat → Nat
  | 0 => 0
  | k + 1 => dgR l X G p k + (if G k then 0 else cntE (X k) p (l k))
def degF (l : Nat → Nat) (X : Nat → Nat → Int) (G : Nat → Bool) (n : Nat) (p : Nat) : Int := ((dgR l X G p n : Nat) : Int)
theorem dgR_none (l : Nat → Nat) (X : Nat → Nat → Int) (p : Int) : ∀ k, dgR l X (fun _ => false) p k = degN (fun i => i) l X p k
  | 0 => rfl
  | k + 1 => by rw [dgR, degN, dgR_none l X p k]; simp
theorem dgR_same {l : Nat → Nat} {X : Nat → Nat → Int} {G H : Nat → Bool} {p : Int} : ∀ k, (∀ i, i < k → G i = H i) → dgR l X G p k = dgR l X H p k
  | 0, _ => rfl
  | k + 1, h => by rw [dgR, dgR, dgR_same k (fun i hi => h i (by omega)), h k (by omega)]
theorem dgR_take {l : Nat → Nat} {X : Nat → Nat → Int} {G : Nat → Bool} {p : Int} {e : Nat} (hg : G e = false) : ∀ k, e < k → dgR l X (upd G e true) p k + cntE (X e) p (l e) = dgR l X G p k
  | 0, h => by omega
  | k + 1, h => by
    rw [dgR, dgR]
    by_cases e1 : e = k
    · subst e1
      rw [dgR_same (G := upd G e true) (H := G) e (fun i hi => by unfold upd; rw [if_neg (by omega)]), hg]
      simp [upd]
    · have ih := dgR_take (l := l) (X := X) (p := p) hg k (by omega)
      have : upd G e true k = G k := by unfold upd; rw [if_neg (by omega)]
      rw [this]; omega
theorem dgR_le {l : Nat → Nat} {X : Nat → Nat → Int} {G : Nat → Bool} {p : Int} : ∀ k, (∀ i, i < k → l i = 3) → dgR l X G p k ≤ 3 * k
  | 0, _ => Nat.le_refl _
  | k + 1, h => by
    have h1 := dgR_le (G := G) (p := p) (l := l) (X := X) k (fun i hi => h i (by omega))
    have h2 := cntE_le (X k) p (l k)
    have h3 := h k (by omega)
    rw [dgR]; split <;> omega
/-- What a peeling holds: its box, which edges are gone, the degrees. -/
structure PG (w : World) (pb gb db z n c : Nat) (A : Option Addr) (l : Nat → Nat) (X : Nat → Nat → Int) (G : Nat → Bool) (wi : World) : Prop where
  below : Below w.heap.size w wi
  box : NBX w.heap.size pb #[.slice A n c, .slice (some ⟨gb, 0, none⟩) n n, .slice (some ⟨db, 0, none⟩) z z] 144 wi
  gone : GOwn wi 4 gb n (boolV G)
  deg : ORow wi db z (fun p => degF l X G n p)
  lo : w.heap.size ≤ gb ∧ w.heap.size ≤ db
  ne : gb ≠ db ∧ gb ≠ pb ∧ db ≠ pb
section
variable {w wi wj : World} {pb gb db z n c : Nat} {A : Option Addr} {l : Nat → Nat} {X : Nat → Nat → Int} {G : Nat → Bool}
theorem PG.b (h : PG w pb gb db z n c A l X G wi) (hb : Below wi.heap.size wi wj) : PG w pb gb db z n c A l X G wj :=
  ⟨h.below.trans (hb.mono h.below.size), h.box.b hb, h.gone.b hb, h.deg.b hb, h.lo, h.ne⟩
theorem PG.cells (h : PG w pb gb db z n c A l X G wi) : wi.cell? ⟨pb, 0, none⟩ = some (.slice A n c) ∧ wi.cell? ⟨pb, 1, none⟩ = some (.slice (some ⟨gb, 0, none⟩) n n) ∧ wi.cell? ⟨pb, 2, none⟩ = some (.slice (some ⟨db, 0, none⟩) z z) :=
  ⟨h.box.cell 0 _ rfl, h.box.cell 1 _ rfl, h.box.cell 2 _ rfl⟩
end
set_option maxRecDepth 100000 in
set_option maxHeartbeats 1000000 in
theorem isFree_is {w : World} {pb gb db z n c : Nat} {A : Option Addr} {l : Nat → Nat} {X : Nat → Nat → Int} {G : Nat → Bool} (p : Nat) (wi : World) (h : PG w pb gb db z n c A l X G wi) (hp : p < z) :
    Calls Try.prog 143 #[.pointer (some ⟨pb, 0, none⟩), .int .i64 p] wi fun e w' => e = .returned (.bool (degF l X G n p == 1)) ∧ wi = w' := by
  obtain ⟨q0, q1, q2⟩ := h.cells
  have hd := h.deg.cell hp
  have hlt := h.box.lt
  clear h
  generalize degF l X G n p = v at *
  go_enter Try.func143, Try.ntmps143
  go_wp2_with fail
  go_ret
  exact ⟨rfl, rfl⟩
set_option maxRecDepth 100000 in
set_option maxHeartbeats 4000000 in
theorem freePlaces_is {w : World} {pb gb db z n c : Nat} {A : Option Addr} {l : Nat → Nat} {X : Nat → Nat → Int} {G : Nat → Bool} (wi : World) (h : PG w pb gb db z n c A l X G wi) (hz : z ≤ 72) :
    Calls Try.prog 137 #[.pointer (some ⟨pb, 0, none⟩)] wi fun e w' => ∃ FA fc, e = .returned (.slice FA (freL (degF l X G n) z).length fc) ∧ w'.ownsRow wi.heap.size 3 1 (.slice FA (freL (degF l X G n) z).length fc) (freL (degF l X G n) z).length (vals (intV (lstV (freL (degF l X G n) z))) (freL (degF l X G n) z).length) ∧ Below wi.heap.size wi w' := by
  have HP := Lib.hid h
  obtain ⟨D, hD⟩ : ∃ D, D = degF l X G n := ⟨_, rfl⟩
  rw [← hD]
  have HDD := Lib.hid hD
  clear h hD
  obtain ⟨q0, q1, q2⟩ := HP.out.cells
  have hplt := HP.out.box.lt
  go_enter Try.func137, Try.ntmps137
  go_wp2_with fail
  go_loopw [3, 10] (fun v i wr => ∃ (q : Nat) (A1 : Option Addr) (k1 : Nat), q ≤ z ∧ i = .int .i64 q ∧ v = .slice A1 (freL D q).length k1 ∧ Hid (wr.ownsRow wi.heap.size 3 1 (.slice A1 (freL D q).length k1) (freL D q).length (vals (intV (lstV (freL D q))) (freL D q).length)) ∧ Hid (Below wi.heap.size wi wr)) (fun _ i _ => z - (intOf i).toNat)
  case atStart => exact ⟨0, none, 0, Nat.zero_le _, rfl, rfl, Lib.hid (World.ownsRow_nil _ _ _ _), Lib.hid (Below.refl _ _)⟩
  case round =>
    obtain ⟨q, A1, k1, hq, rfl, rfl, HO, HL⟩ := hrel
    have hlen := HL.out.size
    have hal := freL_len D q
    by_cases hlt : q < z
    · have HPr := Lib.hid (HP.out.b HL.out)
      have HF := Lib.hid (fun W (hW : PG w pb gb db z n c A l X G W) => isFree_is q W hW hlt)
      rw [show degF l X G n q = D q by rw [HDD.out]] at HF
      by_cases hc : D q = 1
      · have HA := Lib.hid (show freL D (q + 1) = freL D q ++ [q] by rw [freL, if_pos hc])
        have HPu := Lib.hid (push_lst (x := q) HO.out)
        have HV := Lib.hid (show intV (lstV (freL D q ++ [q])) (freL D q).length = .int .i64 (q : Int) by unfold intV; rw [lstV_new])
        rw [hc] at HF
        clear hc
        go_wp2_with fail
        refine (HF.out _ HPr.out).mono ?_; rintro e w2 ⟨rfl, rfl⟩
        go_upto_region 6 with fail
        go_wp2_with (at_builtin; refine wpList_push rfl _ _ 22 rfl wi.heap.size 3 (.int .i64 0) 8 Try.underlying22 infoI rfl A1 (freL D q).length k1 (intV (lstV (freL D q ++ [q]))) (.int .i64 (q : Int)) _ rfl HPu.out rfl HV.out rfl (by omega) (by omega) (by omega) ?_)
        intro A' c' w5 hown' hb5
        have L5 := Lib.hid (HL.out.trans hb5)
        have hlen1 : (freL D q).length + 1 = (freL D (q + 1)).length := by rw [HA.out]; simp
        rw [← HA.out] at hown'
        have HO5 := Lib.hid hown'
        clear hown' hb5 HO HL HPu
        go_wp2_with fail
        go_roundw
        case rel => exact ⟨q + 1, A', c', by omega, by go_num, by rw [← hlen1], by rw [← hlen1]; exact HO5, L5⟩
        case measure => simp [intOf]; omega
      · have HA := Lib.hid (show freL D (q + 1) = freL D q by rw [freL, if_neg hc])
        have d1 : (D q == 1) = false := by simpa using hc
        rw [d1] at HF
        clear hc
        go_wp2_with fail
        refine (HF.out _ HPr.out).mono ?_; rintro e w2 ⟨rfl, rfl⟩
        go_wp2_with fail
        go_roundw
        case rel => exact ⟨q + 1, A1, k1, by omega, by go_num, by rw [HA.out], by rw [HA.out]; exact HO, HL⟩
        case measure => simp [intOf]; omega
    · obtain rfl : q = z := by omega
      go_wp2_with fail
      go_ret
      exact ⟨A1, k1, rfl, HO.out, HL.out⟩
end Go.Proofs.Ytpajbcgdoedleab

/- What the program's peeling tells and takes: left, edgeAt, takeAway. -/
namespace Go.Proofs.Ytpajbcgdoedleab
open Go.RowKit

/-- The edges below k that are still there. -/
def leftL (G : Nat → Bool) : Nat → List Nat
  | 0 => []
  | k + 1 => if G k then leftL G k else leftL G k ++ [k]
theorem leftL_len (G : Nat → Bool) : ∀ k, (leftL G k).length ≤ k
  | 0 => Nat.le_refl _
  | k + 1 => by
    have := leftL_len G k
    rw [leftL]; split
    · omega
    · simp; omega
theorem mem_leftL {G : Nat → Bool} {x : Nat} : ∀ {k}, x ∈ leftL G k ↔ x < k ∧ G x = false
  | 0 => by simp [leftL]
  | k + 1 => by
    have ih := mem_leftL (G := G) (x := x) (k := k)
    rw [leftL]
    by_cases h : G k = true
    · rw [if_pos h, ih]
      constructor
      · rintro ⟨h1, h2⟩; exact ⟨by omega, h2⟩
      · rintro ⟨h1, h2⟩
        by_cases e : x = k
        · subst e; rw [h] at h2; cases h2
        · exact ⟨by omega, h2⟩
    · rw [if_neg h, List.mem_append, ih, List.mem_singleton]
      constructor
      · rintro (⟨h1, h2⟩ | rfl)
        · exact ⟨by omega, h2⟩
        · exact ⟨by omega, by simpa using h⟩
      · rintro ⟨h1, h2⟩
        by_cases e : x = k
        · exact .inr e
        · exact .inl ⟨by omega, h2⟩
set_option maxRecDepth 100000 in
set_option maxHeartbeats 4000000 in
theorem left_is {w : World} {pb gb db z n c : Nat} {A : Option Addr} {l : Nat → Nat} {X : Nat → Nat → Int} {G : Nat → Bool} (wi : World) (h : PG w pb gb db z n c A l X G wi) (hn : n ≤ 64) :
    Calls Try.prog 140 #[.pointer (some ⟨pb, 0, none⟩)] wi fun e w' => ∃ FA fc, e = .returned (.slice FA (leftL G n).length fc) ∧ w'.ownsRow wi.heap.size 3 1 (.slice FA (leftL G n).length fc) (leftL G n).length (vals (intV (lstV (leftL G n))) (leftL G n).length) ∧ Below wi.heap.size wi w' := by
  have HP := Lib.hid h
  clear h
  obtain ⟨q0, q1, q2⟩ := HP.out.cells
  have hplt := HP.out.box.lt
  go_enter Try.func140, Try.ntmps140
  go_wp2_with fail
  go_loopw [3, 11] (fun v i wr => ∃ (q : Nat) (A1 : Option Addr) (k1 : Nat), q ≤ n ∧ i = .int .i64 q ∧ v = .slice A1 (leftL G q).length k1 ∧ Hid (wr.ownsRow wi.heap.size 3 1 (.slice A1 (leftL G q).length k1) (leftL G q).length (vals (intV (lstV (leftL G q))) (leftL G q).length)) ∧ Hid (Below wi.heap.size wi wr)) (fun _ i _ => n - (intOf i).toNat)
  case atStart => exact ⟨0, none, 0, Nat.zero_le _, rfl, rfl, Lib.hid (World.ownsRow_nil _ _ _ _), Lib.hid (Below.refl _ _)⟩
  case round =>
    obtain ⟨q, A1, k1, hq, rfl, rfl, HO, HL⟩ := hrel
    have hlen := HL.out.size
    have hal := leftL_len G q
    by_cases hlt : q < n
    · have hg := (HP.out.b HL.out).gone.cell hlt
      unfold boolV at hg
      by_cases hc : G q = true
      · have HA := Lib.hid (show leftL G (q + 1) = leftL G q by rw [leftL, if_pos hc])
        rw [hc] at hg
        clear hc
        go_wp2_with fail
        go_roundw
        case rel => exact ⟨q + 1, A1, k1, by omega, by go_num, by rw [HA.out], by rw [HA.out]; exact HO, HL⟩
        case measure => simp [intOf]; omega
      · have HA := Lib.hid (show leftL G (q + 1) = leftL G q ++ [q] by rw [leftL, if_neg hc])
        have HPu := Lib.hid (push_lst (x := q) HO.out)
        have HV := Lib.hid (show intV (lstV (leftL G q ++ [q])) (leftL G q).length = .int .i64 (q : Int) by unfold intV; rw [lstV_new])
        have hcf : G q = false := by simpa using hc
        rw [hcf] at hg
        clear hc hcf
        go_upto_region 6 with fail
        go_wp2_with (at_builtin; refine wpList_push rfl _ _ 22 rfl wi.heap.size 3 (.int .i64 0) 8 Try.underlying22 infoI rfl A1 (leftL G q).length k1 (intV (lstV (leftL G q ++ [q]))) (.int .i64 (q : Int)) _ rfl HPu.out rfl HV.out rfl (by omega) (by omega) (by omega) ?_)
        intro A' c' w5 hown' hb5
        have L5 := Lib.hid (HL.out.trans hb5)
        have hlen1 : (leftL G q).length + 1 = (leftL G (q + 1)).length := by rw [HA.out]; simp
        rw [← HA.out] at hown'
        have HO5 := Lib.hid hown'
        clear hown' hb5 HO HL HPu
        go_wp2_with fail
        go_roundw
        case rel => exact ⟨q + 1, A', c', by omega, by go_num, by rw [← hlen1], by rw [← hlen1]; exact HO5, L5⟩
        case measure => simp [intOf]; omega
    · obtain rfl : q = n := by omega
      go_wp2_with fail
      go_ret
      exact ⟨A1, k1, rfl, HO.out, HL.out⟩
/-- e is the first edge still there that has p. -/
def FirstAt (l : Nat → Nat) (X : Nat → Nat → Int) (G : Nat → Bool) (n p e : Nat) : Prop := e < n ∧ G e = false ∧ (∃ j, j < l e ∧ X e j = (p : Int)) ∧ ∀ i, i < e → G i = true ∨ ¬ ∃ j, j < l i ∧ X i j = (p : Int)
set_option maxRecDepth 100000 in
set_option maxHeartbeats 4000000 in
theorem edgeAt_is {w : World} {pb gb db z n c : Nat} {A : Option Addr} {B : Nat → Option Addr} {l d : Nat → Nat} {X : Nat → Nat → Int} {G : Nat → Bool} (p e : Nat) (wi : World) (hr : HR w A n B l d X) (h : PG w pb gb db z n c A l X G wi) (hn : n ≤ 64) (hl : ∀ i, i < n → l i ≤ 1048576) (he : FirstAt l X G n p e) :
    Calls Try.prog 138 #[.pointer (some ⟨pb, 0, none⟩), .int .i64 p] wi fun en w' => en = .returned (.int .i64 (e : Nat)) ∧ wi = w' := by
  have HR1 := Lib.hid (hr.b h.below)
  obtain ⟨q0, q1, q2⟩ := h.cells
  have hplt := h.box.lt
  have HGn := Lib.hid h.gone
  have HLn := Lib.hid hl
  obtain ⟨he1, he2, he3, he4⟩ := he
  have HE2 := Lib.hid he2
  have HE3 := Lib.hid he3
  have HE4 := Lib.hid he4
  clear hr h hl he2 he3 he4
  go_enter Try.func138, Try.ntmps138
  go_wp2_with fail
  go_loop [5] (fun i => ∃ q : Nat, q ≤ e ∧ i = .int .i64 q) (fun i => (e + 1) - (intOf i).toNat)
  case atStart => exact ⟨0, Nat.zero_le _, rfl⟩
  case round =>
    obtain ⟨q, hq, rfl⟩ := hrel
    have hqn : q < n := by omega
    have hg := HGn.out.cell hqn
    unfold boolV at hg
    obtain ⟨bk, off, rfl, hbl, hc⟩ := HR1.out.1 (by omega)
    have hcq := hc q hqn
    unfold sliceV at hcq
    have HX := Lib.hid (HR1.out.2 q hqn)
    have hlq := HLn.out q hqn
    clear hc
    by_cases hlt : q < e
    · have H4 := Lib.hid (HE4.out q hlt)
      by_cases hgq : G q = true
      · rw [hgq] at hg
        clear hgq
        go_wp2_with fail
        go_round
        case rel => exact ⟨q + 1, by omega, by go_num⟩
        case measure => simp [intOf]; omega
      · have hgf : G q = false := by simpa using hgq
        have HNo := Lib.hid (H4.out.resolve_left hgq)
        rw [hgf] at hg
        clear hgq hgf
        go_wp2_with fail
        refine (contains_is (B q) (l q) (d q) (X q) (p : Int) wi hlq HX.out).mono ?_; rintro e2 w2 ⟨b, rfl, hbb, rfl⟩
        obtain rfl : b = false := by
          cases b with
          | false => rfl
          | true => exact absurd (hbb.1 rfl) HNo.out
        clear hbb
        go_wp2_with fail
        go_round
        case rel => exact ⟨q + 1, by omega, by go_num⟩
        case measure => simp [intOf]; omega
    · obtain rfl : q = e := by omega
      rw [HE2.out] at hg
      go_wp2_with fail
      refine (contains_is (B q) (l q) (d q) (X q) (p : Int) wi hlq HX.out).mono ?_; rintro e2 w2 ⟨b, rfl, hbb, rfl⟩
      have hb1 := hbb.2 HE3.out
      subst hb1
      clear hbb
      go_wp2_with fail
      go_ret
      exact ⟨rfl, rfl⟩
end Go.Proofs.Ytpajbcgdoedleab

/- An edge taken away; a peeling begun. -/
namespace Go.Proofs.Ytpajbcgdoedleab
open Go.RowKit

theorem tch_set {S : Nat → Prop} (w : World) (q i : Nat) (v : Value) (h : S q) : Tch S w (w.setCell ⟨q, i, none⟩ v) :=
  have ho := only_set w q i v
  ⟨ho.os, ho.tape, ho.output, ho.size, fun k hk hn => ho.block k hk (by
    by_cases e : k = q
    · subst e; exact absurd h hn
    · omega)⟩
def dgT (l : Nat → Nat) (X : Nat → Nat → Int) (G : Nat → Bool) (n e j : Nat) (p : Nat) : Int := degF l X G n p - (cntE (X e) p j : Nat)
theorem dgT_zero (l : Nat → Nat) (X : Nat → Nat → Int) (G : Nat → Bool) (n e p : Nat) : dgT l X G n e 0 p = degF l X G n p := by unfold dgT; simp [cntE]
theorem dgT_step {l : Nat → Nat} {X : Nat → Nat → Int} {G : Nat → Bool} {n e j x : Nat} (hx : X e j = (x : Int)) (p : Nat) : (if p = x then dgT l X G n e j x - 1 else dgT l X G n e j p) = dgT l X G n e (j + 1) p := by
  unfold dgT
  rw [cntE]
  by_cases h : p = x
  · subst h
    rw [if_pos rfl, if_pos hx]; push_cast; omega
  · rw [if_neg h, if_neg (by rw [hx]; omega)]; simp
theorem dgT_end {l : Nat → Nat} {X : Nat → Nat → Int} {G : Nat → Bool} {n e : Nat} (hg : G e = false) (he : e < n) (p : Nat) : dgT l X G n e (l e) p = degF l X (upd G e true) n p := by
  unfold dgT degF
  have := dgR_take (l := l) (X := X) (p := (p : Int)) hg n he
  omega
set_option maxRecDepth 100000 in
set_option maxHeartbeats 4000000 in
theorem takeAway_is {w : World} {pb gb db z n c : Nat} {A : Option Addr} {B : Nat → Option Addr} {l d : Nat → Nat} {X : Nat → Nat → Int} {G : Nat → Bool} (e : Nat) (wi : World) (hr : HR w A n B l d X) (h : PG w pb gb db z n c A l X G wi) (hn : n ≤ 64) (h3 : ∀ i, i < n → l i = 3) (hx : ∀ i, i < n → ∀ j, j < l i → 0 ≤ X i j ∧ X i j < z) (he : e < n) (hg : G e = false) :
    Calls Try.prog 139 #[.pointer (some ⟨pb, 0, none⟩), .int .i64 e] wi fun en w' => en = .returned (.tuple #[]) ∧ PG w pb gb db z n c A l X (upd G e true) w' ∧ Tch (fun k => k = gb ∨ k = db) wi w' := by
  have HR0 := Lib.hid hr
  have HP := Lib.hid h
  have HX := Lib.hid (hx e he)
  have HG := Lib.hid hg
  have HEnd := Lib.hid (fun p => dgT_end (l := l) (X := X) hg he p)
  have HBd := Lib.hid (fun p => dgR_le (l := l) (X := X) (G := G) (p := p) n h3)
  obtain ⟨q0, q1, q2⟩ := HP.out.cells
  have hplt := HP.out.box.lt
  have hgc := HP.out.gone.cell he
  have hgf := HP.out.gone.frozen e
  have hlo := HP.out.lo
  have hne := HP.out.ne
  have hge := HP.out.box.ge
  have hgl := HP.out.gone.lt
  have h3e := h3 e he
  clear hr h hx hg
  have HR1 := Lib.hid (HR0.out.b HP.out.below)
  obtain ⟨bk, off, rfl, hbl, hc⟩ := HR1.out.1 (by omega)
  have RK := Lib.hid (HR0.out.2 e he)
  have N1 := Lib.hid (nbx_farG HP.out.box (only_set wi gb e (.bool true)) (by omega))
  have D1 := Lib.hid (show ORow (wi.setCell ⟨gb, e, none⟩ (.bool true)) db z (fun p => degF l X G n p) from GOwn.setAt (F := intV (fun p => degF l X G n p)) HP.out.deg (by omega) _)
  have O1 := Lib.hid ((HP.out.gone.set e (.bool true)).congr (G := boolV (upd G e true)) (fun i _ => by unfold boolV upd; by_cases h : i = e <;> simp [h]))
  have F1 := Lib.hid (below_setAt HP.out.below (show w.heap.size ≤ gb by omega) (o := e) (.bool true))
  have W1 := Lib.hid (tch_set (S := fun k => k = gb ∨ k = db) wi gb e (.bool true) (.inl rfl))
  have hcq : (wi.setCell ⟨gb, e, none⟩ (.bool true)).cell? ⟨bk, off + e, none⟩ = some (sliceV B l d e) := by
    obtain ⟨b2, o2, hA, _, hc2⟩ := (HR0.out.b F1.out).1 (by omega)
    injection hA with hA; injection hA with h1 h2
    subst h1 h2
    exact hc2 e he
  obtain ⟨q0', q1', q2'⟩ : (wi.setCell ⟨gb, e, none⟩ (.bool true)).cell? ⟨pb, 0, none⟩ = some (.slice (some ⟨bk, off, none⟩) n c) ∧ (wi.setCell ⟨gb, e, none⟩ (.bool true)).cell? ⟨pb, 1, none⟩ = some (.slice (some ⟨gb, 0, none⟩) n n) ∧ (wi.setCell ⟨gb, e, none⟩ (.bool true)).cell? ⟨pb, 2, none⟩ = some (.slice (some ⟨db, 0, none⟩) z z) := ⟨N1.out.cell 0 _ rfl, N1.out.cell 1 _ rfl, N1.out.cell 2 _ rfl⟩
  unfold sliceV at hcq
  rw [h3e] at hcq RK HX
  rw [h3e] at HEnd
  clear hc h3 HR1
  generalize B e = Bk at hcq RK
  generalize d e = dk at hcq
  go_enter Try.func139, Try.ntmps139
  go_wp2_with fail
  go_loopw [20] (fun i wr => ∃ j : Nat, j ≤ 3 ∧ i = .int .i64 j ∧ Hid (NBX w.heap.size pb #[.slice (some ⟨bk, off, none⟩) n c, .slice (some ⟨gb, 0, none⟩) n n, .slice (some ⟨db, 0, none⟩) z z] 144 wr) ∧ Hid (GOwn wr 4 gb n (boolV (upd G e true))) ∧ Hid (ORow wr db z (fun p => dgT l X G n e j p)) ∧ Hid (Below w.heap.size w wr) ∧ Hid (Tch (fun k => k = gb ∨ k = db) wi wr)) (fun i _ => 3 - (intOf i).toNat)
  case atStart => exact ⟨0, by omega, rfl, N1, O1, Lib.hid (D1.out.congr (fun p _ => (dgT_zero l X G n e p).symm)), F1, W1⟩
  case round =>
    obtain ⟨j, hj, rfl, HN, HO, HD, HF, HW⟩ := hrel
    have r2 := HN.out.cell 2 _ rfl
    by_cases hlj : j < 3
    · obtain ⟨b2, o2, rfl, _, hc2⟩ := (RK.out.b HF.out) (by omega)
      have hcj := hc2 j hlj
      obtain ⟨x0, x1⟩ := HX.out j hlj
      obtain ⟨x, hx⟩ : ∃ x : Nat, X e j = (x : Int) := ⟨(X e j).toNat, by omega⟩
      have HST := Lib.hid (fun p => dgT_step (l := l) (X := X) (G := G) (n := n) (e := e) (j := j) hx p)
      rw [hx] at hcj x1
      have hxz : x < z := by omega
      have hco := HD.out.cell hxz
      have hfo := HD.out.frozen x
      have hbd : -300 ≤ dgT l X G n e j x ∧ dgT l X G n e j x ≤ 300 := by
        have h1 := HBd.out x
        have h2 := cntE_le (X e) x j
        unfold dgT degF
        constructor <;> omega
      obtain ⟨v, hv⟩ : ∃ v, v = dgT l X G n e j x := ⟨_, rfl⟩
      rw [← hv] at hco hbd
      have HV := Lib.hid hv
      have e1 : IntKind.i64.wrap (v - 1) = v - 1 := IntWalk.i64_in _ (by omega)
      clear hc2 hv x0 hx
      go_wp2_with fail
      go_roundw
      case rel => exact ⟨j + 1, by omega, by go_num, Lib.hid (nbx_farG HN.out (only_set _ db x _) (by omega)), Lib.hid (HO.out.setAt (by omega) _), Lib.hid ((HD.out.set x _).congr (fun p hp => by rw [← HST.out p, HV.out])), Lib.hid (below_setAt HF.out (by omega) _), Lib.hid (HW.out.trans (tch_set _ db x _ (.inr rfl)))⟩
      case measure => simp [intOf]; omega
    · obtain rfl : j = 3 := by omega
      go_wp2_with fail
      go_end0
      exact ⟨rfl, ⟨HF.out, HN.out, HO.out, HD.out.congr (fun p _ => HEnd.out p), hlo, hne⟩, HW.out⟩
end Go.Proofs.Ytpajbcgdoedleab

/- A peeling begun. -/
namespace Go.Proofs.Ytpajbcgdoedleab
open Go.RowKit

theorem infoBo : (Try.prog.info? 4).map (fun i => (i.zero, i.size, i.bytes)) = some (some (.bool false), 1, 1) := by kernel_rfl
theorem degF_start {l : Nat → Nat} {X : Nat → Nat → Int} {n : Nat} (p : Nat) : dgF (fun i => i) l X n 0 p = degF l X (fun _ => false) n p := by rw [dgF_end]; unfold degF; rw [dgR_none]
set_option maxRecDepth 100000 in
set_option maxHeartbeats 8000000 in
theorem startPeeling_is (z : Nat) (A : Option Addr) (n c : Nat) (B : Nat → Option Addr) (l d : Nat → Nat) (X : Nat → Nat → Int) (w : World) (hr : HR w A n B l d X) (h : HyperOk z n l X) :
    Calls Try.prog 136 #[.agg #[.int .i64 z, .slice A n c]] w fun en w' => ∃ pb gb db, en = .returned (.pointer (some ⟨pb, 0, none⟩)) ∧ PG w pb gb db z n c A l X (fun _ => false) w' := by
  have L0 := Lib.hid (LH.start (z := (z : Int)) (c := c) hr 109)
  have HG := Lib.hid h
  have hn40 := h.2.2.1
  have hz72 : z ≤ 72 := by have := h.2.1; omega
  have hmk := fun W => run_make_row' (P := Try.prog) 141 4 (.bool false) 1 Try.underlying141 infoBo rfl .i64 .i64 n (by omega) (by omega) W
  clear hr h
  obtain ⟨hsz, b0, b1⟩ := L0.out.box
  have LB := Lib.hid (L0.out.drew.step ((Below.refl _ _).alloc (Nat.le_refl _) (.cells (madeCells #[.bool false] n) 4)))
  have GB := Lib.hid (show GOwn ((w.alloc (.cells #[.int .i64 z, .slice A n c] 109)).drew.alloc (.cells (madeCells #[.bool false] n) 4)) 4 (w.heap.size + 1) n (fun _ => .bool false) by
    have h := GOwn.made (w.alloc (.cells #[.int .i64 z, .slice A n c] 109)).drew 4 (.bool false) n
    have e : (w.alloc (.cells #[.int .i64 z, .slice A n c] 109)).drew.heap.size = w.heap.size + 1 := by show (w.alloc (.cells #[.int .i64 z, .slice A n c] 109)).heap.size = _; simp
    rwa [e] at h)
  have hwd : w.heap.size + 1 ≤ (w.alloc (.cells #[.int .i64 z, .slice A n c] 109)).drew.heap.size := by show w.heap.size + 1 ≤ (w.alloc (.cells #[.int .i64 z, .slice A n c] 109)).heap.size; simp
  have HKM := Lib.hid (fun o => (L0.out.drew.step ((Below.refl _ _).alloc (Nat.le_refl _) o)).box.2)
  go_enter Try.func136, Try.ntmps136
  go_wp2_with fail
  go_region_held3 (fun w' => w'.cell? ⟨w.heap.size, 0, none⟩ = some (.int .i64 z) ∧ w'.cell? ⟨w.heap.size, 1, none⟩ = some (.slice A n c))
    (first | with_reducible exact L4.out.box.2 | with_reducible exact HKM.out _ | (go_keep; done) | exact L4.out.box.2 | exact (L4.out.step ((Below.refl _ _).alloc (Nat.le_refl _) _)).box.2 | exact (L0.out.drew.step ((Below.refl _ _).alloc (Nat.le_refl _) _)).box.2)
    (first
    | ((try go_simp); go_at_call 142; refine (impl_degreesOf z A n c B l d X (w.alloc (.cells #[.int .i64 z, .slice A n c] 109)).drew hn40 hz72 L0.out.drew.row HG.out.three HG.out.inn).mono ?_; rintro e w4 ⟨g, rfl, hg, ho, hb⟩; have L4 := Lib.hid (L0.out.drew.step hb); have HO4 := Lib.hid ho; have hgl := ho.lt; have HG4 := Lib.hid (GOwn.made w4 4 (.bool false) n); have hgw : w.heap.size + 1 ≤ g := Nat.le_trans hwd hg; have KA := Lib.hid trivial; obtain ⟨_, b04, b14⟩ := L4.out.box; clear ho hb)
    | ((try go_simp); go_at_call 142; refine (impl_degreesOf z A n c B l d X ((w.alloc (.cells #[.int .i64 z, .slice A n c] 109)).drew.alloc (.cells (madeCells #[.bool false] n) 4)) hn40 hz72 LB.out.row HG.out.three HG.out.inn).mono ?_; rintro e w4 ⟨g, rfl, hg, ho, hb⟩; have L4 := Lib.hid (LB.out.step hb); have HO4 := Lib.hid ho; have hgl := ho.lt; have GB4 := Lib.hid (GB.out.b hb); have hgw : w.heap.size + 1 + 1 ≤ g := (by have h := hg; simp only [World.size_alloc] at h; omega); have KB := Lib.hid trivial; obtain ⟨_, b04, b14⟩ := L4.out.box; clear ho hb))
  all_goals go_wp2_with fail
  all_goals go_ret
  all_goals first
    | (have hk := KA; clear hk
       have hb2 : w.heap.size ≤ (w4.alloc (.cells (madeCells #[.bool false] n) 4)).heap.size := by have := L4.out.below.size; simp only [World.size_alloc]; omega
       have hb1 := (L4.out.below.alloc L4.out.below.size (.cells (madeCells #[.bool false] n) 4))
       refine ⟨w4.heap.size + 1, w4.heap.size, g, rfl, ⟨hb1.alloc hb2 _, ⟨by have := Go.Deep.blk_alloc_new (w4.alloc (.cells (madeCells #[.bool false] n) 4)) (.cells #[.slice A n c, .slice (some ⟨w4.heap.size, 0, none⟩) n n, .slice (some ⟨g, 0, none⟩) z z] 144); simpa using this, by have := L4.out.below.size; omega⟩, (HG4.out.alloc _).congr (fun i _ => rfl), ((HO4.out.b ((Below.refl _ _).alloc (Nat.le_refl _) _)).b ((Below.refl _ _).alloc (Nat.le_refl _) _)).congr (fun p _ => degF_start p), ⟨L4.out.below.size, by omega⟩, by omega⟩⟩)
    | (have hk := KB; clear hk
       have hgb := GB4.out.lt
       exact ⟨w4.heap.size, w.heap.size + 1, g, rfl, ⟨L4.out.below.alloc L4.out.below.size _, ⟨Go.Deep.blk_alloc_new _ _, L4.out.below.size⟩, (GB4.out.alloc _).congr (fun i _ => rfl), (HO4.out.b ((Below.refl _ _).alloc (Nat.le_refl _) _)).congr (fun p _ => degF_start p), ⟨by omega, by omega⟩, by omega⟩⟩)
end Go.Proofs.Ytpajbcgdoedleab

/- The model's steps of peeling: the first edge with a place, a list without a number. -/
namespace Go.Proofs.Ytpajbcgdoedleab
open Go.RowKit

set_option maxRecDepth 100000 in
set_option maxHeartbeats 4000000 in
theorem spec_peWith (z : Nat) (A : Option Addr) (n c : Nat) (B : Nat → Option Addr) (l d : Nat → Nat) (X : Nat → Nat → Int) (EA : Option Addr) (m ec : Nat) (E : Nat → Nat) (p k : Nat) (w : World) (hm : m ≤ 64) (hr : HR w A n B l d X) (hl : ∀ i, i < n → l i ≤ 1048576) (he : IRow w EA m (idxV E)) (hL : EdIdx n m E) (hk : k < m)
    (hhit : ∃ j, j < l (E k) ∧ X (E k) j = (p : Int)) (hmiss : ∀ t, t < k → ¬ ∃ j, j < l (E t) ∧ X (E t) j = (p : Int)) :
    Calls Try.prog 126 #[.agg #[.int .i64 z, .slice A n c], .slice EA m ec, .int .i64 p] w fun e w' => e = .returned (.int .i64 ((E k : Nat) : Int)) ∧ Below w.heap.size w w' := by
  have L0 := Lib.hid (LH.start (z := (z : Int)) (c := c) hr 109)
  have HE0 := Lib.hid he
  have HLn := Lib.hid hl
  have HL := Lib.hid hL
  have HH := Lib.hid hhit
  have HM := Lib.hid hmiss
  clear hr hl he hL hhit hmiss
  go_enter Try.func126, Try.ntmps126
  go_wp2_with fail
  go_loopw [11] (fun i wr => ∃ q : Nat, q ≤ k ∧ i = .int .i64 q ∧ Hid (LH w w.heap.size z A n c B l d X wr)) (fun i _ => (k + 1) - (intOf i).toNat)
  case atStart => exact ⟨0, Nat.zero_le _, rfl, L0⟩
  case round =>
    obtain ⟨q, hq, rfl, HLr⟩ := hrel
    obtain ⟨hsz, b0, b1⟩ := HLr.out.box
    have hql : q < m := by omega
    obtain ⟨be, oe, rfl, _, hce⟩ := (HE0.out.b HLr.out.below) (by omega)
    have hek := hce q hql
    unfold idxV at hek
    have hEk := HL.out q hql
    obtain ⟨bk, off, rfl, hbl, hc⟩ := HLr.out.row.1 (by omega)
    have hcq := hc _ hEk
    unfold sliceV at hcq
    have HX := Lib.hid (HLr.out.row.2 _ hEk)
    have hlq := HLn.out _ hEk
    clear hc hce
    by_cases hlt : q < k
    · have HN := Lib.hid (HM.out q hlt)
      generalize E q = u at hek hEk hcq HX hlq HN
      go_wp2_with fail
      refine (spec_l1Has (B u) (l u) (d u) (X u) (p : Int) _ hlq HX.out).mono ?_; rintro e2 w2 ⟨b, rfl, hbb, rfl⟩
      obtain rfl : b = false := by
        cases b with
        | false => rfl
        | true => exact absurd (hbb.1 rfl) HN.out
      clear hbb
      go_wp2_with fail
      go_roundw
      case rel => exact ⟨q + 1, by omega, by go_num, HLr⟩
      case measure => simp [intOf]; omega
    · obtain rfl : q = k := by omega
      generalize hu : E q = u at hek hEk hcq HX hlq HH
      have HU := Lib.hid hu
      clear hu
      go_wp2_with fail
      refine (spec_l1Has (B u) (l u) (d u) (X u) (p : Int) _ hlq HX.out).mono ?_; rintro e2 w2 ⟨b, rfl, hbb, rfl⟩
      have hb1 := hbb.2 HH.out
      subst hb1
      clear hbb
      go_wp2_with fail
      go_ret
      exact ⟨by rw [HU.out]; rfl, HLr.out.below⟩

/-- A list without a number. -/
def dropL (e : Nat) : List Nat → List Nat := List.filter (fun x => x != e)
theorem dropL_left (G : Nat → Bool) (e : Nat) : ∀ k, dropL e (leftL G k) = leftL (upd G e true) k
  | 0 => rfl
  | k + 1 => by
    have ih := dropL_left G e k
    rw [leftL, leftL]
    by_cases h : k = e
    · subst h
      have h1 : upd G k true k = true := by unfold upd; rw [if_pos rfl]
      rw [h1, if_pos rfl, ← ih]
      by_cases hg : G k = true
      · rw [if_pos hg]
      · rw [if_neg hg]; unfold dropL; rw [List.filter_append]; simp
    · have h1 : upd G e true k = G k := by unfold upd; rw [if_neg h]
      rw [h1]
      by_cases hg : G k = true
      · rw [if_pos hg, if_pos hg]; exact ih
      · rw [if_neg hg, if_neg hg, ← ih]; unfold dropL; rw [List.filter_append]; simp [h]
end Go.Proofs.Ytpajbcgdoedleab

/- The model's l1Drop; the edges still there as a list; degrees by that list. -/
namespace Go.Proofs.Ytpajbcgdoedleab
open Go.RowKit

set_option maxRecDepth 100000 in
set_option maxHeartbeats 4000000 in
theorem spec_l1Drop (EA : Option Addr) (ec : Nat) (L : List Nat) (e : Nat) (w : World) (hm : L.length ≤ 64) (he : IRow w EA L.length (lstV L)) :
    Calls Try.prog 127 #[.slice EA L.length ec, .int .i64 e] w fun en w' => ∃ FA fc, en = .returned (.slice FA (dropL e L).length fc) ∧ w'.ownsRow w.heap.size 3 1 (.slice FA (dropL e L).length fc) (dropL e L).length (vals (intV (lstV (dropL e L))) (dropL e L).length) ∧ Below w.heap.size w w' := by
  have HE := Lib.hid he
  clear he
  go_enter Try.func127, Try.ntmps127
  go_wp2_with fail
  go_loopw [5, 10] (fun v i wr => ∃ (q : Nat) (A1 : Option Addr) (k1 : Nat), q ≤ L.length ∧ i = .int .i64 q ∧ v = .slice A1 (dropL e (L.take q)).length k1 ∧ Hid (wr.ownsRow w.heap.size 3 1 (.slice A1 (dropL e (L.take q)).length k1) (dropL e (L.take q)).length (vals (intV (lstV (dropL e (L.take q)))) (dropL e (L.take q)).length)) ∧ Hid (Below w.heap.size w wr)) (fun _ i _ => L.length - (intOf i).toNat)
  case atStart => exact ⟨0, none, 0, Nat.zero_le _, rfl, rfl, Lib.hid (World.ownsRow_nil _ _ _ _), Lib.hid (Below.refl _ _)⟩
  case round =>
    obtain ⟨q, A1, k1, hq, rfl, rfl, HO, HB⟩ := hrel
    have hsz := HB.out.size
    have hal : (dropL e (L.take q)).length ≤ 64 := Nat.le_trans (List.length_filter_le _ _) (by rw [List.length_take]; omega)
    by_cases hlt : q < L.length
    · obtain ⟨b, off, rfl, _, hc⟩ := (HE.out.b HB.out) (by omega)
      have hcq := hc q hlt
      have hx : lstV L q = ((L[q] : Nat) : Int) := by unfold lstV; rw [List.getD_eq_getElem?_getD, List.getElem?_eq_getElem hlt]; rfl
      have HT := Lib.hid (show dropL e (L.take (q + 1)) = dropL e (L.take q) ++ (if L[q] = e then [] else [L[q]]) by
        rw [List.take_succ_eq_append_getElem hlt]; unfold dropL; rw [List.filter_append]
        by_cases h : L[q] = e <;> simp [h])
      rw [hx] at hcq
      clear hc hx
      by_cases hc : L[q] = e
      · have HA := Lib.hid (show dropL e (L.take (q + 1)) = dropL e (L.take q) by rw [HT.out, if_pos hc]; simp)
        have d1 : (((L[q] : Nat) : Int) != (e : Int)) = false := by simp; omega
        clear hc HT
        generalize L[q] = u at hcq d1
        go_wp2_with fail
        go_roundw
        case rel => exact ⟨q + 1, A1, k1, by omega, by go_num, by rw [HA.out], by rw [HA.out]; exact HO, HB⟩
        case measure => simp [intOf]; omega
      · have HA := Lib.hid (show dropL e (L.take (q + 1)) = dropL e (L.take q) ++ [L[q]] by rw [HT.out, if_neg hc])
        have d1 : (((L[q] : Nat) : Int) != (e : Int)) = true := by simp; omega
        have d2 : (L[q] != e) = true := by simpa using hc
        clear hc HT
        generalize L[q] = u at hcq d1 d2 HA
        have HPu := Lib.hid (push_lst (x := u) HO.out)
        have HV := Lib.hid (show intV (lstV (dropL e (L.take q) ++ [u])) (dropL e (L.take q)).length = .int .i64 (u : Int) by unfold intV; rw [lstV_new])
        go_upto_region 6 with fail
        go_wp2_with (at_builtin; refine wpList_push rfl _ _ 22 rfl w.heap.size 3 (.int .i64 0) 8 Try.underlying22 infoI rfl A1 (dropL e (L.take q)).length k1 (intV (lstV (dropL e (L.take q) ++ [u]))) (.int .i64 (u : Int)) _ rfl HPu.out rfl HV.out rfl (by omega) (by omega) (by omega) ?_)
        intro A' c' w5 hown' hb5
        have L5 := Lib.hid (HB.out.trans hb5)
        have hlen1 : (dropL e (L.take q)).length + 1 = (dropL e (L.take (q + 1))).length := by rw [HA.out]; simp
        rw [← HA.out] at hown'
        have HO5 := Lib.hid hown'
        clear hown' hb5 HO HB HPu
        go_wp2_with fail
        go_roundw
        case rel => exact ⟨q + 1, A', c', by omega, by go_num, by rw [← hlen1], by rw [← hlen1]; exact HO5, L5⟩
        case measure => simp [intOf]; omega
    · obtain rfl : q = L.length := by omega
      have h := HO.out
      rw [List.take_length] at h
      have HF := Lib.hid h
      clear h
      go_wp2_with fail
      go_ret
      exact ⟨A1, k1, by rw [List.take_length]; rfl, HF.out, HB.out⟩
/-- Degrees by a list are those of what is not gone. -/
def sumD (l : Nat → Nat) (X : Nat → Nat → Int) (p : Int) : List Nat → Nat
  | [] => 0
  | x :: L => cntE (X x) p (l x) + sumD l X p L
theorem sumD_append (l : Nat → Nat) (X : Nat → Nat → Int) (p : Int) : ∀ L M, sumD l X p (L ++ M) = sumD l X p L + sumD l X p M
  | [], M => by simp [sumD]
  | x :: L, M => by rw [List.cons_append, sumD, sumD, sumD_append l X p L M]; omega
theorem sumD_left (l : Nat → Nat) (X : Nat → Nat → Int) (G : Nat → Bool) (p : Int) : ∀ k, sumD l X p (leftL G k) = dgR l X G p k
  | 0 => rfl
  | k + 1 => by
    rw [leftL, dgR]
    by_cases h : G k = true
    · rw [if_pos h, if_pos h, sumD_left l X G p k]; omega
    · rw [if_neg h, if_neg h, sumD_append, sumD_left l X G p k]; simp [sumD]
theorem degN_list (l : Nat → Nat) (X : Nat → Nat → Int) (p : Int) (L : List Nat) : ∀ k, k ≤ L.length → degN (fun t => L.getD t 0) l X p k = sumD l X p (L.take k)
  | 0, _ => by simp [degN, sumD]
  | k + 1, h => by
    rw [degN, degN_list l X p L k (by omega), List.take_succ_eq_append_getElem (show k < L.length by omega), sumD_append]
    have e : L.getD k 0 = L[k] := by rw [List.getD_eq_getElem?_getD, List.getElem?_eq_getElem (show k < L.length by omega)]; rfl
    rw [e]; simp [sumD]
theorem deg_left (l : Nat → Nat) (X : Nat → Nat → Int) (G : Nat → Bool) (n : Nat) : dgF (fun t => (leftL G n).getD t 0) l X (leftL G n).length 0 = degF l X G n := by
  funext p
  rw [dgF_end, degN_list l X p (leftL G n) _ (Nat.le_refl _), List.take_length, sumD_left]; rfl
end Go.Proofs.Ytpajbcgdoedleab

/- The process of peeling; a row of steps that grows. -/
namespace Go.Proofs.Ytpajbcgdoedleab
open Go.RowKit

/-- The place that a choice tells. -/
def plc (z : Nat) (l : Nat → Nat) (X : Nat → Nat → Int) (n : Nat) (G : Nat → Bool) (ch : Nat) : Nat := (freL (degF l X G n) z).getD (ch % (freL (degF l X G n) z).length) 0
/-- The first edge still there with a place. -/
def edg (l : Nat → Nat) (X : Nat → Nat → Int) (n : Nat) (G : Nat → Bool) (p : Nat) : Nat := ((leftL G n).find? (fun i => decide (0 < cntE (X i) p (l i)))).getD 0
/-- What is gone after k steps. -/
def goneS (z : Nat) (l : Nat → Nat) (X : Nat → Nat → Int) (n : Nat) (C : Nat → Nat) : Nat → Nat → Bool
  | 0 => fun _ => false
  | k + 1 => upd (goneS z l X n C k) (edg l X n (goneS z l X n C k) (plc z l X n (goneS z l X n C k) (C k))) true
/-- There was a free place ahead of each of the first k steps. -/
def Goes (z : Nat) (l : Nat → Nat) (X : Nat → Nat → Int) (n : Nat) (C : Nat → Nat) (k : Nat) : Prop := ∀ j, j < k → freL (degF l X (goneS z l X n C j) n) z ≠ []
theorem plc_mem {z : Nat} {l : Nat → Nat} {X : Nat → Nat → Int} {n : Nat} {G : Nat → Bool} {ch : Nat} (h : freL (degF l X G n) z ≠ []) : plc z l X n G ch < z ∧ degF l X G n (plc z l X n G ch) = 1 := by
  have hl : 0 < (freL (degF l X G n) z).length := List.length_pos_iff.2 h
  have hi : ch % (freL (degF l X G n) z).length < (freL (degF l X G n) z).length := Nat.mod_lt _ hl
  have : plc z l X n G ch ∈ freL (degF l X G n) z := by
    unfold plc
    rw [List.getD_eq_getElem?_getD, List.getElem?_eq_getElem hi]
    exact List.getElem_mem _
  exact mem_freL.1 this
theorem dgR_pos {l : Nat → Nat} {X : Nat → Nat → Int} {G : Nat → Bool} {p : Int} : ∀ k, 0 < dgR l X G p k → ∃ i, i < k ∧ G i = false ∧ 0 < cntE (X i) p (l i)
  | 0, h => by simp [dgR] at h
  | k + 1, h => by
    rw [dgR] at h
    by_cases hg : G k = true
    · rw [if_pos hg] at h
      obtain ⟨i, h1, h2⟩ := dgR_pos k (by omega)
      exact ⟨i, by omega, h2⟩
    · rw [if_neg hg] at h
      by_cases hc : 0 < cntE (X k) p (l k)
      · exact ⟨k, by omega, by simpa using hg, hc⟩
      · obtain ⟨i, h1, h2⟩ := dgR_pos (l := l) (X := X) (G := G) (p := p) k (by omega)
        exact ⟨i, by omega, h2⟩
theorem leftL_sorted (G : Nat → Bool) : ∀ k, (leftL G k).Pairwise (· < ·)
  | 0 => List.Pairwise.nil
  | k + 1 => by
    rw [leftL]
    split
    · exact leftL_sorted G k
    · rw [List.pairwise_append]
      exact ⟨leftL_sorted G k, List.pairwise_singleton _ _, fun a ha b hb => by
        rw [List.mem_singleton] at hb; subst hb; exact (mem_leftL.1 ha).1⟩
theorem edg_first {l : Nat → Nat} {X : Nat → Nat → Int} {n : Nat} {G : Nat → Bool} {p : Nat} (h : degF l X G n p = 1) : FirstAt l X G n p (edg l X n G p) := by
  obtain ⟨i, hi, hg, hc⟩ := dgR_pos (l := l) (X := X) (G := G) (p := (p : Int)) n (by unfold degF at h; omega)
  unfold edg
  cases hf : (leftL G n).find? (fun i => decide (0 < cntE (X i) p (l i))) with
  | none =>
    have := List.find?_eq_none.1 hf i (mem_leftL.2 ⟨hi, hg⟩)
    simp at this; omega
  | some e =>
    have h1 := List.find?_some hf
    have h2 := List.mem_of_find?_eq_some hf
    obtain ⟨he1, he2⟩ := mem_leftL.1 h2
    simp only [decide_eq_true_eq] at h1
    refine ⟨he1, he2, (cntE_pos (l e)).1 h1, fun j hj => ?_⟩
    by_cases hgj : G j = true
    · exact .inl hgj
    · refine .inr fun hh => ?_
      obtain ⟨us, vs, hL, hno⟩ := (List.find?_eq_some_iff_append.1 hf).2
      have hjm : j ∈ leftL G n := mem_leftL.2 ⟨by simp at hj; omega, by simpa using hgj⟩
      rw [hL, List.mem_append] at hjm
      rcases hjm with hjm | hjm
      · have := hno j hjm
        have h5 := (cntE_pos (X := X j) (p := (p : Int)) (l j)).2 hh
        simp at this; omega
      · rw [List.mem_cons] at hjm
        have hs := leftL_sorted G n
        rw [hL, List.pairwise_append, List.pairwise_cons] at hs
        rcases hjm with rfl | hjm
        · simp at hj
        · have := hs.2.1.1 j hjm
          simp at hj; omega
end Go.Proofs.Ytpajbcgdoedleab
