/- The trie of keys, made: the model's. -/
import Derived.Test.YthaipemgndahfaaTrC
import Derived.Test.YthaipemgndahfaaTrS
import Derived.Test.YthaipemgndahfaaByts
import Derived.Test.YthaipemgndahfaaCtS
import Derived.Test.YthaipemgndahfaaSome
import Derived.Test.YthaipemgndahfaaOpenTr
import Derived.Deep.DeepCutAuto
import Derived.Deep.RegionHeld3
namespace Go.Proofs.Ythaipemgndahfaa
open Go.RowKit

def laV (N : List Byt) (i : Nat) : Int := (((ndA N (i + 1)).getLastD 0).toNat : Int)
def laS (N : List Byt) : ByteArray := strN (laV N) (N.length - 1)
def wdB (F : Nat → Bool) (i : Nat) : Int := (wordsOf F i : Int)
/-- The bits of the shape and of the ends, off behind the last one. -/
def shF (N : List Byt) (p : Nat) : Bool := decide (p < 2 * N.length - 1) && shB N p
def enF (L N : List Byt) (p : Nat) : Bool := decide (p < N.length) && enB L N p
/-- The trie of keys L with the nodes N, in its own memory, as a value. -/
def TrVal (L N : List Byt) (w : World) (e : Ending) (w' : World) : Prop :=
  ∃ A c B d, e = .returned (.agg #[.int .i64 (2 * N.length - 1 : Nat), .slice A ((2 * N.length - 1 + 15) / 16) c, .int .i64 N.length, .slice B ((N.length + 15) / 16) d, .string (laS N)]) ∧
    Ow w.heap.size w'.heap.size 3 A ((2 * N.length - 1 + 15) / 16) (intV (wdB (shF N))) w' ∧ Ow w.heap.size w'.heap.size 3 B ((N.length + 15) / 16) (intV (wdB (enF L N))) w' ∧ Apart ((2 * N.length - 1 + 15) / 16) A ((N.length + 15) / 16) B ∧ Below w.heap.size w w'
/-- Three rows under way: two of bits, one of bytes; B the first block of theirs. -/
structure TU3 (B : Nat) (w : World) (F1 : Nat → Bool) (F2 : Nat → Bool) (F3 : Nat → Int) (k1 : Nat) (A1 : Option Addr) (c1 : Nat) (k2 : Nat) (A2 : Option Addr) (c2 : Nat) (k3 : Nat) (A3 : Option Addr) (c3 : Nat) (wr : World) : Prop where
  below : Below B w wr
  ge : B ≤ wr.heap.size
  o1 : wr.ownsRow B 4 1 (.slice A1 k1 c1) k1 (vals (boolV F1) k1)
  o2 : wr.ownsRow B 4 1 (.slice A2 k2 c2) k2 (vals (boolV F2) k2)
  o3 : wr.ownsRow B 5 1 (.slice A3 k3 c3) k3 (vals (byV F3) k3)
  ap : ∀ g, (Value.slice A1 k1 c1).ownBlock = some g → (Value.slice A2 k2 c2).ownBlock ≠ some g
section
variable {B : Nat} {w wr wj : World} {F1 F2 : Nat → Bool} {F3 : Nat → Int} {k1 : Nat} {A1 : Option Addr} {c1 k2 : Nat} {A2 : Option Addr} {c2 k3 : Nat} {A3 : Option Addr} {c3 : Nat}
theorem kept_ne {w w' : World} {B : Nat} {e : TypeId} {v v' : Value} {n : Nat} {xs : List Value} (h : w.ownsRow B e 1 v n xs) (hg : w.grownBy w' v'.ownBlock) (hne : ∀ g, v'.ownBlock = some g → v.ownBlock ≠ some g) : w'.ownsRow B e 1 v n xs := by
  refine h.kept hg ?_
  cases hv : v.ownBlock with
  | none => exact .inl rfl
  | some g => exact .inr fun e => hne g e.symm hv
theorem TU3.b (h : TU3 B w F1 F2 F3 k1 A1 c1 k2 A2 c2 k3 A3 c3 wr) (hb : Below wr.heap.size wr wj) : TU3 B w F1 F2 F3 k1 A1 c1 k2 A2 c2 k3 A3 c3 wj :=
  ⟨h.below.trans (hb.mono h.ge), Nat.le_trans h.ge hb.size, owned_b h.o1 hb, owned_b h.o2 hb, owned_b h.o3 hb, h.ap⟩
theorem TU3.start (B : Nat) (w : World) (hB : B ≤ w.heap.size) : TU3 B w F1 F2 F3 0 none 0 0 none 0 0 none 0 w :=
  ⟨Below.refl _ _, hB, World.ownsRow_nil _ _ _ _, World.ownsRow_nil _ _ _ _, World.ownsRow_nil _ _ _ _, fun g h => by simp [Value.ownBlock] at h⟩
theorem TU3.push1 (h : TU3 B w F1 F2 F3 k1 A1 c1 k2 A2 c2 k3 A3 c3 wr) {u : Value} {A' : Option Addr} {c' : Nat} (ho : wj.ownsRow B 4 1 (.slice A' (k1 + 1) c') (k1 + 1) (vals (boolV F1) (k1 + 1))) (hb : Below B wr wj) (hg : (wr.alloc (.cells #[u] 4)).grownBy wj (Value.slice A1 k1 c1).ownBlock)
    (hf : (Value.slice A' (k1 + 1) c').ownBlock = (Value.slice A1 k1 c1).ownBlock ∨ (Value.slice A' (k1 + 1) c').ownBlock = some (wr.heap.size + 1)) : TU3 B w F1 F2 F3 (k1 + 1) A' c' k2 A2 c2 k3 A3 c3 wj := by
  have h2 := owned_b h.o2 ((Below.refl _ _).alloc (Nat.le_refl _) (.cells #[u] 4))
  have h1 := owned_b h.o1 ((Below.refl _ _).alloc (Nat.le_refl _) (.cells #[u] 4))
  have h3 := owned_b h.o3 ((Below.refl _ _).alloc (Nat.le_refl _) (.cells #[u] 4))
  refine ⟨h.below.trans hb, Nat.le_trans h.ge hb.size, ho, kept_ne h2 hg h.ap, h3.kept hg (own_apartG h3 h1 (by decide)), fun g e => ?_⟩
  rcases hf with e2 | e2
  · rw [e2] at e; exact h.ap g e
  · intro e3
    have := (h.o2.lt g e3).2
    rw [e2] at e; injection e with e; omega
theorem TU3.push2 (h : TU3 B w F1 F2 F3 k1 A1 c1 k2 A2 c2 k3 A3 c3 wr) {u : Value} {A' : Option Addr} {c' : Nat} (ho : wj.ownsRow B 4 1 (.slice A' (k2 + 1) c') (k2 + 1) (vals (boolV F2) (k2 + 1))) (hb : Below B wr wj) (hg : (wr.alloc (.cells #[u] 4)).grownBy wj (Value.slice A2 k2 c2).ownBlock)
    (hf : (Value.slice A' (k2 + 1) c').ownBlock = (Value.slice A2 k2 c2).ownBlock ∨ (Value.slice A' (k2 + 1) c').ownBlock = some (wr.heap.size + 1)) : TU3 B w F1 F2 F3 k1 A1 c1 (k2 + 1) A' c' k3 A3 c3 wj := by
  have h2 := owned_b h.o2 ((Below.refl _ _).alloc (Nat.le_refl _) (.cells #[u] 4))
  have h1 := owned_b h.o1 ((Below.refl _ _).alloc (Nat.le_refl _) (.cells #[u] 4))
  have h3 := owned_b h.o3 ((Below.refl _ _).alloc (Nat.le_refl _) (.cells #[u] 4))
  refine ⟨h.below.trans hb, Nat.le_trans h.ge hb.size, kept_ne h1 hg (fun g e e3 => h.ap g e3 e), ho, h3.kept hg (own_apartG h3 h2 (by decide)), fun g e => ?_⟩
  rcases hf with e2 | e2
  · rw [e2]; exact h.ap g e
  · rw [e2]; intro e3
    have := (h.o1.lt g e).2
    injection e3 with e3; omega
theorem TU3.push3 (h : TU3 B w F1 F2 F3 k1 A1 c1 k2 A2 c2 k3 A3 c3 wr) {u : Value} {A' : Option Addr} {c' : Nat} (ho : wj.ownsRow B 5 1 (.slice A' (k3 + 1) c') (k3 + 1) (vals (byV F3) (k3 + 1))) (hb : Below B wr wj) (hg : (wr.alloc (.cells #[u] 5)).grownBy wj (Value.slice A3 k3 c3).ownBlock) :
    TU3 B w F1 F2 F3 k1 A1 c1 k2 A2 c2 (k3 + 1) A' c' wj := by
  have h2 := owned_b h.o2 ((Below.refl _ _).alloc (Nat.le_refl _) (.cells #[u] 5))
  have h1 := owned_b h.o1 ((Below.refl _ _).alloc (Nat.le_refl _) (.cells #[u] 5))
  have h3 := owned_b h.o3 ((Below.refl _ _).alloc (Nat.le_refl _) (.cells #[u] 5))
  exact ⟨h.below.trans hb, Nat.le_trans h.ge hb.size, h1.kept hg (own_apartG h1 h3 (by decide)), h2.kept hg (own_apartG h2 h3 (by decide)), ho, h.ap⟩
end
/-- Two rows of words, made by two calls. -/
structure PB (w : World) (g1 m1 : Nat) (F1 : Nat → Bool) (g2 m2 : Nat) (F2 : Nat → Bool) (wj : World) : Prop where
  below : Below w.heap.size w wj
  o1 : ORow wj g1 m1 (fun i => (wordsOf F1 i : Int))
  o2 : ORow wj g2 m2 (fun i => (wordsOf F2 i : Int))
  l1 : w.heap.size ≤ g1
  l2 : w.heap.size ≤ g2
  ne : g1 ≠ g2
theorem pb_ab {w w3 w4 : World} {g1 m1 : Nat} {F1 : Nat → Bool} {g2 m2 : Nat} {F2 : Nat → Bool} (hb3 : Below w.heap.size w w3) (h1 : ORow w3 g1 m1 (fun i => (wordsOf F1 i : Int))) (l1 : w.heap.size ≤ g1) (hb4 : Below w3.heap.size w3 w4) (h2 : ORow w4 g2 m2 (fun i => (wordsOf F2 i : Int))) (l2 : w3.heap.size ≤ g2) : PB w g1 m1 F1 g2 m2 F2 w4 := by
  have := h1.lt
  have h3 := hb3.size
  exact ⟨hb3.trans (hb4.mono h3), h1.b hb4, h2, l1, by omega, by omega⟩
theorem pb_ba {w w3 w4 : World} {g1 m1 : Nat} {F1 : Nat → Bool} {g2 m2 : Nat} {F2 : Nat → Bool} (hb3 : Below w.heap.size w w3) (h2 : ORow w3 g2 m2 (fun i => (wordsOf F2 i : Int))) (l2 : w.heap.size ≤ g2) (hb4 : Below w3.heap.size w3 w4) (h1 : ORow w4 g1 m1 (fun i => (wordsOf F1 i : Int))) (l1 : w3.heap.size ≤ g1) : PB w g1 m1 F1 g2 m2 F2 w4 := by
  have := h2.lt
  have h3 := hb3.size
  exact ⟨hb3.trans (hb4.mono h3), h1, h2.b hb4, by omega, l2, by omega⟩
theorem apart_blk {n m g h : Nat} (hne : g ≠ h) : Apart n (some ⟨g, 0, none⟩) m (some ⟨h, 0, none⟩) := fun _ _ b o c p h1 h2 => by
  cases h1; cases h2; exact hne
/-- The answer's box is filled. -/
theorem trVal_end {L N : List Byt} {w w5 : World} {z1 g1 g2 : Nat} (hz : z1 = 2 * N.length - 1) (hb : Below w.heap.size w w5) (o1 : ORow w5 g1 ((z1 + 15) / 16) (wdB (shF N))) (o2 : ORow w5 g2 ((N.length + 15) / 16) (wdB (enF L N))) (h1 : w.heap.size < g1) (h2 : w.heap.size < g2) (hne : g1 ≠ g2) :
    TrVal L N w (.returned (.agg #[.int .i64 z1, .slice (some ⟨g1, 0, none⟩) ((z1 + 15) / 16) ((z1 + 15) / 16), .int .i64 N.length, .slice (some ⟨g2, 0, none⟩) ((N.length + 15) / 16) ((N.length + 15) / 16), .string (laS N)])) ((((((w5).setCell ⟨w.heap.size, 0, none⟩ (.int .i64 z1)).setCell ⟨w.heap.size, 1, none⟩ (.slice (some ⟨g1, 0, none⟩) ((z1 + 15) / 16) ((z1 + 15) / 16))).setCell ⟨w.heap.size, 2, none⟩ (.int .i64 N.length)).setCell ⟨w.heap.size, 3, none⟩ (.slice (some ⟨g2, 0, none⟩) ((N.length + 15) / 16) ((N.length + 15) / 16))).setCell ⟨w.heap.size, 4, none⟩ (.string (laS N))) := by
  have R1 := (((((o1).setAt (b := w.heap.size) (o := 0) (by omega) (.int .i64 z1)).setAt (b := w.heap.size) (o := 1) (by omega) (.slice (some ⟨g1, 0, none⟩) ((z1 + 15) / 16) ((z1 + 15) / 16))).setAt (b := w.heap.size) (o := 2) (by omega) (.int .i64 N.length)).setAt (b := w.heap.size) (o := 3) (by omega) (.slice (some ⟨g2, 0, none⟩) ((N.length + 15) / 16) ((N.length + 15) / 16))).setAt (b := w.heap.size) (o := 4) (by omega) (.string (laS N))
  have R2 := (((((o2).setAt (b := w.heap.size) (o := 0) (by omega) (.int .i64 z1)).setAt (b := w.heap.size) (o := 1) (by omega) (.slice (some ⟨g1, 0, none⟩) ((z1 + 15) / 16) ((z1 + 15) / 16))).setAt (b := w.heap.size) (o := 2) (by omega) (.int .i64 N.length)).setAt (b := w.heap.size) (o := 3) (by omega) (.slice (some ⟨g2, 0, none⟩) ((N.length + 15) / 16) ((N.length + 15) / 16))).setAt (b := w.heap.size) (o := 4) (by omega) (.string (laS N))
  subst hz
  exact ⟨_, _, _, _, rfl, ow_of_own (show GOwn _ 3 g1 _ (intV (wdB (shF N))) from R1) (by omega) (Nat.le_refl _), ow_of_own (show GOwn _ 3 g2 _ (intV (wdB (enF L N))) from R2) (by omega) (Nat.le_refl _), apart_blk hne, below_setAt (below_setAt (below_setAt (below_setAt (below_setAt (hb) (by omega) _) (by omega) _) (by omega) _) (by omega) _) (by omega) _⟩
theorem own_setT {w : World} {B : Nat} {e : TypeId} {A : Option Addr} {k c : Nat} {xs : List Value} (h : w.ownsRow B e 1 (.slice A k c) k xs) {b o : Nat} (hb : b < B) (v : Value) : (w.setCell ⟨b, o, none⟩ v).ownsRow B e 1 (.slice A k c) k xs :=
  h.kept (grown_setCell (World.grownBy.refl w _) o v) (by
    by_cases e : (Value.slice A k c).ownBlock = none
    · exact .inl e
    · refine .inr (fun e2 => ?_)
      have := (h.lt b e2).1
      omega)
theorem brow_of {w : World} {A : Option Addr} {n : Nat} {F : Nat → Bool} (h : GRow w A n (boolV F)) : BRow w A n F := h
section
variable {A : Option Addr} {k c : Nat} {S : Nat → ByteArray} {w : World}
set_option maxRecDepth 100000 in
set_option maxHeartbeats 8000000 in
theorem spec_trOfN {L N : List Byt} (hL : lsOf S k = L) (hNL : ndL (lsOf S k) = N) (hkb : keysB S k = true) (hr : GRow w A k (strV S)) :
    Calls Try.prog 59 #[.slice A k c] w (TrVal L N w) := by
  obtain ⟨hk, hkey, hinc⟩ := keysB_inc.1 hkb
  have hl12 : ∀ s, s ∈ lsOf S k → s.length ≤ 12 := fun s hs => by
    obtain ⟨i, hi, rfl⟩ := lsOf_mem.1 hs
    have := (isKeyB_size (hkey _ hs)).2; simpa using this
  have hN := ndL_is hinc hl12
  have hlen := ndUp_len (lsOf S k) 12
  rw [lsOf_len] at hlen
  have hs : ∀ i, i < k → (S i).size ≤ 1048576 := fun i hi => by
    have := hl12 _ (lsOf_mem.2 ⟨i, hi, rfl⟩)
    have h2 := ba_len (S i); omega
  have HN := Lib.hid hN
  have hpos := hN.pos
  have hn481 : (ndL (lsOf S k)).length ≤ 481 := by show (ndUp _ 12).length ≤ _; omega
  have hal := Lib.hid ((Below.refl w.heap.size w).alloc (Nat.le_refl _) (.cells #[.int .i64 0, .slice none 0 0, .int .i64 0, .slice none 0 0, .string ⟨#[]⟩] 53))
  have N1 := Lib.hid (nbx0 w #[.int .i64 0, .slice none 0 0, .int .i64 0, .slice none 0 0, .string ⟨#[]⟩] 53)
  have HK := Lib.hid (hr.b hal.out)
  have HL12 := Lib.hid hl12
  clear hr hN hinc hkey hkb hlen
  go_enter Try.func59, Try.ntmps59
  go_wp2_with fail
  refine (spec_trNodes (by omega) hs HK.out).mono ?_; rintro e w2 ⟨NA, nc, rfl, ho2, hb2⟩
  have HK2 := Lib.hid (HK.out.b hb2)
  have N2 := Lib.hid (N1.out.b hb2)
  have HB2 := Lib.hid (hal.out.trans (hb2.mono (by simp)))
  have HNR := Lib.hid (owned_vec ho2).row
  obtain ⟨_, _, hv, hcap, _⟩ := owned_slice ho2
  injection hv with hv1 hv2 hv3
  have hnc0 := hv3 ▸ hcap
  clear hv1 hv2 hv3 hcap ho2 hb2
  have HLL := Lib.hid hL.symm
  rw [hNL] at HN hpos hn481 HNR hnc0 ⊢
  rw [hL] at HN
  clear hL hNL
  have HT := Lib.hid (TU3.start (F1 := shB N) (F2 := enB L N) (F3 := laV N) w2.heap.size w2 (Nat.le_refl _))
  have HC := Lib.hid (ChI.start HN.out)
  go_wp2_with fail
  go_loopw [4, 5, 6, 15] (fun s1 s2 s3 i wr => ∃ (q cc : Nat) (A1 : Option Addr) (c1 : Nat) (A2 : Option Addr) (c2 : Nat) (A3 : Option Addr) (c3 : Nat), q ≤ N.length ∧ i = .int .i64 q ∧ s1 = .slice A1 (q + cc) c1 ∧ s2 = .slice A2 q c2 ∧ s3 = .slice A3 (q - 1) c3 ∧ Hid (ChI N q cc) ∧ Hid (TU3 w2.heap.size w2 (shB N) (enB L N) (laV N) (q + cc) A1 c1 q A2 c2 (q - 1) A3 c3 wr)) (fun _ _ _ i _ => N.length - (intOf i).toNat)
  case atStart => exact ⟨0, 0, none, 0, none, 0, none, 0, Nat.zero_le _, rfl, rfl, rfl, rfl, HC, HT⟩
  case round =>
    obtain ⟨q, cc, A1, c1, A2, c2, A3, c3, hq, rfl, rfl, rfl, rfl, HC, HT⟩ := hrel
    by_cases hlt : q < N.length
    · obtain ⟨nb, no, rfl, hnb, hnc⟩ := HNR.out (by omega)
      have HNC := Lib.hid (show ∀ W, Below w2.heap.size w2 W → ∀ i, i < N.length → W.cell? ⟨nb, no + i, none⟩ = some (.string (rowS N i)) from fun W hW i hi => (hW.cell (p := ⟨nb, no + i, none⟩) hnb).trans (hnc i hi))
      have hx := HNC.out _ HT.out.below q hlt
      have htl : ∀ W, (Instr.slice 22 (.slice (some ⟨nb, no, none⟩) N.length nc) (some (.int .i64 ((q : Int) + 1))) none none).run Try.prog W = .ok (.slice (subS (some ⟨nb, no, none⟩) (q + 1) nc) (N.length - (q + 1)) (nc - (q + 1))) W := fun W => by
        have h := run_tailS (some ⟨nb, no, none⟩) N.length nc (q + 1) (by omega) hnc0 W
        rwa [show (((q + 1 : Nat) : Int)) = (q : Int) + 1 by push_cast; rfl] at h
      have HTR := Lib.hid (tail_rowS (A := some ⟨nb, no, none⟩) (k := nc) (a := q + 1) HNR.out (by omega) hnc0)
      have hccl := HC.out.lt
      clear hnc
      have HJ := Lib.hid (ChJ.start HN.out HC.out)
      obtain ⟨M, hM⟩ : ∃ M, M = N.length - (q + 1) := ⟨_, rfl⟩
      have hMN : M + (q + 1) = N.length := by omega
      rw [← hM] at htl HTR
      clear hM
      go_wp2_with fail
      go_loopw [4, 25] (fun s1 i wi => ∃ (j c' : Nat) (A1' : Option Addr) (c1' : Nat), j ≤ M ∧ i = .int .i64 j ∧ s1 = .slice A1' (q + c') c1' ∧ Hid (ChJ N q (q + 1 + j) c') ∧ Hid (TU3 w2.heap.size w2 (shB N) (enB L N) (laV N) (q + c') A1' c1' q A2 c2 (q - 1) A3 c3 wi)) (fun _ i _ => M - (intOf i).toNat)
      case atStart => exact ⟨0, cc, A1, c1, Nat.zero_le _, rfl, rfl, HJ, HT⟩
      case round =>
        obtain ⟨j, c', A1', c1', hj, rfl, rfl, HJ, HT⟩ := hrel
        have hcl := HJ.out.lt
        by_cases hlj : j < M
        · obtain ⟨tb, tq, hA, htb, htc⟩ := (HTR.out.b HT.out.below) (by omega)
          rw [hA]
          have hy : wr.cell? ⟨tb, tq + j, none⟩ = some (.string (rowS N (q + 1 + j))) := htc j hlj
          have hge := HT.out.ge
          have hjn : q + 1 + j < N.length := by omega
          have HNE := Lib.hid (HN.out.ne (j := q + 1 + j) (by omega) hjn)
          have HPI := Lib.hid (par_iff HN.out hjn hlt)
          have HSQ := Lib.hid (show (rowS N q).data.toList = ndA N q from rowS_at N)
          have HSJ := Lib.hid (show (rowS N (q + 1 + j)).data.toList = ndA N (q + 1 + j) from rowS_at N)
          have HCI := Lib.hid (child_iff (x := ndA N q) (y := ndA N (q + 1 + j)))
          have HSS := Lib.hid (show ∀ i, i < N.length → (rowS N i).size ≤ 12 from fun i hi => by
            rw [← ba_len, rowS_at]
            rcases (HN.out.2 _).1 (nd_mem hi) with e | ⟨s, hs1, hs2⟩
            · rw [show N.getD i [] = [] from e]; simp
            · have h1 := hs2.length_le
              have h2 := HL12.out s (by rw [← HLL.out]; exact hs1)
              show (ndA N i).length ≤ 12
              omega)
          have hz1 := HSS.out q hlt
          have hz2 := HSS.out (q + 1 + j) hjn
          clear htc hA
          have e6 : IntKind.i64.wrap (((rowS N q).size : Int) + 1) = ((rowS N q).size : Int) + 1 := IntWalk.i64_in _ (by omega)
          by_cases hp : par N (q + 1 + j) = q
          · obtain ⟨hq1, hJ2⟩ := HJ.out.yes HN.out (by omega) hjn hp
            have hch := HCI.out.2 ⟨HNE.out, HPI.out.1 hp⟩
            have HBG := Lib.hid (show decide ((rowS N q).data.toList <+: (rowS N (q + 1 + j)).data.toList) = true by rw [HSQ.out, HSJ.out, decide_eq_true_eq]; exact hch.2)
            have d1 : (((rowS N (q + 1 + j)).size : Int) == ((rowS N q).size : Int) + 1) = true := by
              have h1 := ba_len (rowS N q); have h2 := ba_len (rowS N (q + 1 + j))
              rw [HSQ.out] at h1; rw [HSJ.out] at h2
              have h3 := hch.1
              rw [beq_iff_eq]; omega
            have HON := Lib.hid (show boolV (shB N) (q + c') = .bool true by unfold boolV; rw [ChJ.on hjn hp hq1])
            have HJ3 := Lib.hid (show ChJ N q (q + 1 + (j + 1)) (c' + 1) by rw [← hq1]; exact hJ2)
            clear hp hJ2 hch hq1
            go_wp2_with fail
            refine (spec_trBegins (by unfold maxLen; omega)).mono ?_; rintro e w' ⟨rfl, rfl⟩
            rw [HBG.out]
            go_wp2_with (at_builtin; refine wpList_pushR4 rfl _ _ 83 rfl w2.heap.size 4 (.bool false) 1 Try.underlying83 infoB rfl A1' _ c1' (boolV (shB N)) _ wr rfl HT.out.o1 rfl HON.out rfl (by omega) (by omega) hge ?_)
            intro A5 c5 w5 ho5 hb5 hg5 hf5
            have HT5 := Lib.hid (HT.out.push1 ho5 hb5 hg5 hf5)
            clear ho5 hb5 hg5 hf5
            go_wp2_with fail
            go_roundw
            case rel => exact ⟨j + 1, c' + 1, A5, c5, by omega, by go_num, by rw [Nat.add_assoc], HJ3, HT5⟩
            case measure => simp [intOf]; omega
          · have HJ3 := Lib.hid (show ChJ N q (q + 1 + (j + 1)) c' from HJ.out.skip hp)
            have HNO := Lib.hid (show ¬ ((ndA N (q + 1 + j)).length = (ndA N q).length + 1 ∧ ndA N q <+: ndA N (q + 1 + j)) from fun h => hp (HPI.out.2 (HCI.out.1 h).2))
            clear hp
            by_cases hl : (rowS N (q + 1 + j)).size = (rowS N q).size + 1
            · have HBG := Lib.hid (show decide ((rowS N q).data.toList <+: (rowS N (q + 1 + j)).data.toList) = false by
                rw [HSQ.out, HSJ.out, decide_eq_false_iff_not]
                refine fun h => HNO.out ⟨?_, h⟩
                have h1 := ba_len (rowS N q); have h2 := ba_len (rowS N (q + 1 + j))
                rw [HSQ.out] at h1; rw [HSJ.out] at h2; omega)
              have d1 : (((rowS N (q + 1 + j)).size : Int) == ((rowS N q).size : Int) + 1) = true := by rw [beq_iff_eq]; omega
              clear hl
              go_wp2_with fail
              refine (spec_trBegins (by unfold maxLen; omega)).mono ?_; rintro e w' ⟨rfl, rfl⟩
              rw [HBG.out]
              go_wp2_with fail
              go_roundw
              case rel => exact ⟨j + 1, c', A1', c1', by omega, by go_num, rfl, HJ3, HT⟩
              case measure => simp [intOf]; omega
            · have d1 : (((rowS N (q + 1 + j)).size : Int) == ((rowS N q).size : Int) + 1) = false := by rw [beq_eq_false_iff_ne]; omega
              clear hl
              go_wp2_with fail
              go_roundw
              case rel => exact ⟨j + 1, c', A1', c1', by omega, by go_num, rfl, HJ3, HT⟩
              case measure => simp [intOf]; omega
        · obtain rfl : j = M := by omega
          have hJD : ChJ N q N.length c' := by
            have h := HJ.out
            rwa [show q + 1 + j = N.length by omega] at h
          have HC2 := Lib.hid hJD.done
          have hge := HT.out.ge
          have HOFF := Lib.hid (show boolV (shB N) (q + c') = .bool false by unfold boolV; rw [HC2.out.off])
          have hxw := HNC.out _ HT.out.below q hlt
          clear hJD hx
          go_upto_region 13 with fail
          go_wp2_with (at_builtin; refine wpList_pushR4 rfl _ _ 83 rfl w2.heap.size 4 (.bool false) 1 Try.underlying83 infoB rfl A1' _ c1' (boolV (shB N)) _ wr rfl HT.out.o1 rfl HOFF.out rfl (by omega) (by omega) hge ?_)
          intro A5 c5 w5 ho5 hb5 hg5 hf5
          have HT5 := Lib.hid (HT.out.push1 ho5 hb5 hg5 hf5)
          have hge5 := HT5.out.ge
          have HRR := Lib.hid (show enB L N q = true ↔ ∃ i, i < k ∧ S i = rowS N q from by
            unfold enB
            rw [decide_eq_true_eq, HLL.out, lsOf_mem]
            exact ⟨fun ⟨i, hi, e⟩ => ⟨i, hi, ba_ext (by rw [rowS_at]; exact e)⟩, fun ⟨i, hi, e⟩ => ⟨i, hi, by rw [e, rowS_at]⟩⟩)
          clear ho5 hb5 hg5 hf5
          go_wp2_with fail
          refine (spec_l1HasS (x := rowS N q) (r := enB L N q) HRR.out (by omega) (HK2.out.b HT5.out.below)).mono ?_; rintro e w' ⟨rfl, rfl⟩
          go_wp2_with (at_builtin; refine wpList_pushR4 rfl _ _ 83 rfl w2.heap.size 4 (.bool false) 1 Try.underlying83 infoB rfl A2 _ c2 (boolV (enB L N)) _ w5 rfl HT5.out.o2 rfl rfl rfl (by omega) (by omega) hge5 ?_)
          intro A6 c6 w6 ho6 hb6 hg6 hf6
          have HT6 := Lib.hid (HT5.out.push2 ho6 hb6 hg6 hf6)
          have hge6 := HT6.out.ge
          clear ho6 hb6 hg6 hf6
          rcases Nat.eq_zero_or_pos q with h0 | h0
          · subst h0
            go_wp2_with fail
            go_roundw
            case rel => exact ⟨0 + 1, c', A5, c5, A6, c6, A3, c3, by omega, by go_num, by rw [show 0 + 1 + c' = 0 + c' + 1 by omega], rfl, rfl, HC2, Lib.hid (by have h := HT6.out; rwa [show 0 + c' + 1 = 0 + 1 + c' by omega] at h)⟩
            case measure => simp [intOf]; omega
          · have hszq : (rowS N q).size ≤ 12 := by
              rw [← ba_len, rowS_at]
              rcases (HN.out.2 _).1 (nd_mem hlt) with e | ⟨s, hs1, hs2⟩
              · rw [show N.getD q [] = [] from e]; simp
              · have h1 := hs2.length_le
                have h2 := HL12.out s (by rw [← HLL.out]; exact hs1)
                show (ndA N q).length ≤ 12
                omega
            have hq0 : 1 ≤ (rowS N q).size := by
              have h1 := HN.out.ne h0 hlt
              have h2 := List.length_pos_iff.2 h1
              rw [← ba_len, rowS_at]; exact h2
            have d0 : decide ((0 : Int) < (q : Int)) = true := by simp; omega
            have e7 : IntKind.i64.wrap (((rowS N q).size : Int) - 1) = ((rowS N q).size : Int) - 1 := IntWalk.i64_in _ (by omega)
            have q7 : ((rowS N q).size : Int) - 1 < ((rowS N q).size : Int) := by omega
            have q8 : 0 ≤ ((rowS N q).size : Int) - 1 := by omega
            have hix : (rowS N q).size - 1 < (rowS N q).size := by omega
            have HLA := Lib.hid (show byV (laV N) (q - 1) = .int .u8 (((rowS N q)[(rowS N q).size - 1]'hix).toNat : Int) from by
              have h1 := ba_nth (x := rowS N q) hix
              unfold byV laV
              rw [show q - 1 + 1 = q by omega]
              have h2 : (rowS N q).data.toList = ndA N q := rowS_at N
              rw [h2] at h1
              have h3 : (ndA N q).length = (rowS N q).size := by rw [← ba_len, h2]
              rw [List.getLastD_eq_getLast?, List.getLast?_eq_getElem?, h3, h1]; rfl)
            go_wp2_with (at_builtin; refine wpList_pushR4 rfl _ _ 80 rfl w2.heap.size 5 (.int .u8 0) 1 Try.underlying80 infoBy rfl A3 _ c3 (byV (laV N)) _ w6 rfl HT6.out.o3 rfl HLA.out rfl (by omega) (by omega) hge6 ?_)
            intro A7 c7 w7 ho7 hb7 hg7 hf7
            have HT7 := Lib.hid (HT6.out.push3 ho7 hb7 hg7)
            clear ho7 hb7 hg7 hf7
            go_wp2_with fail
            go_roundw
            case rel => exact ⟨q + 1, c', A5, c5, A6, c6, A7, c7, by omega, by go_num, by rw [show q + 1 + c' = q + c' + 1 by omega], rfl, by rw [show q + 1 - 1 = q - 1 + 1 by omega], HC2, Lib.hid (by have h := HT7.out; rwa [show q + c' + 1 = q + 1 + c' by omega, show q - 1 + 1 = q + 1 - 1 by omega] at h)⟩
            case measure => simp [intOf]; omega
    · obtain rfl : q = N.length := by omega
      have hfull := HC.out.full HN.out
      obtain ⟨z1, hz1⟩ : ∃ z1, z1 = N.length + cc := ⟨_, rfl⟩
      have hz1' : z1 = 2 * N.length - 1 := by omega
      rw [← hz1] at HT ⊢
      have HZ := Lib.hid hz1'
      have hge := HT.out.ge
      have hz4 : z1 ≤ 4096 := by omega
      have hn4 : N.length ≤ 4096 := by omega
      have HCV := Lib.hid (show ∀ W, Below wr.heap.size wr W → (convert 80 9 (.slice A3 (N.length - 1) c3)).run Try.prog W = .ok (.string (laS N)) W from fun W hW => conv_by ((owned_vec (owned_b HT.out.o3 hW)).row))
      have HR1 := Lib.hid (show ∀ W, Below wr.heap.size wr W → BRow W A1 z1 (shB N) from fun W hW => brow_of ((owned_vec (owned_b HT.out.o1 hW)).row))
      have HR2 := Lib.hid (show ∀ W, Below wr.heap.size wr W → BRow W A2 N.length (enB L N) from fun W hW => brow_of ((owned_vec (owned_b HT.out.o2 hW)).row))
      have N3 := Lib.hid (N2.out.b HT.out.below)
      have HB3 := Lib.hid (HB2.out.trans (HT.out.below.mono HB2.out.size))
      have hlow := N2.out.lt
      have HCK := Lib.hid (show ∀ W v0 v1 v2 v3 v4, Below wr.heap.size wr W → (convert 80 9 (.slice A3 (N.length - 1) c3)).run Try.prog (((((W.setCell ⟨w.heap.size, 0, none⟩ v0).setCell ⟨w.heap.size, 1, none⟩ v1).setCell ⟨w.heap.size, 2, none⟩ v2).setCell ⟨w.heap.size, 3, none⟩ v3).setCell ⟨w.heap.size, 4, none⟩ v4) = .ok (.string (laS N)) (((((W.setCell ⟨w.heap.size, 0, none⟩ v0).setCell ⟨w.heap.size, 1, none⟩ v1).setCell ⟨w.heap.size, 2, none⟩ v2).setCell ⟨w.heap.size, 3, none⟩ v3).setCell ⟨w.heap.size, 4, none⟩ v4) from fun W v0 v1 v2 v3 v4 hW => conv_by ((owned_vec (own_setT (own_setT (own_setT (own_setT (own_setT (owned_b HT.out.o3 hW) hlow _) hlow _) hlow _) hlow _) hlow _)).row))
      have h0 := HCV.out wr.drew (Below.drew (Below.refl _ _))
      have HD := Lib.hid (show Below wr.heap.size wr wr.drew from Below.drew (Below.refl _ _))
      clear hz1 hz1' hfull
      go_upto_region 18 with fail
      go_region_held3 (fun W => (convert 80 9 (.slice A3 (N.length - 1) c3)).run Try.prog W = .ok (.string (laS N)) W)
        (first | with_reducible exact HCK.out _ _ _ _ _ _ PP.out.below | with_reducible exact HCV.out _ PP.out.below | with_reducible exact HCV.out _ hb3 | (go_keep; done))
        (first
          | (have hz := OA; clear hz; go_at_call 76; refine (spec_biSome A2 N.length c2 _ (enB L N) _ hn4 rfl (HR2.out _ hb3)).mono ?_; rintro e w5 ⟨g2, rfl, hl2, ho5, hb5⟩; have PP := Lib.hid (pb_ab hb3 OA.out hgA hb5 ho5 hl2); have NB := N3.out.b PP.out.below; have y0 := NB.cell 0 _ rfl; have y1 := NB.cell 1 _ rfl; have y2 := NB.cell 2 _ rfl; have y3 := NB.cell 3 _ rfl; have y4 := NB.cell 4 _ rfl; have f0 := NB.free 0; have f1 := NB.free 1; have f2 := NB.free 2; have f3 := NB.free 3; have f4 := NB.free 4; clear ho5 hb5 hl2)
          | (have hz := OB; clear hz; go_at_call 76; refine (spec_biSome A1 z1 c1 _ (shB N) _ hz4 rfl (HR1.out _ hb3)).mono ?_; rintro e w5 ⟨g1, rfl, hl1, ho5, hb5⟩; have PP := Lib.hid (pb_ba hb3 OB.out hgB hb5 ho5 hl1); have NB := N3.out.b PP.out.below; have y0 := NB.cell 0 _ rfl; have y1 := NB.cell 1 _ rfl; have y2 := NB.cell 2 _ rfl; have y3 := NB.cell 3 _ rfl; have y4 := NB.cell 4 _ rfl; have f0 := NB.free 0; have f1 := NB.free 1; have f2 := NB.free 2; have f3 := NB.free 3; have f4 := NB.free 4; clear ho5 hb5 hl1)
          | (go_at_call 76; refine (spec_biSome A1 z1 c1 _ (shB N) _ hz4 rfl (HR1.out _ HD.out)).mono ?_; rintro e w4 ⟨g1, rfl, hgA, ho4, hb4'⟩; have hb3 := of_drew hb4'; have OA := Lib.hid ho4; clear ho4 hb4')
          | (go_at_call 76; refine (spec_biSome A2 N.length c2 _ (enB L N) _ hn4 rfl (HR2.out _ HD.out)).mono ?_; rintro e w4 ⟨g2, rfl, hgB, ho4, hb4'⟩; have hb3 := of_drew hb4'; have OB := Lib.hid ho4; clear ho4 hb4'))
      all_goals
        obtain ⟨pb, po1, po2, pl1, pl2, pne⟩ := PP.out
        have HB5 := Lib.hid (HB3.out.trans (pb.mono HB3.out.size))
        have O1 := Lib.hid (show ORow w5 g1 ((z1 + 15) / 16) (wdB (shF N)) from po1.congr (fun i _ => by show (wordsOf (fun i => decide (i < z1) && shB N i) i : Int) = (wordsOf (shF N) i : Int); rw [HZ.out]; rfl))
        have O2 := Lib.hid (show ORow w5 g2 ((N.length + 15) / 16) (wdB (enF L N)) from po2)
        clear pb po1 po2 PP h0
        go_wp2_with fail
        refine bodyPost_ret (v := .agg #[.int .i64 z1, .slice (some ⟨g1, 0, none⟩) ((z1 + 15) / 16) ((z1 + 15) / 16), .int .i64 N.length, .slice (some ⟨g2, 0, none⟩) ((N.length + 15) / 16) ((N.length + 15) / 16), .string (laS N)]) (by simp [results, Try.results59, go_sem, y0, y1, y2, y3, y4]) rfl ?_
        exact trVal_end HZ.out HB5.out O1.out O2.out (by omega) (by omega) pne
theorem spec_trOf (hkb : keysB S k = true) (hr : GRow w A k (strV S)) :
    Calls Try.prog 59 #[.slice A k c] w (TrVal (lsOf S k) (ndL (lsOf S k)) w) := spec_trOfN rfl rfl hkb hr
end
end Go.Proofs.Ythaipemgndahfaa
