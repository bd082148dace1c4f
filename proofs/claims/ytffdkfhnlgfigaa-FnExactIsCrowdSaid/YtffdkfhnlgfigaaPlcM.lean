/- Placements: the model's pairs of cells and its check. -/
import Derived.Test.YtffdkfhnlgfigaaCuA
import Derived.Test.YtffdkfhnlgfigaaKeyRow
import Derived.Test.YtffdkfhnlgfigaaHas
import Derived.Test.YtffdkfhnlgfigaaFindS
import Derived.Test.YtffdkfhnlgfigaaApp
import Derived.Deep.Upon
namespace Go.Proofs.Ytffdkfhnlgfigaa
open Go.RowKit

theorem run_headQ (A : Option Addr) (n k u : Nat) (hu : u ≤ k) (W : World) :
    (Instr.slice 28 (.slice A n k) none (some (.int .i64 u)) none).run Try.prog W = .ok (.slice A u k) W := by
  unfold Instr.slice
  simp [go_sem, Instr.sliceBounds, Instr.sliceBound, run_underlying Try.underlying28, hu]
theorem infoSlQ : (Try.prog.info? 28).map (fun i => (i.zero, i.size, i.bytes)) = some (some (.slice none 0 0), 1, 24) := by kernel_rfl
theorem ne_ownQ {w : World} {B g n m : Nat} {e : TypeId} {v : Value} {xs : List Value} {X : Nat → Int} (h : w.ownsRow B e 1 v n xs) (ho : ORow w g m X) (hne : e ≠ 3) : some g ≠ v.ownBlock := by
  rcases h.2 with ⟨rfl, _⟩ | ⟨g', cap, cur, rfl, _, hh, _⟩
  · simp [Value.ownBlock]
  · intro e2
    simp [Value.ownBlock] at e2
    subst e2
    obtain ⟨c, hb, _⟩ := ho
    rw [hb] at hh
    injection hh with h1; injection h1 with _ h2 _
    exact hne h2.symm
theorem wpList_pushQ {ops : Array Oper} {rest : List Oper} {o : Oper} {a : Act} {Q : Exit → Act → World → Prop} (hgd : o.guard = none) (s x : Operand) (t : TypeId)
    (ho : o.op = .call { callee := .builtin .append, args := #[s, x], argTypes := #[t, t] }) (B : Nat) (e : TypeId) (z : Value) (bytes : Nat)
    (ht : Try.prog.underlying t = some (.slice e)) (hinfo : (Try.prog.info? e).map (fun i => (i.zero, i.size, i.bytes)) = some (some z, 1, bytes)) (hz1 : z.cells.size = 1)
    (A : Option Addr) (k c : Nat) (F : Nat → Value) (u : Value) (wr : World) (hs : a.eval s = .slice A k c) (hown : wr.ownsRow B e 1 (.slice A k c) k (vals F k))
    (hx : a.eval x = .slice (some ⟨wr.heap.size, 0, none⟩) 1 1) (hF : F k = u) (hu : u.oneCell' = true) (hk : (k + 1) * bytes ≤ 140737488355328) (hk2 : k < 16777216) (hB : B ≤ wr.heap.size)
    (h : ∀ A' c' w3, w3.ownsRow B e 1 (.slice A' (k + 1) c') (k + 1) (vals F (k + 1)) → (wr.alloc (.cells #[u] e)).grownBy w3 (Value.slice A k c).ownBlock → wpList Try.prog ops Q rest (a.put o.dst (.slice A' (k + 1) c')) w3) :
    wpList Try.prog ops Q (o :: rest) a (wr.alloc (.cells #[u] e)) := by
  obtain ⟨i0, hi, hz0, hz1', hz2⟩ := info_parts hinfo
  refine wpList_append_own _ hgd s x t ho B e i0 z 1 bytes ht hi hz0 hz1' hz2 hz1 (by decide) _ _ _ hs (hown.alloc _) ⟨wr.heap.size, 0, none⟩ 1 1 [u] hx rfl ?_ ?_ ?_ hk ?_ ?_
  · intro j v hj
    match j, hj with
    | 0, hj => simp at hj; subst hj; simp [Addr.add]
  · intro v hv; simp at hv; subst hv; exact hu
  · unfold maxLen; omega
  · simp; omega
  · intro v' w3 hown' hgrow _
    obtain ⟨A', c', rfl, _, _⟩ := owned_slice hown'
    exact h A' c' w3 (by rw [vals_snoc, hF]; exact hown') hgrow
def pV (G : Nat → Nat) (j : Nat) : Value := .slice (some ⟨G j, 0, none⟩) 2 2
def updQ {α : Type} (f : Nat → α) (q : Nat) (x : α) (j : Nat) : α := if j = q then x else f j
/-- The pairs of cells, in rows. -/
def PRow (w : World) (A : Option Addr) (n : Nat) (G : Nat → Nat) (V : Nat → Nat → Int) : Prop := GRow w A n (pV G) ∧ ∀ j, j < n → ORow w (G j) 2 (V j)
structure PQ (w : World) (V : Nat → Nat → Int) (q : Nat) (G : Nat → Nat) (A : Option Addr) (c : Nat) (wr : World) : Prop where
  below : Below w.heap.size w wr
  out : wr.ownsRow w.heap.size 28 1 (.slice A q c) q (vals (pV G) q)
  inn : ∀ j, j < q → w.heap.size ≤ G j ∧ ORow wr (G j) 2 (V j)
theorem PQ.start (w : World) (V : Nat → Nat → Int) (G : Nat → Nat) : PQ w V 0 G none 0 w := ⟨Below.refl _ _, World.ownsRow_nil _ _ _ _, fun j hj => absurd hj (by omega)⟩
theorem PQ.b {w wr wj : World} {V : Nat → Nat → Int} {q c : Nat} {G : Nat → Nat} {A : Option Addr} (h : PQ w V q G A c wr) (hb : Below wr.heap.size wr wj) : PQ w V q G A c wj :=
  ⟨h.below.trans (hb.mono h.below.size), owned_b h.out hb, fun j hj => ⟨(h.inn j hj).1, (h.inn j hj).2.b hb⟩⟩
theorem PQ.ext {w wr : World} {V : Nat → Nat → Int} {q c : Nat} {G : Nat → Nat} {A : Option Addr} (h : PQ w V q G A c wr) (g : Nat) : wr.ownsRow w.heap.size 28 1 (.slice A q c) q (vals (pV (updQ G q g)) q) := by
  rw [vals_congr (F := pV (updQ G q g)) (G := pV G) (fun i hi => by unfold pV updQ; rw [if_neg (by omega)])]
  exact h.out
theorem PQ.push {w wr wj : World} {V : Nat → Nat → Int} {q c c' g : Nat} {G : Nat → Nat} {A A' : Option Addr} (h : PQ w V q G A c wr) (hg0 : w.heap.size ≤ g) (hx : ORow wr g 2 (V q))
    (ho : wj.ownsRow w.heap.size 28 1 (.slice A' (q + 1) c') (q + 1) (vals (pV (updQ G q g)) (q + 1))) (hg : wr.grownBy wj (Value.slice A q c).ownBlock) : PQ w V (q + 1) (updQ G q g) A' c' wj := by
  refine ⟨h.below.trans ⟨hg.os, hg.tape, hg.output, hg.size, fun i hi => hg.block i (Nat.lt_of_lt_of_le hi h.below.size) (fun e => by have := (h.out.lt i e.symm).1; omega)⟩, ho, fun j hj => ?_⟩
  unfold updQ
  by_cases e : j = q
  · subst e
    rw [if_pos rfl]
    exact ⟨hg0, hx.grown hg (ne_ownQ h.out hx (by decide))⟩
  · rw [if_neg e]
    obtain ⟨h1, h2⟩ := h.inn j (by omega)
    exact ⟨h1, h2.grown hg (ne_ownQ h.out h2 (by decide))⟩
theorem PQ.fin {w wr : World} {V : Nat → Nat → Int} {q c : Nat} {G : Nat → Nat} {A : Option Addr} (h : PQ w V q G A c wr) : PRow wr A q G V := by
  exact ⟨(owned_vec h.out).row, fun j hj => (h.inn j hj).2⟩
theorem celW_orow (z : Int) (x : List UInt8) (P : Int) (w : World) : ORow (celW z x P w) w.heap.size 2 (celF z x P) := by
  refine ⟨_, Go.Deep.blk_alloc_new _ _, by simp, fun i hi => ?_⟩
  match i, hi with
  | 0, _ => rfl
  | 1, _ => rfl
theorem spec_cuKeyed (z P : Int) (A : Option Addr) (n c : Nat) (S : Nat → ByteArray) (w : World) (hn : n ≤ 1048576) (hs : ∀ i, i < n → (S i).size ≤ maxLen) (hr : GRow w A n (strV S)) :
    Calls Try.prog 84 #[.int .i64 z, .slice A n c, .int .i64 P] w fun e w' => e = .returned (.bool (sizeB z P && keysB S n)) ∧ w = w' := by
  have HR := Lib.hid hr
  have HS := Lib.hid hs
  clear hr hs
  cases h1 : sizeB z P with
  | false =>
    go_enter Try.func84, Try.ntmps84
    go_wp2_with fail
    refine (spec_cuSize z P _).mono ?_; rintro e w' ⟨rfl, rfl⟩
    rw [h1]
    go_wp2_with fail
    go_ret
    exact ⟨rfl, rfl⟩
  | true =>
    cases h2 : keysB S n
    all_goals
      go_enter Try.func84, Try.ntmps84
      go_wp2_with fail
      refine (spec_cuSize z P _).mono ?_; rintro e w' ⟨rfl, rfl⟩
      rw [h1]
      go_wp2_with fail
      refine (spec_biKeys A n c S _ hn HS.out HR.out).mono ?_; rintro e w' ⟨rfl, rfl⟩
      rw [h2]
      go_wp2_with fail
      go_ret
      exact ⟨rfl, rfl⟩
/-- The cells of the keys. -/
def celV2 (z P : Int) (S : Nat → ByteArray) (i : Nat) : Nat → Int := celF z (S i).data.toList P
set_option maxRecDepth 100000 in
set_option maxHeartbeats 2000000 in
theorem spec_cuPairs (z P : Int) (KA : Option Addr) (n kc : Nat) (S : Nat → ByteArray) (w : World) (hn : n ≤ 1048576) (hs : ∀ i, i < n → (S i).size ≤ maxLen) (hr : GRow w KA n (strV S)) (h : sizeB z P = true) :
    Calls Try.prog 86 #[.int .i64 z, .slice KA n kc, .int .i64 P] w fun e w' => ∃ A c G, e = .returned (.slice A n c) ∧ PRow w' A n G (celV2 z P S) ∧ Below w.heap.size w w' := by
  have HR := Lib.hid hr
  have HC := Lib.hid (fun i (hi : i < n) W => spec_cuCells z P (S i) W (hs i hi) h)
  have P0 := Lib.hid (PQ.start w (celV2 z P S) (fun _ => 0))
  clear hr hs
  go_enter Try.func86, Try.ntmps86
  go_wp2_with fail
  go_loopw [7, 12] (fun v i wr => ∃ (q : Nat) (G : Nat → Nat) (A : Option Addr) (c : Nat), q ≤ n ∧ i = .int .i64 q ∧ v = .slice A q c ∧ Hid (PQ w (celV2 z P S) q G A c wr)) (fun _ i _ => n - (intOf i).toNat)
  case atStart => exact ⟨0, _, none, 0, Nat.zero_le _, rfl, rfl, P0⟩
  case round =>
    obtain ⟨q, G, A, c, hq, rfl, rfl, HP⟩ := hrel
    have hsz := HP.out.below.size
    by_cases hlt : q < n
    · obtain ⟨b, off, hKA, _, hc⟩ := HR.out.b HP.out.below (by omega)
      subst hKA
      have hck := hc q hlt
      unfold strV at hck
      clear hc
      have HC1 := HC.out q hlt wr
      go_wp2_with fail
      refine HC1.mono ?_; rintro e w2 ⟨rfl, rfl⟩
      have HX := Lib.hid (celW_orow z (S q).data.toList P wr)
      have HB := Lib.hid (celW_below z (S q).data.toList P wr)
      have hg := Lib.hid hsz
      unfold celV
      generalize celW z (S q).data.toList P wr = w2 at *
      have hs2 := HB.out.size
      have HP2 := Lib.hid (HP.out.b HB.out)
      go_wp2_with (at_builtin; refine wpList_pushQ rfl _ _ 119 rfl w.heap.size 28 (.slice none 0 0) 24 Try.underlying119 infoSlQ rfl A q c (pV (updQ G q wr.heap.size)) (.slice (some ⟨wr.heap.size, 0, none⟩) 2 2) w2 rfl (HP2.out.ext _) rfl (by unfold pV updQ; rw [if_pos rfl]) rfl (by omega) (by omega) (by omega) ?_)
      intro A' c' w3 hown' hg3
      have HP3 := Lib.hid ((HP2.out.b ((Below.refl _ _).alloc (Nat.le_refl _) (.cells #[.slice (some ⟨wr.heap.size, 0, none⟩) 2 2] 28))).push hg.out (HX.out.alloc _) hown' hg3)
      clear hown' hg3
      go_wp2_with fail
      go_roundw
      case rel => exact ⟨q + 1, _, A', c', by omega, by go_num, rfl, HP3⟩
      case measure => simp [intOf]; omega
    · obtain rfl : q = n := by omega
      go_wp2_with fail
      go_ret
      exact ⟨A, c, G, rfl, HP.out.fin, HP.out.below⟩
/-- A placement: of each key one of its cells, all different. -/
def PlP (V : Nat → Nat → Int) (n : Nat) (F : Nat → Int) (m : Nat) : Prop := m = n ∧ (∀ i, i < m → ∃ k, k < 2 ∧ V i k = F i) ∧ ∀ i, i < m → ∀ j, j < i → F j ≠ F i
/-- Two words of truth. -/
def WordIs (ok : Bool) (P : Prop) (w : World) (e : Ending) (w' : World) : Prop := ∃ b : Bool, e = .returned (.tuple #[.bool b, .bool ok]) ∧ (b = true ↔ ok = true ∧ P) ∧ Below w.heap.size w w'
end Go.Proofs.Ytffdkfhnlgfigaa
