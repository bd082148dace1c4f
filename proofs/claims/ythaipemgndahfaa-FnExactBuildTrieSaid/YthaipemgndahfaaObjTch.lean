/- What a call that writes over some slices leaves: all blocks but those slices' own. -/
import Derived.Test.YthaipemgndahfaaObjInt
namespace Go.Proofs.Ythaipemgndahfaa
open Go.RowKit

/-- Nothing has turned but blocks of S, and new ones. -/
structure Tch (S : Nat → Prop) (w w' : World) : Prop where
  os : w'.os = w.os
  tape : w'.tape = w.tape
  output : w'.output = w.output
  size : w.heap.size ≤ w'.heap.size
  block : ∀ k, k < w.heap.size → ¬ S k → w'.heap[k]? = w.heap[k]?
/-- Block k is the one that the slice '.slice A n _' lies in. -/
def Blk (n : Nat) (A : Option Addr) (k : Nat) : Prop := 0 < n ∧ ∃ o, A = some ⟨k, o, none⟩
section
variable {S S' : Nat → Prop} {w w' w2 : World} {lo hi n m k : Nat} {A B : Option Addr} {t : TypeId} {F : Nat → Value} {P : World → Prop}
theorem Tch.refl (S : Nat → Prop) (w : World) : Tch S w w := ⟨rfl, rfl, rfl, Nat.le_refl _, fun _ _ _ => rfl⟩
theorem Tch.trans (a : Tch S w w') (b : Tch S w' w2) : Tch S w w2 :=
  ⟨b.os.trans a.os, b.tape.trans a.tape, b.output.trans a.output, Nat.le_trans a.size b.size, fun k hk hd => (b.block k (Nat.lt_of_lt_of_le hk a.size) hd).trans (a.block k hk hd)⟩
theorem Tch.mono (a : Tch S w w') (h : ∀ k, S k → S' k) : Tch S' w w' := ⟨a.os, a.tape, a.output, a.size, fun k hk hd => a.block k hk (fun hs => hd (h k hs))⟩
theorem Tch.below (h : Below w.heap.size w w') : Tch S w w' := ⟨h.os, h.tape, h.output, h.size, fun k hk _ => h.block k hk⟩
theorem Tch.alloc (a : Tch S w w') (o : Obj) : Tch S w (w'.alloc o) := a.trans (Tch.below ((Below.refl _ _).alloc (Nat.le_refl _) o))
theorem Tch.only (a : Tch S w w') (h : ∀ k, S k → lo ≤ k ∧ k < hi) : Only lo hi w w' :=
  ⟨a.os, a.tape, a.output, a.size, fun k hk hd => a.block k hk (fun hs => by have := h k hs; omega)⟩
theorem At.tch (a : At lo hi P w) (h : Tch S w w') (hd : ∀ k, lo ≤ k → k < hi → ¬ S k) : At lo hi P w' :=
  ⟨a.lives w w' h.os h.tape h.output h.size (fun k h1 h2 => h.block k (Nat.lt_of_lt_of_le h2 a.top) (hd k h1 h2)) a.now, Nat.le_trans a.top h.size, a.lives⟩
theorem Ow.blk_lt (h : Ow lo hi t A n F w) (hb : Blk n A k) : lo ≤ k ∧ k < hi := by
  obtain ⟨hn, o, hA⟩ := hb
  obtain ⟨g, off, c, hA2, h1, h2, _⟩ := h hn
  rw [hA] at hA2; injection hA2 with e; injection e with e1 e2; subst e1
  exact ⟨h1, h2⟩
theorem At.tchO (a : At lo hi (Ow lo hi t A n F) w) (h : Tch S w w') (hd : ∀ k, Blk n A k → ¬ S k) : At lo hi (Ow lo hi t A n F) w' :=
  ⟨fun hn => by
    obtain ⟨g, off, c, hA, h1, h2, h3, h4⟩ := a.now hn
    exact ⟨g, off, c, hA, h1, h2, (h.block g (Nat.lt_of_lt_of_le h2 a.top) (hd g ⟨hn, off, hA⟩)).trans h3, h4⟩, Nat.le_trans a.top h.size, a.lives⟩
theorem Apart.no (h : Apart n A m B) (h1 : Blk n A k) (h2 : Blk m B k) : False := by
  obtain ⟨hn, o, hA⟩ := h1
  obtain ⟨hm, p, hB⟩ := h2
  exact h hn hm k o k p hA hB rfl
end
theorem markF_IntS {A : Option Addr} {n c lo hi : Nat} {X : Nat → Int} {k0 : Int} {w : World} (hn : n ≤ 1048576) (hx : Ow lo hi 3 A n (intV X) w) (_ht : hi ≤ w.heap.size) (h0 : 1 ≤ k0) (h1 : k0 ≤ 16777216) :
    Calls Try.prog 46 #[.slice A n c, .int .i64 k0] w fun e w' => e = .returned (.int .i64 (k0 + n)) ∧ Ow lo hi 3 A n (intV fun i => k0 + i) w' ∧ Tch (Blk n A) w w' :=
  (mark_IntS_full hn hx (by omega) h1 (fun _ _ => ⟨_, rfl⟩)).mono fun e w' ⟨he, ho, hl, hb, hz⟩ => ⟨he, ho, by
    rcases Nat.eq_zero_or_pos n with h | h
    · rw [hz h]; exact Tch.refl _ _
    · obtain ⟨g, off, _, hA, _⟩ := hx h
      have hh := hb g off h hA
      exact ⟨hh.os, hh.tape, hh.output, hh.size, fun k hk hne => hh.block k hk (by
        by_cases e : k = g
        · subst e; exact absurd ⟨h, off, hA⟩ hne
        · omega)⟩⟩
set_option maxHeartbeats 400000 in
theorem markF_Bits {z : Int} {A : Option Addr} {n c lo hi : Nat} {X : Nat → Int} {k0 : Int} {w : World} (hn : n ≤ 1048576) (hx : Ow lo hi 3 A n (intV X) w) (ht : hi ≤ w.heap.size) (h0 : 1 ≤ k0) (h1 : k0 ≤ 16777216) :
    Calls Try.prog 63 #[.agg #[.int .i64 z, .slice A n c], .int .i64 k0] w fun e w' => e = .returned (.int .i64 (k0 + n)) ∧ Ow lo hi 3 A n (intV fun i => k0 + i) w' ∧ Tch (Blk n A) w w' := by
  have HX := Lib.hid (At.alloc ⟨hx, ht, Ow.lives _ _ _ _ _ _⟩ (.cells #[.int .i64 z, .slice A n c] 51))
  clear hx
  go_enter Try.func63, Try.ntmps63
  go_wp2_with fail
  refine (markF_IntS hn HX.out.now HX.out.top h0 h1).mono ?_
  rintro e w1 ⟨rfl, ho, hg⟩
  have HO := Lib.hid ho
  have HG := Lib.hid (((Tch.refl (Blk n A) w).alloc (.cells #[.int .i64 z, .slice A n c] 51)).trans hg)
  clear ho hg HX
  go_wp2_with fail
  go_ret
  exact ⟨rfl, HO.out, HG.out⟩
theorem At.setD {lo hi q : Nat} {P : World → Prop} {w : World} (a : At lo hi P w) (h : hi ≤ q ∨ q + 1 ≤ lo) (i : Nat) (v : Value) : At lo hi P (w.setCell ⟨q, i, none⟩ v) := a.far (only_set w q i v) h
theorem apart_of {lo hi lo' hi' n m : Nat} {t t' : TypeId} {A B : Option Addr} {F G : Nat → Value} {w w' : World} (h : Ow lo hi t A n F w) (k : Ow lo' hi' t' B m G w') (hd : hi ≤ lo' ∨ hi' ≤ lo) : Apart n A m B := fun hn hm b o c p hA hB => by
  obtain ⟨g, off, _, hA2, h1, h2, _⟩ := h hn
  obtain ⟨g', off', _, hB2, h3, h4, _⟩ := k hm
  rw [hA] at hA2; injection hA2 with e; injection e with e1 e2
  rw [hB] at hB2; injection hB2 with e'; injection e' with e3 e4
  omega
theorem nbx0 (w : World) (cs : Array Value) (t : TypeId) : NBX w.heap.size w.heap.size cs t (w.alloc (.cells cs t)) := ⟨Go.Deep.blk_alloc_new _ _, Nat.le_refl _⟩
theorem nbx_other {base q r : Nat} {cs : Array Value} {t : TypeId} {w : World} (h : NBX base q cs t w) (hne : q ≠ r) (i : Nat) (v : Value) : NBX base q cs t (w.setCell ⟨r, i, none⟩ v) :=
  ⟨((only_set w r i v).block q h.lt (by omega)).trans h.blk, h.ge⟩
end Go.Proofs.Ythaipemgndahfaa
