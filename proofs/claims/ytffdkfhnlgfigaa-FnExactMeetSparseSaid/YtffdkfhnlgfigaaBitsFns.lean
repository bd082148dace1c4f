/- Contracts of the laws' small functions on bit vectors. -/
import Derived.Test.YtffdkfhnlgfigaaLawFns
import Derived.Handy
namespace Go.Proofs.Ytffdkfhnlgfigaa
open Go.RowKit

theorem bcell {W w1 : World} (hb : Below W.heap.size W w1) : (∀ b o, b < W.heap.size → w1.cell? ⟨b, o, none⟩ = W.cell? ⟨b, o, none⟩) ∧ (∀ b o, b < W.heap.size → w1.frozen? ⟨b, o, none⟩ = W.frozen? ⟨b, o, none⟩) :=
  ⟨fun b o h => hb.cell (p := ⟨b, o, none⟩) h, fun b o h => hb.frozen (p := ⟨b, o, none⟩) h⟩

set_option maxHeartbeats 400000 in
theorem szBits_any (z : Int) (A : Option Addr) (n c : Nat) (w : World) (hn : n ≤ maxLen) :
    Calls Try.prog 74 #[.agg #[.int .i64 z, .slice A n c], .int .i64 1048576] w fun e w' => e = .returned (.int .i64 (if (n : Int) ≤ 1048576 then 1048576 - n else -1)) ∧ Below w.heap.size w w' := by
  by_cases h : (n : Int) ≤ 1048576
  · have h2 : ¬ ((1048576 : Int) - n < 0) := by omega
    rw [if_pos h]
    go_enter Try.func74, Try.ntmps74
    go_wp2_with (go_at_call 103; refine (szIntS_any _ _ _ _ _ hn (by omega) (by omega)).mono ?_; rintro e w' ⟨rfl, rfl⟩)
    go_ret
    exact ⟨rfl, (Below.refl _ _).alloc (Nat.le_refl _) _⟩
  · rw [if_neg h]
    go_enter Try.func74, Try.ntmps74
    go_wp2_with (go_at_call 103; refine (szIntS_any _ _ _ _ _ hn (by omega) (by omega)).mono ?_; rintro e w' ⟨rfl, rfl⟩)
    go_ret
    exact ⟨rfl, (Below.refl _ _).alloc (Nat.le_refl _) _⟩

theorem szBits_ok (z : Int) (A : Option Addr) (n c : Nat) (w : World) (hn : n ≤ 1048576) :
    Calls Try.prog 74 #[.agg #[.int .i64 z, .slice A n c], .int .i64 1048576] w fun e w' => e = .returned (.int .i64 (1048576 - n)) ∧ Below w.heap.size w w' :=
  (szBits_any z A n c w (by unfold maxLen; omega)).mono fun _ _ ⟨he, hw⟩ => ⟨by rw [he, if_pos (by omega)], hw⟩
theorem szBits_big (z : Int) (A : Option Addr) (n c : Nat) (w : World) (hm : n ≤ maxLen) (hn : ¬ n ≤ 1048576) :
    Calls Try.prog 74 #[.agg #[.int .i64 z, .slice A n c], .int .i64 1048576] w fun e w' => e = .returned (.int .i64 (-1)) ∧ Below w.heap.size w w' :=
  (szBits_any z A n c w hm).mono fun _ _ ⟨he, hw⟩ => ⟨by rw [he, if_neg (by omega)], hw⟩

/-- The box of a bit vector that was handed over by value: block b holds z and the slice. -/
def Box (w : World) (b : Nat) (z : Int) (A : Option Addr) (n c : Nat) : Prop :=
  b < w.heap.size ∧ w.cell? ⟨b, 0, none⟩ = some (.int .i64 z) ∧ w.cell? ⟨b, 1, none⟩ = some (.slice A n c)
theorem Box.b {w w' : World} {b : Nat} {z : Int} {A : Option Addr} {n c : Nat} (h : Box w b z A n c) (hb : Below w.heap.size w w') : Box w' b z A n c :=
  ⟨Nat.lt_of_lt_of_le h.1 hb.size, (hb.cell (p := ⟨b, 0, none⟩) h.1).trans h.2.1, (hb.cell (p := ⟨b, 1, none⟩) h.1).trans h.2.2⟩
theorem Box.new (w : World) (z : Int) (A : Option Addr) (n c : Nat) (t : TypeId) : Box (w.alloc (.cells #[.int .i64 z, .slice A n c] t)) w.heap.size z A n c :=
  ⟨by simp, by simp [go_sem], by simp [go_sem]⟩

def NewVec (w : World) (z : Int) (n : Nat) (X : Nat → Int) (e : Ending) (w' : World) : Prop :=
  ∃ g, e = .returned (.agg #[.int .i64 z, .slice (some ⟨g, 0, none⟩) n n]) ∧ w.heap.size ≤ g ∧ ORow w' g n X ∧ Below w.heap.size w w'

set_option maxHeartbeats 400000 in
theorem toBits_any (z : Int) (A : Option Addr) (n c : Nat) (X : Nat → Int) (w : World) (hn : n ≤ 1048576) (hr : IRow w A n X) :
    Calls Try.prog 79 #[.agg #[.int .i64 z, .slice A n c]] w (NewVec w z n X) := by
  have HR := Lib.hid hr
  clear hr
  go_enter Try.func79, Try.ntmps79
  go_wp2_with fail
  refine (toIntS_any _ _ _ X _ hn ?_).mono ?_
  · exact HR.out.b ((((Below.refl _ _).alloc (Nat.le_refl _) _).alloc (by simp) _).alloc (by simp; omega) _)
  rintro e w1 ⟨g, rfl, hg, ho, hb⟩
  obtain ⟨hc, hf⟩ := bcell hb
  have hz : w.heap.size + 2 < w1.heap.size := by have := hb.size; simp at this; omega
  have hg2 : w.heap.size + 2 < g := by simp at hg; omega
  have HO := Lib.hid ho
  have HB := Lib.hid hb
  clear ho hb hg
  go_wp2_with fail
  refine bodyPost_ret (v := .agg #[.int .i64 z, .slice (some ⟨g, 0, none⟩) n n]) (by simp [results, Try.results79, go_sem, hc]) rfl ?_
  clear hc hf
  refine ⟨g, rfl, by omega, ((HO.out.setAt (by omega) _).setAt (by omega) _).setAt (by omega) _, ?_⟩
  have h0 := ((((Below.refl w.heap.size w).alloc (Nat.le_refl _) (Obj.cells #[Value.int IntKind.i64 z, Value.slice A n c] 56)).alloc (by simp) (Obj.cells #[Value.int IntKind.i64 0, Value.slice none 0 0] 30)).alloc (by simp; omega) (Obj.cells #[Value.int IntKind.i64 z, Value.slice none 0 0] 30)).trans (HB.out.mono (by simp; omega))
  exact below_setAt (below_setAt (below_setAt h0 (by omega) _) (by omega) _) (by omega) _

set_option maxHeartbeats 400000 in
theorem eqBits_yes (z y : Int) (A B : Option Addr) (n c d : Nat) (X Y : Nat → Int) (w : World) (hn : n ≤ 1048576) (hx : IRow w A n X) (hy : IRow w B n Y) (he : ∀ i, i < n → X i = Y i) (hz : z = y) :
    Calls Try.prog 82 #[.agg #[.int .i64 z, .slice A n c], .agg #[.int .i64 y, .slice B n d]] w (SameRow w true) := by
  subst hz
  have HX := Lib.hid hx
  have HY := Lib.hid hy
  have HE := Lib.hid he
  clear hx hy he
  go_enter Try.func82, Try.ntmps82
  go_wp2_with fail
  have HA : Below w.heap.size w ((w.alloc (Obj.cells #[Value.int IntKind.i64 z, Value.slice A n c] 30)).alloc (Obj.cells #[Value.int IntKind.i64 z, Value.slice B n d] 30)) :=
    ((Below.refl _ _).alloc (Nat.le_refl _) _).alloc (by simp) _
  refine (eqIntS_yes _ _ _ _ _ X Y _ hn (HX.out.b HA) (HY.out.b HA) HE.out).mono ?_
  rintro e w1 ⟨rfl, hb⟩
  have HB := Lib.hid (HA.trans (hb.mono (by simp; omega)))
  clear HA hb
  go_wp2_with fail
  go_ret
  exact ⟨rfl, HB.out⟩

theorem grown_left {w w1 : World} {o : Obj} {r : Option Nat} (h : (w.alloc o).grownBy w1 r) : w.grownBy w1 r :=
  ⟨h.os, h.tape, h.output, by have := h.size; simp at this; omega, fun k hk hne => (h.block k (by simp; omega) hne).trans (Below.heap_alloc w o k hk)⟩

set_option maxHeartbeats 400000 in
theorem markBits_any (z : Int) (g n c : Nat) (X : Nat → Int) (k0 : Int) (w : World) (hn : n ≤ 1048576) (hx : ORow w g n X) (h0 : 0 ≤ k0) (h1 : k0 ≤ 16777216) :
    Calls Try.prog 83 #[.agg #[.int .i64 z, .slice (some ⟨g, 0, none⟩) n c], .int .i64 k0] w fun e w' => e = .returned (.int .i64 (k0 + n)) ∧ ORow w' g n (fun i => k0 + i) ∧ w.grownBy w' (some g) := by
  have HX := Lib.hid hx
  clear hx
  go_enter Try.func83, Try.ntmps83
  go_wp2_with fail
  refine (markIntS_any _ _ _ X _ _ hn (HX.out.alloc _) h0 h1).mono ?_
  rintro e w1 ⟨rfl, ho, hg⟩
  have HO := Lib.hid ho
  have HG := Lib.hid hg
  clear ho hg
  go_wp2_with fail
  go_ret
  exact ⟨rfl, HO.out, grown_left HG.out⟩

end Go.Proofs.Ytffdkfhnlgfigaa
