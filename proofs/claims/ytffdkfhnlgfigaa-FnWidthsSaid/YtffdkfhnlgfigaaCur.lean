/- The cursor that the laws draw from: what it hands out is bounded, and it turns nothing but itself. -/
import Derived.Test.YtffdkfhnlgfigaaObjStr
import Derived.BigQuiet
namespace Go.Proofs.Ytffdkfhnlgfigaa
open Go.RowKit

def u8V (D : Nat → Int) (i : Nat) : Value := .int .u8 (D i)
/-- Block b is a cursor over n bytes that has been asked at most k times. -/
structure CurS (b : Nat) (A : Option Addr) (n c k : Nat) (D : Nat → Int) (w : World) : Prop where
  blk : ∃ (a : Nat) (s : Int), a ≤ k ∧ 0 ≤ s ∧ s < 18446744073709551616 ∧ w.heap[b]? = some (.cells #[.slice A n c, .int .i64 a, .int .u64 s] 76 (0, 0))
  row : Rd b A n (u8V D) w
  byt : ∀ i, i < n → 0 ≤ D i ∧ D i < 256
section
variable {g n c k : Nat} {A : Option Addr} {D : Nat → Int} {w w' : World}
theorem CurS.lt (h : CurS g A n c k D w) : g < w.heap.size := by
  obtain ⟨a, s, _, _, _, hb⟩ := h.blk
  exact (Array.getElem?_eq_some_iff.1 hb).1
theorem CurS.mono (h : CurS g A n c k D w) {m : Nat} (hm : k ≤ m) : CurS g A n c m D w := by
  obtain ⟨a, s, h1, h2⟩ := h.blk
  exact ⟨⟨a, s, by omega, h2⟩, h.row, h.byt⟩
theorem CurS.same (h : CurS g A n c k D w) (e : ∀ j, j < g + 1 → w'.heap[j]? = w.heap[j]?) : CurS g A n c k D w' := by
  obtain ⟨a, s, h1, h2, h3, h4⟩ := h.blk
  refine ⟨⟨a, s, h1, h2, h3, (e g (by omega)).trans h4⟩, fun hn => ?_, h.byt⟩
  obtain ⟨q, off, hA, hq, hc⟩ := h.row hn
  exact ⟨q, off, hA, hq, fun i hi => (World.cell?_of_block (a := ⟨q, off + i, none⟩) (e q (by omega))).trans (hc i hi)⟩
theorem CurS.b (h : CurS g A n c k D w) (hb : Below w.heap.size w w') : CurS g A n c k D w' := h.same fun j hj => hb.block j (by have := h.lt; omega)
end
/-- What every draw says: the cursor goes on, nothing else turns. -/
def Drawn (b : Nat) (A : Option Addr) (n c k : Nat) (D : Nat → Int) (w w' : World) : Prop := CurS b A n c k D w' ∧ Only b (b + 1) w w'

theorem only_same {lo hi : Nat} {w w1 w2 : World} (h : Only lo hi w w1) (h1 : w2.os = w1.os) (h2 : w2.tape = w1.tape) (h3 : w2.output = w1.output) (h4 : w2.heap = w1.heap) : Only lo hi w w2 :=
  ⟨h1.trans h.os, h2.trans h.tape, h3.trans h.output, by rw [h4]; exact h.size, fun k a d => by rw [h4]; exact h.block k a d⟩
theorem Drawn.go {g n c k a : Nat} {A : Option Addr} {D : Nat → Int} {w w' : World} {s : Int} (h : CurS g A n c k D w) (hb : w.heap[g]? = some (.cells #[.slice A n c, .int .i64 a, .int .u64 s] 76 (0, 0))) (ha : a ≤ k) (t : Int)
    (h1 : w'.os = w.os) (h2 : w'.tape = w.tape) (h3 : w'.output = w.output) (h4 : w'.heap = ((w.setCell ⟨g, 1, none⟩ (.int .i64 ((a : Int) + 1))).setCell ⟨g, 2, none⟩ (.int .u64 (IntKind.u64.wrap t))).heap) : Drawn g A n c (k + 1) D w w' := by
  have ho : Only g (g + 1) w ((w.setCell ⟨g, 1, none⟩ (.int .i64 ((a : Int) + 1))).setCell ⟨g, 2, none⟩ (.int .u64 (IntKind.u64.wrap t))) := (only_set _ _ _ _).trans (only_set _ _ _ _)
  have ho2 : Only g (g + 1) w w' := only_same ho h1 h2 h3 h4
  refine ⟨⟨⟨a + 1, IntKind.u64.wrap t, by omega, by rw [IntKind.wrap_u64]; omega, by rw [IntKind.wrap_u64]; omega, ?_⟩, fun hn => ?_, h.byt⟩, ho2⟩
  · rw [h4]; simp [World.setCell, Array.getElem?_modify, hb]
  · obtain ⟨q, off, hA, hq, hc⟩ := h.row hn
    exact ⟨q, off, hA, hq, fun i hi => (World.cell?_of_block (a := ⟨q, off + i, none⟩) (ho2.block q (Nat.lt_trans hq h.lt) (.inl hq))).trans (hc i hi)⟩

theorem low_byte (t : Int) : 0 ≤ wrap64 (bits .and .u64 (IntKind.u64.wrap t / 1099511627776) 255) ∧ wrap64 (bits .and .u64 (IntKind.u64.wrap t / 1099511627776) 255) ≤ 255 := by
  have h0 : 0 ≤ IntKind.u64.wrap t / 1099511627776 := by rw [IntKind.wrap_u64]; omega
  have h1 : IntKind.u64.wrap t / 1099511627776 < 18446744073709551616 := by rw [IntKind.wrap_u64]; omega
  rw [u64_and _ _ h0 h1 (by omega) (by omega)]
  generalize hm : (IntKind.u64.wrap t / 1099511627776).toNat &&& (255 : Int).toNat = m
  have hm2 : m ≤ 255 := by rw [← hm]; exact Nat.and_le_right
  have e : wrap64 (m : Int) = m := by unfold wrap64; omega
  rw [e]; omega

set_option maxHeartbeats 1000000 in
theorem cur_next {b n c k : Nat} {A : Option Addr} {D : Nat → Int} {w : World} (h : CurS b A n c k D w) (hk : k ≤ 1099511627776) (hn : n ≤ 1048576) :
    Calls Try.prog 89 #[.pointer (some ⟨b, 0, none⟩)] w fun e w' => ∃ x : Int, 0 ≤ x ∧ x ≤ 255 ∧ e = .returned (.int .i64 x) ∧ Drawn b A n c (k + 1) D w w' := by
  have H := Lib.hid h
  obtain ⟨a, s, ha, s0, s1, hb⟩ := h.blk
  have c0 : w.cell? ⟨b, 0, none⟩ = some (.slice A n c) := by simp [World.cell?, hb]
  have c1 : w.cell? ⟨b, 1, none⟩ = some (.int .i64 a) := by simp [World.cell?, hb]
  have c2 : w.cell? ⟨b, 2, none⟩ = some (.int .u64 s) := by simp [World.cell?, hb]
  have f1 : w.frozen? ⟨b, 1, none⟩ = false := by simp [World.frozen?, hb]
  have f2 : w.frozen? ⟨b, 2, none⟩ = false := by simp [World.frozen?, hb]
  have HB := Lib.hid hb
  clear hb h
  by_cases hlt : a < n
  · have hlt2 : (a : Int) < (n : Int) := by omega
    obtain ⟨q, off, rfl, hq, hc⟩ := H.out.row (by omega)
    have hx := hc a hlt
    unfold u8V at hx
    obtain ⟨x0, x1⟩ := H.out.byt a hlt
    clear hc
    go_enter Try.func89, Try.ntmps89
    go_wp2_with fail
    go_quiet (fail)
    go_wp2_with fail
    go_quiet (fail)
    go_wp2_with fail
    go_quiet (fail)
    go_wp2_with fail
    go_ret
    exact ⟨D a, x0, by omega, rfl, Drawn.go H.out HB.out ha _ rfl rfl rfl rfl⟩
  · have hlt2 : ¬ ((a : Int) < (n : Int)) := by omega
    go_enter Try.func89, Try.ntmps89
    go_wp2_with fail
    go_quiet (fail)
    go_wp2_with fail
    go_quiet (fail)
    go_wp2_with fail
    go_ret
    obtain ⟨y0, y1⟩ := low_byte (IntKind.u64.wrap (IntKind.u64.wrap (s * 6364136223846793005)) + 1442695040888963407)
    exact ⟨_, y0, y1, rfl, Drawn.go H.out HB.out ha _ rfl rfl rfl rfl⟩

theorem Drawn.trans {b n c k m : Nat} {A : Option Addr} {D : Nat → Int} {w w1 w2 : World} (h : Drawn b A n c k D w w1) (h2 : Drawn b A n c m D w1 w2) : Drawn b A n c m D w w2 := ⟨h2.1, h.2.trans h2.2⟩
theorem Drawn.low {b n c k m : Nat} {A : Option Addr} {D : Nat → Int} {w w1 : World} (h : Drawn b A n c k D w w1) (hk : k ≤ m) : Drawn b A n c m D w w1 := ⟨h.1.mono hk, h.2⟩
theorem CurS.still {b n c k : Nat} {A : Option Addr} {D : Nat → Int} {w : World} (h : CurS b A n c k D w) : Drawn b A n c k D w w := ⟨h, Only.refl _ _ _⟩

set_option maxHeartbeats 1000000 in
/-- A number from 0 to m - 1, or 0. -/
theorem cur_pick {b n c k : Nat} {A : Option Addr} {D : Nat → Int} {m : Int} {w : World} (h : CurS b A n c k D w) (hk : k ≤ 1000000000000) (hn : n ≤ 1048576) :
    Calls Try.prog 39 #[.pointer (some ⟨b, 0, none⟩), .int .i64 m] w fun e w' => ∃ x : Int, 0 ≤ x ∧ (x = 0 ∨ x < m) ∧ e = .returned (.int .i64 x) ∧ Drawn b A n c (k + 2) D w w' := by
  have H := Lib.hid h
  clear h
  by_cases h1 : m ≤ 1
  · go_enter Try.func39, Try.ntmps39
    go_wp2_with fail
    go_ret
    exact ⟨0, by omega, .inl rfl, rfl, H.out.still.low (by omega)⟩
  · by_cases h2 : (200 : Int) < m
    · go_enter Try.func39, Try.ntmps39
      go_wp2_with fail
      refine (cur_next H.out (by omega) hn).mono ?_; rintro e w1 ⟨x, x0, x1, rfl, hd⟩
      have H1 := Lib.hid hd
      clear hd
      go_wp2_with fail
      refine (cur_next H1.out.1 (by omega) hn).mono ?_; rintro e w2 ⟨y, y0, y1, rfl, hd⟩
      have H2 := Lib.hid (H1.out.trans hd)
      have hm0 : m ≠ 0 := by omega
      obtain ⟨v, hv⟩ : ∃ v, v = x * 256 + y := ⟨_, rfl⟩
      have z0 : 0 ≤ v % m := Int.emod_nonneg _ hm0
      have z1 : v % m < m := Int.emod_lt_of_pos _ (by omega)
      clear hd H1
      subst hv
      go_wp2_with fail
      go_ret
      exact ⟨_, z0, .inr z1, rfl, H2.out⟩
    · go_enter Try.func39, Try.ntmps39
      go_wp2_with fail
      refine (cur_next H.out (by omega) hn).mono ?_; rintro e w1 ⟨x, x0, x1, rfl, hd⟩
      have H1 := Lib.hid hd
      have hm0 : m ≠ 0 := by omega
      have z0 : 0 ≤ x % m := Int.emod_nonneg _ hm0
      have z1 : x % m < m := Int.emod_lt_of_pos _ (by omega)
      clear hd
      go_wp2_with fail
      go_ret
      exact ⟨_, z0, .inr z1, rfl, H1.out.low (by omega)⟩

theorem cur_one {b n c k : Nat} {A : Option Addr} {D : Nat → Int} {m : Int} {w : World} (h : CurS b A n c k D w) (hk : k ≤ 1000000000000) (hn : n ≤ 1048576) :
    Calls Try.prog 40 #[.pointer (some ⟨b, 0, none⟩), .int .i64 m] w fun e w' => ∃ x : Bool, e = .returned (.bool x) ∧ Drawn b A n c (k + 2) D w w' := by
  have H := Lib.hid h
  clear h
  go_enter Try.func40, Try.ntmps40
  go_wp2_with fail
  refine (cur_pick H.out (by omega) hn).mono ?_; rintro e w1 ⟨x, x0, x1, rfl, hd⟩
  have H1 := Lib.hid hd
  clear hd
  go_wp2_with fail
  go_ret
  exact ⟨_, rfl, H1.out⟩

/-- An element of a list of ints, each from lo to hi. -/
theorem cur_among {b n c k q : Nat} {A B : Option Addr} {d : Nat} {D X : Nat → Int} {lo hi : Int} {w : World} (h : CurS b A n c k D w) (hk : k ≤ 1000000000000) (hn : n ≤ 1048576) (h0 : 0 < q) (hq : q ≤ 1048576)
    (hr : GRow w B q (intV X)) (hne : ∀ g o, B = some ⟨g, o, none⟩ → b < g) (hX : ∀ i, i < q → lo ≤ X i ∧ X i ≤ hi) :
    Calls Try.prog 41 #[.pointer (some ⟨b, 0, none⟩), .slice B q d] w fun e w' => ∃ x : Int, lo ≤ x ∧ x ≤ hi ∧ e = .returned (.int .i64 x) ∧ Drawn b A n c (k + 2) D w w' := by
  have H := Lib.hid h
  obtain ⟨g, o, rfl, hg, hc⟩ := hr h0
  have hbg := hne g o rfl
  have HC := Lib.hid hc
  have HX := Lib.hid hX
  clear h hr hne hc hX
  go_enter Try.func41, Try.ntmps41
  go_wp2_with fail
  refine (cur_pick H.out (by omega) hn).mono ?_; rintro e w1 ⟨x, x0, x1, rfl, hd⟩
  obtain ⟨j, rfl⟩ : ∃ j : Nat, x = j := ⟨x.toNat, by omega⟩
  have hj : j < q := by omega
  have hcell := (World.cell?_of_block (a := ⟨g, o + j, none⟩) (hd.2.block g hg (.inr (by omega)))).trans (HC.out j hj)
  unfold intV at hcell
  obtain ⟨l0, l1⟩ := HX.out j hj
  have H1 := Lib.hid hd
  clear hd
  go_wp2_with fail
  go_ret
  exact ⟨_, l0, l1, rfl, H1.out⟩

theorem Drawn.alloc {b n c k : Nat} {A : Option Addr} {D : Nat → Int} {w w1 : World} (h : Drawn b A n c k D w w1) (o : Obj) : Drawn b A n c k D w (w1.alloc o) :=
  ⟨h.1.b ((Below.refl _ _).alloc (Nat.le_refl _) o), h.2.trans (only_below ((Below.refl _ _).alloc (Nat.le_refl _) o))⟩
/-- A slice that has just been built of literals. -/
theorem lit_row (w : World) (vs : List Value) (F : Nat → Value) (t : TypeId) (hF : ∀ i v, vs[i]? = some v → F i = v) : GRow (w.alloc (.cells vs.toArray t)) (some ⟨w.heap.size, 0, none⟩) vs.length F := fun _ =>
  ⟨w.heap.size, 0, rfl, by simp, fun i hi => by
    have h := (boxed w vs.toArray t).now i vs[i] (by simp [hi])
    rw [Nat.zero_add, h, hF i vs[i] (by simp [hi])]⟩
theorem int_row (w : World) (xs : List Int) (t : TypeId) : GRow (w.alloc (.cells (xs.map (Value.int .i64)).toArray t)) (some ⟨w.heap.size, 0, none⟩) xs.length (intV fun i => xs.getD i 0) := by
  have h := lit_row w (xs.map (Value.int .i64)) (intV fun i => xs.getD i 0) t (fun i v hv => by
    rw [List.getElem?_map] at hv
    cases h : xs[i]? with
    | none => rw [h] at hv; simp at hv
    | some x => rw [h] at hv; simp at hv; rw [← hv]; simp [intV, List.getD, h])
  rwa [List.length_map] at h
theorem str_row (w : World) (xs : List ByteArray) (t : TypeId) : GRow (w.alloc (.cells (xs.map Value.string).toArray t)) (some ⟨w.heap.size, 0, none⟩) xs.length (strV fun i => xs.getD i ByteArray.empty) := by
  have h := lit_row w (xs.map Value.string) (strV fun i => xs.getD i ByteArray.empty) t (fun i v hv => by
    rw [List.getElem?_map] at hv
    cases h : xs[i]? with
    | none => rw [h] at hv; simp at hv
    | some x => rw [h] at hv; simp at hv; rw [← hv]; simp [strV, List.getD, h])
  rwa [List.length_map] at h

end Go.Proofs.Ytffdkfhnlgfigaa
