/- What is drawn for bit vectors. -/
import Derived.Test.YtpmedeefoaoabaaCur2
import Derived.Test.YtpmedeefoaoabaaWordsG
import Derived.Test.YtpmedeefoaoabaaPutF
import Derived.Deep.RegionLaw
namespace Go.Proofs.Ytpmedeefoaoabaa
open Go.RowKit

theorem Drawn.set {b n c k r i : Nat} {A : Option Addr} {D : Nat → Int} {w w1 : World} (h : Drawn b A n c k D w w1) (hlt : b < w.heap.size) (hr : w.heap.size ≤ r) (v : Value) : Drawn b A n c k D w (w1.setCell ⟨r, i, none⟩ v) :=
  h.lowB hlt (below_setAt (Below.refl _ _) hr v)
theorem NBX.only {base q b : Nat} {cs : Array Value} {t : TypeId} {w w' : World} (h : NBX base q cs t w) (ho : Only b (b + 1) w w') (hne : q ≠ b) : NBX base q cs t w' := ⟨(ho.block q h.lt (by omega)).trans h.blk, h.ge⟩
theorem NBX.low {base q B : Nat} {cs : Array Value} {t : TypeId} {w w' : World} (h : NBX base q cs t w) (hb : Below B w w') (hq : q < B) : NBX base q cs t w' := ⟨(hb.block q hq).trans h.blk, h.ge⟩
theorem NBX.mk0 (w : World) (cs : Array Value) (t : TypeId) : NBX w.heap.size w.heap.size cs t (w.alloc (.cells cs t)) := ⟨Go.Deep.blk_alloc_new _ _, Nat.le_refl _⟩
theorem NBX.at1 {base q : Nat} {cs : Array Value} {t : TypeId} {w : World} (h : NBX base q cs t w) (o : Obj) : NBX base q cs t (w.alloc o) := h.b ((Below.refl _ _).alloc (Nat.le_refl _) o)
/-- A drawn vector that fills the room of its words. -/
def FullDrawn (most b : Nat) (A : Option Addr) (n c k : Nat) (D : Nat → Int) (w : World) (e : Ending) (w' : World) : Prop :=
  ∃ (z m g : Nat) (X : Nat → Int), z ≤ most ∧ m = (z + 15) / 16 ∧ e = .returned (.agg #[.int .i64 z, .slice (some ⟨g, 0, none⟩) m m]) ∧ Ow w.heap.size w'.heap.size 3 (some ⟨g, 0, none⟩) m (intV X) w' ∧ Drawn b A n c k D w w'
/-- What is drawn by 'bits': a valid vector. -/
def FullDrawnG (most b : Nat) (A : Option Addr) (n c k : Nat) (D : Nat → Int) (w : World) (e : Ending) (w' : World) : Prop :=
  ∃ (z m g : Nat) (X : Nat → Int), z ≤ most ∧ m = (z + 15) / 16 ∧ Good z m X ∧ e = .returned (.agg #[.int .i64 z, .slice (some ⟨g, 0, none⟩) m m]) ∧ Ow w.heap.size w'.heap.size 3 (some ⟨g, 0, none⟩) m (intV X) w' ∧ Drawn b A n c k D w w'
/-- What is drawn: a vector whose words are the call's own. -/
def VecDrawn (lo hi : Int) (b : Nat) (A : Option Addr) (n c k : Nat) (D : Nat → Int) (w : World) (e : Ending) (w' : World) : Prop :=
  ∃ (z : Int) (m d : Nat) (B : Option Addr) (X : Nat → Int), lo ≤ z ∧ z ≤ hi ∧ m ≤ 257 ∧ m ≤ d ∧ d ≤ maxLen ∧ e = .returned (.agg #[.int .i64 z, .slice B m d]) ∧ Ow w.heap.size w'.heap.size 3 B m (intV X) w' ∧ Drawn b A n c k D w w'

def putB (F : Nat → Bool) (k : Nat) (x : Bool) (i : Nat) : Bool := if i = k then x else F i
theorem owned_putB {B k c : Nat} {A : Option Addr} {F : Nat → Bool} {w : World} (x : Bool) (h : w.ownsRow B 4 1 (.slice A k c) k (vals (boolV F) k)) : w.ownsRow B 4 1 (.slice A k c) k (vals (boolV (putB F k x)) k) := by
  have e : vals (boolV (putB F k x)) k = vals (boolV F) k := by
    unfold vals
    apply List.map_congr_left
    intro i hi
    have := List.mem_range.1 hi
    simp [boolV, putB, show i ≠ k by omega]
  rw [e]; exact h
theorem putB_at (F : Nat → Bool) (k : Nat) (x : Bool) : boolV (putB F k x) k = .bool x := by simp [boolV, putB]
set_option maxRecDepth 100000 in
set_option maxHeartbeats 1000000 in
theorem cur_bitsG {b n c k most : Nat} {A : Option Addr} {D : Nat → Int} {w : World} (h : CurS b A n c k D w) (hk : k ≤ 100000000) (hn : n ≤ 1048576) (hmo : most ≤ 4095) :
    Calls Try.prog 27 #[.pointer (some ⟨b, 0, none⟩), .int .i64 most] w (FullDrawnG most b A n c (k + 2 + 2 * most) D w) := by
  have hlt := h.lt
  have H := Lib.hid (h.still.alloc (.cells #[.int .i64 0, .slice none 0 0] 26))
  have HX := Lib.hid (NBX.mk0 w #[.int .i64 0, .slice none 0 0] 26)
  clear h
  go_enter Try.func27, Try.ntmps27
  go_wp2_with fail
  refine (cur_pick H.out.1 (by omega) hn).mono ?_; rintro e w1 ⟨x, x0, x1, rfl, hd⟩
  have H1 := Lib.hid (H.out.trans hd)
  have HX1 := Lib.hid (HX.out.only hd.2 (by omega))
  have hsz1 := hd.2.size
  have hx : x ≤ most := by omega
  simp only [World.size_alloc] at hsz1
  clear hd H HX
  go_wp2_with fail
  go_loopw [5, 6] (fun v r wr => ∃ (j m : Nat) (F : Nat → Bool) (A1 : Option Addr) (c1 : Nat), j + m ≤ most ∧ v = .slice A1 j c1 ∧ r = .int .i64 m ∧ wr.ownsRow (w.heap.size + 1) 4 1 (.slice A1 j c1) j (vals (boolV F) j) ∧ Drawn b A n c (k + 2 + 2 * j) D w wr ∧ NBX w.heap.size w.heap.size #[.int .i64 0, .slice none 0 0] 26 wr ∧ w.heap.size + 1 ≤ wr.heap.size) (fun _ r _ => (intOf r).toNat)
  case atStart => exact ⟨0, x.toNat, fun _ => false, none, 0, by omega, rfl, by rw [Int.toNat_of_nonneg x0], World.ownsRow_nil _ _ _ _, H1.out.low (by omega), HX1.out, by omega⟩
  case round =>
    obtain ⟨j, m, F, A1, c1, hjm, rfl, rfl, hown, hd, hnb, hsz⟩ := hrel
    have HO := Lib.hid hown
    have H2 := Lib.hid hd
    have HX2 := Lib.hid hnb
    clear hown hd hnb H1 HX1
    by_cases hm : m = 0
    · subst hm
      have HB := Lib.hid (show BRow wr A1 j F from (owned_vec HO.out).row)
      go_wp2_with fail
      refine (spec_biSome A1 j c1 _ F _ (by omega) rfl HB.out).mono ?_; rintro e w3 ⟨g, rfl, hg, ho, hb⟩
      have HX3 := Lib.hid (HX2.out.b hb)
      have H3 := Lib.hid (H2.out.lowB hlt (hb.mono H2.out.2.size))
      have HO3 := Lib.hid ho
      have d0 := HX3.out.cell 0 _ rfl
      have d1 := HX3.out.cell 1 _ rfl
      have f0 := HX3.out.free 0
      have f1 := HX3.out.free 1
      clear hb ho HO HX2 H2 HB
      go_wp2_with fail
      refine bodyPost_ret (v := .agg #[.int .i64 j, .slice (some ⟨g, 0, none⟩) ((j + 15) / 16) ((j + 15) / 16)]) (by simp [results, Try.results27, go_sem, d0, d1]) rfl ?_
      have hgl := HO3.out.lt
      exact ⟨j, _, g, _, by omega, rfl, good_of_words (f := fun i => decide (i < j) && F i) (by omega) rfl (fun i hi => by simp only [show ¬ i < j by omega, decide_false, Bool.false_and]), rfl, ow_of_own (m := (j + 15) / 16) (show GOwn _ 3 g _ (intV _) from (HO3.out.setAt (by omega) _).setAt (by omega) _) (by omega) (Nat.le_refl _), ((H3.out.set hlt (Nat.le_refl _) _).set hlt (Nat.le_refl _) _).low (by omega)⟩
    · go_wp2_with fail
      refine (cur_one H2.out.1 (by omega) hn).mono ?_; rintro e w3 ⟨y, rfl, hd⟩
      have H3 := Lib.hid (H2.out.trans hd)
      have HX3 := Lib.hid (HX2.out.only hd.2 (by omega))
      have HO3 := Lib.hid (owned_only HO.out hd.2 (by omega))
      have hsz3 := Nat.le_trans hsz hd.2.size
      clear hd HO HX2 H2
      go_wp2_with (at_builtin; refine wpList_push rfl _ _ 58 rfl (w.heap.size + 1) 4 (.bool false) 1 Try.underlying58 infoB rfl A1 j c1 (boolV (putB F j y)) (.bool y) w3 rfl (owned_putB y HO3.out) rfl (putB_at F j y) rfl (by omega) (by omega) hsz3 ?_)
      intro A' c' w4 hown' hb4
      have HO5 := Lib.hid hown'
      have H5 := Lib.hid (H3.out.lowB hlt (hb4.mono (by omega)))
      have HX5 := Lib.hid (HX3.out.low hb4 (by omega))
      have hsz5 := Nat.le_trans hsz3 hb4.size
      clear hown' hb4 HO3 H3 HX3
      go_wp2_with fail
      go_roundw
      case rel => exact ⟨j + 1, m - 1, _, A', c', by omega, rfl, by go_num, HO5.out, H5.out.low (by omega), HX5.out, hsz5⟩
      case measure => simp [intOf]; omega
theorem cur_bits {b n c k most : Nat} {A : Option Addr} {D : Nat → Int} {w : World} (h : CurS b A n c k D w) (hk : k ≤ 100000000) (hn : n ≤ 1048576) (hmo : most ≤ 4095) :
    Calls Try.prog 27 #[.pointer (some ⟨b, 0, none⟩), .int .i64 most] w (FullDrawn most b A n c (k + 2 + 2 * most) D w) :=
  (cur_bitsG h hk hn hmo).mono fun _ _ ⟨z, m, g, X, h1, h2, _, h3, h4, h5⟩ => ⟨z, m, g, X, h1, h2, h3, h4, h5⟩


theorem i64_small {x : Int} (h0 : -4611686018427387904 ≤ x) (h1 : x ≤ 4611686018427387904) : IntKind.i64.wrap x = x := by
  rw [IntKind.wrap_i64]; omega
def updV (F : Nat → Int) (k : Nat) (x : Int) (i : Nat) : Int := if i = k then x else F i
set_option maxRecDepth 100000 in
set_option maxHeartbeats 1000000 in
/-- One int put behind a row that fills its room: a new block. -/
theorem step_append_full {ops : Array Oper} {o : Oper} {a : Act} {K : Act → World → Prop} {Q : Exit → Act → World → Prop} {E : Prop} (hgd : o.guard = none) (s x : Operand)
    (ho : o.op = .call { callee := .builtin .append, args := #[s, x], argTypes := #[24, 24] }) {w : World} {m g nb : Nat} {F : Nat → Int} {y : Int}
    (hs : a.eval s = .slice (some ⟨g, 0, none⟩) m m) (hx : a.eval x = .slice (some ⟨nb, 0, none⟩) 1 1) (hr : GRow w (some ⟨g, 0, none⟩) m (intV F)) (hy : w.cell? ⟨nb, 0, none⟩ = some (.int .i64 y)) (hm : m ≤ 1024)
    (h : ∀ c' w', Ow w.heap.size w'.heap.size 3 (some ⟨w.heap.size, 0, none⟩) (m + 1) (intV (updV F m y)) w' → Below w.heap.size w w' → m + 1 ≤ c' → c' ≤ maxLen → K (a.put o.dst (.slice (some ⟨w.heap.size, 0, none⟩) (m + 1) c')) w') :
    if Region.wanted o (yielded ops a.tmps) = true then Oper.wp Try.prog o a w K Q else E := by
  have hw : Region.wanted o (yielded ops a.tmps) = true := by simp [Region.wanted, hgd]
  rw [if_pos hw]
  obtain ⟨i, hi, hz0, hsz, hby⟩ := info_parts infoI
  have hrun := run_append_grow (P := Try.prog) w 24 o.type 3 i (.int .i64 0) Try.underlying24 hi hz0 ⟨g, 0, none⟩ m m (vals (intV F) m) (by rw [hsz, vals_len, Nat.mul_one])
    (fun j u hj => by
      have hlt : j < m := by have := (List.getElem?_eq_some_iff.1 hj).1; simpa [vals_len] using this
      rw [vals_at _ _ _ hlt] at hj
      injection hj with hj
      obtain ⟨b, off, hA, _, hc⟩ := hr (by omega)
      injection hA with hA; injection hA with e1 e2; subst e1 e2
      have := hc j hlt
      rw [Nat.zero_add] at this
      rw [addr_add, Nat.zero_add, this, hj])
    ⟨nb, 0, none⟩ 1 1 [.int .i64 y] (by rw [hsz]; rfl)
    (fun j u hj => by
      match j, hj with
      | 0, hj => simp at hj; subst hj; rw [addr_add]; exact hy)
    (by omega) (by omega) (growslice_fits (by omega) (by rw [hby]; omega))
  unfold Oper.wp execOp
  simp only [ho, resolve, invoke, builtin, Sem.run_bind, Sem.run_pure, Result.andThen_ok, List.map_toArray, List.map_cons, List.map_nil, hs, hx, hrun]
  refine h _ _ ?_ ⟨rfl, rfl, rfl, by simp, fun k hk => heap_alloc_old w.drew _ hk⟩ (grownCap_ge w (m + 1) m _) (grownCap_le_maxLen w (m + 1) m _ (by unfold maxLen; omega))
  refine ow_of_own (m := m + 1) (g := w.heap.size) ⟨_, heap_alloc_new w.drew _, ?_, fun k hk => ?_⟩ (Nat.le_refl _) (Nat.le_refl _)
  · simp [vals_len]
  · by_cases e : k < m
    · rw [Array.getElem?_append_left (by simp [vals_len]; omega), Array.getElem?_append_left (by simp [vals_len]; omega)]
      rw [List.getElem?_toArray, vals_at _ _ _ e]
      simp [intV, updV, show k ≠ m by omega]
    · obtain rfl : k = m := by omega
      rw [Array.getElem?_append_left (by simp [vals_len]), Array.getElem?_append_right (by simp [vals_len])]
      simp [vals_len, intV, updV]
theorem grow_only {b n : Nat} {A : Option Addr} {F : Nat → Value} {w w' : World} (h : GRow w A n F) (ho : Only b (b + 1) w w') (hne : ∀ g o, A = some ⟨g, o, none⟩ → b < g) : GRow w' A n F := fun hn => by
  obtain ⟨q, off, hA, hq, hc⟩ := h hn
  have := hne q off hA
  exact ⟨q, off, hA, Nat.lt_of_lt_of_le hq ho.size, fun i hi => (World.cell?_of_block (a := ⟨q, off + i, none⟩) (ho.block q hq (.inr (by omega)))).trans (hc i hi)⟩
theorem Ow.seg0 {lo hi n g : Nat} {t : TypeId} {F : Nat → Value} {w : World} (h : Ow lo hi t (some ⟨g, 0, none⟩) n F w) (hn : 0 < n) : OSeg w t g 0 n F ∧ lo ≤ g ∧ g < hi := by
  obtain ⟨q, off, hA, h1, h2, hs⟩ := h.seg hn
  injection hA with hA; injection hA with e1 e2; subst e1 e2
  exact ⟨hs, h1, h2⟩
theorem ne_of_blk {b g : Nat} (h : b < g) : ∀ q o, (some (⟨g, 0, none⟩ : Addr)) = some ⟨q, o, none⟩ → b < q := fun q o e => by injection e with e; injection e with e1 e2; omega
theorem undrew {b n c k : Nat} {A : Option Addr} {D : Nat → Int} {w w' : World} (h : Drawn b A n c k D w.drew w') : Drawn b A n c k D w w' := ⟨h.1, ⟨h.2.os, h.2.tape, h.2.output, h.2.size, h.2.block⟩⟩
theorem CurS.drew {b n c k : Nat} {A : Option Addr} {D : Nat → Int} {w : World} (h : CurS b A n c k D w) : CurS b A n c k D w.drew := h.same fun _ _ => rfl
theorem Drawn.to {b n c k : Nat} {A : Option Addr} {D : Nat → Int} {w w1 w2 : World} (h : Drawn b A n c k D w w1) (hlt : b < w.heap.size) (h1 : w2.os = w1.os) (h2 : w2.tape = w1.tape) (h3 : w2.output = w1.output) (h4 : w1.heap.size ≤ w2.heap.size) (h5 : ∀ j, j < w.heap.size → w2.heap[j]? = w1.heap[j]?) : Drawn b A n c k D w w2 :=
  h.lowB hlt ⟨h1, h2, h3, h4, h5⟩

set_option maxRecDepth 100000 in
set_option maxHeartbeats 4000000 in
theorem cur_anyBits {b n c k : Nat} {A : Option Addr} {D : Nat → Int} {w : World} (h : CurS b A n c k D w) (hk : k ≤ 1000000) (hn : n ≤ 1048576) :
    Calls Try.prog 33 #[.pointer (some ⟨b, 0, none⟩)] w (VecDrawn (-1) 4096 b A n c (k + 100) D w) := by
  have hlt := h.lt
  have H := Lib.hid (h.still.alloc (.cells #[.int .i64 0, .slice none 0 0] 26))
  have HX := Lib.hid (NBX.mk0 w #[.int .i64 0, .slice none 0 0] 26)
  clear h
  go_enter Try.func33, Try.ntmps33
  go_wp2_with fail
  refine (cur_bits (most := 40) H.out.1 (by omega) hn (by omega)).mono ?_; rintro e w1 ⟨z, m, gB, X, z1, hm, rfl, ho, hd⟩
  have hm2 : m ≤ 256 := by omega
  have HM := Lib.hid hm
  clear hm
  have H1 := Lib.hid ((H.out.trans hd).alloc (.cells #[.int .i64 z, .slice (some ⟨gB, 0, none⟩) m m] 26))
  have HR := Lib.hid ((HX.out.only hd.2 (by omega)).at1 (.cells #[.int .i64 z, .slice (some ⟨gB, 0, none⟩) m m] 26))
  have HB := Lib.hid (NBX.mk0 w1 #[.int .i64 z, .slice (some ⟨gB, 0, none⟩) m m] 26)
  have HO := Lib.hid ((owned ho).alloc (.cells #[.int .i64 z, .slice (some ⟨gB, 0, none⟩) m m] 26))
  have hsz1 := hd.2.size
  simp only [World.size_alloc] at hsz1
  clear hd ho H HX
  go_wp2_with fail
  refine (cur_pick H1.out.1 (by omega) hn).mono ?_; rintro e w2 ⟨x, x0, x1, rfl, hd⟩
  have H2 := Lib.hid (H1.out.trans hd)
  have HR2 := Lib.hid (HR.out.only hd.2 (by omega))
  have HB2 := Lib.hid (HB.out.only hd.2 (by omega))
  have HO2 := Lib.hid (HO.out.far hd.2 (.inr (by simp; omega)))
  have hsz2 := hd.2.size
  simp only [World.size_alloc] at hsz2 HO2
  clear hd H1 HR HB HO
  by_cases e1 : x = 1
  · subst e1
    have c0 := HB2.out.cell 0 _ rfl
    have f0 := HB2.out.free 0
    have H2D := Lib.hid H2.out.1.drew
    go_wp2_with fail
    go_region_with (go_at_call 32; (first | refine (cur_pick H2.out.1 (by omega) hn).mono ?_ | refine (cur_pick H2D.out (by omega) hn).mono ?_); rintro e w3 ⟨y, y0, y1, rfl, hd'⟩; have hd := undrew hd'; have H3 := Lib.hid (H2.out.trans hd); have HR3 := Lib.hid (HR2.out.only hd.2 (by omega)); have HB3 := Lib.hid (HB2.out.only hd.2 (by omega)); have HO3 := Lib.hid (HO2.out.far hd.2 (.inr (by omega))); have hsz3 := hd.2.size; have c03 := HB3.out.cell 0 _ rfl; have f03 := HB3.out.free 0; have hw1 : IntKind.i64.wrap (y - 1) = y - 1 := i64_small (by omega) (by omega); have hw2 : IntKind.i64.wrap (z + (y - 1)) = z + (y - 1) := i64_small (by omega) (by omega); clear hd hd')
    all_goals
      have H4 := Lib.hid (H3.out.set (r := w1.heap.size) (i := 0) hlt (by omega) (.int .i64 (z + (y - 1))))
      have HR4 := Lib.hid (HR3.out.only (only_set w3 w1.heap.size 0 (.int .i64 (z + (y - 1)))) (by omega))
      have HB4 := Lib.hid (HB3.out.set 0 (.int .i64 (z + (y - 1))))
      have HO4 := Lib.hid (HO3.out.far (only_set w3 w1.heap.size 0 (.int .i64 (z + (y - 1)))) (.inl (Nat.le_refl _)))
      try simp only [hw1, hw2]
      clear c0 f0 c03 f03 H3 HR3 HB3 HO3 hw1 hw2
      generalize w3.setCell ⟨w1.heap.size, 0, none⟩ (.int .i64 (z + (y - 1))) = w4 at *
      have c0 := HB4.out.cell 0 _ rfl
      have c1 := HB4.out.cell 1 _ rfl
      have d0 := HR4.out.cell 0 _ rfl
      have d1 := HR4.out.cell 1 _ rfl
      have g0 := HR4.out.free 0
      have g1 := HR4.out.free 1
      go_wp2_with fail
      refine bodyPost_ret (v := .agg #[.int .i64 (z + (y - 1)), .slice (some ⟨gB, 0, none⟩) (m) (m)]) (by simp [results, Try.results33, go_sem, d0, d1]) rfl ?_
      have HF := (HO4.out.setC (q := w.heap.size) (Nat.le_refl _) 0 (.int .i64 (z + (y - 1)))).setC (q := w.heap.size) (Nat.le_refl _) 1 (.slice (some ⟨gB, 0, none⟩) (m) (m))
      exact ⟨_, _, _, _, _, by omega, by omega, by omega, by omega, by (unfold maxLen; omega), rfl, HF.now.mono (by omega) HF.top, ((H4.out.set hlt (Nat.le_refl _) _).set hlt (Nat.le_refl _) _).low (by omega)⟩
  by_cases e3 : x = 3
  · subst e3
    go_wp2_with fail
    refine (cur_pick H2.out.1 (by omega) hn).mono ?_; rintro e w3 ⟨y, y0, y1, rfl, hd⟩
    have H3 := Lib.hid (H2.out.trans hd)
    have HR3 := Lib.hid (HR2.out.only hd.2 (by omega))
    have HB3 := Lib.hid (HB2.out.only hd.2 (by omega))
    have hsz3 := hd.2.size
    clear hd H2 HR2 HB2 HO2
    obtain ⟨v, hv⟩ : ∃ v : Nat, (4096 : Int) - y = v := ⟨(4096 - y).toNat, by omega⟩
    have HV := Lib.hid hv
    clear hv
    go_wp2_with fail
    rw [HV.out]
    refine (spec_biNew v _ w3 (by have := HV.out; omega) rfl).mono ?_; rintro e w4 ⟨g, rfl, hg, ho, hb⟩
    have HR4 := Lib.hid (HR3.out.b hb)
    have HB4 := Lib.hid (HB3.out.b hb)
    have H4 := Lib.hid (H3.out.lowB hlt (hb.mono (by omega)))
    have hgl := ho.lt
    have hv4 : v ≤ 4096 := by have := HV.out; omega
    have HO4 := Lib.hid (show At w3.heap.size w4.heap.size (Ow w3.heap.size w4.heap.size 3 (some ⟨g, 0, none⟩) ((v + 15) / 16) (intV fun _ => 0)) w4 from ⟨ow_of_own (m := (v + 15) / 16) (show GOwn w4 3 g _ (intV fun _ => 0) from ho) (by omega) (Nat.le_refl _), Nat.le_refl _, Ow.lives _ _ _ _ _ _⟩)
    have s0 := HB4.out.cell 0 _ rfl
    have s1 := HB4.out.cell 1 _ rfl
    have s2 := HB4.out.free 0
    have s3 := HB4.out.free 1
    have d0 := HR4.out.cell 0 _ rfl
    have d1 := HR4.out.cell 1 _ rfl
    have g0 := HR4.out.free 0
    have g1 := HR4.out.free 1
    have hne1 : ¬ (w.heap.size = w1.heap.size) := by omega
    have hne2 : ¬ (w1.heap.size = w.heap.size) := by omega
    clear hb ho HR3 HB3 H3
    go_wp2_with fail
    refine bodyPost_ret (v := .agg #[.int .i64 v, .slice (some ⟨g, 0, none⟩) ((v + 15) / 16) ((v + 15) / 16)]) (by simp [results, Try.results33, go_sem, d0, d1]) rfl ?_
    have HF := (((HO4.out.setC (q := w1.heap.size) (by omega) 0 (.int .i64 v)).setC (q := w1.heap.size) (by omega) 1 (.slice (some ⟨g, 0, none⟩) ((v + 15) / 16) ((v + 15) / 16))).setC (q := w.heap.size) (by omega) 0 (.int .i64 v)).setC (q := w.heap.size) (by omega) 1 (.slice (some ⟨g, 0, none⟩) ((v + 15) / 16) ((v + 15) / 16))
    exact ⟨_, _, _, _, _, by omega, by omega, by omega, by omega, by (unfold maxLen; omega), rfl, HF.now.mono (by omega) HF.top, ((((H4.out.set (r := w1.heap.size) hlt (by omega) _).set (r := w1.heap.size) hlt (by omega) _).set (r := w.heap.size) hlt (by omega) _).set (r := w.heap.size) hlt (by omega) _).low (by omega)⟩
  by_cases e4 : x = 4
  · subst e4
    go_wp2_with fail
    refine (cur_pick H2.out.1 (by omega) hn).mono ?_; rintro e w3 ⟨y, y0, y1, rfl, hd⟩
    have H3 := Lib.hid (H2.out.trans hd)
    have HR3 := Lib.hid (HR2.out.only hd.2 (by omega))
    have HB3 := Lib.hid (HB2.out.only hd.2 (by omega))
    have hsz3 := hd.2.size
    clear hd H2 HR2 HB2 HO2
    obtain ⟨v, hv⟩ : ∃ v : Nat, (16 : Int) * y = v := ⟨(16 * y).toNat, by omega⟩
    have HV := Lib.hid hv
    have hv4 : v ≤ 4096 := by omega
    clear hv
    go_wp2_with fail
    rw [HV.out]
    refine (spec_biNew v _ w3 hv4 rfl).mono ?_; rintro e w4 ⟨g, rfl, hg, ho, hb⟩
    have HR4 := Lib.hid (HR3.out.b hb)
    have HB4 := Lib.hid (HB3.out.b hb)
    have H4 := Lib.hid (H3.out.lowB hlt (hb.mono (by omega)))
    have hgl := ho.lt
    have HO4 := Lib.hid (show At w3.heap.size w4.heap.size (Ow w3.heap.size w4.heap.size 3 (some ⟨g, 0, none⟩) ((v + 15) / 16) (intV fun _ => 0)) w4 from ⟨ow_of_own (m := (v + 15) / 16) (show GOwn w4 3 g _ (intV fun _ => 0) from ho) (by omega) (Nat.le_refl _), Nat.le_refl _, Ow.lives _ _ _ _ _ _⟩)
    have s0 := HB4.out.cell 0 _ rfl
    have s1 := HB4.out.cell 1 _ rfl
    have s2 := HB4.out.free 0
    have s3 := HB4.out.free 1
    have d0 := HR4.out.cell 0 _ rfl
    have d1 := HR4.out.cell 1 _ rfl
    have g0 := HR4.out.free 0
    have g1 := HR4.out.free 1
    have hne1 : ¬ (w.heap.size = w1.heap.size) := by omega
    have hne2 : ¬ (w1.heap.size = w.heap.size) := by omega
    clear hb ho HR3 HB3 H3
    go_wp2_with fail
    refine bodyPost_ret (v := .agg #[.int .i64 v, .slice (some ⟨g, 0, none⟩) ((v + 15) / 16) ((v + 15) / 16)]) (by simp [results, Try.results33, go_sem, d0, d1]) rfl ?_
    have HF := (((HO4.out.setC (q := w1.heap.size) (by omega) 0 (.int .i64 v)).setC (q := w1.heap.size) (by omega) 1 (.slice (some ⟨g, 0, none⟩) ((v + 15) / 16) ((v + 15) / 16))).setC (q := w.heap.size) (by omega) 0 (.int .i64 v)).setC (q := w.heap.size) (by omega) 1 (.slice (some ⟨g, 0, none⟩) ((v + 15) / 16) ((v + 15) / 16))
    exact ⟨_, _, _, _, _, by omega, by omega, by omega, by omega, by (unfold maxLen; omega), rfl, HF.now.mono (by omega) HF.top, ((((H4.out.set (r := w1.heap.size) hlt (by omega) _).set (r := w1.heap.size) hlt (by omega) _).set (r := w.heap.size) hlt (by omega) _).set (r := w.heap.size) hlt (by omega) _).low (by omega)⟩
  by_cases e0 : x = 0
  · subst e0
    have c1 := HB2.out.cell 1 _ rfl
    have f1 := HB2.out.free 1
    have H2D := Lib.hid H2.out.1.drew
    go_wp2_with fail
    go_region_law (first
      | (have hz := HB3; clear hz; refine step_append_full rfl (.tmp 11) (.tmp 14) rfl rfl rfl ((HO3.out.alloc _).orow) CY.out ?_ ?_; exact hm3; intro c5 w5 ho5 hb5 hc5 hc6; have HB5 := Lib.hid ((HB3.out.at1 _).b hb5); have HR5 := Lib.hid ((HR3.out.at1 _).b hb5); have H5 := Lib.hid ((H3.out.alloc _).lowB hlt (hb5.mono hsz3a)); have HO5 := Lib.hid ho5; have hsz5 := hb5.size; have f15 := HB5.out.free 1; have c15 := HB5.out.cell 1 _ rfl; clear hb5 ho5)
      | (go_simp; go_at_call 32; (first | refine (cur_pick H2.out.1 (by omega) hn).mono ?_ | refine (cur_pick H2D.out (by omega) hn).mono ?_); rintro e w3 ⟨y, y0, y1, rfl, hd'⟩; have hd := undrew hd'; have H3 := Lib.hid (H2.out.trans hd); have HR3 := Lib.hid (HR2.out.only hd.2 (by omega)); have HB3 := Lib.hid (HB2.out.only hd.2 (by omega)); have HO3 := Lib.hid (HO2.out.far hd.2 (.inr (by omega))); have hsz3 := hd.2.size; have c13 := HB3.out.cell 1 _ rfl; have f13 := HB3.out.free 1; have c13a := fun o => (HB3.out.at1 o).cell 1 _ rfl; have CY := Lib.hid ((boxed w3 #[.int .i64 y] 3).now 0 _ rfl); have hm3 : m ≤ 1024 := (by omega); have hsz3w : w.heap.size ≤ w3.heap.size := (by omega); have hsz3a := Nat.le_trans hsz3w ((Below.refl _ w3).alloc (Nat.le_refl _) (.cells #[.int .i64 y] 3)).size; clear hd hd'))
    all_goals
      have ho6 := HO5.out
      simp only [World.size_alloc] at ho6
      have HO6 := Lib.hid (show At (w3.heap.size + 1) w5.heap.size (Ow (w3.heap.size + 1) w5.heap.size 3 (some ⟨w3.heap.size + 1, 0, none⟩) (m + 1) (intV (updV X m y))) w5 from ⟨ho6, Nat.le_refl _, Ow.lives _ _ _ _ _ _⟩)
      have s0 := HB5.out.cell 0 _ rfl
      have s1 := HB5.out.cell 1 _ rfl
      have s2 := HB5.out.free 0
      have s3 := HB5.out.free 1
      have d0 := HR5.out.cell 0 _ rfl
      have d1 := HR5.out.cell 1 _ rfl
      have g0 := HR5.out.free 0
      have g1 := HR5.out.free 1
      have hne1 : ¬ (w.heap.size = w1.heap.size) := by omega
      have hne2 : ¬ (w1.heap.size = w.heap.size) := by omega
      clear ho6 HO5 c13a CY H3 HR3 HB3 HO3 c1 f1 c13 f13 c15 f15
      go_wp2_with fail
      refine bodyPost_ret (v := .agg #[.int .i64 z, .slice (some ⟨w3.heap.size + 1, 0, none⟩) (m + 1) c5]) (by simp [results, Try.results33, go_sem, d0, d1]) rfl ?_
      have HF := ((HO6.out.setC (q := w1.heap.size) (by omega) 1 (.slice (some ⟨w3.heap.size + 1, 0, none⟩) (m + 1) c5)).setC (q := w.heap.size) (by omega) 0 (.int .i64 z)).setC (q := w.heap.size) (by omega) 1 (.slice (some ⟨w3.heap.size + 1, 0, none⟩) (m + 1) c5)
      exact ⟨_, _, _, _, _, by omega, by omega, by omega, hc5, hc6, rfl, HF.now.mono (by omega) HF.top, (((H5.out.set (r := w1.heap.size) hlt (by omega) _).set (r := w.heap.size) hlt (by omega) _).set (r := w.heap.size) hlt (by omega) _).low (by omega)⟩
  by_cases e2 : x = 2
  · subst e2
    rcases Nat.eq_zero_or_pos m with hm0 | hmp
    · subst hm0
      have c0 := HB2.out.cell 0 _ rfl
      have c1 := HB2.out.cell 1 _ rfl
      have d0 := HR2.out.cell 0 _ rfl
      have d1 := HR2.out.cell 1 _ rfl
      have g0 := HR2.out.free 0
      have g1 := HR2.out.free 1
      go_wp2_with fail
      refine bodyPost_ret (v := .agg #[.int .i64 z, .slice (some ⟨gB, 0, none⟩) 0 0]) (by simp [results, Try.results33, go_sem, d0, d1]) rfl ?_
      exact ⟨_, _, _, _, X, by omega, by omega, by omega, by omega, by (unfold maxLen; omega), rfl, ow_zero _ _ _ _ _ _, ((H2.out.set hlt (Nat.le_refl _) _).set hlt (Nat.le_refl _) _).low (by omega)⟩
    · have c0 := HB2.out.cell 0 _ rfl
      have c1 := HB2.out.cell 1 _ rfl
      have f1 := HB2.out.free 1
      have H2D := Lib.hid H2.out.1.drew
      have HL := Lib.hid (int_row w2 [-1, 65535, 65536, 40000] 3)
      have H2A := Lib.hid (H2.out.alloc (.cells #[.int .i64 (-1), .int .i64 65535, .int .i64 65536, .int .i64 40000] 3))
      have H2AD := Lib.hid H2A.out.1.drew
      have hXb : ∀ i, i < 4 → (-1 : Int) ≤ [(-1 : Int), 65535, 65536, 40000].getD i 0 ∧ [(-1 : Int), 65535, 65536, 40000].getD i 0 ≤ 65536 := fun i hi => by
        have : i = 0 ∨ i = 1 ∨ i = 2 ∨ i = 3 := by omega
        rcases this with rfl | rfl | rfl | rfl <;> decide
      have HXB := Lib.hid hXb
      clear hXb
      have hmp2 : (0 : Int) < (m : Int) := by omega
      have hk2 : k + 2 + 2 * 40 + 2 ≤ 1000000000000 := by omega
      have hk3 : k + 2 + 2 * 40 + 2 + 2 ≤ 1000000000000 := by omega
      have hq4 : 0 < [(-1 : Int), 65535, 65536, 40000].length := by decide
      have hq5 : [(-1 : Int), 65535, 65536, 40000].length ≤ 1048576 := by decide
      have hbw1 : b + 1 ≤ w.heap.size + 1 := by omega
      have hnb : w1.heap.size ≠ b := by omega
      have HK : ∀ w', Only b (b + 1) w2 w' → w'.cell? ⟨w1.heap.size, 1, none⟩ = some (.slice (some ⟨gB, 0, none⟩) m m) := fun w' ho => (HB2.out.only ho (by omega)).cell 1 _ rfl
      have hbw2 : b < w2.heap.size := by omega
      go_wp2_with fail
      go_region_held3 (fun w' => w'.cell? ⟨w1.heap.size, 1, none⟩ = some (.slice (some ⟨gB, 0, none⟩) m m))
        (first | exact HKS _ | (go_keep; done) | exact HK _ ho4 | exact HK _ (ho3.trans (only_below ((Below.refl _ _).alloc (Nat.le_refl _) _))) | exact HK _ ho3 | exact HK _ (only_below ((Below.refl _ _).alloc (Nat.le_refl _) _)))
        (first
          | (have hz := ho3; clear hz; go_at_call 50; (first | refine (cur_among (d := 4) (lo := -1) (hi := 65536) H3.out.1 hk3 hn hq4 hq5 HL3.out (ne_of_blk hbw2) HXB.out).mono ?_ | refine (cur_among (d := 4) (lo := -1) (hi := 65536) (H3.out.alloc _).1 hk3 hn hq4 hq5 (int_row w3 [-1, 65535, 65536, 40000] 3) (ne_of_blk hbw3) HXB.out).mono ?_); rintro e w4 ⟨v, v0, v1, rfl, hd2⟩; (first | (have ho4 := ho3.trans hd2.2) | (have ho4 := (ho3.trans (only_below ((Below.refl _ _).alloc (Nat.le_refl _) _))).trans hd2.2)); (first | (have H4 := Lib.hid (H3.out.trans hd2)) | (have H4 := Lib.hid ((H3.out.alloc _).trans hd2))); obtain ⟨hseg, hg1, hg2⟩ := (HO2.out.far ho4 (.inr hbw1)).now.seg0 hmp; have hcell := hseg.cell hq; rw [Nat.zero_add] at hcell; have hfroz := hseg.frozen q; have HSG := Lib.hid hseg; have HKS := fun u : Value => ((HB2.out.only ho4 hnb).only (only_set w4 gB q u) (Ne.symm (Nat.ne_of_lt hg2))).cell 1 _ rfl; clear hd2 hseg)
          | (go_at_call 32; (first | refine (cur_pick H2D.out hk2 hn).mono ?_ | refine (cur_pick H2AD.out hk2 hn).mono ?_ | refine (cur_pick H2.out.1 hk2 hn).mono ?_ | refine (cur_pick H2A.out.1 hk2 hn).mono ?_); rintro e w3 ⟨y, y0, y1, rfl, hd'⟩; have hd := undrew hd'; obtain ⟨q, rfl⟩ : ∃ q : Nat, y = q := ⟨y.toNat, (Int.toNat_of_nonneg y0).symm⟩; have hq : q < m := (by omega); (first | (have ho3 : Only b (b + 1) w2 w3 := hd.2) | (have ho3 : Only b (b + 1) w2 w3 := (only_below ((Below.refl _ w2).alloc (Nat.le_refl _) _)).trans hd.2)); (first | (have H3 := Lib.hid (H2.out.trans hd)) | (have H3 := Lib.hid (H2A.out.trans hd))); (first | (have HL3 := Lib.hid (grow_only HL.out hd.2 (ne_of_blk hbw2))) | skip); have hbw3 := Nat.lt_of_lt_of_le hbw2 ho3.size; clear hd hd'))
      all_goals
        have HB4 := Lib.hid (HB2.out.only ho4 hnb)
        have HR4 := Lib.hid (HR2.out.only ho4 (by omega))
        have hseg2 := HSG.out.set q (.int .i64 v)
        rw [Nat.zero_add] at hseg2
        have hgl := HSG.out.lt
        have HO6 := Lib.hid (show At gB (gB + 1) (Ow gB (gB + 1) 3 (some ⟨gB, 0, none⟩) m (intV (updV X q v))) (w4.setCell ⟨gB, q, none⟩ (.int .i64 v)) from
          ⟨(hseg2.congr (G := intV (updV X q v)) (fun j _ => by by_cases e : j = q <;> simp [e, intV, updV])).ow (Nat.le_refl _) (by omega), by simp; omega, Ow.lives _ _ _ _ _ _⟩)
        have s0 := HB4.out.cell 0 _ rfl
        have s1 := HB4.out.cell 1 _ rfl
        have d0 := HR4.out.cell 0 _ rfl
        have d1 := HR4.out.cell 1 _ rfl
        have g0 := HR4.out.free 0
        have g1 := HR4.out.free 1
        have hne1 : ¬ (w.heap.size = w1.heap.size) := by omega
        have hne2 : ¬ (w1.heap.size = w.heap.size) := by omega
        have hne3 : ¬ (gB = w1.heap.size) := by omega
        have hne4 : ¬ (w1.heap.size = gB) := by omega
        have hne5 : ¬ (gB = w.heap.size) := by omega
        have hne6 : ¬ (w.heap.size = gB) := by omega
        clear hseg2 HSG HKS HK
        go_wp2_with fail
        refine bodyPost_ret (v := .agg #[.int .i64 z, .slice (some ⟨gB, 0, none⟩) m m]) (by simp [results, Try.results33, go_sem, d0, d1]) rfl ?_
        have HF := (HO6.out.setC (q := w.heap.size) (by omega) 0 (.int .i64 z)).setC (q := w.heap.size) (by omega) 1 (.slice (some ⟨gB, 0, none⟩) m m)
        exact ⟨_, _, _, _, _, by omega, by omega, by omega, by omega, by (unfold maxLen; omega), rfl, HF.now.mono (by omega) HF.top, (((H4.out.set (r := gB) hlt (by omega) _).set (r := w.heap.size) hlt (by omega) _).set (r := w.heap.size) hlt (by omega) _).low (by omega)⟩
  have b0 : (x == 0) = false := by simpa using e0
  have b1 : (x == 1) = false := by simpa using e1
  have b2 : (x == 2) = false := by simpa using e2
  have b3 : (x == 3) = false := by simpa using e3
  have b4 : (x == 4) = false := by simpa using e4
  clear e0 e1 e2 e3 e4
  have c0 := HB2.out.cell 0 _ rfl
  have c1 := HB2.out.cell 1 _ rfl
  have d0 := HR2.out.cell 0 _ rfl
  have d1 := HR2.out.cell 1 _ rfl
  have g0 := HR2.out.free 0
  have g1 := HR2.out.free 1
  go_wp2_with fail
  refine bodyPost_ret (v := .agg #[.int .i64 (z), .slice (some ⟨gB, 0, none⟩) (m) (m)]) (by simp [results, Try.results33, go_sem, d0, d1]) rfl ?_
  have HF := (HO2.out.setC (q := w.heap.size) (Nat.le_refl _) 0 (.int .i64 (z))).setC (q := w.heap.size) (Nat.le_refl _) 1 (.slice (some ⟨gB, 0, none⟩) (m) (m))
  exact ⟨_, _, _, _, _, by omega, by omega, by omega, by omega, by (unfold maxLen; omega), rfl, HF.now.mono (by omega) HF.top, ((H2.out.set hlt (Nat.le_refl _) _).set hlt (Nat.le_refl _) _).low (by omega)⟩
end Go.Proofs.Ytpmedeefoaoabaa
