/- WithoutEdge of the program. -/
import Derived.Test.YtdmdafifgaenhaaWithE
namespace Go.Proofs.Ytdmdafifgaenhaa
open Go.RowKit

def subS (A : Option Addr) (a k : Nat) : Option Addr := if k = a then A else A.map (·.add a)
theorem run_sliceS_head (A : Option Addr) (n k u : Nat) (hu : u ≤ k) (W : World) :
    (Instr.slice 22 (.slice A n k) none (some (.int .i64 u)) none).run Try.prog W = .ok (.slice A u k) W := by
  unfold Instr.slice
  simp [go_sem, Instr.sliceBounds, Instr.sliceBound, run_underlying Try.underlying22, hu]
theorem run_sliceS_tail (A : Option Addr) (n k i : Nat) (hi : i + 1 ≤ n) (_hnk : n ≤ k) (W : World) :
    (Instr.slice 22 (.slice A n k) (some (.int .i64 ((i : Int) + 1))) none none).run Try.prog W = .ok (.slice (subS A (i + 1) k) (n - (i + 1)) (k - (i + 1))) W := by
  rw [show ((i : Int) + 1) = ((i + 1 : Nat) : Int) by push_cast; rfl]
  generalize i + 1 = a at *
  unfold Instr.slice
  simp [go_sem, Instr.sliceBounds, Instr.sliceBound, run_underlying Try.underlying22, subS, hi]
  try omega
section
variable {w wj : World} {A : Option Addr} {n k a : Nat} {F : Nat → Value} {B : Nat → Option Addr} {l d : Nat → Nat} {X : Nat → Nat → Int}
theorem GRow.tailS (h : GRow w A n F) (ha : a ≤ n) (hnk : n ≤ k) : GRow w (subS A a k) (n - a) (fun j => F (a + j)) := fun h0 => by
  obtain ⟨b, off, rfl, hl, hc⟩ := h (by omega)
  refine ⟨b, off + a, ?_, hl, fun i hi => ?_⟩
  · unfold subS; rw [if_neg (by omega)]; simp [addr_add]
  · rw [show off + a + i = off + (a + i) by omega]; exact hc (a + i) (by omega)
theorem HR.headS (h : HR w A n B l d X) (ha : a ≤ n) : HR w A a B l d X := ⟨fun h0 => by
  obtain ⟨b, off, hA, hl, hc⟩ := h.1 (by omega)
  exact ⟨b, off, hA, hl, fun i hi => hc i (by omega)⟩, fun i hi => h.2 i (by omega)⟩
theorem HR.tailS (h : HR w A n B l d X) (ha : a ≤ n) (hnk : n ≤ k) : HR w (subS A a k) (n - a) (fun j => B (a + j)) (fun j => l (a + j)) (fun j => d (a + j)) (fun j => X (a + j)) :=
  ⟨h.1.tailS ha hnk, fun i hi => h.2 _ (by omega)⟩
end
set_option maxRecDepth 100000 in
theorem run_appendG (ty t e : TypeId) (z : Value) (bytes : Nat) (ht : Try.prog.underlying t = some (.slice e)) (hinfo : (Try.prog.info? e).map (fun i => (i.zero, i.size, i.bytes)) = some (some z, 1, bytes)) (hz1 : z.cells.size = 1)
    {w : World} {B n c m d : Nat} {A D : Option Addr} {F G : Nat → Value} (h1 : w.ownsRow B e 1 (.slice A n c) n (vals F n)) (hr : GRow w D m G) (hG : ∀ j, j < m → (G j).oneCell' = true) (hnm : n + m ≤ 16777216) (hb : (n + m) * bytes ≤ 140737488355328) (hB : B ≤ w.heap.size) :
    ∃ A' c' w', (Builtin.append_ #[t, t] ty #[.slice A n c, .slice D m d]).run Try.prog w = .ok (.slice A' (n + m) c') w' ∧ w'.ownsRow B e 1 (.slice A' (n + m) c') (n + m) (vals (catV F G n) (n + m)) ∧ w.grownBy w' (Value.slice A n c).ownBlock := by
  obtain ⟨i, hi, hz0, hsz, hby⟩ := info_parts hinfo
  rcases Nat.eq_zero_or_pos m with h0 | h0
  · subst h0
    have hle : n ≤ c := by obtain ⟨_, _, hv, hle, _⟩ := owned_slice h1; injection hv with _ _ h3; omega
    have hs : Src Try.prog i.size t (.slice D 0 d) 0 [] w := match D with
      | none => Src.ofNil _ ht d
      | some a => Src.ofSlice _ ht a 0 d [] (by simp) (by simp) (by simp)
    refine ⟨A, c, w, run_append_nothing w t t ty e i ht hi A n c hle _ hs, ?_, World.grownBy.refl _ _⟩
    rw [Nat.add_zero, vals_congr (F := catV F G n) (G := F) (fun i hi => by simp [catV, hi])]
    exact h1
  · obtain ⟨b, off, rfl, _, hc⟩ := hr h0
    obtain ⟨v', w', h, ho, hg, _⟩ := run_append_own (P := Try.prog) w B t ty e i z 1 bytes ht hi hz0 hsz hby hz1 (by decide) _ n _ h1 ⟨b, off, none⟩ m d (vals G m) (by simp [vals_len])
      (fun j u hj => by
        have hlt : j < m := by have := (List.getElem?_eq_some_iff.1 hj).1; simpa [vals_len] using this
        rw [vals_at _ _ _ hlt] at hj
        injection hj with hj
        subst hj
        rw [addr_add]
        exact hc j hlt)
      (fun u hu => by obtain ⟨j, hj, rfl⟩ := mem_vals hu; exact hG j hj) (by unfold maxLen; omega) hb hB
    rw [← vals_cat] at ho
    obtain ⟨A', c', rfl, _, _⟩ := owned_slice ho
    exact ⟨A', c', w', h, ho, hg⟩
set_option maxRecDepth 100000 in
theorem step_appendG {ops : Array Oper} {o : Oper} {a : Act} {K : Act → World → Prop} {Q : Exit → Act → World → Prop} {E : Prop} (hgd : o.guard = none) (s x : Operand) (t e : TypeId) (z : Value) (bytes : Nat) (ht : Try.prog.underlying t = some (.slice e)) (hinfo : (Try.prog.info? e).map (fun i => (i.zero, i.size, i.bytes)) = some (some z, 1, bytes)) (hz1 : z.cells.size = 1)
    (ho : o.op = .call { callee := .builtin .append, args := #[s, x], argTypes := #[t, t] })
    {w : World} {B n c m d : Nat} {A D : Option Addr} {F G : Nat → Value} (hs : a.eval s = .slice A n c) (hx : a.eval x = .slice D m d) (h1 : w.ownsRow B e 1 (.slice A n c) n (vals F n)) (hr : GRow w D m G) (hG : ∀ j, j < m → (G j).oneCell' = true) (hnm : n + m ≤ 16777216) (hb : (n + m) * bytes ≤ 140737488355328) (hB : B ≤ w.heap.size)
    (h : ∀ A' c' w', w'.ownsRow B e 1 (.slice A' (n + m) c') (n + m) (vals (catV F G n) (n + m)) → w.grownBy w' (Value.slice A n c).ownBlock → K (a.put o.dst (.slice A' (n + m) c')) w') :
    if Region.wanted o (yielded ops a.tmps) = true then Oper.wp Try.prog o a w K Q else E := by
  have hw : Region.wanted o (yielded ops a.tmps) = true := by simp [Region.wanted, hgd]
  rw [if_pos hw]
  obtain ⟨A', c', w', hrun, h2, h3⟩ := run_appendG o.type t e z bytes ht hinfo hz1 (d := d) h1 hr hG hnm hb hB
  unfold Oper.wp execOp
  simp only [ho, resolve, invoke, builtin, Sem.run_bind, Sem.run_pure, Result.andThen_ok, List.map_toArray, List.map_cons, List.map_nil, hs, hx, hrun]
  exact h A' c' w' h2 h3
/-- The index behind the one that is left out. -/
def skp (i j : Nat) : Nat := if j < i then j else j + 1
def two {α : Type} (f g : Nat → α) (i j : Nat) : α := if j < i then f j else g (j - i)
section
variable {w wj : World} {B1 B2 i m c1 c2 : Nat} {A1 A2 A' : Option Addr} {D1 D2 : Nat → Option Addr} {d1 d2 l : Nat → Nat} {X : Nat → Nat → Int}
/-- Two copies, the one's edges behind the other's. -/
theorem HOwn.cat (h1 : HOwn B1 A1 i c1 D1 d1 l X w) (h2 : HOwn B2 A2 m c2 D2 d2 (fun j => l (i + 1 + j)) (fun j => X (i + 1 + j)) w) (hB : B1 ≤ B2) {c' : Nat}
    (ho : wj.ownsRow B1 39 1 (.slice A' (i + m) c') (i + m) (vals (catV (sliceV D1 l d1) (sliceV D2 (fun j => l (i + 1 + j)) d2) i) (i + m))) (hg : w.grownBy wj (Value.slice A1 i c1).ownBlock) :
    HOwn B1 A' (i + m) c' (two D1 D2 i) (two d1 d2 i) (fun j => l (skp i j)) (fun j => X (skp i j)) wj :=
  ⟨by
    rw [vals_congr (F := sliceV (two D1 D2 i) (fun j => l (skp i j)) (two d1 d2 i)) (G := catV (sliceV D1 l d1) (sliceV D2 (fun j => l (i + 1 + j)) d2) i) (fun j hj => by
      unfold sliceV catV two skp
      by_cases e : j < i
      · simp [e]
      · simp only [e, if_false]
        rw [show i + 1 + (j - i) = j + 1 by omega])]
    exact ho, fun j hj => by
    unfold two skp
    by_cases e : j < i
    · simp only [e, if_true]
      exact (h1.inn j e).kept hg (own_apartG (h1.inn j e) h1.out (by decide))
    · simp only [e, if_false]
      have := h2.inn (j - i) (by omega)
      rw [show i + 1 + (j - i) = j + 1 by omega] at this
      exact (owned_low this hB).kept hg (own_apartG this h1.out (by decide))⟩
theorem apart_two (h1 : ∀ p q, p < q → q < i → Apart (l p) (D1 p) (l q) (D1 q)) (h2 : ∀ p q, p < q → q < m → Apart (l (i + 1 + p)) (D2 p) (l (i + 1 + q)) (D2 q)) (h3 : ∀ p q, p < i → q < m → Apart (l p) (D1 p) (l (i + 1 + q)) (D2 q)) :
    ∀ p q, p < q → q < i + m → Apart (l (skp i p)) (two D1 D2 i p) (l (skp i q)) (two D1 D2 i q) := fun p q hpq hq => by
  unfold two skp
  by_cases e : q < i
  · simp only [e, show p < i by omega, if_true]; exact h1 p q hpq e
  · by_cases e2 : p < i
    · simp only [e, e2, if_true, if_false]
      have := h3 p (q - i) e2 (by omega)
      rwa [show i + 1 + (q - i) = q + 1 by omega] at this
    · simp only [e, e2, if_false]
      have := h2 (p - i) (q - i) (by omega) (by omega)
      rwa [show i + 1 + (q - i) = q + 1 by omega, show i + 1 + (p - i) = p + 1 by omega] at this
end

set_option maxRecDepth 100000 in
set_option maxHeartbeats 4000000 in
theorem impl_withoutEdge (z : Nat) (A : Option Addr) (n : Nat) (l : Nat → Nat) (X : Nat → Nat → Int) (i : Nat) (w : World) (hn : n + sumL l n ≤ 1048576) (hr : HRow w A n l X) (h : HyperOk z n l X) (hi : i < n) :
    Calls Try.prog 44 #[.agg #[.int .i64 z, .slice A n n], .int .i64 i] w fun e w' => ∃ A' c', e = .returned (.tuple #[.agg #[.int .i64 z, .slice A' (i + (n - (i + 1))) c'], .bool true]) ∧ Ow2 w.heap.size w'.heap.size A' (i + (n - (i + 1))) (fun j => l (skp i j)) (fun j => X (skp i j)) w' ∧ Below w.heap.size w w' := by
  obtain ⟨B, d, hr⟩ := hr
  have L0 := Lib.hid ((LH.start (z := (z : Int)) (c := n) hr 27).step ((Below.refl _ _).alloc (Nat.le_refl _) (.cells #[.int .i64 0, .slice none 0 0] 27)))
  have N0 := Lib.hid (nbx_two' w (.cells #[.int .i64 z, .slice A n n] 27))
  have HR0 := Lib.hid hr
  have HG := Lib.hid h
  have hn40 := h.2.2.1
  have d0 : decide ((i : Int) < 0) = false := by simp
  have d1 : decide ((n : Int) ≤ (i : Int)) = false := by simp; omega
  have d2 : decide (n ≤ i) = false := by simp; omega
  have HEL := Lib.hid (fun j (hj : j < n) => (show 0 < l j ∧ l j ≤ 4096 by have := HG.out.three j hj; omega))
  have e1 : IntKind.i64.wrap ((i : Int) + 1) = (i : Int) + 1 := IntWalk.i64_in _ (by omega)
  have hsl1 := fun W => run_sliceS_head A n n i (by omega) W
  have hsl2 := fun W => run_sliceS_tail A n n i (by omega) (Nat.le_refl _) W
  clear hr h
  go_enter Try.func44, Try.ntmps44
  go_wp2_with fail
  refine (impl_isHyper_is z A n n l X _ true hn ⟨B, d, L0.out.row⟩ (by simp only [true_iff]; exact HG.out)).mono ?_; rintro e w1 ⟨rfl, hb⟩
  have L2 := Lib.hid (L0.out.step hb)
  have N2 := Lib.hid (N0.out.b hb)
  clear hb L0 N0
  obtain ⟨hsz, b0, b1⟩ := L2.out.box
  have r0 := N2.out.cell 0 _ rfl
  have r1 := N2.out.cell 1 _ rfl
  have f0 := N2.out.free 0
  have f1 := N2.out.free 1
  have hN2 := N2.out.lt
  have hdd : w1.heap.size ≤ w1.drew.heap.size := Nat.le_refl _
  go_upto_region 3 with fail
  go_region_law (first
    | (have hz := H4; clear hz; (try go_simp); go_at_call 94; (refine (impl_cloneEdges (subS A (i + 1) n) (n - (i + 1)) (n - (i + 1)) (fun j => B (i + 1 + j)) (fun j => l (i + 1 + j)) (fun j => d (i + 1 + j)) (fun j => X (i + 1 + j)) w4 (by omega) (fun j hj => HEL.out _ (by omega)) (L4.out.row.tailS (by omega) (Nat.le_refl _))).mono ?_); rintro e w5 ⟨D5, dd5, rfl, ho5, ha5, hb⟩; have H5 := Lib.hid (H4.out.b hb); have L5 := Lib.hid (L4.out.step hb); have N5 := Lib.hid (N2.out.b ((hb4.out.trans (hb.mono hb4.out.size)))); have G5 := Lib.hid ho5; have HA5 := Lib.hid ha5; have HA6 := Lib.hid (fun p q (hp : p < i) (hq : q < n - (i + 1)) => apart_new (H4.out.inn p hp) (ho5.inn q hq)); obtain ⟨_, b05, b15⟩ := L5.out.box; have hs5 := hb.size; have HR5 := Lib.hid ((owned_vec ho5.out).row); clear hb ho5 ha5)
    | ((try go_simp); go_at_call 94; (refine (impl_cloneEdges A i n B l d X w1.drew (by omega) (fun j hj => HEL.out _ (by omega)) (L2.out.drew.row.headS (by omega))).mono ?_); rintro e w4 ⟨D4, dd4, rfl, ho4, ha4, hb'⟩; have hb := of_drew hb'; have hb4 := Lib.hid hb; have H4 := Lib.hid ho4; have HA4 := Lib.hid ha4; have L4 := Lib.hid (L2.out.step hb); obtain ⟨_, b04, b14⟩ := L4.out.box; have hs4 : w1.drew.heap.size ≤ w4.heap.size := hb'.size; clear hb hb' ho4 ha4)
    | (have hz := H5; clear hz; refine step_appendG rfl (.tmp 26) (.tmp 32) 22 39 (.slice none 0 0) 24 Try.underlying22 infoSl rfl rfl rfl rfl H5.out.out HR5.out ?_ ?_ ?_ ?_ ?_; exact fun _ _ => rfl; omega; omega; omega; intro A' c' w7 ho7 hg7; have H7 := Lib.hid (H5.out.cat G5.out (by omega) ho7 hg7); have hb7 := below_ownG H5.out.out hg7 (by omega); have L7 := Lib.hid (L5.out.low hb7 HR0.out (by omega) (by omega)); have N7 := Lib.hid (nbx_grownG N5.out H5.out.out hg7 (by omega)); clear ho7 hg7 hb7))
  all_goals
    obtain ⟨_, b07, b17⟩ := L7.out.box
    have r07 := N7.out.cell 0 _ rfl
    have r17 := N7.out.cell 1 _ rfl
    have f07 := N7.out.free 0
    have f17 := N7.out.free 1
    go_wp2_with fail
    refine bodyPost_ret (v := .tuple #[.agg #[.int .i64 z, .slice A' (i + (n - (i + 1))) c'], .bool true]) (by simp [results, Try.results44, go_sem, r07, r17]) rfl ?_
    refine ⟨A', c', rfl, ?_, below_setAt (below_setAt L7.out.below (by omega) _) (by omega) _⟩
    have hB : w.heap.size + 1 < w1.drew.heap.size := hN2
    have ho := (H7.out.away hB (.int .i64 z) (o := 0)).away hB (.slice A' (i + (n - (i + 1))) c') (o := 1)
    exact ho.ow2 (apart_two HA4.out HA5.out HA6.out) (by omega)
end Go.Proofs.Ytdmdafifgaenhaa
