/- A cuckoo table under way: a box of the call's own with its two rows; the functions that read or fill one cell. -/
import Derived.Test.YtfjimjbndkhkcaaCuI
import Derived.Test.YtfjimjbndkhkcaaObjStT
import Derived.Maps.AppendAt
import Derived.Lib.SliceRun
namespace Go.Proofs.Ytfjimjbndkhkcaa
open Go.RowKit

def updC {α : Type} (f : Nat → α) (q : Nat) (x : α) (j : Nat) : α := if j = q then x else f j
/-- One element put behind a row of the call's own: which block has turned, and in which block the row lies then. -/
theorem wpList_push4 {ops : Array Oper} {rest : List Oper} {o : Oper} {a : Act} {Q : Exit → Act → World → Prop} (hgd : o.guard = none) (s x : Operand) (t : TypeId)
    (ho : o.op = .call { callee := .builtin .append, args := #[s, x], argTypes := #[t, t] }) (B : Nat) (e : TypeId) (z : Value) (bytes : Nat)
    (ht : Try.prog.underlying t = some (.slice e)) (hinfo : (Try.prog.info? e).map (fun i => (i.zero, i.size, i.bytes)) = some (some z, 1, bytes)) (hz1 : z.cells.size = 1)
    (A : Option Addr) (k c : Nat) (F : Nat → Value) (u : Value) (wr : World) (hs : a.eval s = .slice A k c) (hown : wr.ownsRow B e 1 (.slice A k c) k (vals F k))
    (hx : a.eval x = .slice (some ⟨wr.heap.size, 0, none⟩) 1 1) (hF : F k = u) (hu : u.oneCell' = true) (hk : (k + 1) * bytes ≤ 140737488355328) (hk2 : k < 16777216) (hB : B ≤ wr.heap.size)
    (h : ∀ A' c' w3, w3.ownsRow B e 1 (.slice A' (k + 1) c') (k + 1) (vals F (k + 1)) → Below B wr w3 → (wr.alloc (.cells #[u] e)).grownBy w3 (Value.slice A k c).ownBlock → ((Value.slice A' (k + 1) c').ownBlock = (Value.slice A k c).ownBlock ∨ (Value.slice A' (k + 1) c').ownBlock = some (wr.heap.size + 1)) → wpList Try.prog ops Q rest (a.put o.dst (.slice A' (k + 1) c')) w3) :
    wpList Try.prog ops Q (o :: rest) a (wr.alloc (.cells #[u] e)) := by
  obtain ⟨i0, hi, hz0, hz1', hz2⟩ := info_parts hinfo
  refine wpList_append_own_at _ hgd s x t ho B e i0 z 1 bytes ht hi hz0 hz1' hz2 hz1 (by decide) _ _ _ hs (hown.alloc _) ⟨wr.heap.size, 0, none⟩ 1 1 [u] hx rfl ?_ ?_ ?_ hk ?_ ?_
  · intro j v hj
    match j, hj with
    | 0, hj => simp at hj; subst hj; simp [Addr.add]
  · intro v hv; simp at hv; subst hv; exact hu
  · unfold maxLen; omega
  · simp; omega
  · intro v' w3 hown' hgrow _ hat
    obtain ⟨A', c', rfl, _, _⟩ := owned_slice hown'
    exact h A' c' w3 (by rw [vals_snoc, hF]; exact hown') (((Below.refl _ _).alloc hB _).grown hgrow (by simp; omega) (fun g hg => (hown.lt g hg).1)) hgrow (by simpa using hat)
theorem below_ownC {w w' : World} {B n : Nat} {e : TypeId} {v : Value} {xs : List Value} (ho : w.ownsRow B e 1 v n xs) (hg : w.grownBy w' v.ownBlock) (hB : B ≤ w.heap.size) : Below B w w' :=
  ⟨hg.os, hg.tape, hg.output, hg.size, fun i hi => hg.block i (by omega) (fun e => by have := (ho.lt i e.symm).1; omega)⟩
/-- A table under way: the result's box, its own box, its two rows; W0 is the world in which it was begun. -/
structure CO (W0 : World) (rb : Nat) (R : Array Value) (q : Nat) (z : Int) (g c n : Nat) (S : Nat → ByteArray) (B : Option Addr) (d m : Nat) (H : Nat → ByteArray) (wr : World) : Prop where
  below : Below W0.heap.size W0 wr
  res : NBX W0.heap.size rb R 36 wr
  box : NBX W0.heap.size q #[.int .i64 z, .slice (some ⟨g, 0, none⟩) n c, .slice B m d] 36 wr
  out : GOwn wr 9 g n (strV S)
  ge : W0.heap.size ≤ g
  st : wr.ownsRow W0.heap.size 9 1 (.slice B m d) m (vals (strV H) m)
  ne : rb ≠ q
  ap : (Value.slice B m d).ownBlock ≠ some g
theorem types_ne : (36 : TypeId) ≠ 9 := by decide
theorem nbx_ne_own {w : World} {base q g n : Nat} {cs : Array Value} {F : Nat → Value} (h : NBX base q cs 36 w) (ho : GOwn w 9 g n F) : q ≠ g := fun e => by
  subst e
  obtain ⟨c, hc, _⟩ := ho
  have := h.blk
  rw [hc] at this
  injection this with h1; injection h1 with _ h2 _
  exact types_ne h2.symm
theorem nbx_ne_row {w : World} {base q B n : Nat} {cs : Array Value} {v : Value} {xs : List Value} (h : NBX base q cs 36 w) (ho : w.ownsRow B 9 1 v n xs) : v.ownBlock ≠ some q := fun e => by
  rcases ho.2 with ⟨rfl, _⟩ | ⟨g, cap, cur, rfl, _, hh, _⟩
  · simp [Value.ownBlock] at e
  · simp [Value.ownBlock] at e
    subst e
    have := h.blk
    rw [hh] at this
    injection this with h1; injection h1 with _ h2 _
    exact types_ne h2.symm
theorem own_far {w : World} {B : Nat} {e : TypeId} {v : Value} {n : Nat} {xs : List Value} (h : w.ownsRow B e 1 v n xs) {b : Nat} (hb : v.ownBlock ≠ some b) (o : Nat) (u : Value) : (w.setCell ⟨b, o, none⟩ u).ownsRow B e 1 v n xs :=
  h.kept (grown_setCell (World.grownBy.refl w (some b)) o u) (.inr hb)
theorem nbx_set {base q b : Nat} {cs : Array Value} {t : TypeId} {w : World} (h : NBX base q cs t w) (hb : q ≠ b) (o : Nat) (u : Value) : NBX base q cs t (w.setCell ⟨b, o, none⟩ u) := nbx_other h hb o u
section
variable {W0 wr w2 : World} {rb q g c n d m : Nat} {R : Array Value} {z : Int} {S H : Nat → ByteArray} {B : Option Addr}
theorem CO.b (h : CO W0 rb R q z g c n S B d m H wr) (hb : Below wr.heap.size wr w2) : CO W0 rb R q z g c n S B d m H w2 :=
  ⟨h.below.trans (hb.mono h.below.size), h.res.b hb, h.box.b hb, h.out.b hb, h.ge, owned_b h.st hb, h.ne, h.ap⟩
theorem CO.drewN (h : CO W0 rb R q z g c n S B d m H wr) (k : Nat) : CO W0 rb R q z g c n S B d m H (wr.drewN k) := h.b (below_drewN (Below.refl _ _) k)
theorem CO.al (h : CO W0 rb R q z g c n S B d m H wr) (o : Obj) : CO W0 rb R q z g c n S B d m H (wr.alloc o) := h.b ((Below.refl _ _).alloc (Nat.le_refl _) o)
/-- A cell of the table is filled. -/
theorem CO.slot (h : CO W0 rb R q z g c n S B d m H wr) (i : Nat) (x : ByteArray) : CO W0 rb R q z g c n (updC S i x) B d m H (wr.setCell ⟨g, i, none⟩ (.string x)) :=
  ⟨h.below.setCell (p := ⟨g, i, none⟩) h.ge _, nbx_set h.res (nbx_ne_own h.res h.out) _ _, nbx_set h.box (nbx_ne_own h.box h.out) _ _, (h.out.set i (.string x)).congr (fun j _ => by unfold strV updC; split <;> rfl), h.ge, own_far h.st h.ap _ _, h.ne, h.ap⟩
/-- The same, by a call that turns that row alone. -/
theorem CO.slotG (h : CO W0 rb R q z g c n S B d m H wr) {S' : Nat → ByteArray} (hg : wr.grownBy w2 (some g)) (ho : GOwn w2 9 g n (strV S')) : CO W0 rb R q z g c n S' B d m H w2 :=
  ⟨h.below.trans (below_of_grown hg h.below.size h.ge), ⟨(hg.block rb h.res.lt (fun e => nbx_ne_own h.res h.out (by injection e))).trans h.res.blk, h.res.ge⟩, ⟨(hg.block q h.box.lt (fun e => nbx_ne_own h.box h.out (by injection e))).trans h.box.blk, h.box.ge⟩, ho, h.ge, h.st.kept hg (.inr h.ap), h.ne, h.ap⟩
/-- The result's box is written. -/
theorem CO.resSet (h : CO W0 rb R q z g c n S B d m H wr) (i : Nat) (v : Value) : CO W0 rb (R.setIfInBounds i v) q z g c n S B d m H (wr.setCell ⟨rb, i, none⟩ v) :=
  ⟨h.below.setCell (p := ⟨rb, i, none⟩) h.res.ge _, h.res.set i v, nbx_set h.box (Ne.symm h.ne) _ _, h.out.setAt (Ne.symm (nbx_ne_own h.res h.out)) _, h.ge, own_far h.st (nbx_ne_row h.res h.st) _ _, h.ne, h.ap⟩
/-- The stash's row has turned. -/
theorem CO.turn (h : CO W0 rb R q z g c n S B d m H wr) {B' : Option Addr} {d' m' : Nat} {H' : Nat → ByteArray} (hg : wr.grownBy w2 (Value.slice B m d).ownBlock) (ho : w2.ownsRow W0.heap.size 9 1 (.slice B' m' d') m' (vals (strV H') m')) (hap : (Value.slice B' m' d').ownBlock ≠ some g) :
    CO W0 rb R q z g c n S B' d' m' H' (w2.setCell ⟨q, 2, none⟩ (.slice B' m' d')) := by
  have hbl : Below W0.heap.size wr w2 := below_ownC h.st hg h.below.size
  have hres : NBX W0.heap.size rb R 36 w2 := ⟨(hg.block rb h.res.lt (fun e => nbx_ne_row h.res h.st e.symm)).trans h.res.blk, h.res.ge⟩
  have hbox : NBX W0.heap.size q #[.int .i64 z, .slice (some ⟨g, 0, none⟩) n c, .slice B m d] 36 w2 := ⟨(hg.block q h.box.lt (fun e => nbx_ne_row h.box h.st e.symm)).trans h.box.blk, h.box.ge⟩
  have hout : GOwn w2 9 g n (strV S) := h.out.of_block (hg.block g h.out.lt (fun e => h.ap e.symm))
  exact ⟨(h.below.trans hbl).setCell (p := ⟨q, 2, none⟩) h.box.ge _, nbx_set hres h.ne _ _, hbox.set 2 _, hout.setAt (Ne.symm (nbx_ne_own hbox hout)) _, h.ge, own_far ho (nbx_ne_row hbox ho) _ _, h.ne, hap⟩
theorem CO.fin (h : CO W0 rb R q z g c n S B d m H wr) : Ow W0.heap.size wr.heap.size 9 (some ⟨g, 0, none⟩) n (strV S) wr ∧ Ow W0.heap.size wr.heap.size 9 B m (strV H) wr ∧ Apart n (some ⟨g, 0, none⟩) m B := by
  refine ⟨ow_of_own (m := n) h.out h.ge (Nat.le_refl _), ?_, fun _ hm b o b' o' hA hB e => ?_⟩
  · rcases owned_vec h.st with rfl | ⟨g', rfl, hg', ho⟩
    · exact ow_zero _ _ _ _ _ _
    · exact ow_of_own (m := m) ho hg' (Nat.le_refl _)
  · injection hA with hA; injection hA with hA
    subst hB
    exact h.ap (by show some b' = some g; rw [← e, ← hA])
theorem CO.lt (h : CO W0 rb R q z g c n S B d m H wr) {i : Nat} (hi : i < n) : wr.cell? ⟨g, i, none⟩ = some (.string (S i)) := h.out.cell hi
end
/-- slices.Clone of strings. -/
theorem clone_strs (A : Option Addr) (n c : Nat) (S : Nat → ByteArray) (w : World) (hn : n ≤ 1048576) (hr : GRow w A n (strV S)) :
    Calls Try.prog 81 #[.slice A n c] w fun e w' => ∃ A' c', e = .returned (.slice A' n c') ∧ w'.ownsRow w.heap.size 9 1 (.slice A' n c') n (vals (strV S) n) ∧ Below w.heap.size w w' := by
  have hnil : ∀ W, (binOp .eql 25 (.slice A n c) (.slice none 0 0)).run Try.prog W = .ok (.bool A.isNone) W := fun W => Lib.run_eql_slice_nil W _ _ A n c 0 0 Try.underlying25
  cases A with
  | none =>
    have h0 : n = 0 := by
      rcases Nat.eq_zero_or_pos n with h | h
      · exact h
      · obtain ⟨_, _, hA, _⟩ := hr h; cases hA
    subst h0
    simp only [Option.isNone_none] at hnil
    clear hr
    go_enter Try.func81, Try.ntmps81
    go_wp2_with fail
    go_ret
    exact ⟨none, 0, rfl, World.ownsRow_nil _ _ _ _, Below.refl _ _⟩
  | some a =>
    simp only [Option.isNone_some] at hnil
    have HR := Lib.hid (hr.al (.cells #[] 9))
    have HO := Lib.hid (World.ownsRow_made (e := 9) (size := 1) w #[] 0 (Nat.le_refl _) (by simp [maxLen]) (by simp))
    clear hr
    go_enter Try.func81, Try.ntmps81
    go_wp2_with (at_builtin; refine wpList_append_vals rfl _ _ 25 rfl w.heap.size 9 (.string ByteArray.empty) 16 Try.underlying25 infoS rfl (F := strV S) (G := strV S) rfl rfl HO.out HR.out (fun _ _ => rfl) (by omega) (by omega) (by simp) ?_)
    intro A' c' w' hown hb
    have HO2 := Lib.hid hown
    have HB := Lib.hid (((Below.refl w.heap.size w).alloc (Nat.le_refl _) (.cells #[] 9)).trans hb)
    clear hown hb
    go_wp2_with fail
    go_ret
    refine ⟨A', c', by first | rfl | (rw [Nat.zero_add]), ?_, HB.out⟩
    have h := HO2.out
    rw [vals_congr (F := catV (strV S) (strV S) 0) (G := strV S) (fun i _ => by unfold catV; simp)] at h
    exact h
/-- The empty cell into which a key goes. -/
def empO (z : Int) (x : Byt) (n : Nat) (S : Nat → ByteArray) : Option Nat :=
  if (S (celF z x n 0).toNat).data.toList.isEmpty then some (celF z x n 0).toNat else if (S (celF z x n 1).toNat).data.toList.isEmpty then some (celF z x n 1).toNat else none
theorem empO_lt {z : Int} {x : Byt} {n : Nat} {S : Nat → ByteArray} {i : Nat} (hn : 1 ≤ n) (h : empO z x n S = some i) : i < n ∧ (S i).data.toList = [] ∧ ∃ j, j < 2 ∧ celF z x n j = (i : Int) := by
  obtain ⟨a, ha, han⟩ := celF_bd (z := z) (x := x) (P := n) 0 hn
  obtain ⟨b, hb, hbn⟩ := celF_bd (z := z) (x := x) (P := n) 1 hn
  unfold empO at h
  rw [ha, hb, Int.toNat_natCast, Int.toNat_natCast] at h
  split at h
  · rename_i he
    injection h with h; subst h
    exact ⟨han, by simpa using he, 0, by omega, ha⟩
  · split at h
    · rename_i he
      injection h with h; subst h
      exact ⟨hbn, by simpa using he, 1, by omega, hb⟩
    · cases h
theorem empO_some {z : Int} {x : Byt} {n : Nat} {S : Nat → ByteArray} {q : Nat} (hq : q < 2) (h1 : ∀ j, j < q → (S (celF z x n j).toNat).data.toList.isEmpty = false) (h2 : (S (celF z x n q).toNat).data.toList.isEmpty = true) : empO z x n S = some (celF z x n q).toNat := by
  unfold empO
  have e : q = 0 ∨ q = 1 := by omega
  rcases e with rfl | rfl
  · rw [if_pos h2]
  · rw [if_neg (by rw [h1 0 (by omega)]; simp), if_pos h2]
theorem empO_none {z : Int} {x : Byt} {n : Nat} {S : Nat → ByteArray} (h1 : ∀ j, j < 2 → (S (celF z x n j).toNat).data.toList.isEmpty = false) : empO z x n S = none := by
  unfold empO
  rw [if_neg (by rw [h1 0 (by omega)]; simp), if_neg (by rw [h1 1 (by omega)]; simp)]
def setO (O : Option Nat) (S : Nat → ByteArray) (x : ByteArray) : Nat → ByteArray := match O with | some i => updC S i x | none => S
def valO (O : Option Nat) : Int := match O with | some i => (i : Int) | none => -1
def SettleIs (O : Option Nat) (g n : Nat) (S : Nat → ByteArray) (x : ByteArray) (w : World) (e : Ending) (w' : World) : Prop := e = .returned (.bool O.isSome) ∧ w.grownBy w' (some g) ∧ GOwn w' 9 g n (strV (setO O S x))
def EmptyIs (O : Option Nat) (w : World) (e : Ending) (w' : World) : Prop := e = .returned (.int .i64 (valO O)) ∧ Below w.heap.size w w'
section
variable (z : Int) (n c : Nat) (S : Nat → ByteArray) (B : Option Addr) (m d : Nat) (x : ByteArray) (w : World)
set_option maxRecDepth 100000 in
set_option maxHeartbeats 4000000 in
theorem impl_settle (g : Nat) (hx : x.size ≤ maxLen) (hz : sizeB z n = true) (ho : GOwn w 9 g n (strV S)) :
    Calls Try.prog 82 #[.agg #[.int .i64 z, .slice (some ⟨g, 0, none⟩) n c, .slice B m d], .string x] w (SettleIs (empO z x.data.toList n S) g n S x w) := by
  have hzs := sizeB_out hz
  have HBX := Lib.hid ((boxed w #[.int .i64 z, .slice (some ⟨g, 0, none⟩) n c, .slice B m d] 36).now)
  have hal := (Below.refl w.heap.size w).alloc (Nat.le_refl _) (.cells #[.int .i64 z, .slice (some ⟨g, 0, none⟩) n c, .slice B m d] 36)
  have HO1 := Lib.hid (ho.b hal)
  have HAL := Lib.hid hal
  have k0 := HBX.out 0 _ rfl
  have k1 := HBX.out 1 _ rfl
  have k2 := HBX.out 2 _ rfl
  have hsz1 : (w.alloc (.cells #[.int .i64 z, .slice (some ⟨g, 0, none⟩) n c, .slice B m d] 36)).heap.size = w.heap.size + 1 := by simp
  have HCB := Lib.hid (fun i => celF_bd (z := z) (x := x.data.toList) (P := n) i (by omega))
  have HES := Lib.hid (fun q hq h1 h2 => empO_some (z := z) (x := x.data.toList) (n := n) (S := S) (q := q) hq h1 h2)
  have HEN := Lib.hid (fun h1 => empO_none (z := z) (x := x.data.toList) (n := n) (S := S) h1)
  clear hal ho
  go_enter Try.func82, Try.ntmps82
  go_wp2_with fail
  generalize hw1 : w.alloc (.cells #[.int .i64 z, .slice (some ⟨g, 0, none⟩) n c, .slice B m d] 36) = w1 at *
  clear hw1
  refine (impl_cellsFor z (some ⟨g, 0, none⟩) n c B m d w1 x hx hz).mono ?_; rintro e w' ⟨W, hbW, hlW, rfl, rfl⟩
  have hbB := hbW.trans ((celW_below z x.data.toList n W).mono hbW.size)
  have HR3 := Lib.hid (celW_row z x.data.toList n W)
  unfold celV
  generalize celW z x.data.toList n W = w3 at *
  generalize empO z x.data.toList n S = O at *
  generalize celF z x.data.toList n = F at *
  generalize W.heap.size = gb at *
  have HO3 := Lib.hid (HO1.out.b hbB)
  have q1 := (hbB.cell (p := ⟨w.heap.size, 1, none⟩) (show w.heap.size < _ by omega)).trans k1
  have HG3 := Lib.hid (grown_of_below (HAL.out.trans (hbB.mono HAL.out.size)) (some g))
  clear hbW hlW hbB k0 k1 k2 HO1 HAL
  go_wp2_with fail
  go_loop [11] (fun i => ∃ q : Nat, q ≤ 2 ∧ i = .int .i64 q ∧ Hid (∀ j, j < q → (S (F j).toNat).data.toList.isEmpty = false)) (fun i => 2 - (intOf i).toNat)
  case atStart => exact ⟨0, Nat.zero_le _, rfl, Lib.hid (fun j hj => absurd hj (Nat.not_lt_zero _))⟩
  case round =>
    obtain ⟨q, hq, rfl, HN⟩ := hrel
    by_cases hlt : q < 2
    · obtain ⟨b, off, hA, _, hcc⟩ := HR3.out (by omega)
      injection hA with hA; injection hA with e1 e2
      subst e1 e2
      have hf := hcc q hlt
      rw [Nat.zero_add] at hf
      obtain ⟨y, hy, hyn⟩ := HCB.out q
      rw [hy] at hf
      have HY := Lib.hid hy
      have s0 := HO3.out.cell hyn
      have g0 := HO3.out.frozen y
      unfold strV at s0
      have em0 : (S y).toList.isEmpty = (S y).data.toList.isEmpty := by rw [ba_toList]
      clear hcc hy
      cases hc0 : (S y).data.toList.isEmpty with
      | true =>
        rw [hc0] at em0
        have HOY := Lib.hid (show O = some y by
          have h := HES.out q hlt HN.out (by rw [HY.out, Int.toNat_natCast]; exact hc0)
          rw [h, HY.out, Int.toNat_natCast])
        go_wp2_with fail
        go_ret
        rw [HOY.out]
        refine ⟨rfl, grown_setCell HG3.out _ _, (HO3.out.set y (.string x)).congr (fun j _ => by show (if j = y then Value.string x else Value.string (S j)) = Value.string (if j = y then x else S j); split <;> rfl)⟩
      | false =>
        rw [hc0] at em0
        have HN2 := Lib.hid (show ∀ j, j < q + 1 → (S (F j).toNat).data.toList.isEmpty = false from fun j hj => by
          by_cases e : j = q
          · subst e; rw [HY.out, Int.toNat_natCast]; exact hc0
          · exact HN.out j (by omega))
        clear hc0
        go_wp2_with fail
        go_round
        case rel => exact ⟨q + 1, by omega, by go_num, HN2⟩
        case measure => simp [intOf]; omega
    · obtain rfl : q = 2 := by omega
      have HOY := Lib.hid (HEN.out HN.out)
      go_wp2_with fail
      go_ret
      rw [HOY.out]
      exact ⟨rfl, HG3.out, HO3.out⟩
set_option maxRecDepth 100000 in
set_option maxHeartbeats 4000000 in
theorem spec_cuEmpty (A : Option Addr) (hx : x.size ≤ maxLen) (hz : sizeB z n = true) (hr : GRow w A n (strV S)) :
    Calls Try.prog 80 #[.agg #[.int .i64 z, .slice A n c, .slice B m d], .string x] w (EmptyIs (empO z x.data.toList n S) w) := by
  have hzs := sizeB_out hz
  have HBX := Lib.hid ((boxed w #[.int .i64 z, .slice A n c, .slice B m d] 36).now)
  have hal := (Below.refl w.heap.size w).alloc (Nat.le_refl _) (.cells #[.int .i64 z, .slice A n c, .slice B m d] 36)
  have HO1 := Lib.hid (hr.b hal)
  have HAL := Lib.hid hal
  have k0 := HBX.out 0 _ rfl
  have k1 := HBX.out 1 _ rfl
  have k2 := HBX.out 2 _ rfl
  have hsz1 : (w.alloc (.cells #[.int .i64 z, .slice A n c, .slice B m d] 36)).heap.size = w.heap.size + 1 := by simp
  have HCB := Lib.hid (fun i => celF_bd (z := z) (x := x.data.toList) (P := n) i (by omega))
  have HES := Lib.hid (fun q hq h1 h2 => empO_some (z := z) (x := x.data.toList) (n := n) (S := S) (q := q) hq h1 h2)
  have HEN := Lib.hid (fun h1 => empO_none (z := z) (x := x.data.toList) (n := n) (S := S) h1)
  clear hal hr
  go_enter Try.func80, Try.ntmps80
  go_wp2_with fail
  generalize hw1 : w.alloc (.cells #[.int .i64 z, .slice A n c, .slice B m d] 36) = w1 at *
  clear hw1
  refine (spec_cuCells z n x _ hx hz).mono ?_; rintro e w' ⟨rfl, rfl⟩
  have hbB := celW_below z x.data.toList n w1
  have HR3 := Lib.hid (celW_row z x.data.toList n w1)
  unfold celV
  generalize celW z x.data.toList n w1 = w3 at *
  generalize empO z x.data.toList n S = O at *
  generalize celF z x.data.toList n = F at *
  have HO3 := Lib.hid (HO1.out.b hbB)
  have q1 := (hbB.cell (p := ⟨w.heap.size, 1, none⟩) (show w.heap.size < _ by omega)).trans k1
  have HG3 := Lib.hid (HAL.out.trans (hbB.mono HAL.out.size))
  clear hbB k0 k1 k2 HO1 HAL
  go_wp2_with fail
  go_loop [15] (fun i => ∃ q : Nat, q ≤ 2 ∧ i = .int .i64 q ∧ Hid (∀ j, j < q → (S (F j).toNat).data.toList.isEmpty = false)) (fun i => 2 - (intOf i).toNat)
  case atStart => exact ⟨0, Nat.zero_le _, rfl, Lib.hid (fun j hj => absurd hj (Nat.not_lt_zero _))⟩
  case round =>
    obtain ⟨q, hq, rfl, HN⟩ := hrel
    by_cases hlt : q < 2
    · obtain ⟨b, off, hA, _, hcc⟩ := HR3.out (by omega)
      injection hA with hA; injection hA with e1 e2
      subst e1 e2
      have hf := hcc q hlt
      rw [Nat.zero_add, hsz1] at hf
      obtain ⟨y, hy, hyn⟩ := HCB.out q
      rw [hy] at hf
      have HY := Lib.hid hy
      obtain ⟨b2, off2, rfl, hbl, hc2⟩ := HO3.out (by omega)
      have s0 : w3.cell? ⟨b2, off2 + y, none⟩ = some (.string (S y)) := hc2 y hyn
      have em0 : (S y).toList.isEmpty = (S y).data.toList.isEmpty := by rw [ba_toList]
      clear hcc hy hc2
      cases hc0 : (S y).data.toList.isEmpty with
      | true =>
        rw [hc0] at em0
        have HOY := Lib.hid (show O = some y by
          have h := HES.out q hlt HN.out (by rw [HY.out, Int.toNat_natCast]; exact hc0)
          rw [h, HY.out, Int.toNat_natCast])
        go_wp2_with fail
        go_ret
        rw [HOY.out]
        exact ⟨rfl, HG3.out⟩
      | false =>
        rw [hc0] at em0
        have HN2 := Lib.hid (show ∀ j, j < q + 1 → (S (F j).toNat).data.toList.isEmpty = false from fun j hj => by
          by_cases e : j = q
          · subst e; rw [HY.out, Int.toNat_natCast]; exact hc0
          · exact HN.out j (by omega))
        clear hc0
        go_wp2_with fail
        go_round
        case rel => exact ⟨q + 1, by omega, by go_num, HN2⟩
        case measure => simp [intOf]; omega
    · obtain rfl : q = 2 := by omega
      have HOY := Lib.hid (HEN.out HN.out)
      go_wp2_with fail
      go_ret
      rw [HOY.out]
      exact ⟨rfl, HG3.out⟩
end
end Go.Proofs.Ytfjimjbndkhkcaa
