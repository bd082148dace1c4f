/- BucketsOf: both sides. -/
import Derived.Test.YtfhanighnckbhaaLoads
import Derived.Test.YtfhanighnckbhaaCont
import Derived.Test.YtfhanighnckbhaaObjSS
import Derived.Test.YtfhanighnckbhaaApp
import Derived.Maps.AppendAt
namespace Go.Proofs.Ytfhanighnckbhaa
open Go.RowKit

/-- The indices below k of the keys in a bucket. -/
def bkL (F : Nat → Int) : Nat → Nat → List Nat
  | 0, _ => []
  | k + 1, b => if F k = (b : Int) then bkL F k b ++ [k] else bkL F k b
theorem bkL_len (F : Nat → Int) (b : Nat) : ∀ k, (bkL F k b).length ≤ k
  | 0 => Nat.le_refl _
  | k + 1 => by
    have := bkL_len F b k
    rw [bkL]; split
    · simp; omega
    · omega
theorem sumL_bd {L : Nat → Nat} {c : Nat} : ∀ n, (∀ b, b < n → L b ≤ c) → sumL L n ≤ n * c
  | 0, _ => by simp [sumL]
  | n + 1, h => by
    have h1 := sumL_bd n (fun b hb => h b (by omega))
    have h2 := h n (by omega)
    rw [sumL, Nat.succ_mul]; omega
def updB {α : Type} (f : Nat → α) (q : Nat) (x : α) (j : Nat) : α := if j = q then x else f j
/-- One element put behind a row of the call's own: which block has turned, and in which block the row lies then. -/
theorem wpList_push3 {ops : Array Oper} {rest : List Oper} {o : Oper} {a : Act} {Q : Exit → Act → World → Prop} (hgd : o.guard = none) (s x : Operand) (t : TypeId)
    (ho : o.op = .call { callee := .builtin .append, args := #[s, x], argTypes := #[t, t] }) (B : Nat) (e : TypeId) (z : Value) (bytes : Nat)
    (ht : Try.prog.underlying t = some (.slice e)) (hinfo : (Try.prog.info? e).map (fun i => (i.zero, i.size, i.bytes)) = some (some z, 1, bytes)) (hz1 : z.cells.size = 1)
    (A : Option Addr) (k c : Nat) (F : Nat → Value) (u : Value) (wr : World) (hs : a.eval s = .slice A k c) (hown : wr.ownsRow B e 1 (.slice A k c) k (vals F k))
    (hx : a.eval x = .slice (some ⟨wr.heap.size, 0, none⟩) 1 1) (hF : F k = u) (hu : u.oneCell' = true) (hk : (k + 1) * bytes ≤ 140737488355328) (hk2 : k < 16777216) (hB : B ≤ wr.heap.size)
    (h : ∀ A' c' w3, w3.ownsRow B e 1 (.slice A' (k + 1) c') (k + 1) (vals F (k + 1)) → Below B wr w3 → (wr.alloc (.cells #[u] e)).grownBy w3 (Value.slice A k c).ownBlock → ((Value.slice A' (k + 1) c').ownBlock = (Value.slice A k c).ownBlock ∨ (Value.slice A' (k + 1) c').ownBlock = some (wr.heap.size + 1)) → wpList Try.prog ops Q rest (a.put o.dst (.slice A' (k + 1) c')) w3) :
    wpList Try.prog ops Q (o :: rest) a (wr.alloc (.cells #[u] e)) := by
  obtain ⟨i0, hi, hz0, hz1', hz2⟩ := info_parts hinfo
  refine wpList_append_own_at _ hgd s x t ho B e i0 z 1 bytes ht hi hz0 hz1' hz2 hz1 (by decide) _ _ _ hs (hown.alloc _) ⟨wr.heap.size, 0, none⟩ 1 1 [u] hx rfl ?_ ?_ ?_ hk ?_ ?_
  · intro j v hj
    match j, hj with
    | 0, hj => simp at hj; subst hj; simp [Addr.add]
  · intro v hv; simp at hv; subst hv; exact hu
  · unfold maxLen; omega
  · simp; omega
  · intro v' w3 hown' hgrow _ hat
    obtain ⟨A', c', rfl, _, _⟩ := owned_slice hown'
    exact h A' c' w3 (by rw [vals_snoc, hF]; exact hown') (((Below.refl _ _).alloc hB _).grown hgrow (by simp; omega) (fun g hg => (hown.lt g hg).1)) hgrow (by simpa using hat)
theorem own_setB {w : World} {B : Nat} {e : TypeId} {A : Option Addr} {k c : Nat} {xs : List Value} (h : w.ownsRow B e 1 (.slice A k c) k xs) {b o : Nat} (hb : b < B) (v : Value) : (w.setCell ⟨b, o, none⟩ v).ownsRow B e 1 (.slice A k c) k xs :=
  h.kept (grown_setCell (World.grownBy.refl w _) o v) (by
    by_cases e : (Value.slice A k c).ownBlock = none
    · exact .inl e
    · refine .inr (fun e2 => ?_)
      have := (h.lt b e2).1
      omega)
/-- Rows of the call's own in a row of the call's own, no two in one block. -/
structure BI (w : World) (R P : Nat) (L : Nat → Nat) (V : Nat → Nat → Int) (D : Nat → Option Addr) (dd : Nat → Nat) (wr : World) : Prop where
  below : Below w.heap.size w wr
  out : GOwn wr 47 R P (sliceV D L dd)
  ge : w.heap.size ≤ R
  inn : ∀ b, b < P → wr.ownsRow (R + 1) 3 1 (.slice (D b) (L b) (dd b)) (L b) (vals (intV (V b)) (L b))
  apart : ∀ a b, a < P → b < P → a ≠ b → ∀ g, (Value.slice (D a) (L a) (dd a)).ownBlock = some g → (Value.slice (D b) (L b) (dd b)).ownBlock ≠ some g
theorem BI.push {w wr w5 : World} {R P q c' : Nat} {L L' : Nat → Nat} {V V' : Nat → Nat → Int} {D : Nat → Option Addr} {dd : Nat → Nat} {A' : Option Addr} {o : Obj} (h : BI w R P L V D dd wr) (hq : q < P)
    (ho : w5.ownsRow (R + 1) 3 1 (.slice A' (L q + 1) c') (L q + 1) (vals (intV (V' q)) (L q + 1))) (hb : Below (R + 1) wr w5) (hg : (wr.alloc o).grownBy w5 (Value.slice (D q) (L q) (dd q)).ownBlock)
    (hf : (Value.slice A' (L q + 1) c').ownBlock = (Value.slice (D q) (L q) (dd q)).ownBlock ∨ (Value.slice A' (L q + 1) c').ownBlock = some (wr.heap.size + 1))
    (hL : ∀ b, b ≠ q → L' b = L b) (hLq : L' q = L q + 1) (hV : ∀ b, b ≠ q → V' b = V b) :
    BI w R P L' V' (updB D q A') (updB dd q c') (w5.setCell ⟨R, q, none⟩ (.slice A' (L q + 1) c')) := by
  have hge := h.ge
  have hsl : ∀ b, b ≠ q → (Value.slice (updB D q A' b) (L' b) (updB dd q c' b)) = .slice (D b) (L b) (dd b) := fun b hb => by unfold updB; rw [if_neg hb, if_neg hb, hL b hb]
  have hsq : (Value.slice (updB D q A' q) (L' q) (updB dd q c' q)) = .slice A' (L q + 1) c' := by unfold updB; rw [if_pos rfl, if_pos rfl, hLq]
  refine ⟨below_setAt (h.below.trans (hb.mono (by omega))) h.ge _, ?_, h.ge, ?_, ?_⟩
  · have hout : GOwn w5 47 R P (sliceV D L dd) := h.out.of_block (hb.block R (by omega))
    exact (hout.set q (.slice A' (L q + 1) c')).congr (fun j hj => by
      by_cases e : j = q
      · subst e; rw [if_pos rfl]; exact hsq.symm
      · rw [if_neg e]; exact (hsl j e).symm)
  · intro b hbP
    by_cases e : b = q
    · subst e
      rw [hsq, hLq]
      exact own_setB ho (by omega) _
    · have hk := ((h.inn b hbP).alloc o).kept hg (by
        cases hb1 : (Value.slice (D b) (L b) (dd b)).ownBlock with
        | none => exact .inl rfl
        | some g => exact .inr (fun e2 => h.apart b q hbP hq e g hb1 e2.symm))
      rw [hsl b e, hL b e, hV b e]
      exact own_setB hk (by omega) _
  · intro a b ha hbP hne g h1 h2
    by_cases ea : a = q
    · subst ea
      rw [hsq] at h1
      rw [hsl b (fun e => hne e.symm)] at h2
      rcases hf with hf | hf
      · exact h.apart a b ha hbP hne g (hf ▸ h1) h2
      · rw [h1] at hf
        injection hf with hf
        have := ((h.inn b hbP).lt g h2).2
        omega
    · by_cases eb : b = q
      · subst eb
        rw [hsq] at h2
        rw [hsl a ea] at h1
        rcases hf with hf | hf
        · exact h.apart a b ha hbP hne g h1 (hf ▸ h2)
        · rw [h2] at hf
          injection hf with hf
          have := ((h.inn a ha).lt g h1).2
          omega
      · rw [hsl a ea] at h1
        rw [hsl b eb] at h2
        exact h.apart a b ha hbP hne g h1 h2
theorem BI.start (w : World) (P : Nat) (V : Nat → Nat → Int) : BI w w.heap.size P (fun _ => 0) V (fun _ => none) (fun _ => 0) (w.alloc (.cells (madeCells #[.slice none 0 0] P) 47)) :=
  ⟨(Below.refl _ _).alloc (Nat.le_refl _) _, (GOwn.made w 47 (.slice none 0 0) P).congr (fun _ _ => rfl), Nat.le_refl _, fun _ _ => World.ownsRow_nil _ _ _ _, fun _ _ _ _ _ g h => by simp [Value.ownBlock] at h⟩
theorem BI.ow2 {w wr : World} {R P : Nat} {L : Nat → Nat} {V : Nat → Nat → Int} {D : Nat → Option Addr} {dd : Nat → Nat} (h : BI w R P L V D dd wr) : Ow2 w.heap.size wr.heap.size (some ⟨R, 0, none⟩) P L V wr := by
  have hge := h.ge
  refine ⟨D, dd, ow_of_own h.out h.ge (Nat.le_refl _), fun i hi => ?_, fun i j hij hj h1 h2 b o c p e1 e2 e3 => ?_⟩
  · rcases owned_vec (h.inn i hi) with e | ⟨g, hA, hg, ho⟩
    · rw [e]; exact ow_zero _ _ _ _ _ _
    · rw [hA]; exact ow_of_own ho (by omega) (Nat.le_refl _)
  · subst e3
    exact h.apart i j (by omega) hj (by omega) b (by rw [e1]; simp [Value.ownBlock]) (by rw [e2]; simp [Value.ownBlock])
def BkOk (sd : Int) (S : Nat → ByteArray) (n : Nat) (P : Int) : Prop := seedB sd 0 = true ∧ keysB S n = true ∧ 1 ≤ P ∧ P ≤ 24
/-- Rows of one's own beside a word. -/
def RowsOwn (P : Nat) (L : Nat → Nat) (V : Nat → Nat → Int) (b : Bool) (w : World) (e : Ending) (w' : World) : Prop :=
  ∃ A c, e = .returned (.tuple #[.slice A P c, .bool b]) ∧ Ow2 w.heap.size w'.heap.size A P L V w' ∧ Below w.heap.size w w'
theorem ow2_none (lo hi : Nat) (A : Option Addr) (L : Nat → Nat) (V : Nat → Nat → Int) (w : World) : Ow2 lo hi A 0 L V w := ⟨fun _ => none, fun _ => 0, ow_zero _ _ _ _ _ _, fun i hi => absurd hi (by omega), fun i j _ hj => absurd hj (by omega)⟩
section
variable (sd : Int) (KA : Option Addr) (n kc : Nat) (S : Nat → ByteArray) (w : World)
set_option maxRecDepth 100000 in
set_option maxHeartbeats 4000000 in
theorem impl_bucketsOf (P : Nat) (hs : ∀ i, i < n → (S i).size ≤ maxLen) (hr : GRow w KA n (strV S)) (h : BkOk sd S n P) :
    Calls Try.prog 53 #[.int .i64 sd, .slice KA n kc, .int .i64 P] w (RowsOwn P (fun b => (bkL (plF sd 0 S P) n b).length) (fun b => lstV (bkL (plF sd 0 S P) n b)) true w) := by
  have HR := Lib.hid hr
  have HS := Lib.hid hs
  obtain ⟨hsd, hk, p1, p2⟩ := h
  have hn := keysB_size hk
  have d1 : decide ((P : Int) < 1) = false := by simp; omega
  have d2 : decide ((24 : Int) < (P : Int)) = false := by simp; omega
  have d3 : decide (24 < P) = false := by simp; omega
  have d4 : decide (P < 1) = false := by simp; omega
  have hmk := fun W => run_make_row' (P := Try.prog) 24 47 (.slice none 0 0) 24 Try.underlying24 infoSl rfl .i64 .i64 P (by omega) (by omega) W
  have B0 := Lib.hid (BI.start w P (fun b => lstV (bkL (plF sd 0 S P) 0 b)))
  have HBD := Lib.hid (fun i => plF_bd sd 0 S P i (by omega))
  have HC := Lib.hid (fun i (hi : i < n) W => impl_placeKey sd 0 P (S i) W (hs i hi) hsd (by omega) (by omega))
  have HFD := Lib.hid (show ∀ i, placeI sd 0 (S i).data.toList P = plF sd 0 S P i from fun _ => rfl)
  clear hr hs
  obtain ⟨F, hF⟩ : ∃ F, F = plF sd 0 S P := ⟨_, rfl⟩
  rw [← hF] at B0 HBD HFD ⊢
  clear hF
  go_enter Try.func53, Try.ntmps53
  go_wp2_with fail
  refine (impl_isHashNumber sd 0 _).mono ?_; rintro e w' ⟨rfl, rfl⟩
  rw [hsd]
  go_wp2_with fail
  refine (impl_areKeys KA n kc S _ (by omega) HS.out HR.out).mono ?_; rintro e w' ⟨rfl, rfl⟩
  rw [hk]
  go_wp2_with fail
  go_loopw [32] (fun i wr => ∃ (k : Nat) (D : Nat → Option Addr) (dd : Nat → Nat), k ≤ n ∧ i = .int .i64 k ∧ Hid (BI w w.heap.size P (fun b => (bkL F k b).length) (fun b => lstV (bkL F k b)) D dd wr)) (fun i _ => n - (intOf i).toNat)
  case atStart => exact ⟨0, _, _, Nat.zero_le _, rfl, B0⟩
  case round =>
    obtain ⟨k, D, dd, hkn, rfl, HB⟩ := hrel
    by_cases hlt : k < n
    · obtain ⟨b, off, hKA, _, hc⟩ := HR.out.below HB.out.below (Nat.le_refl _) (by omega)
      subst hKA
      have hck := hc k hlt
      unfold strV at hck
      obtain ⟨q, hq, hqP⟩ := HBD.out k
      have HC1 := Lib.hid (HC.out k hlt wr)
      rw [HFD.out k, hq] at HC1
      have HLQ := Lib.hid (show bkL F (k + 1) q = bkL F k q ++ [k] by rw [bkL, if_pos hq])
      have HLO := Lib.hid (show ∀ b, b ≠ q → bkL F (k + 1) b = bkL F k b from fun b hb => by rw [bkL, if_neg (by rw [hq]; omega)])
      have hlen := bkL_len F q k
      have hx : wr.cell? ⟨w.heap.size, q, none⟩ = some (.slice (D q) (bkL F k q).length (dd q)) := HB.out.out.cell hqP
      have hxl := HB.out.out.lt
      have HP := Lib.hid (push_lst (x := k) (HB.out.inn q hqP))
      have HW := Lib.hid (show intV (lstV (bkL F k q ++ [k])) (bkL F k q).length = .int .i64 (k : Int) by unfold intV; rw [lstV_new])
      clear hc hq
      go_wp2_with fail
      refine HC1.out.mono ?_; rintro e w2 ⟨rfl, rfl⟩
      go_wp2_with (at_builtin; refine wpList_push3 rfl _ _ 47 rfl (w.heap.size + 1) 3 (.int .i64 0) 8 Try.underlying47 infoI rfl (D q) (bkL F k q).length (dd q) (intV (lstV (bkL F k q ++ [k]))) (.int .i64 (k : Int)) _ rfl HP.out rfl HW.out rfl (by omega) (by omega) (by omega) ?_)
      intro A' c' w5 hown' hb5 hg5 hf5
      have O5 := HB.out.out.of_block (hb5.block w.heap.size (by omega))
      have x5 := O5.cell hqP
      have f5 := O5.frozen q
      have HB5 := Lib.hid (HB.out.push (L' := fun b => (bkL F (k + 1) b).length) (V' := fun b => lstV (bkL F (k + 1) b)) hqP (by show World.ownsRow _ _ _ _ _ _ (vals (intV (lstV (bkL F (k + 1) q))) _); rw [HLQ.out]; exact hown') hb5 hg5 hf5 (fun b hb => by show (bkL F (k + 1) b).length = _; rw [HLO.out b hb]) (by show (bkL F (k + 1) q).length = _; rw [HLQ.out]; simp) (fun b hb => by show lstV (bkL F (k + 1) b) = _; rw [HLO.out b hb]))
      clear hown' hb5 hg5 hf5 O5
      go_wp2_with fail
      go_roundw
      case rel => exact ⟨k + 1, _, _, by omega, by go_num, HB5⟩
      case measure => simp [intOf]; omega
    · obtain rfl : k = n := by omega
      go_wp2_with fail
      go_ret2
      exact ⟨_, _, rfl, HB.out.ow2, HB.out.below⟩
set_option maxRecDepth 100000 in
set_option maxHeartbeats 2000000 in
theorem impl_bucketsOf_no (P : Int) (hn : n ≤ 1048576) (hs : ∀ i, i < n → (S i).size ≤ maxLen) (hr : GRow w KA n (strV S)) (h : ¬ BkOk sd S n P) :
    Calls Try.prog 53 #[.int .i64 sd, .slice KA n kc, .int .i64 P] w (RowsOwn 0 (fun _ => 0) (fun _ _ => 0) false w) := by
  have HR := Lib.hid hr
  have HS := Lib.hid hs
  clear hr hs
  cases hsd : seedB sd 0 with
  | false =>
    go_enter Try.func53, Try.ntmps53
    go_wp2_with fail
    refine (impl_isHashNumber sd 0 _).mono ?_; rintro e w' ⟨rfl, rfl⟩
    rw [hsd]
    go_wp2_with fail
    go_ret2
    exact ⟨none, 0, rfl, ow2_none _ _ _ _ _ _, Below.refl _ _⟩
  | true =>
    cases hk : keysB S n with
    | false =>
      go_enter Try.func53, Try.ntmps53
      go_wp2_with fail
      refine (impl_isHashNumber sd 0 _).mono ?_; rintro e w' ⟨rfl, rfl⟩
      rw [hsd]
      go_wp2_with fail
      refine (impl_areKeys KA n kc S _ (by omega) HS.out HR.out).mono ?_; rintro e w' ⟨rfl, rfl⟩
      rw [hk]
      go_wp2_with fail
      go_ret2
      exact ⟨none, 0, rfl, ow2_none _ _ _ _ _ _, Below.refl _ _⟩
    | true =>
      by_cases p1 : P < 1
      · have d1 : decide (P < 1) = true := by simpa using p1
        go_enter Try.func53, Try.ntmps53
        go_wp2_with fail
        refine (impl_isHashNumber sd 0 _).mono ?_; rintro e w' ⟨rfl, rfl⟩
        rw [hsd]
        go_wp2_with fail
        refine (impl_areKeys KA n kc S _ (by omega) HS.out HR.out).mono ?_; rintro e w' ⟨rfl, rfl⟩
        rw [hk]
        go_wp2_with fail
        go_ret2
        exact ⟨none, 0, rfl, ow2_none _ _ _ _ _ _, Below.refl _ _⟩
      · have p2 : 24 < P := by
          rcases Int.lt_or_le 24 P with h2 | h2
          · exact h2
          · exact absurd ⟨hsd, hk, by omega, h2⟩ h
        have d1 : decide (P < 1) = false := by simpa using p1
        have d2 : decide ((24 : Int) < P) = true := by simpa using p2
        go_enter Try.func53, Try.ntmps53
        go_wp2_with fail
        refine (impl_isHashNumber sd 0 _).mono ?_; rintro e w' ⟨rfl, rfl⟩
        rw [hsd]
        go_wp2_with fail
        refine (impl_areKeys KA n kc S _ (by omega) HS.out HR.out).mono ?_; rintro e w' ⟨rfl, rfl⟩
        rw [hk]
        go_wp2_with fail
        go_ret2
        exact ⟨none, 0, rfl, ow2_none _ _ _ _ _ _, Below.refl _ _⟩
end
end Go.Proofs.Ytfhanighnckbhaa
