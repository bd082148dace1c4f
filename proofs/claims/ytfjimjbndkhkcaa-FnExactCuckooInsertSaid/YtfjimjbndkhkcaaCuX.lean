/- Keys thrown out: the process, and the program's throwOut. -/
import Derived.Test.YtfjimjbndkhkcaaCuD
import Derived.Deep.RegionHeld3
namespace Go.Proofs.Ytfjimjbndkhkcaa
open Go.RowKit

/-- Slots, cell and key in hand after t throws. -/
def kst (z : Int) (n : Nat) (S : Nat → ByteArray) (x : ByteArray) : Nat → (Nat → ByteArray) × Nat × ByteArray
  | 0 => (S, (celF z x.data.toList n 0).toNat, x)
  | t + 1 => (updC (kst z n S x t).1 (kst z n S x t).2.1 (kst z n S x t).2.2,
      (celF z ((kst z n S x t).1 (kst z n S x t).2.1).data.toList n 0).toNat + (celF z ((kst z n S x t).1 (kst z n S x t).2.1).data.toList n 1).toNat - (kst z n S x t).2.1,
      (kst z n S x t).1 (kst z n S x t).2.1)
def kS (z : Int) (n : Nat) (S : Nat → ByteArray) (x : ByteArray) (t : Nat) : Nat → ByteArray := (kst z n S x t).1
def kC (z : Int) (n : Nat) (S : Nat → ByteArray) (x : ByteArray) (t : Nat) : Nat := (kst z n S x t).2.1
def kK (z : Int) (n : Nat) (S : Nat → ByteArray) (x : ByteArray) (t : Nat) : ByteArray := (kst z n S x t).2.2
/-- The cell at hand is empty. -/
def kE (z : Int) (n : Nat) (S : Nat → ByteArray) (x : ByteArray) (t : Nat) : Bool := (kS z n S x t (kC z n S x t)).data.toList.isEmpty
section
variable {z : Int} {n : Nat} {S : Nat → ByteArray} {x : ByteArray}
theorem kS_succ (t : Nat) : kS z n S x (t + 1) = updC (kS z n S x t) (kC z n S x t) (kK z n S x t) := rfl
theorem kK_succ (t : Nat) : kK z n S x (t + 1) = kS z n S x t (kC z n S x t) := rfl
theorem kC_succ (t : Nat) : kC z n S x (t + 1) = (celF z (kK z n S x (t + 1)).data.toList n 0).toNat + (celF z (kK z n S x (t + 1)).data.toList n 1).toNat - kC z n S x t := rfl
/-- What stays true as keys are thrown out. -/
structure KInv (z : Int) (n : Nat) (S : Nat → ByteArray) (x : ByteArray) (P : Byt → Prop) (t : Nat) : Prop where
  cell : ∀ i, i < n → CellOk z (kS z n S x t) n i
  key : isKeyB (kK z n S x t).data.toList = true
  lt : kC z n S x t < n
  at_ : ∃ j, j < 2 ∧ celF z (kK z n S x t).data.toList n j = (kC z n S x t : Int)
  rest : ∀ i, i < n → (kS z n S x t i).data.toList ≠ [] → P (kS z n S x t i).data.toList
  own : P (kK z n S x t).data.toList
theorem kInv {P : Byt → Prop} (hn : 1 ≤ n) (hc : ∀ i, i < n → CellOk z S n i) (hk : isKeyB x.data.toList = true) (hP : ∀ i, i < n → (S i).data.toList ≠ [] → P (S i).data.toList) (hx : P x.data.toList) : ∀ t, (∀ u, u < t → kE z n S x u = false) → KInv z n S x P t
  | 0, _ => by
    obtain ⟨q, hq, hqn⟩ := celF_bd (z := z) (x := x.data.toList) (P := n) 0 hn
    have e : kC z n S x 0 = q := by show (celF z x.data.toList n 0).toNat = q; rw [hq, Int.toNat_natCast]
    exact ⟨hc, hk, by rw [e]; exact hqn, ⟨0, by omega, by rw [e]; exact hq⟩, hP, hx⟩
  | t + 1, h => by
    have ih := kInv hn hc hk hP hx t (fun u hu => h u (by omega))
    have hE := h t (by omega)
    have hne : (kS z n S x t (kC z n S x t)).data.toList ≠ [] := fun e => by unfold kE at hE; rw [e] at hE; simp at hE
    obtain ⟨hkk, j, hj, hjc⟩ := ih.cell _ ih.lt hne
    obtain ⟨a, ha, han⟩ := celF_bd (z := z) (x := (kK z n S x (t + 1)).data.toList) (P := n) 0 hn
    obtain ⟨b, hb, hbn⟩ := celF_bd (z := z) (x := (kK z n S x (t + 1)).data.toList) (P := n) 1 hn
    have hcs := kC_succ (z := z) (n := n) (S := S) (x := x) t
    rw [ha, hb, Int.toNat_natCast, Int.toNat_natCast] at hcs
    have hjc2 : celF z (kK z n S x (t + 1)).data.toList n j = (kC z n S x t : Int) := hjc
    have h01 : (j = 0 ∧ kC z n S x t = a) ∨ (j = 1 ∧ kC z n S x t = b) := by
      have e : j = 0 ∨ j = 1 := by omega
      rcases e with rfl | rfl
      · left; rw [ha] at hjc2; exact ⟨rfl, by omega⟩
      · right; rw [hb] at hjc2; exact ⟨rfl, by omega⟩
    refine ⟨fun i hi => ?_, hkk, ?_, ?_, fun i hi hi2 => ?_, ih.rest _ ih.lt hne⟩
    · rw [kS_succ]
      unfold CellOk updC
      by_cases e : i = kC z n S x t
      · subst e; simp only [if_true]; exact fun _ => ⟨ih.key, ih.at_⟩
      · simp only [e, if_false]; exact ih.cell i hi
    · rcases h01 with ⟨_, e⟩ | ⟨_, e⟩ <;> (rw [hcs, e]; omega)
    · rcases h01 with ⟨_, e⟩ | ⟨_, e⟩
      · exact ⟨1, by omega, by rw [hb, hcs, e]; omega⟩
      · exact ⟨0, by omega, by rw [ha, hcs, e]; omega⟩
    · rw [kS_succ] at hi2 ⊢
      unfold updC at hi2 ⊢
      by_cases e : i = kC z n S x t
      · simp only [e, if_true]; exact ih.own
      · simp only [e, if_false] at hi2 ⊢; exact ih.rest i hi hi2
end
/-- How the throwing ends: at T throws, with a cell that is empty, or with a key left. -/
structure KEnd (z : Int) (n : Nat) (S : Nat → ByteArray) (x : ByteArray) (mv T : Nat) : Prop where
  le : T ≤ mv
  no : ∀ u, u < T → kE z n S x u = false
  fin : kE z n S x T = true ∨ T = mv
theorem kEnd_ex (z : Int) (n : Nat) (S : Nat → ByteArray) (x : ByteArray) (mv : Nat) : ∃ T, KEnd z n S x mv T := by
  obtain ⟨k, hk, h1, h2⟩ := first_not (fun t => kE z n S x t = false) mv
  refine ⟨k, hk, h1, ?_⟩
  by_cases e : k < mv
  · left; have := h2 e; simpa using this
  · right; omega
theorem kEnd_det {z : Int} {n : Nat} {S : Nat → ByteArray} {x : ByteArray} {mv T T' : Nat} (h : KEnd z n S x mv T) (h' : KEnd z n S x mv T') : T = T' := by
  rcases Nat.lt_trichotomy T T' with e | e | e
  · have h1 := h'.no T e
    rcases h.fin with h2 | h2
    · rw [h1] at h2; cases h2
    · have := h'.le; omega
  · exact e
  · have h1 := h.no T' e
    rcases h'.fin with h2 | h2
    · rw [h1] at h2; cases h2
    · have := h.le; omega
/-- What throwOut leaves. -/
def ThrowIs (z : Int) (n : Nat) (S : Nat → ByteArray) (x : ByteArray) (mv g : Nat) (w : World) (e : Ending) (w' : World) : Prop :=
  ∃ T, KEnd z n S x mv T ∧ w.grownBy w' (some g) ∧
    ((kE z n S x T = true ∧ e = .returned (.tuple #[.string ⟨#[]⟩, .int .i64 T]) ∧ GOwn w' 9 g n (strV (updC (kS z n S x T) (kC z n S x T) (kK z n S x T))))
    ∨ (kE z n S x T = false ∧ e = .returned (.tuple #[.string (kK z n S x T), .int .i64 T]) ∧ GOwn w' 9 g n (strV (kS z n S x T))))
/-- The state within the loop: the box of the table, and its row. -/
structure TO (w : World) (z : Int) (g n c : Nat) (B : Option Addr) (m d : Nat) (S' : Nat → ByteArray) (wr : World) : Prop where
  grown : w.grownBy wr (some g)
  box : NBX w.heap.size w.heap.size #[.int .i64 z, .slice (some ⟨g, 0, none⟩) n c, .slice B m d] 36 wr
  out : GOwn wr 9 g n (strV S')
section
variable {w wr w2 : World} {z : Int} {g n c m d : Nat} {B : Option Addr} {S' : Nat → ByteArray}
theorem TO.b (h : TO w z g n c B m d S' wr) (hb : Below wr.heap.size wr w2) : TO w z g n c B m d S' w2 :=
  ⟨grown_two h.grown (grown_of_below hb _), h.box.b hb, h.out.b hb⟩
theorem TO.set (h : TO w z g n c B m d S' wr) (i : Nat) (x : ByteArray) : TO w z g n c B m d (updC S' i x) (wr.setCell ⟨g, i, none⟩ (.string x)) :=
  ⟨grown_setCell h.grown _ _, nbx_set h.box (nbx_ne_own h.box h.out) _ _, (h.out.set i (.string x)).congr (fun j _ => by show (if j = i then Value.string x else Value.string (S' j)) = Value.string (if j = i then x else S' j); split <;> rfl)⟩
theorem TO.drewN (h : TO w z g n c B m d S' wr) (k : Nat) : TO w z g n c B m d S' (wr.drewN k) := h.b (below_drewN (Below.refl _ _) k)
end
set_option maxRecDepth 100000 in
set_option maxHeartbeats 4000000 in
theorem impl_throwOut (z : Int) (n c : Nat) (S : Nat → ByteArray) (B : Option Addr) (m d : Nat) (x : ByteArray) (mv g : Nat) (w : World) (hz : sizeB z n = true) (hmv : mv ≤ 40) (hc : ∀ i, i < n → CellOk z S n i) (hk : isKeyB x.data.toList = true) (ho : GOwn w 9 g n (strV S)) :
    Calls Try.prog 88 #[.agg #[.int .i64 z, .slice (some ⟨g, 0, none⟩) n c, .slice B m d], .string x, .int .i64 mv] w (ThrowIs z n S x mv g w) := by
  have hzs := sizeB_out hz
  have hks := isKeyB_size hk
  have hal := (Below.refl w.heap.size w).alloc (Nat.le_refl _) (.cells #[.int .i64 z, .slice (some ⟨g, 0, none⟩) n c, .slice B m d] 36)
  have T0 := Lib.hid (show TO w z g n c B m d S (w.alloc (.cells #[.int .i64 z, .slice (some ⟨g, 0, none⟩) n c, .slice B m d] 36)) from ⟨grown_of_below hal _, nbx0 w _ _, ho.b hal⟩)
  have HIV := Lib.hid (fun t h => kInv (P := fun _ => True) (by omega : 1 ≤ n) hc hk (fun _ _ _ => trivial) trivial t h)
  have HCB := Lib.hid (fun (y : Byt) i => celF_bd (z := z) (x := y) (P := n) i (by omega))
  clear hal ho hc
  have k0 := T0.out.box.cell 0 _ rfl
  have k1 := T0.out.box.cell 1 _ rfl
  have k2 := T0.out.box.cell 2 _ rfl
  go_enter Try.func88, Try.ntmps88
  go_wp2_with fail
  generalize hw1 : w.alloc (.cells #[.int .i64 z, .slice (some ⟨g, 0, none⟩) n c, .slice B m d] 36) = w1 at *
  clear hw1
  refine (impl_cellsFor z (some ⟨g, 0, none⟩) n c B m d w1 x (by unfold maxLen; omega) hz).mono ?_; rintro e w' ⟨W, hbW, hlW, rfl, rfl⟩
  have T1 := Lib.hid (T0.out.b (hbW.trans ((celW_below z x.data.toList n W).mono hbW.size)))
  have HR3 := Lib.hid (celW_row z x.data.toList n W)
  unfold celV
  generalize celW z x.data.toList n W = w3 at *
  generalize W.heap.size = gb at *
  obtain ⟨q0, hq0, hq0n⟩ := HCB.out x.data.toList 0
  have HQ := Lib.hid (show kC z n S x 0 = q0 by show (celF z x.data.toList n 0).toNat = q0; rw [hq0, Int.toNat_natCast])
  obtain ⟨b, off, hA, _, hcc⟩ := HR3.out (by omega)
  injection hA with hA; injection hA with e1 e2
  subst e1 e2
  have hf := hcc 0 (by omega)
  rw [hq0] at hf
  simp only [Nat.add_zero] at hf
  clear hcc hbW hlW k0 k1 k2 hq0 T0 HR3
  go_wp2_with fail
  clear hf
  go_loopw [1, 8, 9] (fun k c' t wr => ∃ T : Nat, T ≤ mv ∧ k = .string (kK z n S x T) ∧ c' = .int .i64 (kC z n S x T) ∧ t = .int .i64 T ∧ Hid (∀ u, u < T → kE z n S x u = false) ∧ Hid (TO w z g n c B m d (kS z n S x T) wr)) (fun _ _ t _ => mv - (intOf t).toNat)
  case atStart => exact ⟨0, Nat.zero_le _, rfl, by rw [HQ.out], rfl, Lib.hid (fun u hu => absurd hu (Nat.not_lt_zero _)), T1⟩
  case round =>
    obtain ⟨T, hT, rfl, rfl, rfl, HN, HT⟩ := hrel
    have HI := Lib.hid (HIV.out T HN.out)
    have hlt := HI.out.lt
    have hky := isKeyB_size HI.out.key
    have k0 := HT.out.box.cell 0 _ rfl
    have k1 := HT.out.box.cell 1 _ rfl
    have k2 := HT.out.box.cell 2 _ rfl
    have s0 := HT.out.out.cell hlt
    have sf := HT.out.out.frozen (kC z n S x T)
    unfold strV at s0
    have em : (kS z n S x T (kC z n S x T)).toList.isEmpty = kE z n S x T := by unfold kE; rw [ba_toList]
    cases hE : kE z n S x T with
    | true =>
      rw [hE] at em
      have HF := Lib.hid (HT.out.set (kC z n S x T) (kK z n S x T))
      have HE := Lib.hid (show KEnd z n S x mv T from ⟨hT, HN.out, .inl hE⟩)
      have HEE := Lib.hid hE
      clear hE
      generalize hcc : kC z n S x T = cc at *
      generalize hkk : kK z n S x T = kk at *
      go_wp2_with fail
      go_ret2
      refine ⟨T, HE.out, HF.out.grown, .inl ⟨HEE.out, rfl, ?_⟩⟩
      rw [hcc, hkk]; exact HF.out.out
    | false =>
      rw [hE] at em
      have HEE := Lib.hid hE
      clear hE
      by_cases hTm : T = mv
      · have HE := Lib.hid (show KEnd z n S x mv T from ⟨hT, HN.out, .inr hTm⟩)
        subst hTm
        go_wp2_with fail
        go_ret2
        exact ⟨T, HE.out, HT.out.grown, .inr ⟨HEE.out, rfl, HT.out.out⟩⟩
      · have d1 : ((T : Int) == (mv : Int)) = false := by simp; omega
        have HN2 := Lib.hid (show ∀ u, u < T + 1 → kE z n S x u = false from fun u hu => by
          by_cases e : u = T
          · subst e; exact HEE.out
          · exact HN.out u (by omega))
        have HT2 := Lib.hid (show TO w z g n c B m d (kS z n S x (T + 1)) (wr.setCell ⟨g, kC z n S x T, none⟩ (.string (kK z n S x T))) from HT.out.set (kC z n S x T) (kK z n S x T))
        have HK1 := Lib.hid (kK_succ (z := z) (n := n) (S := S) (x := x) T)
        have HI2 := Lib.hid (HIV.out (T + 1) HN2.out)
        have hky2 := isKeyB_size HI2.out.key
        rw [← HK1.out] at s0 em
        have y0 := HT2.out.box.cell 0 _ rfl
        have y1 := HT2.out.box.cell 1 _ rfl
        have y2 := HT2.out.box.cell 2 _ rfl
        have HCS := Lib.hid (kC_succ (z := z) (n := n) (S := S) (x := x) T)
        obtain ⟨a, ha, han⟩ := HCB.out (kK z n S x (T + 1)).data.toList 0
        obtain ⟨b, hb, hbn⟩ := HCB.out (kK z n S x (T + 1)).data.toList 1
        have HCS2 := Lib.hid (show kC z n S x (T + 1) = a + b - kC z n S x T by rw [HCS.out, ha, hb, Int.toNat_natCast, Int.toNat_natCast])
        obtain ⟨j, hj, hjc⟩ := (HI.out.cell _ hlt (fun e => by have h := HEE.out; unfold kE at h; rw [e] at h; simp at h)).2
        have hsub : kC z n S x T ≤ a + b := by
          rw [← HK1.out] at hjc
          have e : j = 0 ∨ j = 1 := by omega
          rcases e with rfl | rfl
          · rw [ha] at hjc; omega
          · rw [hb] at hjc; omega
        go_wp2_with fail
        go_region
        clear y0 y1 y2 k0 k1 k2 s0 sf
        have y0 := HT2.out.box.cell 0 _ rfl
        have y1 := HT2.out.box.cell 1 _ rfl
        have y2 := HT2.out.box.cell 2 _ rfl
        go_wp2_with fail
        refine (impl_cellsFor z (some ⟨g, 0, none⟩) n c B m d _ (kK z n S x (T + 1)) (by unfold maxLen; omega) hz).mono ?_; rintro e w' ⟨W2, hbW2, hlW2, rfl, rfl⟩
        have HT3 := Lib.hid (HT2.out.b ((of_drew hbW2).trans ((celW_below z (kK z n S x (T + 1)).data.toList n W2).mono hbW2.size)))
        have HR4 := Lib.hid (celW_row z (kK z n S x (T + 1)).data.toList n W2)
        unfold celV
        generalize celW z (kK z n S x (T + 1)).data.toList n W2 = w5 at *
        generalize W2.heap.size = gb2 at *
        obtain ⟨b4, off4, hA4, _, hcc4⟩ := HR4.out (by omega)
        injection hA4 with hA4; injection hA4 with e3 e4
        subst e3 e4
        have f0 := hcc4 0 (by omega)
        have f1 := hcc4 1 (by omega)
        rw [ha] at f0
        rw [hb] at f1
        simp only [Nat.zero_add, Nat.add_zero] at f0 f1
        clear hcc4 hbW2 hlW2 y0 y1 y2 ha hb hjc
        go_wp2_with fail
        go_quiet (fail)
        go_wp2_with fail
        go_roundw
        case rel => exact ⟨T + 1, by omega, rfl, by rw [HCS2.out]; congr 1; omega, by go_num, HN2, Lib.hid (HT3.out.drewN _)⟩
        case measure => simp [intOf]; omega
end Go.Proofs.Ytfjimjbndkhkcaa
