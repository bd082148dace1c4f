/- Is it a cuckoo table: the program's side. -/
import Derived.Test.YtfjimjbndkhkcaaKeysJ
import Derived.Test.YtfjimjbndkhkcaaCuG
import Derived.Test.YtfjimjbndkhkcaaContI
namespace Go.Proofs.Ytfjimjbndkhkcaa
open Go.RowKit

theorem kept_ok {z : Int} {S H : Nat → ByteArray} {n m : Nat} (hs : sizeB z n = true) (h4 : m ≤ 4) (hk : keysB H m = true) :
    CuOk z S n H m ↔ keysB (rowS (keptL S n H m)) (keptL S n H m).length = true ∧ ∀ i, i < n → CellOk z S n i := by
  have hr := rowS_ls (keptL S n H m)
  have hlen : (keptL S n H m).length = (tabL S n H m).length := keepS_len _
  rw [keysB_inc, hr]
  constructor
  · intro h
    refine ⟨⟨by rw [hlen]; exact h.many, fun x hx => ?_, keepS_inc.2 h.nodup⟩, h.cell⟩
    have hx2 : x ∈ fullS (lsOf S n ++ lsOf H m) := keepS_mem.1 hx
    obtain ⟨hx3, hne⟩ := List.mem_filter.1 hx2
    rcases List.mem_append.1 hx3 with hx4 | hx4
    · obtain ⟨i, hi, rfl⟩ := lsOf_mem.1 hx4
      exact (h.cell i hi (fun e => by rw [e] at hne; simp at hne)).1
    · exact (keysB_inc.1 hk).2.1 x hx4
  · rintro ⟨⟨h1, _, h3⟩, hc⟩
    exact ⟨hs, h4, hk, hc, by rw [← hlen]; exact h1, keepS_inc.1 h3⟩
section
variable (z : Int) (A : Option Addr) (n c : Nat) (S : Nat → ByteArray) (B : Option Addr) (m d : Nat) (H : Nat → ByteArray) (w : World)
set_option maxHeartbeats 1000000 in
theorem impl_cellsFor (s : ByteArray) (hs : s.size ≤ maxLen) (hz : sizeB z n = true) : Calls Try.prog 72 #[.agg #[.int .i64 z, .slice A n c, .slice B m d], .string s] w fun e w' => ∃ W, Below w.heap.size w W ∧ w.heap.size < W.heap.size ∧ e = .returned (celV W) ∧ w' = celW z s.data.toList n W := by
  have HB := Lib.hid ((Below.refl w.heap.size w).alloc (Nat.le_refl _) (.cells #[.int .i64 z, .slice A n c, .slice B m d] 36))
  go_enter Try.func72, Try.ntmps72
  go_wp2_with fail
  refine (impl_cellsOf z n s _ hs hz).mono ?_; rintro e w' ⟨rfl, rfl⟩
  go_wp2_with fail
  go_ret
  exact ⟨_, HB.out, by simp, rfl, rfl⟩
set_option maxRecDepth 100000 in
set_option maxHeartbeats 4000000 in
theorem impl_isCuckoo (hn : n ≤ 1048576) (hm : m ≤ 1048576) (hs : ∀ i, i < n → (S i).size ≤ maxLen) (hh : ∀ i, i < m → (H i).size ≤ maxLen) (h1 : GRow w A n (strV S)) (h2 : GRow w B m (strV H)) :
    Calls Try.prog 34 #[.agg #[.int .i64 z, .slice A n c, .slice B m d]] w (BoolIs (CuOk z S n H m) w) := by
  have C0 := Lib.hid (CL.start (z := z) (c := c) (d := d) h1 h2 36)
  have HS := Lib.hid hs
  have HH := Lib.hid hh
  clear h1 h2 hs hh
  have k0 := C0.out.c0
  have k1 := C0.out.c1
  have k2 := C0.out.c2
  have HBe := Lib.hid C0.out.below
  cases hz : sizeB z n with
  | false =>
    have HN := Lib.hid (show ¬ CuOk z S n H m from fun h => by have := h.size; rw [hz] at this; cases this)
    go_enter Try.func34, Try.ntmps34
    go_wp2_with fail
    refine (impl_hasCells z n _).mono ?_; rintro e w' ⟨rfl, rfl⟩
    rw [hz]
    go_wp2_with fail
    go_ret
    exact ⟨false, rfl, by simp only [Bool.false_eq_true, false_iff]; exact HN.out, HBe.out⟩
  | true =>
  have hzs := sizeB_out hz
  have hn64 : n ≤ 64 := by omega
  by_cases h4 : 4 < m
  · have HN := Lib.hid (show ¬ CuOk z S n H m from fun h => by have := h.few; omega)
    have d4 : decide ((4 : Int) < (m : Int)) = true := by simp; omega
    go_enter Try.func34, Try.ntmps34
    go_wp2_with fail
    refine (impl_hasCells z n _).mono ?_; rintro e w' ⟨rfl, rfl⟩
    rw [hz]
    go_wp2_with fail
    go_ret
    exact ⟨false, rfl, by simp only [Bool.false_eq_true, false_iff]; exact HN.out, HBe.out⟩
  have d4 : decide ((4 : Int) < (m : Int)) = false := by simp; omega
  cases hk : keysB H m with
  | false =>
    have HN := Lib.hid (show ¬ CuOk z S n H m from fun h => by have := h.keys; rw [hk] at this; cases this)
    go_enter Try.func34, Try.ntmps34
    go_wp2_with fail
    refine (impl_hasCells z n _).mono ?_; rintro e w' ⟨rfl, rfl⟩
    rw [hz]
    go_wp2_with fail
    refine (impl_areKeys B m d H _ hm HH.out C0.out.r2).mono ?_; rintro e w' ⟨rfl, rfl⟩
    rw [hk]
    go_wp2_with fail
    go_ret
    exact ⟨false, rfl, by simp only [Bool.false_eq_true, false_iff]; exact HN.out, HBe.out⟩
  | true =>
  have HOK := Lib.hid (kept_ok (S := S) hz (by omega) hk)
  have HKL := Lib.hid (show ∀ x, x ∈ keptL S n H m → x.length ≤ maxLen from fun x hx => by
    obtain ⟨hx3, _⟩ := List.mem_filter.1 (keepS_mem.1 hx)
    rcases List.mem_append.1 hx3 with hx4 | hx4
    · obtain ⟨i, hi, rfl⟩ := lsOf_mem.1 hx4
      have := HS.out i hi; simpa using this
    · obtain ⟨i, hi, rfl⟩ := lsOf_mem.1 hx4
      have := HH.out i hi; simpa using this)
  have HKM := Lib.hid (show ∀ q, q < n → (S q).data.toList ≠ [] → keysB (rowS (keptL S n H m)) (keptL S n H m).length = true → isKeyB (S q).data.toList = true from fun q hq hne hkk => by
    have h := (keysB_inc.1 hkk).2.1 (S q).data.toList
    rw [rowS_ls] at h
    refine h (keepS_mem.2 (List.mem_filter.2 ⟨List.mem_append_left _ (lsOf_mem.2 ⟨q, hq, rfl⟩), ?_⟩))
    cases hh : (S q).data.toList with
    | nil => exact absurd hh hne
    | cons a l => rfl)
  have HKN := Lib.hid (show (keptL S n H m).length ≤ 1048576 by
    have h := keepS_len (lsOf S n ++ lsOf H m)
    have h2 := fullS_le (lsOf S n ++ lsOf H m)
    rw [List.length_append, lsOf_len, lsOf_len] at h2
    show (keepS _).length ≤ _
    omega)
  go_enter Try.func34, Try.ntmps34
  go_wp2_with fail
  refine (impl_hasCells z n _).mono ?_; rintro e w' ⟨rfl, rfl⟩
  rw [hz]
  go_wp2_with fail
  refine (impl_areKeys B m d H _ hm HH.out C0.out.r2).mono ?_; rintro e w' ⟨rfl, rfl⟩
  rw [hk]
  go_wp2_with fail
  generalize w.alloc (.cells #[.int .i64 z, .slice A n c, .slice B m d] 36) = w1 at *
  refine (impl_keysIn z A n c S B m d H _ (by omega) (by omega) (by omega) C0.out.r1 C0.out.r2).mono ?_; rintro e w2 ⟨A2, c2, rfl, ho2, hb2⟩
  have HR2 := Lib.hid (owned_vec ho2).row
  have C2 := Lib.hid (C0.out.b hb2)
  have HSZ := Lib.hid (show ∀ i, i < (keptL S n H m).length → (rowS (keptL S n H m) i).size ≤ maxLen from fun i hi => by
    have h := lsOf_at (S := rowS (keptL S n H m)) hi
    rw [rowS_ls] at h
    have h2 := HKL.out _ (List.mem_of_getElem? h)
    simpa using h2)
  clear ho2 hb2 k0 k1 k2 C0
  generalize keptL S n H m = L at *
  have k0 := C2.out.c0
  have k1 := C2.out.c1
  have k2 := C2.out.c2
  go_wp2_with fail
  refine (impl_areKeys A2 L.length c2 (rowS L) _ HKN.out HSZ.out HR2.out).mono ?_; rintro e w' ⟨rfl, rfl⟩
  cases hkk : keysB (rowS L) L.length with
  | false =>
    have HN := Lib.hid (show ¬ CuOk z S n H m from fun h => by have := (HOK.out.1 h).1; rw [hkk] at this; cases this)
    go_wp2_with fail
    go_ret
    exact ⟨false, rfl, by simp only [Bool.false_eq_true, false_iff]; exact HN.out, C2.out.below⟩
  | true =>
  go_wp2_with fail
  clear k0 k1 k2
  go_loopw [33] (fun i wr => ∃ (q : Nat), q ≤ n ∧ i = .int .i64 q ∧ Hid (∀ j, j < q → CellOk z S n j) ∧ Hid (CL w z A n c S B m d H wr)) (fun i _ => n - (intOf i).toNat)
  case atStart => exact ⟨0, Nat.zero_le _, rfl, Lib.hid (fun j hj => absurd hj (Nat.not_lt_zero _)), C2⟩
  case round =>
    obtain ⟨q, hq, rfl, HC, HL⟩ := hrel
    have k0 := HL.out.c0
    have k1 := HL.out.c1
    have k2 := HL.out.c2
    by_cases hlt : q < n
    · obtain ⟨b, off, rfl, hbl, hcc⟩ := HL.out.r1 (by omega)
      have hx : wr.cell? ⟨b, off + q, none⟩ = some (.string (S q)) := hcc q hlt
      have hsq := HS.out q hlt
      have hem : (S q).toList.isEmpty = (S q).data.toList.isEmpty := by rw [ba_toList]
      clear hcc
      cases hc : (S q).data.toList.isEmpty with
      | true =>
        rw [hc] at hem
        have HC2 := Lib.hid (show ∀ j, j < q + 1 → CellOk z S n j from fun j hj => by
          by_cases e : j = q
          · subst e; exact fun h => absurd (by simpa using hc) h
          · exact HC.out j (by omega))
        clear hc
        go_wp2_with fail
        go_roundw
        case rel => exact ⟨q + 1, by omega, by go_num, HC2, HL⟩
        case measure => simp [intOf]; omega
      | false =>
        rw [hc] at hem
        have hne : (S q).data.toList ≠ [] := fun h => by rw [h] at hc; simp at hc
        have HNE := Lib.hid hne
        clear hc hne
        have hkq : isKeyB (S q).data.toList = true := HKM.out q hlt HNE.out hkk
        go_wp2_with fail
        refine (impl_cellsFor z _ n c B m d _ (S q) hsq hz).mono ?_; rintro e w' ⟨W, hbW, hlW, rfl, rfl⟩
        have HL2 := Lib.hid (HL.out.b (hbW.trans ((celW_below z (S q).data.toList n W).mono hbW.size)))
        have HR3 := Lib.hid (celW_row z (S q).data.toList n W)
        unfold celV
        generalize celW z (S q).data.toList n W = w3 at *
        clear hbW hlW
        go_wp2_with fail
        refine (contains_is _ 2 2 _ (q : Int) _ (by omega) HR3.out).mono ?_; rintro e w' ⟨r, rfl, hr, rfl⟩
        have HRR := Lib.hid hr
        clear hr
        cases r with
        | false =>
          have HN := Lib.hid (show ¬ CuOk z S n H m from fun h => by have := HRR.out.2 (h.cell q hlt HNE.out).2; cases this)
          go_wp2_with fail
          go_ret
          exact ⟨false, rfl, by simp only [Bool.false_eq_true, false_iff]; exact HN.out, HL2.out.below⟩
        | true =>
          have HC2 := Lib.hid (show ∀ j, j < q + 1 → CellOk z S n j from fun j hj => by
            by_cases e : j = q
            · subst e; exact fun _ => ⟨hkq, HRR.out.1 rfl⟩
            · exact HC.out j (by omega))
          go_wp2_with fail
          go_roundw
          case rel => exact ⟨q + 1, by omega, by go_num, HC2, HL2⟩
          case measure => simp [intOf]; omega
    · obtain rfl : q = n := by omega
      have HY := Lib.hid (HOK.out.2 ⟨hkk, HC.out⟩)
      go_wp2_with fail
      go_ret
      exact ⟨true, rfl, by simp only [true_iff]; exact HY.out, HL.out.below⟩
theorem spec_cuGoodT (hn : n ≤ 1048576) (hm : m ≤ 1048576) (hs : ∀ i, i < n → (S i).size ≤ maxLen) (hh : ∀ i, i < m → (H i).size ≤ maxLen) (h1 : GRow w A n (strV S)) (h2 : GRow w B m (strV H)) :
    Calls Try.prog 32 #[.agg #[.int .i64 z, .slice A n c, .slice B m d]] w (BoolIs (CuOk z S n H m) w) := by
  have HS := Lib.hid hs
  have HH := Lib.hid hh
  have C0 := Lib.hid (CL.start (z := z) (c := c) (d := d) h1 h2 36)
  clear h1 h2 hs hh
  go_enter Try.func32, Try.ntmps32
  go_wp2_with fail
  refine (spec_cuGood z A n c S B m d H _ hn hm HS.out HH.out C0.out.r1 C0.out.r2).mono ?_; rintro e w' ⟨b, rfl, hb, hw⟩
  have HW := Lib.hid (C0.out.below.trans (hw.mono C0.out.below.size))
  have HB := Lib.hid hb
  clear hb hw
  go_wp2_with fail
  go_ret
  exact ⟨b, rfl, HB.out, HW.out⟩
end
end Go.Proofs.Ytfjimjbndkhkcaa
