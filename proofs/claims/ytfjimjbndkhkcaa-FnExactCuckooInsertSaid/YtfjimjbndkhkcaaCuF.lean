/- CuckooFind: both sides. -/
import Derived.Test.YtfjimjbndkhkcaaCuI
namespace Go.Proofs.Ytfjimjbndkhkcaa
open Go.RowKit

theorem inc_lt {H : Nat → ByteArray} {m : Nat} (h : Inc (lsOf H m)) {i j : Nat} (hij : i < j) (hj : j < m) : (H i).data.toList < (H j).data.toList := by
  have h1 := List.pairwise_iff_getElem.1 h i j (by rw [lsOf_len]; omega) (by rw [lsOf_len]; exact hj) hij
  simpa [lsOf] using h1
/-- What a search in an increasing row answers. -/
def BsIs (H : Nat → ByteArray) (m : Nat) (x : ByteArray) (w : World) (e : Ending) (w' : World) : Prop :=
  ∃ (k : Nat) (r : Bool), e = .returned (.tuple #[.int .i64 k, .bool r]) ∧ k ≤ m ∧ (r = true → k < m ∧ H k = x) ∧ (r = false → ∀ j, j < m → H j ≠ x) ∧ ∃ q, w' = w.drewN q
theorem search_strs (B : Option Addr) (m d : Nat) (H : Nat → ByteArray) (x : ByteArray) (w : World) (hm : m ≤ 1048576) (hi : Inc (lsOf H m)) (hr : GRow w B m (strV H)) :
    Calls Try.prog 76 #[.slice B m d, .string x] w (BsIs H m x w) := by
  rcases Nat.eq_zero_or_pos m with h0 | h0
  · subst h0
    refine (show Calls Try.prog 76 _ _ _ from Any2.slices_BinarySearch_string_empty (P := Try.prog) laysBs B d x w).mono ?_
    rintro e w' ⟨rfl, rfl⟩
    exact ⟨0, false, rfl, Nat.le_refl _, (fun h => absurd h (by simp)), (fun _ j hj => absurd hj (Nat.not_lt_zero _)), 0, rfl⟩
  · obtain ⟨b, off, rfl, _, hc⟩ := hr h0
    obtain ⟨k, hk, h1, h2⟩ := first_not (fun i => (H i).data.toList < x.data.toList) m
    let H' : Nat → ByteArray := fun t => if t < m then H t else x
    have hk2 : Go.Lib.bsGo (fun t => Go.Op.bytesLess (H' t).toList x.toList) m 0 m = k := by
      refine Go.Lib.bsGo_spec _ k (fun t ht => ?_) (fun t ht => ?_) m 0 m (by omega) (by omega) hk
      · show ltS (H' t) x = true
        rw [ltS_is]
        have : H' t = H t := if_pos (by omega)
        rw [this]; simpa using h1 t ht
      · show ltS (H' t) x = false
        rw [ltS_is]
        by_cases e : t < m
        · have e2 : H' t = H t := if_pos e
          rw [e2]
          simp only [decide_eq_false_iff_not]
          have h3 := h2 (by omega)
          by_cases e3 : t = k
          · subst e3; exact h3
          · exact fun h4 => h3 (bs_tr (inc_lt hi (show k < t by omega) e) h4)
        · have e2 : H' t = x := if_neg e
          rw [e2]; simp
    refine (show Calls Try.prog 76 _ _ _ from Any2.slices_BinarySearch_string (P := Try.prog) laysBs b off m d H' x w (by omega) (fun j hj => by rw [hc j hj]; show _ = some (Value.string (H' j)); rw [show H' j = H j from if_pos hj]; rfl)).mono ?_
    rintro e w' ⟨rfl, q, rfl⟩
    rw [hk2]
    refine ⟨k, _, rfl, hk, fun h => ?_, fun h j hj e => ?_, q, rfl⟩
    · simp only [decide_eq_true_eq] at h
      exact ⟨h.1, by have h3 := h.2; rwa [show H' k = H k from if_pos h.1] at h3⟩
    · simp only [decide_eq_false_iff_not] at h
      have hjk : ¬ j < k := fun hl => by
        have := h1 j hl
        rw [e] at this
        exact bs_irr _ this
      have hkm : k < m := by omega
      by_cases e3 : j = k
      · subst e3; exact h ⟨hkm, by rw [show H' j = H j from if_pos hkm]; exact e⟩
      · have h5 := inc_lt hi (show k < j by omega) hj
        rw [e] at h5
        exact h2 hkm h5
/-- A string that is not empty stands but once among those of a table. -/
theorem full_inj {T : Nat → ByteArray} : ∀ {N : Nat}, (fullS (lsOf T N)).Nodup → ∀ i j, i < j → j < N → (T i).data.toList ≠ [] → T i ≠ T j
  | 0, _, i, j, _, hj, _ => absurd hj (Nat.not_lt_zero _)
  | N + 1, h, i, j, hij, hj, hne => by
    rw [lsOf_succ, fullS_snoc] at h
    by_cases e : j = N
    · subst e
      intro he
      rw [← he, if_neg (by cases hh : (T i).data.toList <;> simp_all)] at h
      have hm : (T i).data.toList ∈ fullS (lsOf T j) := List.mem_filter.2 ⟨lsOf_mem.2 ⟨i, hij, rfl⟩, by cases hh : (T i).data.toList <;> simp_all⟩
      exact (List.nodup_append.1 h).2.2 _ hm _ (by simp) rfl
    · refine full_inj (N := N) ?_ i j hij (by omega) hne
      split at h
      · exact h
      · exact (List.nodup_append.1 h).1
theorem tab_inj {z : Int} {S H : Nat → ByteArray} {n m : Nat} (h : CuOk z S n H m) {i j : Nat} (hi : i < n + m) (hj : j < n + m) (hne : (catS S H n i).data.toList ≠ []) (he : catS S H n i = catS S H n j) : i = j := by
  have hn : (fullS (lsOf (catS S H n) (n + m))).Nodup := by rw [catS_ls]; exact h.nodup
  rcases Nat.lt_trichotomy i j with h1 | h1 | h1
  · exact absurd he (full_inj hn i j h1 hj hne)
  · exact h1
  · exact absurd he.symm (full_inj hn j i h1 hi (by rw [← he]; exact hne))
/-- Where a key is. -/
def FoundIs (S : Nat → ByteArray) (n : Nat) (H : Nat → ByteArray) (m : Nat) (x : ByteArray) (w : World) (e : Ending) (w' : World) : Prop :=
  ((∃ i, i < n + m ∧ catS S H n i = x ∧ e = .returned (.tuple #[.int .i64 i, .bool true])) ∨ ((∀ i, i < n + m → catS S H n i ≠ x) ∧ e = .returned (.tuple #[.int .i64 0, .bool false]))) ∧ Below w.heap.size w w'
def FindAt (T : Nat → ByteArray) (N : Nat) (x : ByteArray) (w : World) (e : Ending) (w' : World) : Prop :=
  ((∃ i, i < N ∧ T i = x ∧ e = .returned (.int .i64 i)) ∨ ((∀ i, i < N → T i ≠ x) ∧ e = .returned (.int .i64 (-1)))) ∧ Below w.heap.size w w'
theorem ba_beq {a b : ByteArray} : (a.toList == b.toList) = decide (a = b) := by
  rw [ba_toList, ba_toList, Bool.eq_iff_iff]
  simp only [beq_iff_eq, decide_eq_true_eq]
  exact ⟨ba_ext, fun h => by rw [h]⟩
section
variable (z : Int) (A : Option Addr) (n c : Nat) (S : Nat → ByteArray) (B : Option Addr) (m d : Nat) (H : Nat → ByteArray) (x : ByteArray) (w : World)
set_option maxRecDepth 100000 in
set_option maxHeartbeats 4000000 in
theorem spec_cuFind (hn : n ≤ 2048) (hm : m ≤ 2048) (h1 : GRow w A n (strV S)) (h2 : GRow w B m (strV H)) :
    Calls Try.prog 75 #[.agg #[.int .i64 z, .slice A n c, .slice B m d], .string x] w (FindAt (catS S H n) (n + m) x w) := by
  have C0 := Lib.hid (CL.start (z := z) (c := c) (d := d) h1 h2 36)
  clear h1 h2
  go_enter Try.func75, Try.ntmps75
  go_wp2_with fail
  generalize w.alloc (.cells #[.int .i64 z, .slice A n c, .slice B m d] 36) = w1 at *
  have k1 := C0.out.c1
  have k2 := C0.out.c2
  have HK := Lib.hid (show ∀ W, Below w1.heap.size w1 W → W.cell? ⟨w.heap.size, 1, none⟩ = some (.slice A n c) ∧ W.cell? ⟨w.heap.size, 2, none⟩ = some (.slice B m d) from fun W hW => ⟨(C0.out.b hW).c1, (C0.out.b hW).c2⟩)
  have hs1 := C0.out.size
  go_region_held3 (fun W => W.cell? ⟨w.heap.size, 1, none⟩ = some (.slice A n c) ∧ W.cell? ⟨w.heap.size, 2, none⟩ = some (.slice B m d))
    (first | with_reducible exact HK.out _ hb4 | with_reducible exact HK.out _ hb3 | exact HK.out _ ⟨rfl, rfl, rfl, Nat.le_refl _, fun _ _ => rfl⟩ | (go_keep; done))
    (first
      | (have hz := O3; clear hz; refine step_append_vals rfl _ _ 25 rfl w1.heap.size 9 (.string ByteArray.empty) 16 Try.underlying25 infoS rfl rfl rfl O3.out R3.out (fun _ _ => rfl) ?_ ?_ ?_ ?_; omega; omega; exact hb3.size; intro A4 c4 w4 ho4 hb4'; have hb4 := hb3.trans hb4'; have O4 := Lib.hid ho4; clear ho4 hb4')
      | (go_at_call 77; refine (spec_l1OwnS A n c S _ (by omega) C0.out.r1.drew).mono ?_; rintro e w3 ⟨A3, c3, rfl, ho3, hb3'⟩; have hb3 := of_drew hb3'; have O3 := Lib.hid ho3; have R3 := Lib.hid (C0.out.r2.b hb3); clear ho3 hb3'))
  have HB4 := Lib.hid (C0.out.below.trans (hb4.mono C0.out.below.size))
  have HT := Lib.hid (show GRow w4 A4 (n + m) (strV (catS S H n)) from (owned_vec O4.out).row.congr (fun i _ => catS_V S H n i))
  clear hb3 hb4 O3 R3 O4 HK k1 k2 C0
  generalize catS S H n = T at *
  go_wp2_with fail
  go_loop [14] (fun i => ∃ q : Nat, q ≤ n + m ∧ i = .int .i64 q ∧ Hid (∀ j, j < q → T j ≠ x)) (fun i => n + m - (intOf i).toNat)
  case atStart => exact ⟨0, Nat.zero_le _, rfl, Lib.hid (fun j hj => absurd hj (Nat.not_lt_zero _))⟩
  case round =>
    obtain ⟨q, hq, rfl, HN⟩ := hrel
    by_cases hlt : q < n + m
    · obtain ⟨b, off, rfl, hbl, hcc⟩ := HT.out (by omega)
      have hx : w4.cell? ⟨b, off + q, none⟩ = some (.string (T q)) := hcc q hlt
      have d0 : decide ((q : Int) < (n : Int) + (m : Int)) = true := by simp; omega
      clear hcc
      by_cases he : T q = x
      · have d1 : ((T q).toList == x.toList) = true := by rw [ba_beq]; simpa using he
        have HE := Lib.hid he
        clear he
        go_wp2_with fail
        go_ret
        exact ⟨.inl ⟨q, hlt, HE.out, rfl⟩, HB4.out⟩
      · have d1 : ((T q).toList == x.toList) = false := by rw [ba_beq]; simpa using he
        have HN2 := Lib.hid (show ∀ j, j < q + 1 → T j ≠ x from fun j hj => by
          by_cases e : j = q
          · subst e; exact he
          · exact HN.out j (by omega))
        clear he
        go_wp2_with fail
        go_round
        case rel => exact ⟨q + 1, by omega, by go_num, HN2⟩
        case measure => simp [intOf]; omega
    · obtain rfl : q = n + m := by omega
      have d0 : decide (((n + m : Nat) : Int) < (n : Int) + (m : Int)) = false := by simp
      go_wp2_with fail
      go_ret
      exact ⟨.inr ⟨HN.out, rfl⟩, HB4.out⟩
def NoFind (w : World) (e : Ending) (w' : World) : Prop := e = .returned (.tuple #[.int .i64 0, .bool false]) ∧ Below w.heap.size w w'
set_option maxRecDepth 100000 in
set_option maxHeartbeats 2000000 in
theorem spec_find (hs : ∀ i, i < n → (S i).size ≤ maxLen) (hh : ∀ i, i < m → (H i).size ≤ maxLen) (hx : x.size ≤ maxLen) (h1 : GRow w A n (strV S)) (h2 : GRow w B m (strV H)) (h : CuOk z S n H m) (hk : isKeyB x.data.toList = true) :
    Calls Try.prog 39 #[.agg #[.int .i64 z, .slice A n c, .slice B m d], .string x] w (FoundIs S n H m x w) := by
  have hz := sizeB_out h.size
  have hm := h.few
  have HI := Lib.hid (fun W g1 g2 => (BoolIs.two (spec_cuGood z A n c S B m d H W (by omega) (by omega) hs hh g1 g2)).1 h)
  have C0 := Lib.hid (CL.start (z := z) (c := c) (d := d) h1 h2 36)
  have HU := Lib.hid (show ∀ i j, i < n + m → j < n + m → catS S H n i = x → catS S H n j = x → i = j from fun i j hi hj e1 e2 => tab_inj h hi hj (by rw [e1]; exact key_ne hk) (e1.trans e2.symm))
  clear hs hh h1 h2 h
  go_enter Try.func39, Try.ntmps39
  go_wp2_with fail
  refine (HI.out _ C0.out.r1 C0.out.r2).mono ?_; rintro e w1 ⟨rfl, hb⟩
  have C1 := Lib.hid (C0.out.b hb)
  have k0 := C1.out.c0
  have k1 := C1.out.c1
  have k2 := C1.out.c2
  clear hb
  go_wp2_with fail
  refine (spec_isKey x _ hx).mono ?_; rintro e w' ⟨rfl, rfl⟩
  rw [hk]
  go_wp2_with fail
  refine (spec_cuFind z A n c S B m d H x _ (by omega) (by omega) C1.out.r1 C1.out.r2).mono ?_; rintro e w2 ⟨hf, hb⟩
  have C2 := Lib.hid (C1.out.b hb)
  clear k0 k1 k2
  have k0 := C2.out.c0
  have k1 := C2.out.c1
  have k2 := C2.out.c2
  clear hb
  rcases hf with ⟨i, hi, hxi, rfl⟩ | ⟨hN, rfl⟩
  · have HX := Lib.hid hxi
    have d0 : decide ((i : Int) < 0) = false := by simp
    clear hxi
    go_wp2_with fail
    refine (spec_cuFind z A n c S B m d H x _ (by omega) (by omega) C2.out.r1 C2.out.r2).mono ?_; rintro e w3 ⟨hf, hb⟩
    have HB := Lib.hid (C2.out.b hb).below
    clear hb
    rcases hf with ⟨j, hj, hxj, rfl⟩ | ⟨hN, rfl⟩
    · have HJ := Lib.hid hxj
      clear hxj
      go_wp2_with fail
      go_ret2
      exact ⟨.inl ⟨j, hj, HJ.out, rfl⟩, HB.out⟩
    · exact absurd HX.out (hN i hi)
  · have HN := Lib.hid hN
    clear hN
    go_wp2_with fail
    go_ret2
    exact ⟨.inr ⟨HN.out, rfl⟩, C2.out.below⟩
set_option maxRecDepth 100000 in
set_option maxHeartbeats 2000000 in
theorem spec_find_no (hn : n ≤ 1048576) (hm : m ≤ 1048576) (hs : ∀ i, i < n → (S i).size ≤ maxLen) (hh : ∀ i, i < m → (H i).size ≤ maxLen) (hx : x.size ≤ maxLen) (h1 : GRow w A n (strV S)) (h2 : GRow w B m (strV H)) (h : ¬ (CuOk z S n H m ∧ isKeyB x.data.toList = true)) :
    Calls Try.prog 39 #[.agg #[.int .i64 z, .slice A n c, .slice B m d], .string x] w (NoFind w) := by
  have HI := Lib.hid (fun W g1 g2 => spec_cuGood z A n c S B m d H W hn hm hs hh g1 g2)
  have C0 := Lib.hid (CL.start (z := z) (c := c) (d := d) h1 h2 36)
  have HN := Lib.hid h
  clear hs hh h1 h2 h
  go_enter Try.func39, Try.ntmps39
  go_wp2_with fail
  refine (HI.out _ C0.out.r1 C0.out.r2).mono ?_; rintro e w1 ⟨r, rfl, hr, hb⟩
  have HR := Lib.hid hr
  have HB := Lib.hid (C0.out.b hb).below
  clear hb hr
  cases r with
  | false =>
    go_wp2_with fail
    go_ret2
    exact ⟨rfl, HB.out⟩
  | true =>
    have hk : isKeyB x.data.toList = false := by
      cases hk : isKeyB x.data.toList with
      | false => rfl
      | true => exact absurd ⟨HR.out.1 rfl, hk⟩ HN.out
    go_wp2_with fail
    refine (spec_isKey x _ hx).mono ?_; rintro e w' ⟨rfl, rfl⟩
    rw [hk]
    go_wp2_with fail
    go_ret2
    exact ⟨rfl, HB.out⟩
set_option maxRecDepth 100000 in
set_option maxHeartbeats 2000000 in
theorem impl_find_no (hn : n ≤ 1048576) (hm : m ≤ 1048576) (hs : ∀ i, i < n → (S i).size ≤ maxLen) (hh : ∀ i, i < m → (H i).size ≤ maxLen) (hx : x.size ≤ maxLen) (h1 : GRow w A n (strV S)) (h2 : GRow w B m (strV H)) (h : ¬ (CuOk z S n H m ∧ isKeyB x.data.toList = true)) :
    Calls Try.prog 40 #[.agg #[.int .i64 z, .slice A n c, .slice B m d], .string x] w (NoFind w) := by
  have HI := Lib.hid (fun W g1 g2 => impl_isCuckoo z A n c S B m d H W hn hm hs hh g1 g2)
  have C0 := Lib.hid (CL.start (z := z) (c := c) (d := d) h1 h2 36)
  have HN := Lib.hid h
  clear hs hh h1 h2 h
  go_enter Try.func40, Try.ntmps40
  go_wp2_with fail
  refine (HI.out _ C0.out.r1 C0.out.r2).mono ?_; rintro e w1 ⟨r, rfl, hr, hb⟩
  have HR := Lib.hid hr
  have HB := Lib.hid (C0.out.b hb).below
  clear hb hr
  cases r with
  | false =>
    go_wp2_with fail
    go_ret2
    exact ⟨rfl, HB.out⟩
  | true =>
    have hk : isKeyB x.data.toList = false := by
      cases hk : isKeyB x.data.toList with
      | false => rfl
      | true => exact absurd ⟨HR.out.1 rfl, hk⟩ HN.out
    go_wp2_with fail
    refine (impl_isKey x _ hx).mono ?_; rintro e w' ⟨rfl, rfl⟩
    rw [hk]
    go_wp2_with fail
    go_ret2
    exact ⟨rfl, HB.out⟩
set_option maxRecDepth 100000 in
set_option maxHeartbeats 4000000 in
theorem impl_find (hs : ∀ i, i < n → (S i).size ≤ maxLen) (hh : ∀ i, i < m → (H i).size ≤ maxLen) (hx : x.size ≤ maxLen) (h1 : GRow w A n (strV S)) (h2 : GRow w B m (strV H)) (h : CuOk z S n H m) (hk : isKeyB x.data.toList = true) :
    Calls Try.prog 40 #[.agg #[.int .i64 z, .slice A n c, .slice B m d], .string x] w (FoundIs S n H m x w) := by
  have hz := sizeB_out h.size
  have hm := h.few
  have hsz := h.size
  have HI := Lib.hid (fun W g1 g2 => (BoolIs.two (impl_isCuckoo z A n c S B m d H W (by omega) (by omega) hs hh g1 g2)).1 h)
  have C0 := Lib.hid (CL.start (z := z) (c := c) (d := d) h1 h2 36)
  have HC := Lib.hid (show ∀ i, i < n → S i = x → ∃ j, j < 2 ∧ celF z x.data.toList n j = (i : Int) from fun i hi e => by
    have := (h.cell i hi (by rw [e]; exact key_ne hk)).2
    rwa [e] at this)
  have HINC := Lib.hid (keysB_inc.1 h.keys).2.2
  clear hs hh h1 h2 h
  go_enter Try.func40, Try.ntmps40
  go_wp2_with fail
  refine (HI.out _ C0.out.r1 C0.out.r2).mono ?_; rintro e w1 ⟨rfl, hb⟩
  have C1 := Lib.hid (C0.out.b hb)
  have k0 := C1.out.c0
  have k1 := C1.out.c1
  have k2 := C1.out.c2
  clear hb
  go_wp2_with fail
  refine (impl_isKey x _ hx).mono ?_; rintro e w' ⟨rfl, rfl⟩
  rw [hk]
  go_wp2_with fail
  refine (impl_cellsFor z A n c B m d w1 x hx hsz).mono ?_; rintro e w' ⟨W, hbW, hlW, rfl, rfl⟩
  have C2 := Lib.hid (C1.out.b (hbW.trans ((celW_below z x.data.toList n W).mono hbW.size)))
  have HR3 := Lib.hid (celW_row z x.data.toList n W)
  have HCB := Lib.hid (fun i => celF_bd (z := z) (x := x.data.toList) (P := n) i (by omega))
  unfold celV
  generalize celW z x.data.toList n W = w3 at *
  generalize celF z x.data.toList n = F at *
  generalize W.heap.size = gb at *
  clear hbW hlW k0 k1 k2
  have k0 := C2.out.c0
  have k1 := C2.out.c1
  have k2 := C2.out.c2
  go_wp2_with fail
  go_loop [22] (fun i => ∃ q : Nat, q ≤ 2 ∧ i = .int .i64 q ∧ Hid (∀ j, j < q → ∀ i, i < n → F j = (i : Int) → S i ≠ x)) (fun i => 2 - (intOf i).toNat)
  case atStart => exact ⟨0, Nat.zero_le _, rfl, Lib.hid (fun j hj => absurd hj (Nat.not_lt_zero _))⟩
  case round =>
    obtain ⟨q, hq, rfl, HN⟩ := hrel
    by_cases hlt : q < 2
    · obtain ⟨b, off, hA, _, hcc⟩ := HR3.out (by omega)
      injection hA with hA; injection hA with e1 e2
      subst e1 e2
      have hf := hcc q hlt
      rw [Nat.zero_add] at hf
      obtain ⟨y, hy, hyn⟩ := HCB.out q
      rw [hy] at hf
      have HY := Lib.hid hy
      obtain ⟨b2, off2, rfl, hbl, hc2⟩ := C2.out.r1 (by omega)
      have hsx : w3.cell? ⟨b2, off2 + y, none⟩ = some (.string (S y)) := hc2 y hyn
      clear hcc hc2 hy
      by_cases he : S y = x
      · have d1 : ((S y).toList == x.toList) = true := by rw [ba_beq]; simpa using he
        have HE := Lib.hid he
        clear he
        go_wp2_with fail
        go_ret2
        exact ⟨.inl ⟨y, by omega, by unfold catS; rw [if_pos hyn]; exact HE.out, rfl⟩, C2.out.below⟩
      · have d1 : ((S y).toList == x.toList) = false := by rw [ba_beq]; simpa using he
        have HN2 := Lib.hid (show ∀ j, j < q + 1 → ∀ i, i < n → F j = (i : Int) → S i ≠ x from fun j hj i hi hF => by
          by_cases e : j = q
          · subst e
            have h1 : (i : Int) = y := hF.symm.trans HY.out
            obtain rfl : i = y := by omega
            exact he
          · exact HN.out j (by omega) i hi hF)
        clear he
        go_wp2_with fail
        go_round
        case rel => exact ⟨q + 1, by omega, by go_num, HN2⟩
        case measure => simp [intOf]; omega
    · obtain rfl : q = 2 := by omega
      have HSN := Lib.hid (show ∀ i, i < n → S i ≠ x from fun i hi he => by
        obtain ⟨j, hj, hF⟩ := HC.out i hi he
        exact HN.out j hj i hi hF he)
      go_wp2_with fail
      refine (search_strs B m d H x _ (by omega) HINC.out C2.out.r2).mono ?_; rintro e w' ⟨k, r, rfl, hkm, hr1, hr2, q, rfl⟩
      have C4 := Lib.hid (C2.out.drewN q)
      have HR1 := Lib.hid hr1
      have HR2 := Lib.hid hr2
      clear hr1 hr2 k0 k1 k2
      have k0 := C4.out.c0
      have k1 := C4.out.c1
      have k2 := C4.out.c2
      generalize w3.drewN q = w4 at *
      cases r with
      | true =>
        obtain ⟨hk1, hk2⟩ := HR1.out rfl
        have HE := Lib.hid hk2
        clear hk2
        go_wp2_with fail
        go_ret2
        exact ⟨.inl ⟨n + k, by omega, by unfold catS; rw [if_neg (by omega), Nat.add_sub_cancel_left]; exact HE.out, by push_cast; rfl⟩, C4.out.below⟩
      | false =>
        have HE := Lib.hid (HR2.out rfl)
        go_wp2_with fail
        go_ret2
        refine ⟨.inr ⟨fun i hi he => ?_, rfl⟩, C4.out.below⟩
        unfold catS at he
        by_cases e : i < n
        · rw [if_pos e] at he; exact HSN.out i e he
        · rw [if_neg e] at he; exact HE.out (i - n) (by omega) he
end
end Go.Proofs.Ytfjimjbndkhkcaa
