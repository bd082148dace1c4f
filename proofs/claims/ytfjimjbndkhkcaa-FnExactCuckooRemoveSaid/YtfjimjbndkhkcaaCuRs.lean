/- CuckooRemove, the model's side. -/
import Derived.Test.YtfjimjbndkhkcaaCuR
namespace Go.Proofs.Ytfjimjbndkhkcaa
open Go.RowKit

theorem remS_hit {S : Nat → ByteArray} {x : ByteArray} {k : Nat} (h : S k = x) : remS S x (k + 1) = updC (remS S x k) k ⟨#[]⟩ := by
  funext j
  unfold remS updC
  by_cases e : j = k
  · subst e; simp [h]
  · by_cases e2 : j < k
    · simp [e, e2, show j < k + 1 by omega]
    · simp [e, e2, show ¬ j < k + 1 by omega]
theorem remS_miss {S : Nat → ByteArray} {x : ByteArray} {k : Nat} (h : S k ≠ x) : remS S x (k + 1) = remS S x k := by
  funext j
  unfold remS
  by_cases e : j = k
  · subst e; simp [h]
  · simp only [show (j < k + 1) = (j < k) by simp; omega]
theorem remS_zero (S : Nat → ByteArray) (x : ByteArray) : remS S x 0 = S := by funext j; unfold remS; simp
section
variable (z : Int) (A : Option Addr) (n c : Nat) (S : Nat → ByteArray) (B : Option Addr) (m d : Nat) (H : Nat → ByteArray) (x : ByteArray) (w : World)
set_option maxRecDepth 100000 in
set_option maxHeartbeats 4000000 in
theorem spec_remove_no (hn : n ≤ 1048576) (hm : m ≤ 1048576) (hs : ∀ i, i < n → (S i).size ≤ maxLen) (hh : ∀ i, i < m → (H i).size ≤ maxLen) (hx : x.size ≤ maxLen) (h1 : GRow w A n (strV S)) (h2 : GRow w B m (strV H)) (h : ¬ (CuOk z S n H m ∧ isKeyB x.data.toList = true ∧ ∃ i, i < n + m ∧ catS S H n i = x)) :
    Calls Try.prog 41 #[.agg #[.int .i64 z, .slice A n c, .slice B m d], .string x] w (CuNo w) := by
  have HI := Lib.hid (fun W g1 g2 => spec_cuGood z A n c S B m d H W hn hm hs hh g1 g2)
  have HN := Lib.hid h
  have C0 := CL.start (z := z) (c := c) (d := d) h1 h2 36
  have C1 := Lib.hid (C0.b ((Below.refl _ _).alloc (Nat.le_refl _) (.cells #[.int .i64 0, .slice none 0 0, .slice none 0 0] 36)))
  have N1 := Lib.hid (nbx0 (w.alloc (.cells #[.int .i64 z, .slice A n c, .slice B m d] 36)) #[.int .i64 0, .slice none 0 0, .slice none 0 0] 36)
  have hsz : (w.alloc (.cells #[.int .i64 z, .slice A n c, .slice B m d] 36)).heap.size = w.heap.size + 1 := by simp
  rw [hsz] at N1
  have FIN := Lib.hid (show ∀ wr, Below w.heap.size w wr → Below w.heap.size w (((wr.setCell ⟨w.heap.size + 1, 0, none⟩ (.int .i64 0)).setCell ⟨w.heap.size + 1, 1, none⟩ (.slice none 0 0)).setCell ⟨w.heap.size + 1, 2, none⟩ (.slice none 0 0)) from fun wr hb => ((hb.setCell (p := ⟨w.heap.size + 1, 0, none⟩) (by show _ ≤ w.heap.size + 1; omega) _).setCell (p := ⟨w.heap.size + 1, 1, none⟩) (by show _ ≤ w.heap.size + 1; omega) _).setCell (p := ⟨w.heap.size + 1, 2, none⟩) (by show _ ≤ w.heap.size + 1; omega) _)
  clear hs hh h1 h2 h C0 hsz
  go_enter Try.func41, Try.ntmps41
  go_wp2_with fail
  refine (HI.out _ C1.out.r1 C1.out.r2).mono ?_; rintro e w2 ⟨r, rfl, hr, hb⟩
  have N2 := Lib.hid (N1.out.b hb)
  have C2 := Lib.hid (C1.out.b hb)
  have HR := Lib.hid hr
  clear hb hr
  cases r with
  | false =>
    have x0 := N2.out.cell 0 _ rfl
    have x1 := N2.out.cell 1 _ rfl
    have x2 := N2.out.cell 2 _ rfl
    have f0 := N2.out.free 0
    have f1 := N2.out.free 1
    have f2 := N2.out.free 2
    go_wp2_with fail
    refine bodyPost_ret (v := .tuple #[.agg #[.int .i64 0, .slice none 0 0, .slice none 0 0], .bool false]) (by simp [results, Try.results41, go_sem, x0, x1, x2]) rfl ?_
    exact ⟨rfl, FIN.out _ C2.out.below⟩
  | true =>
    have hok := HR.out.1 rfl
    have hz := sizeB_out hok.size
    have hm4 := hok.few
    have HOK := Lib.hid hok
    clear hok
    cases hk : isKeyB x.data.toList with
    | false =>
      have x0 := N2.out.cell 0 _ rfl
      have x1 := N2.out.cell 1 _ rfl
      have x2 := N2.out.cell 2 _ rfl
      have f0 := N2.out.free 0
      have f1 := N2.out.free 1
      have f2 := N2.out.free 2
      go_wp2_with fail
      refine (spec_isKey x _ hx).mono ?_; rintro e w' ⟨rfl, rfl⟩
      rw [hk]
      go_wp2_with fail
      refine bodyPost_ret (v := .tuple #[.agg #[.int .i64 0, .slice none 0 0, .slice none 0 0], .bool false]) (by simp [results, Try.results41, go_sem, x0, x1, x2]) rfl ?_
      exact ⟨rfl, FIN.out _ C2.out.below⟩
    | true =>
      have k0 := C2.out.c0
      have k1 := C2.out.c1
      have k2 := C2.out.c2
      go_wp2_with fail
      refine (spec_isKey x _ hx).mono ?_; rintro e w' ⟨rfl, rfl⟩
      rw [hk]
      go_wp2_with fail
      refine (spec_cuFind z A n c S B m d H x _ (by omega) (by omega) C2.out.r1 C2.out.r2).mono ?_; rintro e w3 ⟨hf, hb⟩
      have C3 := Lib.hid (C2.out.b hb)
      have N3 := Lib.hid (N2.out.b hb)
      clear hb
      rcases hf with ⟨i, hi, hxi, rfl⟩ | ⟨_, rfl⟩
      · exact absurd ⟨HOK.out, hk, i, hi, hxi⟩ HN.out
      · have x0 := N3.out.cell 0 _ rfl
        have x1 := N3.out.cell 1 _ rfl
        have x2 := N3.out.cell 2 _ rfl
        have f0 := N3.out.free 0
        have f1 := N3.out.free 1
        have f2 := N3.out.free 2
        go_wp2_with fail
        refine bodyPost_ret (v := .tuple #[.agg #[.int .i64 0, .slice none 0 0, .slice none 0 0], .bool false]) (by simp [results, Try.results41, go_sem, x0, x1, x2]) rfl ?_
        exact ⟨rfl, FIN.out _ C3.out.below⟩
set_option maxRecDepth 100000 in
set_option maxHeartbeats 4000000 in
theorem spec_remove (hs : ∀ i, i < n → (S i).size ≤ maxLen) (hh : ∀ i, i < m → (H i).size ≤ maxLen) (hx : x.size ≤ maxLen) (h1 : GRow w A n (strV S)) (h2 : GRow w B m (strV H)) (h : CuOk z S n H m) (hk : isKeyB x.data.toList = true) (hfi : ∃ i, i < n + m ∧ catS S H n i = x) :
    Calls Try.prog 41 #[.agg #[.int .i64 z, .slice A n c, .slice B m d], .string x] w (CuAns z n (remS S x n) (remL H x m).length (rowB (remL H x m)) w) := by
  have hzs := sizeB_out h.size
  have hm := h.few
  have hz := h.size
  have HI := Lib.hid (fun W g1 g2 => (BoolIs.two (spec_cuGood z A n c S B m d H W (by omega) (by omega) hs hh g1 g2)).1 h)
  have C0 := CL.start (z := z) (c := c) (d := d) h1 h2 36
  have HCL := Lib.hid (fun W (hb : Below (w.alloc (.cells #[.int .i64 z, .slice A n c, .slice B m d] 36)).heap.size (w.alloc (.cells #[.int .i64 z, .slice A n c, .slice B m d] 36)) W) => C0.b hb)
  have N1 := Lib.hid (nbx0 (w.alloc (.cells #[.int .i64 z, .slice A n c, .slice B m d] 36)) #[.int .i64 0, .slice none 0 0, .slice none 0 0] 36)
  have hsz : (w.alloc (.cells #[.int .i64 z, .slice A n c, .slice B m d] 36)).heap.size = w.heap.size + 1 := by simp
  have HH := Lib.hid hh
  have HF := Lib.hid hfi
  have HB0 := Lib.hid ((Below.refl w.heap.size w).alloc (Nat.le_refl _) (.cells #[.int .i64 z, .slice A n c, .slice B m d] 36))
  clear hs hh h1 h2 h C0 hfi
  go_enter Try.func41, Try.ntmps41
  go_wp2_with fail
  generalize hW0 : w.alloc (.cells #[.int .i64 z, .slice A n c, .slice B m d] 36) = W0 at *
  clear hW0
  rw [hsz] at N1
  have hb1 := (Below.refl W0.heap.size W0).alloc (Nat.le_refl _) (.cells #[.int .i64 0, .slice none 0 0, .slice none 0 0] 36)
  have C1 := HCL.out _ hb1
  refine (HI.out _ C1.r1 C1.r2).mono ?_; rintro e wa ⟨rfl, hb⟩
  have Na := Lib.hid (N1.out.b hb)
  have HBa := Lib.hid (hb1.trans (hb.mono hb1.size))
  clear hb hb1 C1 N1
  have Ca := Lib.hid (HCL.out _ HBa.out)
  have k0 := Ca.out.c0
  have k1 := Ca.out.c1
  have k2 := Ca.out.c2
  go_wp2_with fail
  refine (spec_isKey x _ hx).mono ?_; rintro e w' ⟨rfl, rfl⟩
  rw [hk]
  go_wp2_with fail
  refine (spec_cuFind z A n c S B m d H x _ (by omega) (by omega) Ca.out.r1 Ca.out.r2).mono ?_; rintro e w2 ⟨hf, hb⟩
  have N2 := Lib.hid (Na.out.b hb)
  have HB2 := Lib.hid (HBa.out.trans (hb.mono HBa.out.size))
  obtain ⟨i0, rfl⟩ : ∃ i0 : Nat, e = .returned (.int .i64 i0) := by
    rcases hf with ⟨i, _, _, he⟩ | ⟨hN, _⟩
    · exact ⟨i, he⟩
    · obtain ⟨i, hi, hxi⟩ := HF.out
      exact absurd hxi (hN i hi)
  have d0 : decide ((i0 : Int) < 0) = false := by simp
  clear hb hf k0 k1 k2 Na HBa Ca
  have C2 := Lib.hid (HCL.out _ HB2.out)
  have HK := Lib.hid (show ∀ W, Below w2.heap.size w2 W → W.cell? ⟨w.heap.size, 0, none⟩ = some (.int .i64 z) ∧ W.cell? ⟨w.heap.size, 1, none⟩ = some (.slice A n c) from fun W hW => ⟨(C2.out.b hW).c0, (C2.out.b hW).c1⟩)
  have k0 := C2.out.c0
  have k1 := C2.out.c1
  have hs2 := C2.out.size
  have hW0le := HB2.out.size
  have hrb : w.heap.size + 1 < w2.heap.size := N2.out.lt
  have B0 := Lib.hid ((Below.refl w2.heap.size w2).alloc (Nat.le_refl _) (.cells #[.int .i64 0, .slice none 0 0, .slice none 0 0] 36))
  have NB0 := Lib.hid (nbx0 w2 #[.int .i64 0, .slice none 0 0, .slice none 0 0] 36)
  go_wp2_with fail
  go_region_held3 (fun W => W.cell? ⟨w.heap.size, 0, none⟩ = some (.int .i64 z) ∧ W.cell? ⟨w.heap.size, 1, none⟩ = some (.slice A n c))
    (first | with_reducible exact HK.out _ hq1 | exact HK.out _ ⟨rfl, rfl, rfl, Nat.le_refl _, fun _ _ => rfl⟩ | exact HK.out _ B0.out | with_reducible exact HK.out _ (hq1.alloc hq1.size _) | with_reducible exact HK.out _ (((hq1.setCell (Nat.le_refl _) _).setCell (Nat.le_refl _) _).setCell (Nat.le_refl _) _) | with_reducible exact HK.out _ ((hq1.setCell (Nat.le_refl _) _).setCell (Nat.le_refl _) _) | with_reducible exact HK.out _ (hq1.setCell (Nat.le_refl _) _) | (go_keep; done))
    (first
      | (go_at_call 77; refine (spec_l1OwnS A n c S _ (by omega) C2.out.r1.drew).mono ?_; rintro e w3 ⟨A3, c3, rfl, ho3, hq1'⟩; have hq1 := of_drew hq1'; have O3 := Lib.hid ho3; clear ho3 hq1')
      | (go_at_call 77; refine (spec_l1OwnS A n c S _ (by omega) (C2.out.b B0.out).r1.drew).mono ?_; rintro e w3 ⟨A3, c3, rfl, ho3, hq1'⟩; have hqq := of_drew hq1'; have hq1 := B0.out.trans (hqq.mono B0.out.size); have NB1 := NBX.b NB0.out hqq; have x0 := NB1.cell 0 _ rfl; have x1 := NB1.cell 1 _ rfl; have x2 := NB1.cell 2 _ rfl; have hf0 := NB1.free 0; have hf1 := NB1.free 1; have hf2 := NB1.free 2; have O3 := Lib.hid ho3; clear ho3 hq1' hqq))
  all_goals
    first
      | (have MK := Lib.hid (show Mk W0 (w.heap.size + 1) w2.heap.size z A3 c3 n S (((w3.setCell ⟨w2.heap.size, 0, none⟩ (.int .i64 z)).setCell ⟨w2.heap.size, 1, none⟩ (.slice A3 n c3)).setCell ⟨w2.heap.size, 2, none⟩ (.slice none 0 0)) from
          ⟨HB2.out.trans ((((hq1.setCell (p := ⟨w2.heap.size, 0, none⟩) (Nat.le_refl _) _).setCell (p := ⟨w2.heap.size, 1, none⟩) (Nat.le_refl _) _).setCell (p := ⟨w2.heap.size, 2, none⟩) (Nat.le_refl _) _).mono HB2.out.size), nbx_set (nbx_set (nbx_set (mk_base hsz (N2.out.b hq1)) (by omega) _ _) (by omega) _ _) (by omega) _ _, mk_low HB2.out.size (((NBX.set NB1 0 _).set 1 _).set 2 _), mk_far (mk_far (mk_far (owned_low O3.out (by simp; omega)) (nbx_ne_row NB1 O3.out) _ _) (nbx_ne_row NB1 O3.out) _ _) (nbx_ne_row NB1 O3.out) _ _, by omega⟩)
         clear NB1 x0 x1 x2 hf0 hf1 hf2
         generalize (((w3.setCell ⟨w2.heap.size, 0, none⟩ (.int .i64 z)).setCell ⟨w2.heap.size, 1, none⟩ (.slice A3 n c3)).setCell ⟨w2.heap.size, 2, none⟩ (.slice none 0 0)) = w5 at *
         generalize w2.heap.size = qb at *)
      | (have MK := Lib.hid (show Mk W0 (w.heap.size + 1) w3.heap.size z A3 c3 n S (w3.alloc (.cells #[.int .i64 z, .slice A3 n c3, .slice none 0 0] 36)) from
          ⟨HB2.out.trans ((hq1.alloc hq1.size _).mono HB2.out.size), (mk_base hsz (N2.out.b hq1)).b ((Below.refl _ _).alloc (Nat.le_refl _) _), mk_low (Nat.le_trans HB2.out.size hq1.size) (nbx0 w3 _ _), owned_b (owned_low O3.out (show W0.heap.size ≤ w2.drew.heap.size from HB2.out.size)) ((Below.refl _ _).alloc (Nat.le_refl _) _), by have := hq1.size; omega⟩)
         generalize (w3.alloc (.cells #[.int .i64 z, .slice A3 n c3, .slice none 0 0] 36)) = w5 at *
         generalize w3.heap.size = qb at *)
    clear HK k0 k1 N2 O3
    obtain ⟨g, rfl, hco⟩ := MK.out.co (by omega)
    have CO0 := Lib.hid hco
    clear hco MK
    have k1 := (HCL.out _ CO0.out.below).c1
    go_wp2_with fail
    clear k1
    go_loopw [35] (fun i wr => ∃ k : Nat, k ≤ n ∧ i = .int .i64 k ∧ Hid (CO W0 (w.heap.size + 1) #[.int .i64 0, .slice none 0 0, .slice none 0 0] qb z g c3 n (remS S x k) none 0 0 (rowB []) wr)) (fun i _ => n - (intOf i).toNat)
    case atStart => exact ⟨0, Nat.zero_le _, rfl, Lib.hid (by rw [remS_zero]; exact CO0.out)⟩
    case round =>
      obtain ⟨k, hk', rfl, HC⟩ := hrel
      have x1 := HC.out.box.cell 1 _ rfl
      by_cases hlt : k < n
      · obtain ⟨b, off, rfl, hbl, hcc⟩ := (HCL.out _ HC.out.below).r1 (by omega)
        have hxx : wr.cell? ⟨b, off + k, none⟩ = some (.string (S k)) := hcc k hlt
        clear hcc
        by_cases he : S k = x
        · have d1 : ((S k).toList == x.toList) = true := by rw [ba_beq]; simpa using he
          have s0 := HC.out.out.cell hlt
          have sf := HC.out.out.frozen k
          unfold strV at s0
          have HC2 := Lib.hid (HC.out.slot k ⟨#[]⟩)
          rw [← remS_hit he] at HC2
          clear he
          go_wp2_with fail
          go_roundw
          case rel => exact ⟨k + 1, by omega, by go_num, HC2⟩
          case measure => simp [intOf]; omega
        · have d1 : ((S k).toList == x.toList) = false := by rw [ba_beq]; simpa using he
          have HC2 := Lib.hid HC.out
          rw [← remS_miss he] at HC2
          clear he
          go_wp2_with fail
          go_roundw
          case rel => exact ⟨k + 1, by omega, by go_num, HC2⟩
          case measure => simp [intOf]; omega
      · obtain rfl : k = n := by omega
        have k2 := (HCL.out _ HC.out.below).c2
        go_wp2_with fail
        clear k2
        go_loopw [51] (fun i wr => ∃ (j : Nat) (B' : Option Addr) (d' : Nat), j ≤ m ∧ i = .int .i64 j ∧ Hid (CO W0 (w.heap.size + 1) #[.int .i64 0, .slice none 0 0, .slice none 0 0] qb z g c3 k (remS S x k) B' d' (remL H x j).length (rowB (remL H x j)) wr)) (fun i _ => m - (intOf i).toNat)
        case atStart => exact ⟨0, none, 0, Nat.zero_le _, rfl, HC⟩
        case round =>
          clear x1 HC
          obtain ⟨j, B', d', hj, rfl, HC⟩ := hrel
          have x0 := HC.out.box.cell 0 _ rfl
          have x1 := HC.out.box.cell 1 _ rfl
          have x2 := HC.out.box.cell 2 _ rfl
          have ff2 := HC.out.box.free 2
          have hszr := HC.out.below.size
          have hLk := remL_len H x j
          by_cases hlt : j < m
          · obtain ⟨b, off, rfl, hbl, hcc⟩ := (HCL.out _ HC.out.below).r2 (by omega)
            have hxx : wr.cell? ⟨b, off + j, none⟩ = some (.string (H j)) := hcc j hlt
            clear hcc
            by_cases he : H j = x
            · have d1 : ((H j).toList == x.toList) = true := by rw [ba_beq]; simpa using he
              have HC2 := Lib.hid HC.out
              rw [show remL H x j = remL H x (j + 1) by rw [remL, if_pos he]] at HC2
              clear he
              go_wp2_with fail
              go_roundw
              case rel => exact ⟨j + 1, B', d', by omega, by go_num, HC2⟩
              case measure => simp [intOf]; omega
            · have d1 : ((H j).toList == x.toList) = false := by rw [ba_beq]; simpa using he
              have hL : remL H x (j + 1) = remL H x j ++ [H j] := by rw [remL, if_neg he]
              clear he
              have HV := Lib.hid (show strV (rowB (remL H x j ++ [H j])) (remL H x j).length = .string (H j) by unfold strV; rw [rowB_new])
              have HR := Lib.hid (row_ext (x := H j) HC.out.st (Nat.le_refl _))
              have hglt := HC.out.out.lt
              have HL := Lib.hid hL
              clear hL
              generalize hLL : remL H x j = L at *
              go_wp2_with (at_builtin; refine wpList_push4 rfl _ _ 25 rfl W0.heap.size 9 (.string ByteArray.empty) 16 Try.underlying25 infoS rfl B' L.length d' (strV (rowB (L ++ [H j]))) (.string (H j)) wr rfl HR.out rfl HV.out rfl (by omega) (by omega) hszr ?_)
              intro A' c' w6 ho6 _ hg6 hat6
              have HAP := Lib.hid (show (Value.slice A' (L.length + 1) c').ownBlock ≠ some g from fun e => by
                rcases hat6 with h6 | h6
                · exact HC.out.ap (h6.symm.trans e)
                · rw [h6] at e; injection e with e; omega)
              have HX6 := Lib.hid (show NBX W0.heap.size qb #[.int .i64 z, .slice (some ⟨g, 0, none⟩) k c3, .slice B' L.length d'] 36 w6 from ⟨(hg6.block qb (HC.out.al (.cells #[.string (H j)] 9)).box.lt (fun e => nbx_ne_row HC.out.box HC.out.st e.symm)).trans (HC.out.al (.cells #[.string (H j)] 9)).box.blk, HC.out.box.ge⟩)
              have HC2 := Lib.hid (show CO W0 (w.heap.size + 1) #[.int .i64 0, .slice none 0 0, .slice none 0 0] qb z g c3 k (remS S x k) A' c' (remL H x (j + 1)).length (rowB (remL H x (j + 1))) (w6.setCell ⟨qb, 2, none⟩ (.slice A' (L.length + 1) c')) by
                rw [HL.out]
                have hl1 : (L ++ [H j]).length = L.length + 1 := by simp
                rw [hl1]
                exact (HC.out.al (.cells #[.string (H j)] 9)).turn hg6 (by first | exact ho6 | (rw [hsz]; exact ho6)) HAP.out)
              have z0 := HX6.out.cell 2 _ rfl
              have z1 := HX6.out.free 2
              clear ho6 hg6 hat6 x0 x1 x2
              go_wp2_with fail
              go_roundw
              case rel => exact ⟨j + 1, A', c', by omega, by go_num, HC2⟩
              case measure => simp [intOf]; omega
          · obtain rfl : j = m := by omega
            have r0 := HC.out.res.cell 0 _ rfl
            have r1 := HC.out.res.cell 1 _ rfl
            have r2 := HC.out.res.cell 2 _ rfl
            have rf0 := HC.out.res.free 0
            have rf1 := HC.out.res.free 1
            have rf2 := HC.out.res.free 2
            go_wp2_with fail
            refine bodyPost_ret (v := .tuple #[.agg #[.int .i64 z, .slice (some ⟨g, 0, none⟩) k c3, .slice B' (remL H x j).length d'], .bool true]) (by simp [results, Try.results41, go_sem, r0, r1, r2]) rfl ?_
            have hF := ((HC.out.resSet 0 (.int .i64 z)).resSet 1 (.slice (some ⟨g, 0, none⟩) k c3)).resSet 2 (.slice B' (remL H x j).length d')
            obtain ⟨o1, o2, o3⟩ := hF.fin
            have hle0 : w.heap.size ≤ W0.heap.size := by omega
            exact ⟨_, _, _, _, rfl, o1.mono hle0 (Nat.le_refl _), o2.mono hle0 (Nat.le_refl _), o3, (HB0.out).trans (hF.below.mono hle0)⟩
end
end Go.Proofs.Ytfjimjbndkhkcaa
