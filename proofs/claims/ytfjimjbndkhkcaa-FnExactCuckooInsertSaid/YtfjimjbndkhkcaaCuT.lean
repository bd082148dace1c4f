/- A cuckoo table in a box; all of its keys, by the model. -/
import Derived.Test.YtfjimjbndkhkcaaStrP
import Derived.Test.YtfjimjbndkhkcaaCuA
import Derived.Deep.RegionHeld3
namespace Go.Proofs.Ytfjimjbndkhkcaa
open Go.RowKit

/-- The call holds a table in a box of its own; the rows are as they were when it began. -/
structure CL (w : World) (z : Int) (A : Option Addr) (n c : Nat) (S : Nat → ByteArray) (B : Option Addr) (m d : Nat) (H : Nat → ByteArray) (wr : World) : Prop where
  below : Below w.heap.size w wr
  size : w.heap.size + 1 ≤ wr.heap.size
  c0 : wr.cell? ⟨w.heap.size, 0, none⟩ = some (.int .i64 z)
  c1 : wr.cell? ⟨w.heap.size, 1, none⟩ = some (.slice A n c)
  c2 : wr.cell? ⟨w.heap.size, 2, none⟩ = some (.slice B m d)
  r1 : GRow wr A n (strV S)
  r2 : GRow wr B m (strV H)
section
variable {w wr w2 : World} {z : Int} {A B : Option Addr} {n c m d : Nat} {S H : Nat → ByteArray}
theorem CL.start (h1 : GRow w A n (strV S)) (h2 : GRow w B m (strV H)) (t : TypeId) : CL w z A n c S B m d H (w.alloc (.cells #[.int .i64 z, .slice A n c, .slice B m d] t)) := by
  have hx := (boxed w #[.int .i64 z, .slice A n c, .slice B m d] t).now
  exact ⟨(Below.refl _ _).alloc (Nat.le_refl _) _, by simp, hx 0 _ rfl, hx 1 _ rfl, hx 2 _ rfl, h1.al _, h2.al _⟩
theorem CL.b (h : CL w z A n c S B m d H wr) (hb : Below wr.heap.size wr w2) : CL w z A n c S B m d H w2 := by
  have hs := h.size
  exact ⟨h.below.trans (hb.mono h.below.size), Nat.le_trans hs hb.size, (hb.cell (p := ⟨w.heap.size, 0, none⟩) (show w.heap.size < _ by omega)).trans h.c0, (hb.cell (p := ⟨w.heap.size, 1, none⟩) (show w.heap.size < _ by omega)).trans h.c1, (hb.cell (p := ⟨w.heap.size, 2, none⟩) (show w.heap.size < _ by omega)).trans h.c2, h.r1.b hb, h.r2.b hb⟩
theorem CL.low (h : CL w z A n c S B m d H wr) (hb : Below (w.heap.size + 1) wr w2) (h1 : GRow w2 A n (strV S)) (h2 : GRow w2 B m (strV H)) : CL w z A n c S B m d H w2 := by
  have hs := h.size
  exact ⟨h.below.trans (hb.mono (by omega)), Nat.le_trans hs hb.size, (hb.cell (p := ⟨w.heap.size, 0, none⟩) (show w.heap.size < _ by omega)).trans h.c0, (hb.cell (p := ⟨w.heap.size, 1, none⟩) (show w.heap.size < _ by omega)).trans h.c1, (hb.cell (p := ⟨w.heap.size, 2, none⟩) (show w.heap.size < _ by omega)).trans h.c2, h1, h2⟩
theorem CL.drewN (h : CL w z A n c S B m d H wr) (k : Nat) : CL w z A n c S B m d H (wr.drewN k) := h.b (below_drewN (Below.refl _ _) k)
end
def catS (S H : Nat → ByteArray) (n i : Nat) : ByteArray := if i < n then S i else H (i - n)
theorem catS_V (S H : Nat → ByteArray) (n i : Nat) : catV (strV S) (strV H) n i = strV (catS S H n) i := by unfold catV strV catS; split <;> rfl
theorem catS_ls (S H : Nat → ByteArray) (n m : Nat) : lsOf (catS S H n) (n + m) = lsOf S n ++ lsOf H m := by
  rw [lsOf_add]
  congr 1
  · exact lsOf_congr (fun i hi => by unfold catS; rw [if_pos hi])
  · exact lsOf_congr (fun i hi => by unfold catS; rw [if_neg (by omega), Nat.add_sub_cancel_left])
set_option maxHeartbeats 1000000 in
theorem spec_l1OwnS (A : Option Addr) (n c : Nat) (S : Nat → ByteArray) (w : World) (hn : n ≤ 1048576) (hr : GRow w A n (strV S)) :
    Calls Try.prog 77 #[.slice A n c] w fun e w' => ∃ A' c', e = .returned (.slice A' n c') ∧ w'.ownsRow w.heap.size 9 1 (.slice A' n c') n (vals (strV S) n) ∧ Below w.heap.size w w' := by
  have HR := Lib.hid (hr.al (.cells #[] 9))
  have HO := Lib.hid (World.ownsRow_made (e := 9) (size := 1) w #[] 0 (Nat.le_refl _) (by simp [maxLen]) (by simp))
  clear hr
  go_enter Try.func77, Try.ntmps77
  go_wp2_with (at_builtin; refine wpList_append_vals rfl _ _ 25 rfl w.heap.size 9 (.string ByteArray.empty) 16 Try.underlying25 infoS rfl (F := strV S) (G := strV S) rfl rfl HO.out HR.out (fun _ _ => rfl) (by omega) (by omega) (by simp) ?_)
  intro A' c' w' hown hb
  have HO2 := Lib.hid hown
  have HB := Lib.hid (((Below.refl w.heap.size w).alloc (Nat.le_refl _) (.cells #[] 9)).trans hb)
  clear hown hb
  go_wp2_with fail
  go_ret
  refine ⟨A', c', by first | rfl | (rw [Nat.zero_add]), ?_, HB.out⟩
  have h := HO2.out
  rw [vals_congr (F := catV (strV S) (strV S) 0) (G := strV S) (fun i _ => by unfold catV; simp)] at h
  exact h
set_option maxRecDepth 100000 in
set_option maxHeartbeats 4000000 in
theorem spec_cuAll (z : Int) (A : Option Addr) (n c : Nat) (S : Nat → ByteArray) (B : Option Addr) (m d : Nat) (H : Nat → ByteArray) (w : World) (hn : n ≤ 2048) (hm : m ≤ 2048) (h1 : GRow w A n (strV S)) (h2 : GRow w B m (strV H)) :
    Calls Try.prog 73 #[.agg #[.int .i64 z, .slice A n c, .slice B m d]] w (LstIs (allS (fullS (lsOf S n ++ lsOf H m))) w) := by
  have C0 := Lib.hid (CL.start (z := z) (c := c) (d := d) h1 h2 36)
  clear h1 h2
  go_enter Try.func73, Try.ntmps73
  go_wp2_with fail
  generalize w.alloc (.cells #[.int .i64 z, .slice A n c, .slice B m d] 36) = w1 at *
  have k1 := C0.out.c1
  have k2 := C0.out.c2
  have HK := Lib.hid (show ∀ W, Below w1.heap.size w1 W → W.cell? ⟨w.heap.size, 1, none⟩ = some (.slice A n c) ∧ W.cell? ⟨w.heap.size, 2, none⟩ = some (.slice B m d) from fun W hW => ⟨(C0.out.b hW).c1, (C0.out.b hW).c2⟩)
  have hs1 := C0.out.size
  go_region_held3 (fun W => W.cell? ⟨w.heap.size, 1, none⟩ = some (.slice A n c) ∧ W.cell? ⟨w.heap.size, 2, none⟩ = some (.slice B m d))
    (first | with_reducible exact HK.out _ hb4 | with_reducible exact HK.out _ hb3 | exact HK.out _ ⟨rfl, rfl, rfl, Nat.le_refl _, fun _ _ => rfl⟩ | (go_keep; done))
    (first
      | (have hz := O3; clear hz; refine step_append_vals rfl _ _ 25 rfl w1.heap.size 9 (.string ByteArray.empty) 16 Try.underlying25 infoS rfl rfl rfl O3.out R3.out (fun _ _ => rfl) ?_ ?_ ?_ ?_; omega; omega; exact hb3.size; intro A4 c4 w4 ho4 hb4'; have hb4 := hb3.trans hb4'; have O4 := Lib.hid ho4; clear ho4 hb4')
      | (go_at_call 77; refine (spec_l1OwnS A n c S _ (by omega) C0.out.r1.drew).mono ?_; rintro e w3 ⟨A3, c3, rfl, ho3, hb3'⟩; have hb3 := of_drew hb3'; have O3 := Lib.hid ho3; have R3 := Lib.hid (C0.out.r2.b hb3); clear ho3 hb3'))
  have HB4 := Lib.hid (C0.out.below.trans (hb4.mono C0.out.below.size))
  have HT := Lib.hid (show GRow w4 A4 (n + m) (strV (catS S H n)) from (owned_vec O4.out).row.congr (fun i _ => catS_V S H n i))
  have HL := Lib.hid (catS_ls S H n m)
  clear hb3 hb4 O3 R3 O4 HK k1 k2 C0
  generalize catS S H n = T at *
  go_wp2_with fail
  go_loopw [3, 13] (fun v i wr => ∃ (q k : Nat) (A5 : Option Addr) (c5 : Nat) (S5 : Nat → ByteArray), q ≤ n + m ∧ i = .int .i64 q ∧ v = .slice A5 k c5 ∧ Hid (lsOf S5 k = allS (fullS (lsOf T q))) ∧ Hid (GRow wr A5 k (strV S5)) ∧ k ≤ c5 ∧ Hid (Below w4.heap.size w4 wr)) (fun _ i _ => n + m - (intOf i).toNat)
  case atStart => exact ⟨0, 0, none, 0, fun _ => ⟨#[]⟩, Nat.zero_le _, rfl, rfl, Lib.hid rfl, Lib.hid GRow.zero, Nat.le_refl _, Lib.hid (Below.refl _ _)⟩
  case round =>
    obtain ⟨q, k, A5, c5, S5, hq, rfl, rfl, HE, HR, hkc, HB⟩ := hrel
    by_cases hlt : q < n + m
    · have HTr := Lib.hid (HT.out.b HB.out)
      obtain ⟨b, off, rfl, hbl, hcc⟩ := HTr.out (by omega)
      have hx : wr.cell? ⟨b, off + q, none⟩ = some (.string (T q)) := hcc q hlt
      have hk2 : k ≤ 2048 + 2048 := by
        have h1 := lsOf_len S5 k
        rw [HE.out] at h1
        have h2 := allS_full_le (lsOf T q)
        rw [lsOf_len] at h2
        omega
      have hE := fullS_snoc (lsOf T q) (T q).data.toList
      rw [← lsOf_succ] at hE
      have hem : (T q).toList.isEmpty = (T q).data.toList.isEmpty := by rw [ba_toList]
      have d0 : decide ((q : Int) < (n : Int) + (m : Int)) = true := by simp; omega
      clear hcc
      cases hc : (T q).data.toList.isEmpty with
      | true =>
        rw [hc] at hE hem
        have HE2 := Lib.hid (show lsOf S5 k = allS (fullS (lsOf T (q + 1))) by rw [hE]; exact HE.out)
        clear hE hc
        go_wp2_with fail
        go_roundw
        case rel => exact ⟨q + 1, k, A5, c5, S5, by omega, by go_num, rfl, HE2, HR, hkc, HB⟩
        case measure => simp [intOf]; omega
      | false =>
        rw [hc] at hE hem
        have HE2 := Lib.hid (show insS (T q).data.toList (lsOf S5 k) = allS (fullS (lsOf T (q + 1))) by rw [hE, HE.out]; exact (allS_snoc _ _).symm)
        clear hE hc
        go_wp2_with fail
        refine (spec_l1PutS_is A5 k c5 S5 (T q) _ (by omega) hkc HR.out).mono ?_; rintro e w6 ⟨A6, c6, k6, S6, rfl, he6, hr6, hkc6, hb6⟩
        have HE6 := Lib.hid (he6.trans HE2.out)
        have HR6 := Lib.hid hr6
        have HB6 := Lib.hid (HB.out.trans (hb6.mono HB.out.size))
        clear he6 hr6 hb6 HR HE HE2
        go_wp2_with fail
        go_roundw
        case rel => exact ⟨q + 1, k6, A6, c6, S6, by omega, by go_num, rfl, HE6, HR6, hkc6, HB6⟩
        case measure => simp [intOf]; omega
    · obtain rfl : q = n + m := by omega
      have d0 : decide (((n + m : Nat) : Int) < (n : Int) + (m : Int)) = false := by simp
      have HE2 := Lib.hid (HE.out.trans (by rw [HL.out]))
      go_wp2_with fail
      go_ret
      exact ⟨A5, c5, k, S5, rfl, HE2.out, HR.out, hkc, HB4.out.trans (HB.out.mono HB4.out.size)⟩
end Go.Proofs.Ytfjimjbndkhkcaa
