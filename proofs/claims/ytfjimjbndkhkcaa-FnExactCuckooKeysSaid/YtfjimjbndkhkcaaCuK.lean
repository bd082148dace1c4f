/- CuckooKeys: both sides. -/
import Derived.Test.YtfjimjbndkhkcaaCuI
namespace Go.Proofs.Ytfjimjbndkhkcaa
open Go.RowKit

theorem ow_of_owns {w' : World} {B n c : Nat} {t : TypeId} {A : Option Addr} {F : Nat → Value} (h : w'.ownsRow B t 1 (.slice A n c) n (vals F n)) : Ow B w'.heap.size t A n F w' := by
  rcases owned_vec h with rfl | ⟨g, rfl, hg, ho⟩
  · exact ow_zero _ _ _ _ _ _
  · exact ow_of_own (m := n) ho hg (Nat.le_refl _)
theorem LstIs.row {L : List Byt} {w w' : World} {e : Ending} (h : LstIs L w e w') : ∃ A c, e = .returned (.slice A L.length c) ∧ GRow w' A L.length (strV (rowS L)) ∧ L.length ≤ c ∧ Below w.heap.size w w' := by
  obtain ⟨A, c, m, S, rfl, hl, hr, hc, hb⟩ := h
  have hm : m = L.length := by rw [← hl, lsOf_len]
  subst hm
  refine ⟨A, c, rfl, hr.congr (fun i hi => ?_), hc, hb⟩
  unfold strV
  rw [row_of_ls (S := S) (S' := rowS L) (n := L.length) (by rw [hl, rowS_ls]) i hi]
theorem kept_all {z : Int} {S H : Nat → ByteArray} {n m : Nat} (h : CuOk z S n H m) : allS (fullS (lsOf S n ++ lsOf H m)) = keptL S n H m := (keepS_all h.nodup).symm
/-- No list. -/
def NoLst (w : World) (e : Ending) (w' : World) : Prop := e = .returned (.tuple #[.slice none 0 0, .bool false]) ∧ Below w.heap.size w w'
section
variable (z : Int) (A : Option Addr) (n c : Nat) (S : Nat → ByteArray) (B : Option Addr) (m d : Nat) (H : Nat → ByteArray) (w : World)
set_option maxHeartbeats 1000000 in
theorem impl_cuckooKeys_no (hn : n ≤ 1048576) (hm : m ≤ 1048576) (hs : ∀ i, i < n → (S i).size ≤ maxLen) (hh : ∀ i, i < m → (H i).size ≤ maxLen) (h1 : GRow w A n (strV S)) (h2 : GRow w B m (strV H)) (h : ¬ CuOk z S n H m) :
    Calls Try.prog 36 #[.agg #[.int .i64 z, .slice A n c, .slice B m d]] w (NoLst w) := by
  have HI := Lib.hid (fun W g1 g2 => (BoolIs.two (impl_isCuckoo z A n c S B m d H W hn hm hs hh g1 g2)).2 h)
  have C0 := Lib.hid (CL.start (z := z) (c := c) (d := d) h1 h2 36)
  clear hs hh h1 h2 h
  go_enter Try.func36, Try.ntmps36
  go_wp2_with fail
  refine (HI.out _ C0.out.r1 C0.out.r2).mono ?_; rintro e w' ⟨rfl, hb⟩
  have HB := Lib.hid (C0.out.b hb).below
  clear hb
  go_wp2_with fail
  go_ret2
  exact ⟨rfl, HB.out⟩
set_option maxHeartbeats 1000000 in
theorem spec_cuckooKeys_no (hn : n ≤ 1048576) (hm : m ≤ 1048576) (hs : ∀ i, i < n → (S i).size ≤ maxLen) (hh : ∀ i, i < m → (H i).size ≤ maxLen) (h1 : GRow w A n (strV S)) (h2 : GRow w B m (strV H)) (h : ¬ CuOk z S n H m) :
    Calls Try.prog 35 #[.agg #[.int .i64 z, .slice A n c, .slice B m d]] w (NoLst w) := by
  have HI := Lib.hid (fun W g1 g2 => (BoolIs.two (spec_cuGood z A n c S B m d H W hn hm hs hh g1 g2)).2 h)
  have C0 := Lib.hid (CL.start (z := z) (c := c) (d := d) h1 h2 36)
  clear hs hh h1 h2 h
  go_enter Try.func35, Try.ntmps35
  go_wp2_with fail
  refine (HI.out _ C0.out.r1 C0.out.r2).mono ?_; rintro e w' ⟨rfl, hb⟩
  have HB := Lib.hid (C0.out.b hb).below
  clear hb
  go_wp2_with fail
  go_ret2
  exact ⟨rfl, HB.out⟩
set_option maxHeartbeats 1000000 in
theorem impl_cuckooKeys (hs : ∀ i, i < n → (S i).size ≤ maxLen) (hh : ∀ i, i < m → (H i).size ≤ maxLen) (h1 : GRow w A n (strV S)) (h2 : GRow w B m (strV H)) (h : CuOk z S n H m) :
    Calls Try.prog 36 #[.agg #[.int .i64 z, .slice A n c, .slice B m d]] w fun e w' => ∃ A' c', e = .returned (.tuple #[.slice A' (keptL S n H m).length c', .bool true]) ∧ w'.ownsRow w.heap.size 9 1 (.slice A' (keptL S n H m).length c') (keptL S n H m).length (vals (strV (rowS (keptL S n H m))) (keptL S n H m).length) ∧ Below w.heap.size w w' := by
  have hz := sizeB_out h.size
  have hm := h.few
  have HI := Lib.hid (fun W g1 g2 => (BoolIs.two (impl_isCuckoo z A n c S B m d H W (by omega) (by omega) hs hh g1 g2)).1 h)
  have C0 := Lib.hid (CL.start (z := z) (c := c) (d := d) h1 h2 36)
  clear hs hh h1 h2 h
  go_enter Try.func36, Try.ntmps36
  go_wp2_with fail
  refine (HI.out _ C0.out.r1 C0.out.r2).mono ?_; rintro e w1 ⟨rfl, hb⟩
  have C1 := Lib.hid (C0.out.b hb)
  have k0 := C1.out.c0
  have k1 := C1.out.c1
  have k2 := C1.out.c2
  clear hb
  go_wp2_with fail
  refine (impl_keysIn z A n c S B m d H _ (by omega) (by omega) (by omega) C1.out.r1 C1.out.r2).mono ?_; rintro e w2 ⟨A2, c2, rfl, ho2, hb2⟩
  have HO := Lib.hid (owned_low ho2 C1.out.below.size)
  have HB := Lib.hid (C1.out.b hb2).below
  clear ho2 hb2
  go_wp2_with fail
  go_ret2
  exact ⟨A2, c2, rfl, HO.out, HB.out⟩
set_option maxHeartbeats 1000000 in
theorem spec_cuckooKeys (hs : ∀ i, i < n → (S i).size ≤ maxLen) (hh : ∀ i, i < m → (H i).size ≤ maxLen) (h1 : GRow w A n (strV S)) (h2 : GRow w B m (strV H)) (h : CuOk z S n H m) :
    Calls Try.prog 35 #[.agg #[.int .i64 z, .slice A n c, .slice B m d]] w fun e w' => ∃ A' c', e = .returned (.tuple #[.slice A' (keptL S n H m).length c', .bool true]) ∧ GRow w' A' (keptL S n H m).length (strV (rowS (keptL S n H m))) ∧ Below w.heap.size w w' := by
  have hz := sizeB_out h.size
  have hm := h.few
  have HI := Lib.hid (fun W g1 g2 => (BoolIs.two (spec_cuGood z A n c S B m d H W (by omega) (by omega) hs hh g1 g2)).1 h)
  have C0 := Lib.hid (CL.start (z := z) (c := c) (d := d) h1 h2 36)
  have HK := Lib.hid (kept_all h)
  clear hs hh h1 h2 h
  go_enter Try.func35, Try.ntmps35
  go_wp2_with fail
  refine (HI.out _ C0.out.r1 C0.out.r2).mono ?_; rintro e w1 ⟨rfl, hb⟩
  have C1 := Lib.hid (C0.out.b hb)
  have k0 := C1.out.c0
  have k1 := C1.out.c1
  have k2 := C1.out.c2
  clear hb
  go_wp2_with fail
  refine (spec_cuAll z A n c S B m d H _ (by omega) (by omega) C1.out.r1 C1.out.r2).mono ?_; rintro e w2 hl
  rw [HK.out] at hl
  obtain ⟨A2, c2, rfl, hr2, _, hb2⟩ := hl.row
  have HR := Lib.hid hr2
  have HB := Lib.hid (C1.out.b hb2).below
  clear hl hr2 hb2
  go_wp2_with fail
  go_ret2
  exact ⟨A2, c2, rfl, HR.out, HB.out⟩
end
end Go.Proofs.Ytfjimjbndkhkcaa
