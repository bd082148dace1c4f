/- The keys of a front: the program's. -/
import Derived.Test.YthaipemgndahfaaFrC
import Derived.Test.YthaipemgndahfaaSameI
import Derived.Test.YthaipemgndahfaaSameSt
import Derived.Laws.Concat
import Derived.Laws.DeepStrings4
namespace Go.Proofs.Ythaipemgndahfaa
open Go.RowKit

/-- What the two readers of a front answer. -/
def FkIs (z : Int) (n : Nat) (K : Nat → Int) (m : Nat) (T : Nat → ByteArray) (w : World) (e : Ending) (w' : World) : Prop :=
  (FrV z n K m T ∧ ∃ A c, e = .returned (.tuple #[.slice A n c, .bool true]) ∧ Ow w.heap.size w'.heap.size 9 A n (strV (frK K T)) w' ∧ n ≤ c ∧ Below w.heap.size w w') ∨
  (¬ FrV z n K m T ∧ (∃ v, e = .returned (.tuple #[v, .bool false])) ∧ Below w.heap.size w w')
/-- The call holds a front in a box of its own; the rows are as they were when it began. -/
structure FL (w : World) (z : Int) (A : Option Addr) (n c : Nat) (K : Nat → Int) (B : Option Addr) (m d : Nat) (T : Nat → ByteArray) (wr : World) : Prop where
  below : Below w.heap.size w wr
  size : w.heap.size + 1 ≤ wr.heap.size
  c0 : wr.cell? ⟨w.heap.size, 0, none⟩ = some (.int .i64 z)
  c1 : wr.cell? ⟨w.heap.size, 1, none⟩ = some (.slice A n c)
  c2 : wr.cell? ⟨w.heap.size, 2, none⟩ = some (.slice B m d)
  r1 : IRow wr A n K
  r2 : GRow wr B m (strV T)
section
variable {w wr w2 : World} {z : Int} {A B : Option Addr} {n c m d : Nat} {K : Nat → Int} {T : Nat → ByteArray}
theorem FL.start (h1 : IRow w A n K) (h2 : GRow w B m (strV T)) (t : TypeId) : FL w z A n c K B m d T (w.alloc (.cells #[.int .i64 z, .slice A n c, .slice B m d] t)) := by
  have hx := (boxed w #[.int .i64 z, .slice A n c, .slice B m d] t).now
  exact ⟨(Below.refl _ _).alloc (Nat.le_refl _) _, by simp, hx 0 _ rfl, hx 1 _ rfl, hx 2 _ rfl, (grow_of h1).al _, h2.al _⟩
theorem FL.low (h : FL w z A n c K B m d T wr) (hb : Below (w.heap.size + 1) wr w2) (h1 : IRow w A n K) (h2 : GRow w B m (strV T)) : FL w z A n c K B m d T w2 := by
  have hs := h.size
  have hB := h.below.trans (hb.mono (by omega))
  exact ⟨hB, Nat.le_trans hs hb.size, (hb.cell (p := ⟨w.heap.size, 0, none⟩) (show w.heap.size < _ by omega)).trans h.c0, (hb.cell (p := ⟨w.heap.size, 1, none⟩) (show w.heap.size < _ by omega)).trans h.c1, (hb.cell (p := ⟨w.heap.size, 2, none⟩) (show w.heap.size < _ by omega)).trans h.c2, h1.b hB, h2.b hB⟩
theorem FL.b (h : FL w z A n c K B m d T wr) (hb : Below wr.heap.size wr w2) : FL w z A n c K B m d T w2 := by
  have hs := h.size
  exact ⟨h.below.trans (hb.mono h.below.size), Nat.le_trans hs hb.size, (hb.cell (p := ⟨w.heap.size, 0, none⟩) (show w.heap.size < _ by omega)).trans h.c0, (hb.cell (p := ⟨w.heap.size, 1, none⟩) (show w.heap.size < _ by omega)).trans h.c1, (hb.cell (p := ⟨w.heap.size, 2, none⟩) (show w.heap.size < _ by omega)).trans h.c2, (grow_of h.r1).b hb, h.r2.b hb⟩
end
theorem frS_succ {K : Nat → Int} {T : Nat → ByteArray} {k kk : Nat} (h : K k = kk) : frS K T (k + 1) = (frS K T k).extract 0 kk ++ T k := by
  show (frS K T k).extract 0 (K k).toNat ++ T k = _
  rw [h]; rfl
theorem frV_up {z : Int} {n : Nat} {K : Nat → Int} {m : Nat} {T : Nat → ByteArray} (h : FrV z n K m T) {k : Nat} (hk : k < n) : 0 ≤ K k ∧ K k ≤ ((frS K T k).size : Int) ∧ isKeyB (frS K T (k + 1)).data.toList = true := h.2.2.2.1 k hk
section
variable {z : Int} {A : Option Addr} {n c : Nat} {K : Nat → Int} {B : Option Addr} {m d : Nat} {T : Nat → ByteArray} {w : World}
set_option maxRecDepth 100000 in
set_option maxHeartbeats 4000000 in
theorem impl_frontKeys (hn : n ≤ 1048576) (hm : m ≤ 1048576) (hs : ∀ i, i < m → (T i).size ≤ 1048576) (h1 : IRow w A n K) (h2 : GRow w B m (strV T)) :
    Calls Try.prog 52 #[.agg #[.int .i64 z, .slice A n c, .slice B m d]] w (FkIs z n K m T w) := by
  have C0 := Lib.hid (FL.start (z := z) (c := c) (d := d) h1 h2 26)
  have R1 := Lib.hid h1
  have R2 := Lib.hid h2
  have HS := Lib.hid hs
  clear h1 h2 hs
  have k0 := C0.out.c0
  have k1 := C0.out.c1
  have k2 := C0.out.c2
  by_cases hnm : n = m
  rotate_left
  · have e0 : ((n : Int) != (m : Int)) = true := by simp; omega
    have HN := Lib.hid (show ¬ FrV z n K m T from fun h => hnm h.2.2.1)
    clear hnm
    go_enter Try.func52, Try.ntmps52
    go_wp2_with fail
    go_ret2
    exact .inr ⟨HN.out, ⟨_, rfl⟩, C0.out.below⟩
  subst hnm
  have hmk := fun W => run_make_row' (P := Try.prog) 22 9 (.string ByteArray.empty) 16 Try.underlying22 infoS rfl .i64 .i64 n (by omega) (by omega) W
  go_enter Try.func52, Try.ntmps52
  go_wp2_with fail
  have C1 := Lib.hid (C0.out.b ((Below.refl _ _).alloc (Nat.le_refl _) (.cells (madeCells #[.string ByteArray.empty] n) 9)))
  have O1 := Lib.hid (GOwn.made (w.alloc (.cells #[.int .i64 z, .slice A n c, .slice B n d] 26)) 9 (.string ByteArray.empty) n)
  rw [World.size_alloc] at O1
  have hs1 := C0.out.size
  generalize w.alloc (.cells #[.int .i64 z, .slice A n c, .slice B n d] 26) = w1 at *
  clear k0 k1 k2 C0
  go_loopw [5, 24] (fun s i wr => ∃ k : Nat, k ≤ n ∧ i = .int .i64 k ∧ s = .string (frS K T k) ∧ Hid (FrUp K T k) ∧ Hid (FL w z A n c K B n d T wr) ∧ Hid (GOwn wr 9 (w.heap.size + 1) n (strV (uptoS k (frK K T))))) (fun _ i _ => n - (intOf i).toNat)
  case atStart => exact ⟨0, Nat.zero_le _, rfl, rfl, Lib.hid (fun i hi => absurd hi (Nat.not_lt_zero _)), C1, Lib.hid (O1.out.congr (fun _ _ => rfl))⟩
  case round =>
    obtain ⟨k, hk, rfl, rfl, HU, HC, HO⟩ := hrel
    have k0 := HC.out.c0
    have k1 := HC.out.c1
    have k2 := HC.out.c2
    have hsz := HU.out.size k (Nat.le_refl _)
    by_cases hlt : k < n
    · obtain ⟨b1, o1, rfl, _, hc1⟩ := HC.out.r1 (by omega)
      obtain ⟨b2, o2, rfl, _, hc2⟩ := HC.out.r2 (by omega)
      have hx1 := hc1 k hlt
      have hx2 : wr.cell? ⟨b2, o2 + k, none⟩ = some (.string (T k)) := hc2 k hlt
      have HSK := HS.out k hlt
      clear hc1 hc2
      by_cases hK0 : K k < 0
      · have HN := Lib.hid (show ¬ FrV z n K n T from fun h => by have := (frV_up h hlt).1; omega)
        go_wp2_with fail
        go_ret2
        exact .inr ⟨HN.out, ⟨_, rfl⟩, HC.out.below⟩
      by_cases hK1 : ((frS K T k).size : Int) < K k
      · have HN := Lib.hid (show ¬ FrV z n K n T from fun h => by have := (frV_up h hlt).2.1; omega)
        have hK0' : decide (K k < 0) = false := by simpa using hK0
        go_wp2_with fail
        go_ret2
        exact .inr ⟨HN.out, ⟨_, rfl⟩, HC.out.below⟩
      obtain ⟨kk, hkk⟩ : ∃ kk : Nat, K k = kk := ⟨(K k).toNat, by omega⟩
      have HE := Lib.hid (frS_succ (T := T) hkk)
      have HKK := Lib.hid hkk
      rw [hkk] at hx1 hK1
      have q1 : decide ((kk : Int) < 0) = false := by simp
      have q2 : decide (((frS K T k).size : Int) < (kk : Int)) = false := by simpa using hK1
      have q3 : kk ≤ (frS K T k).size := by omega
      have q4 : ((frS K T k).extract 0 kk).size + (T k).size ≤ 9223372036854775807 := by simp; omega
      have q5 : (frS K T (k + 1)).size ≤ maxLen := by rw [HE.out]; unfold maxLen; simp; omega
      have hbd : ∀ nq, Below wr.heap.size wr (wr.drewN nq) := fun nq => below_drewN (Below.refl _ _) nq
      have HBD := Lib.hid hbd
      have y1 := HO.out.cell hlt
      have t1 := HO.out.frozen k
      clear hK0 hK1 hkk hbd
      go_wp2_with fail
      go_quiet (fail)
      go_wp2_with fail
      rw [← HE.out]
      refine (impl_isKey _ _ q5).mono ?_; rintro e w' ⟨rfl, rfl⟩
      cases hkey : isKeyB (frS K T (k + 1)).data.toList with
      | false =>
        have HN := Lib.hid (show ¬ FrV z n K n T from fun h => by have := (frV_up h hlt).2.2; rw [hkey] at this; cases this)
        go_wp2_with fail
        go_ret2
        exact .inr ⟨HN.out, ⟨_, rfl⟩, HC.out.below.trans ((HBD.out _).mono HC.out.below.size)⟩
      | true =>
        have HU2 := Lib.hid (HU.out.step (by rw [HKK.out]; omega) (by rw [HKK.out]; omega) hkey)
        go_wp2_with fail
        go_roundw
        case rel =>
          refine ⟨k + 1, by omega, by go_num, rfl, HU2, Lib.hid ((HC.out.b (HBD.out _)).low (below_setAt (Below.refl (w.heap.size + 1) _) (Nat.le_refl _) _) R1.out R2.out), Lib.hid ?_⟩
          refine GOwn.congr (GOwn.set (GOwn.drewN HO.out _) k (.string (frS K T (k + 1)))) (fun j _ => ?_)
          have h2 := congrFun (uptoS_step k (frK K T) (frS K T (k + 1)) rfl) j
          unfold strV
          rw [← h2]
          by_cases e : j = k <;> simp [e]
        case measure => simp [intOf]; omega
    · obtain rfl : k = n := by omega
      have HUa := Lib.hid (HO.out.congr (G := strV (frK K T)) (fun j hj => by unfold strV uptoS; rw [if_pos hj]))
      have HSZ := Lib.hid (show ∀ i, i < k → (frK K T i).size ≤ 1048576 from fun i hi => by have := HU.out.size (i + 1) (by omega); show (frS K T (i + 1)).size ≤ _; omega)
      have hsw := HC.out.size
      by_cases hbk : keysB (frK K T) k = true ∧ 1 ≤ z ∧ z ≤ 16
      rotate_left
      · have HN := Lib.hid (show ¬ FrV z k K k T from fun h => hbk ⟨h.2.2.2.2.1, h.1, h.2.1⟩)
        go_wp2_with fail
        refine (impl_buildFront_no z hbk (by omega) (fun i hi => by have := HSZ.out i hi; unfold maxLen; omega) HUa.out.row).mono ?_; rintro e w2 ⟨rfl, hb2⟩
        have C2 := Lib.hid (HC.out.b hb2)
        clear hb2 k0 k1 k2
        go_wp2_with fail
        go_ret2
        exact .inr ⟨HN.out, ⟨_, rfl⟩, C2.out.below.alloc (by have := C2.out.size; omega) _⟩
      obtain ⟨hkb, hz1, hz2⟩ := hbk
      obtain ⟨zz, rfl⟩ : ∃ zz : Nat, z = zz := ⟨z.toNat, by omega⟩
      have HW := Lib.hid (show FrV zz k K k T ↔ SameI k K k (keepI zz (frK K T)) ∧ SameSt k T k (tailF zz (frK K T)) from
        ⟨fun h => ⟨⟨rfl, h.2.2.2.2.2.1⟩, ⟨rfl, h.2.2.2.2.2.2⟩⟩, fun h => ⟨hz1, hz2, rfl, HU.out, hkb, h.1.2, h.2.2⟩⟩)
      have HO2 := Lib.hid (ow_of_own (lo := w.heap.size) HUa.out (by omega) (Nat.le_refl k))
      go_wp2_with fail
      refine (impl_buildFront zz hkb (by omega) HSZ.out HUa.out.row).mono ?_; rintro e w2 ⟨A2, c2, B2, d2, rfl, o1, o2, _, hb2⟩
      have C2 := Lib.hid ((HC.out.b hb2).b ((Below.refl _ _).alloc (Nat.le_refl _) (.cells #[.int .i64 zz, .slice A2 k c2, .slice B2 k d2] 26)))
      have Q1 := Lib.hid ((o1.rd.row (Nat.le_refl _)).al (.cells #[.int .i64 zz, .slice A2 k c2, .slice B2 k d2] 26))
      have Q2 := Lib.hid ((o2.rd.row (Nat.le_refl _)).al (.cells #[.int .i64 zz, .slice A2 k c2, .slice B2 k d2] 26))
      have BX := Lib.hid (boxed w2 #[.int .i64 zz, .slice A2 k c2, .slice B2 k d2] 26)
      have HO3 := Lib.hid ((HUa.out.b hb2).alloc (.cells #[.int .i64 zz, .slice A2 k c2, .slice B2 k d2] 26))
      have hs2 := hb2.size
      clear k0 k1 k2 hb2 o1 o2
      have k1 := C2.out.c1
      have k2 := C2.out.c2
      have b1 := BX.out.now 1 _ rfl
      have b2 := BX.out.now 2 _ rfl
      go_wp2_with fail
      generalize w2.alloc (.cells #[.int .i64 zz, .slice A2 k c2, .slice B2 k d2] 26) = w3 at *
      refine (slices_equal A A2 k c k c2 K _ w3 (by omega) (by omega) C2.out.r1 Q1.out).mono ?_; rintro e w4 ⟨r, rfl, hr, hb4⟩
      have C4 := Lib.hid (C2.out.b hb4)
      have Q4 := Lib.hid (Q2.out.b hb4)
      have BX4 := Lib.hid (BX.out.b hb4)
      have HO4 := Lib.hid (HO3.out.b hb4)
      clear k1 k2 b1 b2 hb4
      have k1 := C4.out.c1
      have k2 := C4.out.c2
      have b1 := BX4.out.now 1 _ rfl
      have b2 := BX4.out.now 2 _ rfl
      cases r with
      | false =>
        have HN := Lib.hid (show ¬ FrV zz k K k T from fun h => by have := hr.2 (HW.out.1 h).1; cases this)
        clear hr
        go_wp2_with fail
        go_ret2
        exact .inr ⟨HN.out, ⟨_, rfl⟩, C4.out.below⟩
      | true =>
        have HR1 := Lib.hid (hr.1 rfl)
        clear hr
        go_wp2_with fail
        refine (slices_equalS B B2 k d k d2 T _ w4 (by omega) (by omega) C4.out.r2 Q4.out).mono ?_; rintro e w5 ⟨r, rfl, hr, hb5⟩
        have C5 := Lib.hid (C4.out.b hb5)
        have HO5 := Lib.hid (HO4.out.b hb5)
        clear k1 k2 b1 b2 hb5
        cases r with
        | false =>
          have HN := Lib.hid (show ¬ FrV zz k K k T from fun h => by have := hr.2 (HW.out.1 h).2; cases this)
          clear hr
          go_wp2_with fail
          go_ret2
          exact .inr ⟨HN.out, ⟨_, rfl⟩, C5.out.below⟩
        | true =>
          have HY := Lib.hid (HW.out.2 ⟨HR1.out, hr.1 rfl⟩)
          clear hr
          go_wp2_with fail
          go_ret2
          exact .inl ⟨HY.out, _, _, rfl, ow_of_own (lo := w.heap.size) HO5.out (by omega) (Nat.le_refl k), Nat.le_refl _, C5.out.below⟩
end
end Go.Proofs.Ythaipemgndahfaa
