/- NewBloom, ProbesOf, BloomHas: both sides. -/
import Derived.Test.YtpajbcgdoedleabBlA
namespace Go.Proofs.Ytpajbcgdoedleab
open Go.RowKit

/-- A filter among the answers, its words one's own. -/
def BlAns (z0 z1 z2 : Int) (n : Nat) (X : Nat → Int) (b : Bool) (w : World) (e : Ending) (w' : World) : Prop :=
  ∃ A c, e = .returned (.tuple #[.agg #[.int .i64 z0, .int .i64 z1, .int .i64 z2, .slice A n c], .bool b]) ∧ Ow w.heap.size w'.heap.size 3 A n (intV X) w' ∧ Below w.heap.size w w'
theorem BlAns.row {z0 z1 z2 : Int} {n : Nat} {X : Nat → Int} {b : Bool} {w w' : World} {e : Ending} (h : BlAns z0 z1 z2 n X b w e w') : ∃ A c, e = .returned (.tuple #[.agg #[.int .i64 z0, .int .i64 z1, .int .i64 z2, .slice A n c], .bool b]) ∧ GRow w' A n (intV X) ∧ Below w.heap.size w w' := by
  obtain ⟨A, c, h1, h2, h3⟩ := h
  exact ⟨A, c, h1, (Ow.rd h2).row (Nat.le_refl _), h3⟩
theorem ow_orow {w : World} {lo g n : Nat} {X : Nat → Int} (h : ORow w g n X) (hg : lo ≤ g) : Ow lo w.heap.size 3 (some ⟨g, 0, none⟩) n (intV X) w := ow_of_own (m := n) (show GOwn w 3 g n (intV X) from h) hg (Nat.le_refl _)
theorem blAns_none {w w' : World} {e : Ending} (h : e = .returned (.tuple #[.agg #[.int .i64 0, .int .i64 0, .int .i64 0, .slice none 0 0], .bool false])) (hb : Below w.heap.size w w') : BlAns 0 0 0 0 (fun _ => 0) false w e w' := ⟨none, 0, h, ow_zero _ _ _ _ _ _, hb⟩
/-- A list of ints among the answers, one's own. -/
def LsAns (n : Nat) (X : Nat → Int) (b : Bool) (w : World) (e : Ending) (w' : World) : Prop :=
  ∃ A c, e = .returned (.tuple #[.slice A n c, .bool b]) ∧ Ow w.heap.size w'.heap.size 3 A n (intV X) w' ∧ Below w.heap.size w w'
theorem LsAns.row {n : Nat} {X : Nat → Int} {b : Bool} {w w' : World} {e : Ending} (h : LsAns n X b w e w') : ∃ A c, e = .returned (.tuple #[.slice A n c, .bool b]) ∧ GRow w' A n (intV X) ∧ Below w.heap.size w w' := by
  obtain ⟨A, c, h1, h2, h3⟩ := h
  exact ⟨A, c, h1, (Ow.rd h2).row (Nat.le_refl _), h3⟩
theorem lsAns_none {w w' : World} {e : Ending} (h : e = .returned (.tuple #[.slice none 0 0, .bool false])) (hb : Below w.heap.size w w') : LsAns 0 (fun _ => 0) false w e w' := ⟨none, 0, h, ow_zero _ _ _ _ _ _, hb⟩
theorem ow_vals {w : World} {B n c : Nat} {A : Option Addr} {X : Nat → Int} (h : w.ownsRow B 3 1 (.slice A n c) n (vals (intV X) n)) : Ow B w.heap.size 3 A n (intV X) w := by
  rcases owned_vec h with rfl | ⟨g, rfl, hg, ho⟩
  · exact ow_zero _ _ _ _ _ _
  · exact ow_of_own ho hg (Nat.le_refl n)
section
variable {z0 z1 z2 : Int} {w : World}
set_option maxRecDepth 100000 in
set_option maxHeartbeats 1000000 in
theorem impl_newBloom_no (h : fiB z0 z1 z2 = false) :
    Calls Try.prog 67 #[.int .i64 z0, .int .i64 z1, .int .i64 z2] w (BlAns 0 0 0 0 (fun _ => 0) false w) := by
  have N1 := nbx0 w #[.int .i64 0, .int .i64 0, .int .i64 0, .slice none 0 0] 44
  have hal := Lib.hid ((Below.refl w.heap.size w).alloc (Nat.le_refl _) (.cells #[.int .i64 0, .int .i64 0, .int .i64 0, .slice none 0 0] 44))
  have y0 := N1.cell 0 _ rfl
  have f0 := N1.free 0
  have y1 := N1.cell 1 _ rfl
  have f1 := N1.free 1
  have y2 := N1.cell 2 _ rfl
  have f2 := N1.free 2
  have y3 := N1.cell 3 _ rfl
  have f3 := N1.free 3
  clear N1
  go_enter Try.func67, Try.ntmps67
  go_wp2_with fail
  refine (impl_hasProbes z0 z1 z2 _).mono ?_; rintro e w1 ⟨rfl, rfl⟩
  rw [h]
  go_wp2_with fail
  refine bodyPost_ret (v := .tuple #[.agg #[.int .i64 0, .int .i64 0, .int .i64 0, .slice none 0 0], .bool false]) (by simp [results, Try.results67, go_sem]) rfl ?_
  exact blAns_none rfl (by first | exact hal.out | exact below_setAt (below_setAt (below_setAt (below_setAt hal.out (by omega) _) (by omega) _) (by omega) _) (by omega) _)
set_option maxRecDepth 100000 in
set_option maxHeartbeats 1000000 in
theorem impl_newBloomG {p z : Nat} (h : fiB z0 p z = true) :
    Calls Try.prog 67 #[.int .i64 z0, .int .i64 p, .int .i64 z] w fun e w' => ∃ g, e = .returned (.tuple #[.agg #[.int .i64 z0, .int .i64 p, .int .i64 z, .slice (some ⟨g, 0, none⟩) ((z + 15) / 16) ((z + 15) / 16)], .bool true]) ∧ w.heap.size ≤ g ∧ ORow w' g ((z + 15) / 16) (fun _ => 0) ∧ Below w.heap.size w w' := by
  have N1 := Lib.hid (nbx0 w #[.int .i64 0, .int .i64 0, .int .i64 0, .slice none 0 0] 44)
  have hal := Lib.hid ((Below.refl w.heap.size w).alloc (Nat.le_refl _) (.cells #[.int .i64 0, .int .i64 0, .int .i64 0, .slice none 0 0] 44))
  obtain ⟨h0, h1, h2⟩ := fiB_out h
  obtain ⟨m, hm⟩ : ∃ m, m = (z + 15) / 16 := ⟨_, rfl⟩
  rw [← hm]
  have HM := Lib.hid hm
  have hm0 : 0 < m := by omega
  clear hm
  go_enter Try.func67, Try.ntmps67
  go_wp2_with fail
  refine (impl_hasProbes z0 p z _).mono ?_; rintro e w1 ⟨rfl, rfl⟩
  rw [h]
  go_wp2_with fail
  refine (growWords_some z m none 0 0 (fun _ => 0) _ (by omega) HM.out hm0 (by omega) IRow.zero).mono ?_; rintro e w1 ⟨g, rfl, hgg, ho, hb⟩
  rw [World.size_alloc] at hgg
  have NB := N1.out.b hb
  have HB := Lib.hid (hal.out.trans (hb.mono (by simp)))
  have O := Lib.hid (ho.congr (Y := fun _ => 0) (fun i _ => by simp))
  clear hb ho
  have y0 := NB.cell 0 _ rfl
  have f0 := NB.free 0
  have y1 := NB.cell 1 _ rfl
  have f1 := NB.free 1
  have y2 := NB.cell 2 _ rfl
  have f2 := NB.free 2
  have y3 := NB.cell 3 _ rfl
  have f3 := NB.free 3
  clear NB
  go_wp2_with fail
  refine bodyPost_ret (v := .tuple #[.agg #[.int .i64 z0, .int .i64 p, .int .i64 z, .slice (some ⟨g, 0, none⟩) m m], .bool true]) (by simp [results, Try.results67, go_sem, y0, y1, y2, y3]) rfl ?_
  exact ⟨g, rfl, by omega, ((((O.out.setAt (by omega) _).setAt (by omega) _).setAt (by omega) _).setAt (by omega) _), below_setAt (below_setAt (below_setAt (below_setAt HB.out (by omega) _) (by omega) _) (by omega) _) (by omega) _⟩
theorem impl_newBloom {p z : Nat} (h : fiB z0 p z = true) :
    Calls Try.prog 67 #[.int .i64 z0, .int .i64 p, .int .i64 z] w (BlAns z0 p z ((z + 15) / 16) (fun _ => 0) true w) :=
  (impl_newBloomG h).mono fun _ _ ⟨_, he, hg, ho, hb⟩ => ⟨_, _, he, ow_orow ho hg, hb⟩
end
section
variable {z0 z1 z2 : Int} {p z : Nat} {s : ByteArray} {w : World}
end
section
variable {z0 z1 z2 : Int} {p z : Nat} {A : Option Addr} {n c : Nat} {X : Nat → Int} {s : ByteArray} {w : World}
end
end Go.Proofs.Ytpajbcgdoedleab
