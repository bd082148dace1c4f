/- The law of MeetSparse, walked: what both sides answer comes in as hypotheses. -/
import Derived.Test.YtffdkfhnlgfigaaObjSp
import Derived.Test.YtffdkfhnlgfigaaObjInt
import Derived.Test.YtffdkfhnlgfigaaMeetSparseAll
import Derived.Deep.RegionHeld3
namespace Go.Proofs.Ytffdkfhnlgfigaa
open Go.RowKit

set_option maxRecDepth 100000 in
set_option maxHeartbeats 8000000 in
theorem main_FnExactMeetSparse (a0z0 : Int) (a0z1 : Int) (a0z2 : Int) (a0z3 : Int) (a0n4 : Nat) (a0X4 : Nat → Int) (a0z5 : Int) (a0n6 : Nat) (a0X6 : Nat → Int) (a1z0 : Int) (a1z1 : Int) (a1z2 : Int) (a1z3 : Int) (a1n4 : Nat) (a1X4 : Nat → Int) (a1z5 : Int) (a1n6 : Nat) (a1X6 : Nat → Int) (r0n0 : Nat) (r0X0 : Nat → Int) (r1z0 : Bool) (a0A4 : Option Addr) (a0c4 : Nat) (a0A6 : Option Addr) (a0c6 : Nat) (a1A4 : Option Addr) (a1c4 : Nat) (a1A6 : Option Addr) (a1c6 : Nat) (w : World) (ha0m4 : a0n4 ≤ maxLen) (ha0r4 : GRow w a0A4 a0n4 (intV a0X4)) (ha0m6 : a0n6 ≤ maxLen) (ha0r6 : GRow w a0A6 a0n6 (intV a0X6)) (ha1m4 : a1n4 ≤ maxLen) (ha1r4 : GRow w a1A4 a1n4 (intV a1X4)) (ha1m6 : a1n6 ≤ maxLen) (ha1r6 : GRow w a1A6 a1n6 (intV a1X6)) (hr0m0 : r0n0 ≤ 1048576)
    (s1 : a0n4 + a0n6 + a1n4 + a1n6 ≤ 1048576 → ∀ (ua0A4 : Option Addr) (ua0c4 : Nat) (ua0A6 : Option Addr) (ua0c6 : Nat) (ua1A4 : Option Addr) (ua1c4 : Nat) (ua1A6 : Option Addr) (ua1c6 : Nat) (w : World), GRow w ua0A4 a0n4 (intV a0X4) → GRow w ua0A6 a0n6 (intV a0X6) → GRow w ua1A4 a1n4 (intV a1X4) → GRow w ua1A6 a1n6 (intV a1X6) → Calls Try.prog 27 #[.agg #[.int .i64 a0z0, .int .i64 a0z1, .int .i64 a0z2, .int .i64 a0z3, .slice ua0A4 a0n4 ua0c4, .int .i64 a0z5, .slice ua0A6 a0n6 ua0c6], .agg #[.int .i64 a1z0, .int .i64 a1z1, .int .i64 a1z2, .int .i64 a1z3, .slice ua1A4 a1n4 ua1c4, .int .i64 a1z5, .slice ua1A6 a1n6 ua1c6]] w fun e w' => ∃ vr0A0 vr0c0, e = .returned (.tuple #[.slice vr0A0 r0n0 vr0c0, .bool r1z0]) ∧ GRow w' vr0A0 r0n0 (intV r0X0) ∧ Below w.heap.size w w')
    (s2 : a0n4 + a0n6 + a1n4 + a1n6 ≤ 1048576 → ∀ (ua0A4 : Option Addr) (ua0c4 : Nat) (ua0A6 : Option Addr) (ua0c6 : Nat) (ua1A4 : Option Addr) (ua1c4 : Nat) (ua1A6 : Option Addr) (ua1c6 : Nat) (w : World), GRow w ua0A4 a0n4 (intV a0X4) → GRow w ua0A6 a0n6 (intV a0X6) → GRow w ua1A4 a1n4 (intV a1X4) → GRow w ua1A6 a1n6 (intV a1X6) → Calls Try.prog 29 #[.agg #[.int .i64 a0z0, .int .i64 a0z1, .int .i64 a0z2, .int .i64 a0z3, .slice ua0A4 a0n4 ua0c4, .int .i64 a0z5, .slice ua0A6 a0n6 ua0c6], .agg #[.int .i64 a1z0, .int .i64 a1z1, .int .i64 a1z2, .int .i64 a1z3, .slice ua1A4 a1n4 ua1c4, .int .i64 a1z5, .slice ua1A6 a1n6 ua1c6]] w fun e w' => ∃ vr0A0 vr0c0, e = .returned (.tuple #[.slice vr0A0 r0n0 vr0c0, .bool r1z0]) ∧ Ow w.heap.size w'.heap.size 3 vr0A0 r0n0 (intV r0X0) w' ∧ Below w.heap.size w w') :
    Calls Try.prog 6 #[.agg #[.int .i64 a0z0, .int .i64 a0z1, .int .i64 a0z2, .int .i64 a0z3, .slice a0A4 a0n4 a0c4, .int .i64 a0z5, .slice a0A6 a0n6 a0c6], .agg #[.int .i64 a1z0, .int .i64 a1z1, .int .i64 a1z2, .int .i64 a1z3, .slice a1A4 a1n4 a1c4, .int .i64 a1z5, .slice a1A6 a1n6 a1c6]] w fun e w' => e = .returned (.bool true) ∧ Below w.heap.size w w' := by
  have S1 := Lib.hid s1
  have S2 := Lib.hid s2
  clear s1 s2
  have FB := Lib.hid (((At.start w).alloc (.cells #[.int .i64 a0z0, .int .i64 a0z1, .int .i64 a0z2, .int .i64 a0z3, .slice a0A4 a0n4 a0c4, .int .i64 a0z5, .slice a0A6 a0n6 a0c6] 58)).alloc (.cells #[.int .i64 a1z0, .int .i64 a1z1, .int .i64 a1z2, .int .i64 a1z3, .slice a1A4 a1n4 a1c4, .int .i64 a1z5, .slice a1A6 a1n6 a1c6] 58))
  have Fa04 := Lib.hid (((rd_of_row ha0r4).alloc (.cells #[.int .i64 a0z0, .int .i64 a0z1, .int .i64 a0z2, .int .i64 a0z3, .slice a0A4 a0n4 a0c4, .int .i64 a0z5, .slice a0A6 a0n6 a0c6] 58)).alloc (.cells #[.int .i64 a1z0, .int .i64 a1z1, .int .i64 a1z2, .int .i64 a1z3, .slice a1A4 a1n4 a1c4, .int .i64 a1z5, .slice a1A6 a1n6 a1c6] 58))
  have Fa06 := Lib.hid (((rd_of_row ha0r6).alloc (.cells #[.int .i64 a0z0, .int .i64 a0z1, .int .i64 a0z2, .int .i64 a0z3, .slice a0A4 a0n4 a0c4, .int .i64 a0z5, .slice a0A6 a0n6 a0c6] 58)).alloc (.cells #[.int .i64 a1z0, .int .i64 a1z1, .int .i64 a1z2, .int .i64 a1z3, .slice a1A4 a1n4 a1c4, .int .i64 a1z5, .slice a1A6 a1n6 a1c6] 58))
  have Fa14 := Lib.hid (((rd_of_row ha1r4).alloc (.cells #[.int .i64 a0z0, .int .i64 a0z1, .int .i64 a0z2, .int .i64 a0z3, .slice a0A4 a0n4 a0c4, .int .i64 a0z5, .slice a0A6 a0n6 a0c6] 58)).alloc (.cells #[.int .i64 a1z0, .int .i64 a1z1, .int .i64 a1z2, .int .i64 a1z3, .slice a1A4 a1n4 a1c4, .int .i64 a1z5, .slice a1A6 a1n6 a1c6] 58))
  have Fa16 := Lib.hid (((rd_of_row ha1r6).alloc (.cells #[.int .i64 a0z0, .int .i64 a0z1, .int .i64 a0z2, .int .i64 a0z3, .slice a0A4 a0n4 a0c4, .int .i64 a0z5, .slice a0A6 a0n6 a0c6] 58)).alloc (.cells #[.int .i64 a1z0, .int .i64 a1z1, .int .i64 a1z2, .int .i64 a1z3, .slice a1A4 a1n4 a1c4, .int .i64 a1z5, .slice a1A6 a1n6 a1c6] 58))
  have Ba0 := Lib.hid ((boxed w #[.int .i64 a0z0, .int .i64 a0z1, .int .i64 a0z2, .int .i64 a0z3, .slice a0A4 a0n4 a0c4, .int .i64 a0z5, .slice a0A6 a0n6 a0c6] 58).alloc (.cells #[.int .i64 a1z0, .int .i64 a1z1, .int .i64 a1z2, .int .i64 a1z3, .slice a1A4 a1n4 a1c4, .int .i64 a1z5, .slice a1A6 a1n6 a1c6] 58))
  have Ba1 := Lib.hid (boxed_at (w.alloc (.cells #[.int .i64 a0z0, .int .i64 a0z1, .int .i64 a0z2, .int .i64 a0z3, .slice a0A4 a0n4 a0c4, .int .i64 a0z5, .slice a0A6 a0n6 a0c6] 58)) (w.heap.size + 1) (by simp) #[.int .i64 a1z0, .int .i64 a1z1, .int .i64 a1z2, .int .i64 a1z3, .slice a1A4 a1n4 a1c4, .int .i64 a1z5, .slice a1A6 a1n6 a1c6] 58)
  clear ha0r4 ha0r6 ha1r4 ha1r6
  go_enter Try.func6, Try.ntmps6
  go_wp2_with fail
  refine (sz_Sparse ha0m4 ha0m6 (by omega) (by omega)).mono ?_; rintro e w1 ⟨rfl, hb⟩
  replace FB := Lib.hid (FB.out.b hb)
  replace Fa04 := Lib.hid (Fa04.out.b hb)
  replace Fa06 := Lib.hid (Fa06.out.b hb)
  replace Fa14 := Lib.hid (Fa14.out.b hb)
  replace Fa16 := Lib.hid (Fa16.out.b hb)
  replace Ba0 := Lib.hid (Ba0.out.b hb)
  replace Ba1 := Lib.hid (Ba1.out.b hb)
  have z_w1 : w.heap.size + 2 ≤ w1.heap.size := by have hsz := hb.size; first | omega | (simp at hsz; omega)
  clear hb
  by_cases hZ_a0 : ((a0n4 + a0n6 : Nat) : Int) ≤ (1048576 : Int)
  rotate_left
  · rw [szv_no hZ_a0]
    go_wp2_with fail
    go_ret
    exact ⟨rfl, FB.out.now⟩
  rw [szv_yes hZ_a0]
  have hL_a0 : ¬ (((1048576 : Int) - (((a0n4 : Nat) : Int) + ((a0n6 : Nat) : Int))) < 0) := by omega
  have c_Ba0_0 := Ba0.out.now 0 _ rfl
  have c_Ba0_1 := Ba0.out.now 1 _ rfl
  have c_Ba0_2 := Ba0.out.now 2 _ rfl
  have c_Ba0_3 := Ba0.out.now 3 _ rfl
  have c_Ba0_4 := Ba0.out.now 4 _ rfl
  have c_Ba0_5 := Ba0.out.now 5 _ rfl
  have c_Ba0_6 := Ba0.out.now 6 _ rfl
  have c_Ba1_0 := Ba1.out.now 0 _ rfl
  have c_Ba1_1 := Ba1.out.now 1 _ rfl
  have c_Ba1_2 := Ba1.out.now 2 _ rfl
  have c_Ba1_3 := Ba1.out.now 3 _ rfl
  have c_Ba1_4 := Ba1.out.now 4 _ rfl
  have c_Ba1_5 := Ba1.out.now 5 _ rfl
  have c_Ba1_6 := Ba1.out.now 6 _ rfl
  go_wp2_with fail
  refine (sz_Sparse ha1m4 ha1m6 (by omega) (by omega)).mono ?_; rintro e w2 ⟨rfl, hb⟩
  replace FB := Lib.hid (FB.out.b hb)
  replace Fa04 := Lib.hid (Fa04.out.b hb)
  replace Fa06 := Lib.hid (Fa06.out.b hb)
  replace Fa14 := Lib.hid (Fa14.out.b hb)
  replace Fa16 := Lib.hid (Fa16.out.b hb)
  replace Ba0 := Lib.hid (Ba0.out.b hb)
  replace Ba1 := Lib.hid (Ba1.out.b hb)
  have z_w2 : w1.heap.size ≤ w2.heap.size := by have hsz := hb.size; first | omega | (simp at hsz; omega)
  clear c_Ba0_0 c_Ba0_1 c_Ba0_2 c_Ba0_3 c_Ba0_4 c_Ba0_5 c_Ba0_6 c_Ba1_0 c_Ba1_1 c_Ba1_2 c_Ba1_3 c_Ba1_4 c_Ba1_5 c_Ba1_6
  clear hb
  by_cases hZ_a1 : ((a1n4 + a1n6 : Nat) : Int) ≤ ((1048576 : Int) - (((a0n4 : Nat) : Int) + ((a0n6 : Nat) : Int)))
  rotate_left
  · rw [szv_no hZ_a1]
    go_wp2_with fail
    go_ret
    exact ⟨rfl, FB.out.now⟩
  rw [szv_yes hZ_a1]
  have hL_a1 : ¬ ((((1048576 : Int) - (((a0n4 : Nat) : Int) + ((a0n6 : Nat) : Int))) - (((a1n4 : Nat) : Int) + ((a1n6 : Nat) : Int))) < 0) := by omega
  have c_Ba0_0 := Ba0.out.now 0 _ rfl
  have c_Ba0_1 := Ba0.out.now 1 _ rfl
  have c_Ba0_2 := Ba0.out.now 2 _ rfl
  have c_Ba0_3 := Ba0.out.now 3 _ rfl
  have c_Ba0_4 := Ba0.out.now 4 _ rfl
  have c_Ba0_5 := Ba0.out.now 5 _ rfl
  have c_Ba0_6 := Ba0.out.now 6 _ rfl
  have c_Ba1_0 := Ba1.out.now 0 _ rfl
  have c_Ba1_1 := Ba1.out.now 1 _ rfl
  have c_Ba1_2 := Ba1.out.now 2 _ rfl
  have c_Ba1_3 := Ba1.out.now 3 _ rfl
  have c_Ba1_4 := Ba1.out.now 4 _ rfl
  have c_Ba1_5 := Ba1.out.now 5 _ rfl
  have c_Ba1_6 := Ba1.out.now 6 _ rfl
  replace S1 := Lib.hid (S1.out (by omega))
  replace S2 := Lib.hid (S2.out (by omega))
  have ha0k4 : a0n4 ≤ 1048576 := by omega
  have ha0k6 : a0n6 ≤ 1048576 := by omega
  have ha1k4 : a1n4 ≤ 1048576 := by omega
  have ha1k6 : a1n6 ≤ 1048576 := by omega
  go_wp2_with fail
  go_region_held3 (fun w' => w'.cell? ⟨w.heap.size, 0, none⟩ = some (.int .i64 a0z0) ∧ w'.cell? ⟨w.heap.size, 1, none⟩ = some (.int .i64 a0z1) ∧ w'.cell? ⟨w.heap.size, 2, none⟩ = some (.int .i64 a0z2) ∧ w'.cell? ⟨w.heap.size, 3, none⟩ = some (.int .i64 a0z3) ∧ w'.cell? ⟨w.heap.size, 4, none⟩ = some (.slice a0A4 a0n4 a0c4) ∧ w'.cell? ⟨w.heap.size, 5, none⟩ = some (.int .i64 a0z5) ∧ w'.cell? ⟨w.heap.size, 6, none⟩ = some (.slice a0A6 a0n6 a0c6) ∧ w'.cell? ⟨w.heap.size + 1, 0, none⟩ = some (.int .i64 a1z0) ∧ w'.cell? ⟨w.heap.size + 1, 1, none⟩ = some (.int .i64 a1z1) ∧ w'.cell? ⟨w.heap.size + 1, 2, none⟩ = some (.int .i64 a1z2) ∧ w'.cell? ⟨w.heap.size + 1, 3, none⟩ = some (.int .i64 a1z3) ∧ w'.cell? ⟨w.heap.size + 1, 4, none⟩ = some (.slice a1A4 a1n4 a1c4) ∧ w'.cell? ⟨w.heap.size + 1, 5, none⟩ = some (.int .i64 a1z5) ∧ w'.cell? ⟨w.heap.size + 1, 6, none⟩ = some (.slice a1A6 a1n6 a1c6))
    (first | (go_keep; done) | exact ⟨((((Ba0.out.b hq1).b hq2).b hq3)).now 0 _ rfl, ((((Ba0.out.b hq1).b hq2).b hq3)).now 1 _ rfl, ((((Ba0.out.b hq1).b hq2).b hq3)).now 2 _ rfl, ((((Ba0.out.b hq1).b hq2).b hq3)).now 3 _ rfl, ((((Ba0.out.b hq1).b hq2).b hq3)).now 4 _ rfl, ((((Ba0.out.b hq1).b hq2).b hq3)).now 5 _ rfl, ((((Ba0.out.b hq1).b hq2).b hq3)).now 6 _ rfl, ((((Ba1.out.b hq1).b hq2).b hq3)).now 0 _ rfl, ((((Ba1.out.b hq1).b hq2).b hq3)).now 1 _ rfl, ((((Ba1.out.b hq1).b hq2).b hq3)).now 2 _ rfl, ((((Ba1.out.b hq1).b hq2).b hq3)).now 3 _ rfl, ((((Ba1.out.b hq1).b hq2).b hq3)).now 4 _ rfl, ((((Ba1.out.b hq1).b hq2).b hq3)).now 5 _ rfl, ((((Ba1.out.b hq1).b hq2).b hq3)).now 6 _ rfl⟩ | exact ⟨(((Ba0.out.b hq1).b hq2)).now 0 _ rfl, (((Ba0.out.b hq1).b hq2)).now 1 _ rfl, (((Ba0.out.b hq1).b hq2)).now 2 _ rfl, (((Ba0.out.b hq1).b hq2)).now 3 _ rfl, (((Ba0.out.b hq1).b hq2)).now 4 _ rfl, (((Ba0.out.b hq1).b hq2)).now 5 _ rfl, (((Ba0.out.b hq1).b hq2)).now 6 _ rfl, (((Ba1.out.b hq1).b hq2)).now 0 _ rfl, (((Ba1.out.b hq1).b hq2)).now 1 _ rfl, (((Ba1.out.b hq1).b hq2)).now 2 _ rfl, (((Ba1.out.b hq1).b hq2)).now 3 _ rfl, (((Ba1.out.b hq1).b hq2)).now 4 _ rfl, (((Ba1.out.b hq1).b hq2)).now 5 _ rfl, (((Ba1.out.b hq1).b hq2)).now 6 _ rfl⟩ | exact ⟨((Ba0.out.b hq1)).now 0 _ rfl, ((Ba0.out.b hq1)).now 1 _ rfl, ((Ba0.out.b hq1)).now 2 _ rfl, ((Ba0.out.b hq1)).now 3 _ rfl, ((Ba0.out.b hq1)).now 4 _ rfl, ((Ba0.out.b hq1)).now 5 _ rfl, ((Ba0.out.b hq1)).now 6 _ rfl, ((Ba1.out.b hq1)).now 0 _ rfl, ((Ba1.out.b hq1)).now 1 _ rfl, ((Ba1.out.b hq1)).now 2 _ rfl, ((Ba1.out.b hq1)).now 3 _ rfl, ((Ba1.out.b hq1)).now 4 _ rfl, ((Ba1.out.b hq1)).now 5 _ rfl, ((Ba1.out.b hq1)).now 6 _ rfl⟩)
    (first
      | (have hqz := hq2; clear hqz; go_at_call 27; refine (S1.out _ _ _ _ _ _ _ _ _ (hG_a04.b hq2) (hG_a06.b hq2) hG_a14 hG_a16).mono ?_; rintro e w5 ⟨mr0A0, mr0c0, rfl, hrr00, hq3⟩)
      | (have hqz := hq1; clear hqz; go_at_call 28; (first | refine (to_Sparse ha1k4 ha1k6 ((Fa14.out.b hq1)).row ((Fa16.out.b hq1)).row).mono ?_); rintro e w4 ⟨tma1A4, tma1c4, tma1A6, tma1c6, rfl, ho_a14, ho_a16, hz_a1_0, hq2⟩; have hG_a14 := (Ow.rd ho_a14).row (Nat.le_refl _); have hG_a16 := (Ow.rd ho_a16).row (Nat.le_refl _); clear ho_a14 ho_a16 hz_a1_0)
      | (go_at_call 28; (first | refine (to_Sparse ha0k4 ha0k6 (Fa04.out).row (Fa06.out).row).mono ?_ | refine (to_Sparse ha0k4 ha0k6 (GRow.drew (Fa04.out).row) (GRow.drew (Fa06.out).row)).mono ?_); rintro e w3 ⟨tma0A4, tma0c4, tma0A6, tma0c6, rfl, ho_a04, ho_a06, hz_a0_0, hq1'⟩; have hq1 := of_drew hq1'; clear hq1'; have hG_a04 := (Ow.rd ho_a04).row (Nat.le_refl _); have hG_a06 := (Ow.rd ho_a06).row (Nat.le_refl _); clear ho_a04 ho_a06 hz_a0_0))
  replace FB := Lib.hid (FB.out.b hq1)
  replace Fa04 := Lib.hid (Fa04.out.b hq1)
  replace Fa06 := Lib.hid (Fa06.out.b hq1)
  replace Fa14 := Lib.hid (Fa14.out.b hq1)
  replace Fa16 := Lib.hid (Fa16.out.b hq1)
  replace Ba0 := Lib.hid (Ba0.out.b hq1)
  replace Ba1 := Lib.hid (Ba1.out.b hq1)
  replace FB := Lib.hid (FB.out.b hq2)
  replace Fa04 := Lib.hid (Fa04.out.b hq2)
  replace Fa06 := Lib.hid (Fa06.out.b hq2)
  replace Fa14 := Lib.hid (Fa14.out.b hq2)
  replace Fa16 := Lib.hid (Fa16.out.b hq2)
  replace Ba0 := Lib.hid (Ba0.out.b hq2)
  replace Ba1 := Lib.hid (Ba1.out.b hq2)
  replace FB := Lib.hid (FB.out.b hq3)
  replace Fa04 := Lib.hid (Fa04.out.b hq3)
  replace Fa06 := Lib.hid (Fa06.out.b hq3)
  replace Fa14 := Lib.hid (Fa14.out.b hq3)
  replace Fa16 := Lib.hid (Fa16.out.b hq3)
  replace Ba0 := Lib.hid (Ba0.out.b hq3)
  replace Ba1 := Lib.hid (Ba1.out.b hq3)
  have z_w3 : w2.heap.size ≤ w3.heap.size := by have hsz := hq1.size; first | omega | (simp at hsz; omega)
  have z_w4 : w3.heap.size ≤ w4.heap.size := by have hsz := hq2.size; first | omega | (simp at hsz; omega)
  have z_w5 : w4.heap.size ≤ w5.heap.size := by have hsz := hq3.size; first | omega | (simp at hsz; omega)
  clear c_Ba0_0 c_Ba0_1 c_Ba0_2 c_Ba0_3 c_Ba0_4 c_Ba0_5 c_Ba0_6 c_Ba1_0 c_Ba1_1 c_Ba1_2 c_Ba1_3 c_Ba1_4 c_Ba1_5 c_Ba1_6
  have Vmr00 := Lib.hid (rd_of_row hrr00)
  clear hq1 hq2 hq3 hG_a04 hG_a06 hG_a14 hG_a16 hrr00
  have c_Ba0_0 := Ba0.out.now 0 _ rfl
  have c_Ba0_1 := Ba0.out.now 1 _ rfl
  have c_Ba0_2 := Ba0.out.now 2 _ rfl
  have c_Ba0_3 := Ba0.out.now 3 _ rfl
  have c_Ba0_4 := Ba0.out.now 4 _ rfl
  have c_Ba0_5 := Ba0.out.now 5 _ rfl
  have c_Ba0_6 := Ba0.out.now 6 _ rfl
  have c_Ba1_0 := Ba1.out.now 0 _ rfl
  have c_Ba1_1 := Ba1.out.now 1 _ rfl
  have c_Ba1_2 := Ba1.out.now 2 _ rfl
  have c_Ba1_3 := Ba1.out.now 3 _ rfl
  have c_Ba1_4 := Ba1.out.now 4 _ rfl
  have c_Ba1_5 := Ba1.out.now 5 _ rfl
  have c_Ba1_6 := Ba1.out.now 6 _ rfl
  go_wp2_with fail
  refine (to_Sparse ha0k4 ha0k6 Fa04.out.row Fa06.out.row).mono ?_; rintro e w6 ⟨xa0A4, xa0c4, xa0A6, xa0c6, rfl, ho4, ho6, hap_xa0_0, hb⟩
  replace FB := Lib.hid (FB.out.b hb)
  replace Fa04 := Lib.hid (Fa04.out.b hb)
  replace Fa06 := Lib.hid (Fa06.out.b hb)
  replace Fa14 := Lib.hid (Fa14.out.b hb)
  replace Fa16 := Lib.hid (Fa16.out.b hb)
  replace Ba0 := Lib.hid (Ba0.out.b hb)
  replace Ba1 := Lib.hid (Ba1.out.b hb)
  replace Vmr00 := Lib.hid (Vmr00.out.b hb)
  have z_w6 : w5.heap.size ≤ w6.heap.size := by have hsz := hb.size; first | omega | (simp at hsz; omega)
  clear c_Ba0_0 c_Ba0_1 c_Ba0_2 c_Ba0_3 c_Ba0_4 c_Ba0_5 c_Ba0_6 c_Ba1_0 c_Ba1_1 c_Ba1_2 c_Ba1_3 c_Ba1_4 c_Ba1_5 c_Ba1_6
  have Oxa04 := Lib.hid (owned (ho4.mono (lo' := w5.heap.size) (Nat.le_refl _) (Nat.le_refl _)))
  have Oxa06 := Lib.hid (owned (ho6.mono (lo' := w5.heap.size) (Nat.le_refl _) (Nat.le_refl _)))
  clear hb ho4 ho6
  replace FB := Lib.hid (FB.out.alloc (.cells #[.int .i64 a0z0, .int .i64 a0z1, .int .i64 a0z2, .int .i64 a0z3, .slice xa0A4 a0n4 xa0c4, .int .i64 a0z5, .slice xa0A6 a0n6 xa0c6] 32))
  replace Fa04 := Lib.hid (Fa04.out.alloc (.cells #[.int .i64 a0z0, .int .i64 a0z1, .int .i64 a0z2, .int .i64 a0z3, .slice xa0A4 a0n4 xa0c4, .int .i64 a0z5, .slice xa0A6 a0n6 xa0c6] 32))
  replace Fa06 := Lib.hid (Fa06.out.alloc (.cells #[.int .i64 a0z0, .int .i64 a0z1, .int .i64 a0z2, .int .i64 a0z3, .slice xa0A4 a0n4 xa0c4, .int .i64 a0z5, .slice xa0A6 a0n6 xa0c6] 32))
  replace Fa14 := Lib.hid (Fa14.out.alloc (.cells #[.int .i64 a0z0, .int .i64 a0z1, .int .i64 a0z2, .int .i64 a0z3, .slice xa0A4 a0n4 xa0c4, .int .i64 a0z5, .slice xa0A6 a0n6 xa0c6] 32))
  replace Fa16 := Lib.hid (Fa16.out.alloc (.cells #[.int .i64 a0z0, .int .i64 a0z1, .int .i64 a0z2, .int .i64 a0z3, .slice xa0A4 a0n4 xa0c4, .int .i64 a0z5, .slice xa0A6 a0n6 xa0c6] 32))
  replace Ba0 := Lib.hid (Ba0.out.alloc (.cells #[.int .i64 a0z0, .int .i64 a0z1, .int .i64 a0z2, .int .i64 a0z3, .slice xa0A4 a0n4 xa0c4, .int .i64 a0z5, .slice xa0A6 a0n6 xa0c6] 32))
  replace Ba1 := Lib.hid (Ba1.out.alloc (.cells #[.int .i64 a0z0, .int .i64 a0z1, .int .i64 a0z2, .int .i64 a0z3, .slice xa0A4 a0n4 xa0c4, .int .i64 a0z5, .slice xa0A6 a0n6 xa0c6] 32))
  replace Vmr00 := Lib.hid (Vmr00.out.alloc (.cells #[.int .i64 a0z0, .int .i64 a0z1, .int .i64 a0z2, .int .i64 a0z3, .slice xa0A4 a0n4 xa0c4, .int .i64 a0z5, .slice xa0A6 a0n6 xa0c6] 32))
  replace Oxa04 := Lib.hid (Oxa04.out.alloc (.cells #[.int .i64 a0z0, .int .i64 a0z1, .int .i64 a0z2, .int .i64 a0z3, .slice xa0A4 a0n4 xa0c4, .int .i64 a0z5, .slice xa0A6 a0n6 xa0c6] 32))
  replace Oxa06 := Lib.hid (Oxa06.out.alloc (.cells #[.int .i64 a0z0, .int .i64 a0z1, .int .i64 a0z2, .int .i64 a0z3, .slice xa0A4 a0n4 xa0c4, .int .i64 a0z5, .slice xa0A6 a0n6 xa0c6] 32))
  have Yxa0 := Lib.hid (boxed w6 #[.int .i64 a0z0, .int .i64 a0z1, .int .i64 a0z2, .int .i64 a0z3, .slice xa0A4 a0n4 xa0c4, .int .i64 a0z5, .slice xa0A6 a0n6 xa0c6] 32)
  have c_Ba0_0 := Ba0.out.now 0 _ rfl
  have c_Ba0_1 := Ba0.out.now 1 _ rfl
  have c_Ba0_2 := Ba0.out.now 2 _ rfl
  have c_Ba0_3 := Ba0.out.now 3 _ rfl
  have c_Ba0_4 := Ba0.out.now 4 _ rfl
  have c_Ba0_5 := Ba0.out.now 5 _ rfl
  have c_Ba0_6 := Ba0.out.now 6 _ rfl
  have c_Ba1_0 := Ba1.out.now 0 _ rfl
  have c_Ba1_1 := Ba1.out.now 1 _ rfl
  have c_Ba1_2 := Ba1.out.now 2 _ rfl
  have c_Ba1_3 := Ba1.out.now 3 _ rfl
  have c_Ba1_4 := Ba1.out.now 4 _ rfl
  have c_Ba1_5 := Ba1.out.now 5 _ rfl
  have c_Ba1_6 := Ba1.out.now 6 _ rfl
  go_wp2_with fail
  refine (to_Sparse ha1k4 ha1k6 Fa14.out.row Fa16.out.row).mono ?_; rintro e w7 ⟨xa1A4, xa1c4, xa1A6, xa1c6, rfl, ho4, ho6, hap_xa1_0, hb⟩
  replace FB := Lib.hid (FB.out.b hb)
  replace Fa04 := Lib.hid (Fa04.out.b hb)
  replace Fa06 := Lib.hid (Fa06.out.b hb)
  replace Fa14 := Lib.hid (Fa14.out.b hb)
  replace Fa16 := Lib.hid (Fa16.out.b hb)
  replace Ba0 := Lib.hid (Ba0.out.b hb)
  replace Ba1 := Lib.hid (Ba1.out.b hb)
  replace Vmr00 := Lib.hid (Vmr00.out.b hb)
  replace Oxa04 := Lib.hid (Oxa04.out.b hb)
  replace Oxa06 := Lib.hid (Oxa06.out.b hb)
  replace Yxa0 := Lib.hid (Yxa0.out.b hb)
  have z_w7 : w6.heap.size + 1 ≤ w7.heap.size := by have hsz := hb.size; first | omega | (simp at hsz; omega)
  clear c_Ba0_0 c_Ba0_1 c_Ba0_2 c_Ba0_3 c_Ba0_4 c_Ba0_5 c_Ba0_6 c_Ba1_0 c_Ba1_1 c_Ba1_2 c_Ba1_3 c_Ba1_4 c_Ba1_5 c_Ba1_6
  have Oxa14 := Lib.hid (owned (ho4.mono (lo' := w6.heap.size + 1) (by simp) (Nat.le_refl _)))
  have Oxa16 := Lib.hid (owned (ho6.mono (lo' := w6.heap.size + 1) (by simp) (Nat.le_refl _)))
  clear hb ho4 ho6
  replace FB := Lib.hid (FB.out.alloc (.cells #[.int .i64 a1z0, .int .i64 a1z1, .int .i64 a1z2, .int .i64 a1z3, .slice xa1A4 a1n4 xa1c4, .int .i64 a1z5, .slice xa1A6 a1n6 xa1c6] 32))
  replace Fa04 := Lib.hid (Fa04.out.alloc (.cells #[.int .i64 a1z0, .int .i64 a1z1, .int .i64 a1z2, .int .i64 a1z3, .slice xa1A4 a1n4 xa1c4, .int .i64 a1z5, .slice xa1A6 a1n6 xa1c6] 32))
  replace Fa06 := Lib.hid (Fa06.out.alloc (.cells #[.int .i64 a1z0, .int .i64 a1z1, .int .i64 a1z2, .int .i64 a1z3, .slice xa1A4 a1n4 xa1c4, .int .i64 a1z5, .slice xa1A6 a1n6 xa1c6] 32))
  replace Fa14 := Lib.hid (Fa14.out.alloc (.cells #[.int .i64 a1z0, .int .i64 a1z1, .int .i64 a1z2, .int .i64 a1z3, .slice xa1A4 a1n4 xa1c4, .int .i64 a1z5, .slice xa1A6 a1n6 xa1c6] 32))
  replace Fa16 := Lib.hid (Fa16.out.alloc (.cells #[.int .i64 a1z0, .int .i64 a1z1, .int .i64 a1z2, .int .i64 a1z3, .slice xa1A4 a1n4 xa1c4, .int .i64 a1z5, .slice xa1A6 a1n6 xa1c6] 32))
  replace Ba0 := Lib.hid (Ba0.out.alloc (.cells #[.int .i64 a1z0, .int .i64 a1z1, .int .i64 a1z2, .int .i64 a1z3, .slice xa1A4 a1n4 xa1c4, .int .i64 a1z5, .slice xa1A6 a1n6 xa1c6] 32))
  replace Ba1 := Lib.hid (Ba1.out.alloc (.cells #[.int .i64 a1z0, .int .i64 a1z1, .int .i64 a1z2, .int .i64 a1z3, .slice xa1A4 a1n4 xa1c4, .int .i64 a1z5, .slice xa1A6 a1n6 xa1c6] 32))
  replace Vmr00 := Lib.hid (Vmr00.out.alloc (.cells #[.int .i64 a1z0, .int .i64 a1z1, .int .i64 a1z2, .int .i64 a1z3, .slice xa1A4 a1n4 xa1c4, .int .i64 a1z5, .slice xa1A6 a1n6 xa1c6] 32))
  replace Oxa04 := Lib.hid (Oxa04.out.alloc (.cells #[.int .i64 a1z0, .int .i64 a1z1, .int .i64 a1z2, .int .i64 a1z3, .slice xa1A4 a1n4 xa1c4, .int .i64 a1z5, .slice xa1A6 a1n6 xa1c6] 32))
  replace Oxa06 := Lib.hid (Oxa06.out.alloc (.cells #[.int .i64 a1z0, .int .i64 a1z1, .int .i64 a1z2, .int .i64 a1z3, .slice xa1A4 a1n4 xa1c4, .int .i64 a1z5, .slice xa1A6 a1n6 xa1c6] 32))
  replace Yxa0 := Lib.hid (Yxa0.out.alloc (.cells #[.int .i64 a1z0, .int .i64 a1z1, .int .i64 a1z2, .int .i64 a1z3, .slice xa1A4 a1n4 xa1c4, .int .i64 a1z5, .slice xa1A6 a1n6 xa1c6] 32))
  replace Oxa14 := Lib.hid (Oxa14.out.alloc (.cells #[.int .i64 a1z0, .int .i64 a1z1, .int .i64 a1z2, .int .i64 a1z3, .slice xa1A4 a1n4 xa1c4, .int .i64 a1z5, .slice xa1A6 a1n6 xa1c6] 32))
  replace Oxa16 := Lib.hid (Oxa16.out.alloc (.cells #[.int .i64 a1z0, .int .i64 a1z1, .int .i64 a1z2, .int .i64 a1z3, .slice xa1A4 a1n4 xa1c4, .int .i64 a1z5, .slice xa1A6 a1n6 xa1c6] 32))
  have Yxa1 := Lib.hid (boxed w7 #[.int .i64 a1z0, .int .i64 a1z1, .int .i64 a1z2, .int .i64 a1z3, .slice xa1A4 a1n4 xa1c4, .int .i64 a1z5, .slice xa1A6 a1n6 xa1c6] 32)
  have c_Yxa0_0 := Yxa0.out.now 0 _ rfl
  have c_Yxa0_1 := Yxa0.out.now 1 _ rfl
  have c_Yxa0_2 := Yxa0.out.now 2 _ rfl
  have c_Yxa0_3 := Yxa0.out.now 3 _ rfl
  have c_Yxa0_4 := Yxa0.out.now 4 _ rfl
  have c_Yxa0_5 := Yxa0.out.now 5 _ rfl
  have c_Yxa0_6 := Yxa0.out.now 6 _ rfl
  have c_Yxa1_0 := Yxa1.out.now 0 _ rfl
  have c_Yxa1_1 := Yxa1.out.now 1 _ rfl
  have c_Yxa1_2 := Yxa1.out.now 2 _ rfl
  have c_Yxa1_3 := Yxa1.out.now 3 _ rfl
  have c_Yxa1_4 := Yxa1.out.now 4 _ rfl
  have c_Yxa1_5 := Yxa1.out.now 5 _ rfl
  have c_Yxa1_6 := Yxa1.out.now 6 _ rfl
  go_wp2_with fail
  refine (S2.out _ _ _ _ _ _ _ _ _ Oxa04.out.orow Oxa06.out.orow Oxa14.out.orow Oxa16.out.orow).mono ?_; rintro e w8 ⟨gr0A0, gr0c0, rfl, hrr00, hb⟩
  replace FB := Lib.hid (FB.out.b hb)
  replace Fa04 := Lib.hid (Fa04.out.b hb)
  replace Fa06 := Lib.hid (Fa06.out.b hb)
  replace Fa14 := Lib.hid (Fa14.out.b hb)
  replace Fa16 := Lib.hid (Fa16.out.b hb)
  replace Ba0 := Lib.hid (Ba0.out.b hb)
  replace Ba1 := Lib.hid (Ba1.out.b hb)
  replace Vmr00 := Lib.hid (Vmr00.out.b hb)
  replace Oxa04 := Lib.hid (Oxa04.out.b hb)
  replace Oxa06 := Lib.hid (Oxa06.out.b hb)
  replace Yxa0 := Lib.hid (Yxa0.out.b hb)
  replace Oxa14 := Lib.hid (Oxa14.out.b hb)
  replace Oxa16 := Lib.hid (Oxa16.out.b hb)
  replace Yxa1 := Lib.hid (Yxa1.out.b hb)
  have z_w8 : w7.heap.size + 1 ≤ w8.heap.size := by have hsz := hb.size; first | omega | (simp at hsz; omega)
  clear c_Yxa0_0 c_Yxa0_1 c_Yxa0_2 c_Yxa0_3 c_Yxa0_4 c_Yxa0_5 c_Yxa0_6 c_Yxa1_0 c_Yxa1_1 c_Yxa1_2 c_Yxa1_3 c_Yxa1_4 c_Yxa1_5 c_Yxa1_6
  have Ogr00 := Lib.hid (owned (hrr00.mono (lo' := w7.heap.size + 1) (by simp) (Nat.le_refl _)))
  clear hb hrr00
  go_wp2_with fail
  refine (eq_IntS hr0m0 Ogr00.out.orow Vmr00.out.row).mono ?_; rintro e w9 ⟨rfl, hb⟩
  replace FB := Lib.hid (FB.out.b hb)
  replace Fa04 := Lib.hid (Fa04.out.b hb)
  replace Fa06 := Lib.hid (Fa06.out.b hb)
  replace Fa14 := Lib.hid (Fa14.out.b hb)
  replace Fa16 := Lib.hid (Fa16.out.b hb)
  replace Ba0 := Lib.hid (Ba0.out.b hb)
  replace Ba1 := Lib.hid (Ba1.out.b hb)
  replace Vmr00 := Lib.hid (Vmr00.out.b hb)
  replace Oxa04 := Lib.hid (Oxa04.out.b hb)
  replace Oxa06 := Lib.hid (Oxa06.out.b hb)
  replace Yxa0 := Lib.hid (Yxa0.out.b hb)
  replace Oxa14 := Lib.hid (Oxa14.out.b hb)
  replace Oxa16 := Lib.hid (Oxa16.out.b hb)
  replace Yxa1 := Lib.hid (Yxa1.out.b hb)
  replace Ogr00 := Lib.hid (Ogr00.out.b hb)
  have z_w9 : w8.heap.size ≤ w9.heap.size := by have hsz := hb.size; first | omega | (simp at hsz; omega)
  clear hb
  have c_Ba0_0 := Ba0.out.now 0 _ rfl
  have c_Ba0_1 := Ba0.out.now 1 _ rfl
  have c_Ba0_2 := Ba0.out.now 2 _ rfl
  have c_Ba0_3 := Ba0.out.now 3 _ rfl
  have c_Ba0_4 := Ba0.out.now 4 _ rfl
  have c_Ba0_5 := Ba0.out.now 5 _ rfl
  have c_Ba0_6 := Ba0.out.now 6 _ rfl
  have c_Yxa0_0 := Yxa0.out.now 0 _ rfl
  have c_Yxa0_1 := Yxa0.out.now 1 _ rfl
  have c_Yxa0_2 := Yxa0.out.now 2 _ rfl
  have c_Yxa0_3 := Yxa0.out.now 3 _ rfl
  have c_Yxa0_4 := Yxa0.out.now 4 _ rfl
  have c_Yxa0_5 := Yxa0.out.now 5 _ rfl
  have c_Yxa0_6 := Yxa0.out.now 6 _ rfl
  go_wp2_with fail
  go_region_held3 (fun w' => w'.cell? ⟨w.heap.size, 0, none⟩ = some (.int .i64 a0z0) ∧ w'.cell? ⟨w.heap.size, 1, none⟩ = some (.int .i64 a0z1) ∧ w'.cell? ⟨w.heap.size, 2, none⟩ = some (.int .i64 a0z2) ∧ w'.cell? ⟨w.heap.size, 3, none⟩ = some (.int .i64 a0z3) ∧ w'.cell? ⟨w.heap.size, 4, none⟩ = some (.slice a0A4 a0n4 a0c4) ∧ w'.cell? ⟨w.heap.size, 5, none⟩ = some (.int .i64 a0z5) ∧ w'.cell? ⟨w.heap.size, 6, none⟩ = some (.slice a0A6 a0n6 a0c6) ∧ w'.cell? ⟨w6.heap.size, 0, none⟩ = some (.int .i64 a0z0) ∧ w'.cell? ⟨w6.heap.size, 1, none⟩ = some (.int .i64 a0z1) ∧ w'.cell? ⟨w6.heap.size, 2, none⟩ = some (.int .i64 a0z2) ∧ w'.cell? ⟨w6.heap.size, 3, none⟩ = some (.int .i64 a0z3) ∧ w'.cell? ⟨w6.heap.size, 4, none⟩ = some (.slice xa0A4 a0n4 xa0c4) ∧ w'.cell? ⟨w6.heap.size, 5, none⟩ = some (.int .i64 a0z5) ∧ w'.cell? ⟨w6.heap.size, 6, none⟩ = some (.slice xa0A6 a0n6 xa0c6))
    (first | (go_keep; done) | exact ⟨(((Ba0.out.b hq1).b hq2)).now 0 _ rfl, (((Ba0.out.b hq1).b hq2)).now 1 _ rfl, (((Ba0.out.b hq1).b hq2)).now 2 _ rfl, (((Ba0.out.b hq1).b hq2)).now 3 _ rfl, (((Ba0.out.b hq1).b hq2)).now 4 _ rfl, (((Ba0.out.b hq1).b hq2)).now 5 _ rfl, (((Ba0.out.b hq1).b hq2)).now 6 _ rfl, (((Yxa0.out.b hq1).b hq2)).now 0 _ rfl, (((Yxa0.out.b hq1).b hq2)).now 1 _ rfl, (((Yxa0.out.b hq1).b hq2)).now 2 _ rfl, (((Yxa0.out.b hq1).b hq2)).now 3 _ rfl, (((Yxa0.out.b hq1).b hq2)).now 4 _ rfl, (((Yxa0.out.b hq1).b hq2)).now 5 _ rfl, (((Yxa0.out.b hq1).b hq2)).now 6 _ rfl⟩ | exact ⟨((Ba0.out.b hq1)).now 0 _ rfl, ((Ba0.out.b hq1)).now 1 _ rfl, ((Ba0.out.b hq1)).now 2 _ rfl, ((Ba0.out.b hq1)).now 3 _ rfl, ((Ba0.out.b hq1)).now 4 _ rfl, ((Ba0.out.b hq1)).now 5 _ rfl, ((Ba0.out.b hq1)).now 6 _ rfl, ((Yxa0.out.b hq1)).now 0 _ rfl, ((Yxa0.out.b hq1)).now 1 _ rfl, ((Yxa0.out.b hq1)).now 2 _ rfl, ((Yxa0.out.b hq1)).now 3 _ rfl, ((Yxa0.out.b hq1)).now 4 _ rfl, ((Yxa0.out.b hq1)).now 5 _ rfl, ((Yxa0.out.b hq1)).now 6 _ rfl⟩)
    (first
      | (have hqz := hq1; clear hqz; go_at_call 30; (first | refine (eq_Sparse ha0k4 ha0k6 ((Oxa04.out.b hq1)).orow ((Oxa06.out.b hq1)).orow (owned ho4).orow (owned ho6).orow).mono ?_); rintro e w11 ⟨rfl, hq2⟩)
      | (go_at_call 28; (first | refine (to_Sparse ha0k4 ha0k6 (Fa04.out).row (Fa06.out).row).mono ?_ | refine (to_Sparse ha0k4 ha0k6 (GRow.drew (Fa04.out).row) (GRow.drew (Fa06.out).row)).mono ?_); rintro e w10 ⟨ya0A4, ya0c4, ya0A6, ya0c6, rfl, ho4, ho6, hz0, hq1'⟩; have hq1 := of_drew hq1'; clear hq1'))
  replace FB := Lib.hid (FB.out.b hq1)
  replace Fa04 := Lib.hid (Fa04.out.b hq1)
  replace Fa06 := Lib.hid (Fa06.out.b hq1)
  replace Fa14 := Lib.hid (Fa14.out.b hq1)
  replace Fa16 := Lib.hid (Fa16.out.b hq1)
  replace Ba0 := Lib.hid (Ba0.out.b hq1)
  replace Ba1 := Lib.hid (Ba1.out.b hq1)
  replace Vmr00 := Lib.hid (Vmr00.out.b hq1)
  replace Oxa04 := Lib.hid (Oxa04.out.b hq1)
  replace Oxa06 := Lib.hid (Oxa06.out.b hq1)
  replace Yxa0 := Lib.hid (Yxa0.out.b hq1)
  replace Oxa14 := Lib.hid (Oxa14.out.b hq1)
  replace Oxa16 := Lib.hid (Oxa16.out.b hq1)
  replace Yxa1 := Lib.hid (Yxa1.out.b hq1)
  replace Ogr00 := Lib.hid (Ogr00.out.b hq1)
  replace FB := Lib.hid (FB.out.b hq2)
  replace Fa04 := Lib.hid (Fa04.out.b hq2)
  replace Fa06 := Lib.hid (Fa06.out.b hq2)
  replace Fa14 := Lib.hid (Fa14.out.b hq2)
  replace Fa16 := Lib.hid (Fa16.out.b hq2)
  replace Ba0 := Lib.hid (Ba0.out.b hq2)
  replace Ba1 := Lib.hid (Ba1.out.b hq2)
  replace Vmr00 := Lib.hid (Vmr00.out.b hq2)
  replace Oxa04 := Lib.hid (Oxa04.out.b hq2)
  replace Oxa06 := Lib.hid (Oxa06.out.b hq2)
  replace Yxa0 := Lib.hid (Yxa0.out.b hq2)
  replace Oxa14 := Lib.hid (Oxa14.out.b hq2)
  replace Oxa16 := Lib.hid (Oxa16.out.b hq2)
  replace Yxa1 := Lib.hid (Yxa1.out.b hq2)
  replace Ogr00 := Lib.hid (Ogr00.out.b hq2)
  have z_w10 : w9.heap.size ≤ w10.heap.size := by have hsz := hq1.size; first | omega | (simp at hsz; omega)
  have z_w11 : w10.heap.size ≤ w11.heap.size := hq2.size
  clear c_Ba0_0 c_Ba0_1 c_Ba0_2 c_Ba0_3 c_Ba0_4 c_Ba0_5 c_Ba0_6 c_Yxa0_0 c_Yxa0_1 c_Yxa0_2 c_Yxa0_3 c_Yxa0_4 c_Yxa0_5 c_Yxa0_6
  clear hq1 hq2 ho4 ho6 hz0
  have c_Ba1_0 := Ba1.out.now 0 _ rfl
  have c_Ba1_1 := Ba1.out.now 1 _ rfl
  have c_Ba1_2 := Ba1.out.now 2 _ rfl
  have c_Ba1_3 := Ba1.out.now 3 _ rfl
  have c_Ba1_4 := Ba1.out.now 4 _ rfl
  have c_Ba1_5 := Ba1.out.now 5 _ rfl
  have c_Ba1_6 := Ba1.out.now 6 _ rfl
  have c_Yxa1_0 := Yxa1.out.now 0 _ rfl
  have c_Yxa1_1 := Yxa1.out.now 1 _ rfl
  have c_Yxa1_2 := Yxa1.out.now 2 _ rfl
  have c_Yxa1_3 := Yxa1.out.now 3 _ rfl
  have c_Yxa1_4 := Yxa1.out.now 4 _ rfl
  have c_Yxa1_5 := Yxa1.out.now 5 _ rfl
  have c_Yxa1_6 := Yxa1.out.now 6 _ rfl
  go_wp2_with fail
  go_region_held3 (fun w' => w'.cell? ⟨w.heap.size + 1, 0, none⟩ = some (.int .i64 a1z0) ∧ w'.cell? ⟨w.heap.size + 1, 1, none⟩ = some (.int .i64 a1z1) ∧ w'.cell? ⟨w.heap.size + 1, 2, none⟩ = some (.int .i64 a1z2) ∧ w'.cell? ⟨w.heap.size + 1, 3, none⟩ = some (.int .i64 a1z3) ∧ w'.cell? ⟨w.heap.size + 1, 4, none⟩ = some (.slice a1A4 a1n4 a1c4) ∧ w'.cell? ⟨w.heap.size + 1, 5, none⟩ = some (.int .i64 a1z5) ∧ w'.cell? ⟨w.heap.size + 1, 6, none⟩ = some (.slice a1A6 a1n6 a1c6) ∧ w'.cell? ⟨w7.heap.size, 0, none⟩ = some (.int .i64 a1z0) ∧ w'.cell? ⟨w7.heap.size, 1, none⟩ = some (.int .i64 a1z1) ∧ w'.cell? ⟨w7.heap.size, 2, none⟩ = some (.int .i64 a1z2) ∧ w'.cell? ⟨w7.heap.size, 3, none⟩ = some (.int .i64 a1z3) ∧ w'.cell? ⟨w7.heap.size, 4, none⟩ = some (.slice xa1A4 a1n4 xa1c4) ∧ w'.cell? ⟨w7.heap.size, 5, none⟩ = some (.int .i64 a1z5) ∧ w'.cell? ⟨w7.heap.size, 6, none⟩ = some (.slice xa1A6 a1n6 xa1c6))
    (first | (go_keep; done) | exact ⟨(((Ba1.out.b hq1).b hq2)).now 0 _ rfl, (((Ba1.out.b hq1).b hq2)).now 1 _ rfl, (((Ba1.out.b hq1).b hq2)).now 2 _ rfl, (((Ba1.out.b hq1).b hq2)).now 3 _ rfl, (((Ba1.out.b hq1).b hq2)).now 4 _ rfl, (((Ba1.out.b hq1).b hq2)).now 5 _ rfl, (((Ba1.out.b hq1).b hq2)).now 6 _ rfl, (((Yxa1.out.b hq1).b hq2)).now 0 _ rfl, (((Yxa1.out.b hq1).b hq2)).now 1 _ rfl, (((Yxa1.out.b hq1).b hq2)).now 2 _ rfl, (((Yxa1.out.b hq1).b hq2)).now 3 _ rfl, (((Yxa1.out.b hq1).b hq2)).now 4 _ rfl, (((Yxa1.out.b hq1).b hq2)).now 5 _ rfl, (((Yxa1.out.b hq1).b hq2)).now 6 _ rfl⟩ | exact ⟨((Ba1.out.b hq1)).now 0 _ rfl, ((Ba1.out.b hq1)).now 1 _ rfl, ((Ba1.out.b hq1)).now 2 _ rfl, ((Ba1.out.b hq1)).now 3 _ rfl, ((Ba1.out.b hq1)).now 4 _ rfl, ((Ba1.out.b hq1)).now 5 _ rfl, ((Ba1.out.b hq1)).now 6 _ rfl, ((Yxa1.out.b hq1)).now 0 _ rfl, ((Yxa1.out.b hq1)).now 1 _ rfl, ((Yxa1.out.b hq1)).now 2 _ rfl, ((Yxa1.out.b hq1)).now 3 _ rfl, ((Yxa1.out.b hq1)).now 4 _ rfl, ((Yxa1.out.b hq1)).now 5 _ rfl, ((Yxa1.out.b hq1)).now 6 _ rfl⟩)
    (first
      | (have hqz := hq1; clear hqz; go_at_call 30; (first | refine (eq_Sparse ha1k4 ha1k6 ((Oxa14.out.b hq1)).orow ((Oxa16.out.b hq1)).orow (owned ho4).orow (owned ho6).orow).mono ?_); rintro e w13 ⟨rfl, hq2⟩)
      | (go_at_call 28; (first | refine (to_Sparse ha1k4 ha1k6 (Fa14.out).row (Fa16.out).row).mono ?_ | refine (to_Sparse ha1k4 ha1k6 (GRow.drew (Fa14.out).row) (GRow.drew (Fa16.out).row)).mono ?_); rintro e w12 ⟨ya1A4, ya1c4, ya1A6, ya1c6, rfl, ho4, ho6, hz0, hq1'⟩; have hq1 := of_drew hq1'; clear hq1'))
  replace FB := Lib.hid (FB.out.b hq1)
  replace Fa04 := Lib.hid (Fa04.out.b hq1)
  replace Fa06 := Lib.hid (Fa06.out.b hq1)
  replace Fa14 := Lib.hid (Fa14.out.b hq1)
  replace Fa16 := Lib.hid (Fa16.out.b hq1)
  replace Ba0 := Lib.hid (Ba0.out.b hq1)
  replace Ba1 := Lib.hid (Ba1.out.b hq1)
  replace Vmr00 := Lib.hid (Vmr00.out.b hq1)
  replace Oxa04 := Lib.hid (Oxa04.out.b hq1)
  replace Oxa06 := Lib.hid (Oxa06.out.b hq1)
  replace Yxa0 := Lib.hid (Yxa0.out.b hq1)
  replace Oxa14 := Lib.hid (Oxa14.out.b hq1)
  replace Oxa16 := Lib.hid (Oxa16.out.b hq1)
  replace Yxa1 := Lib.hid (Yxa1.out.b hq1)
  replace Ogr00 := Lib.hid (Ogr00.out.b hq1)
  replace FB := Lib.hid (FB.out.b hq2)
  replace Fa04 := Lib.hid (Fa04.out.b hq2)
  replace Fa06 := Lib.hid (Fa06.out.b hq2)
  replace Fa14 := Lib.hid (Fa14.out.b hq2)
  replace Fa16 := Lib.hid (Fa16.out.b hq2)
  replace Ba0 := Lib.hid (Ba0.out.b hq2)
  replace Ba1 := Lib.hid (Ba1.out.b hq2)
  replace Vmr00 := Lib.hid (Vmr00.out.b hq2)
  replace Oxa04 := Lib.hid (Oxa04.out.b hq2)
  replace Oxa06 := Lib.hid (Oxa06.out.b hq2)
  replace Yxa0 := Lib.hid (Yxa0.out.b hq2)
  replace Oxa14 := Lib.hid (Oxa14.out.b hq2)
  replace Oxa16 := Lib.hid (Oxa16.out.b hq2)
  replace Yxa1 := Lib.hid (Yxa1.out.b hq2)
  replace Ogr00 := Lib.hid (Ogr00.out.b hq2)
  have z_w12 : w11.heap.size ≤ w12.heap.size := by have hsz := hq1.size; first | omega | (simp at hsz; omega)
  have z_w13 : w12.heap.size ≤ w13.heap.size := hq2.size
  clear c_Ba1_0 c_Ba1_1 c_Ba1_2 c_Ba1_3 c_Ba1_4 c_Ba1_5 c_Ba1_6 c_Yxa1_0 c_Yxa1_1 c_Yxa1_2 c_Yxa1_3 c_Yxa1_4 c_Yxa1_5 c_Yxa1_6
  clear hq1 hq2 ho4 ho6 hz0
  have c_Yxa0_0 := Yxa0.out.now 0 _ rfl
  have c_Yxa0_1 := Yxa0.out.now 1 _ rfl
  have c_Yxa0_2 := Yxa0.out.now 2 _ rfl
  have c_Yxa0_3 := Yxa0.out.now 3 _ rfl
  have c_Yxa0_4 := Yxa0.out.now 4 _ rfl
  have c_Yxa0_5 := Yxa0.out.now 5 _ rfl
  have c_Yxa0_6 := Yxa0.out.now 6 _ rfl
  have c_Yxa1_0 := Yxa1.out.now 0 _ rfl
  have c_Yxa1_1 := Yxa1.out.now 1 _ rfl
  have c_Yxa1_2 := Yxa1.out.now 2 _ rfl
  have c_Yxa1_3 := Yxa1.out.now 3 _ rfl
  have c_Yxa1_4 := Yxa1.out.now 4 _ rfl
  have c_Yxa1_5 := Yxa1.out.now 5 _ rfl
  have c_Yxa1_6 := Yxa1.out.now 6 _ rfl
  go_wp2_with fail
  refine (mark_Sparse ha0k4 ha0k6 Oxa04.out.now Oxa06.out.now Oxa04.out.top hap_xa0_0 (by omega) (by omega)).mono ?_; rintro e w14 ⟨rfl, hm0, hm1, hg⟩
  replace FB := Lib.hid (FB.out.far hg (by omega))
  replace Fa04 := Lib.hid (Fa04.out.far hg (by omega))
  replace Fa06 := Lib.hid (Fa06.out.far hg (by omega))
  replace Fa14 := Lib.hid (Fa14.out.far hg (by omega))
  replace Fa16 := Lib.hid (Fa16.out.far hg (by omega))
  replace Ba0 := Lib.hid (Ba0.out.far hg (by omega))
  replace Ba1 := Lib.hid (Ba1.out.far hg (by omega))
  replace Vmr00 := Lib.hid (Vmr00.out.far hg (by omega))
  replace Yxa0 := Lib.hid (Yxa0.out.far hg (by omega))
  replace Oxa14 := Lib.hid (Oxa14.out.far hg (by omega))
  replace Oxa16 := Lib.hid (Oxa16.out.far hg (by omega))
  replace Yxa1 := Lib.hid (Yxa1.out.far hg (by omega))
  replace Ogr00 := Lib.hid (Ogr00.out.far hg (by omega))
  have z_w14 : w13.heap.size ≤ w14.heap.size := by have hsz := hg.size; first | omega | (simp at hsz; omega)
  replace Oxa04 := Lib.hid (At.mk hm0 (Nat.le_trans Oxa04.out.top hg.size) (Ow.lives _ _ _ _ _ _))
  replace Oxa06 := Lib.hid (At.mk hm1 (Nat.le_trans Oxa06.out.top hg.size) (Ow.lives _ _ _ _ _ _))
  clear c_Yxa0_0 c_Yxa0_1 c_Yxa0_2 c_Yxa0_3 c_Yxa0_4 c_Yxa0_5 c_Yxa0_6 c_Yxa1_0 c_Yxa1_1 c_Yxa1_2 c_Yxa1_3 c_Yxa1_4 c_Yxa1_5 c_Yxa1_6
  clear hg hm0 hm1
  clear Oxa04 Oxa06 Yxa0
  have c_Yxa1_0 := Yxa1.out.now 0 _ rfl
  have c_Yxa1_1 := Yxa1.out.now 1 _ rfl
  have c_Yxa1_2 := Yxa1.out.now 2 _ rfl
  have c_Yxa1_3 := Yxa1.out.now 3 _ rfl
  have c_Yxa1_4 := Yxa1.out.now 4 _ rfl
  have c_Yxa1_5 := Yxa1.out.now 5 _ rfl
  have c_Yxa1_6 := Yxa1.out.now 6 _ rfl
  go_wp2_with fail
  refine (mark_Sparse ha1k4 ha1k6 Oxa14.out.now Oxa16.out.now Oxa14.out.top hap_xa1_0 (by omega) (by omega)).mono ?_; rintro e w15 ⟨rfl, hm0, hm1, hg⟩
  replace FB := Lib.hid (FB.out.far hg (by omega))
  replace Fa04 := Lib.hid (Fa04.out.far hg (by omega))
  replace Fa06 := Lib.hid (Fa06.out.far hg (by omega))
  replace Fa14 := Lib.hid (Fa14.out.far hg (by omega))
  replace Fa16 := Lib.hid (Fa16.out.far hg (by omega))
  replace Ba0 := Lib.hid (Ba0.out.far hg (by omega))
  replace Ba1 := Lib.hid (Ba1.out.far hg (by omega))
  replace Vmr00 := Lib.hid (Vmr00.out.far hg (by omega))
  replace Yxa1 := Lib.hid (Yxa1.out.far hg (by omega))
  replace Ogr00 := Lib.hid (Ogr00.out.far hg (by omega))
  have z_w15 : w14.heap.size ≤ w15.heap.size := by have hsz := hg.size; first | omega | (simp at hsz; omega)
  replace Oxa14 := Lib.hid (At.mk hm0 (Nat.le_trans Oxa14.out.top hg.size) (Ow.lives _ _ _ _ _ _))
  replace Oxa16 := Lib.hid (At.mk hm1 (Nat.le_trans Oxa16.out.top hg.size) (Ow.lives _ _ _ _ _ _))
  clear c_Yxa1_0 c_Yxa1_1 c_Yxa1_2 c_Yxa1_3 c_Yxa1_4 c_Yxa1_5 c_Yxa1_6
  clear hg hm0 hm1
  clear Oxa14 Oxa16 Yxa1
  go_wp2_with fail
  refine (eq_IntS hr0m0 Ogr00.out.orow Vmr00.out.row).mono ?_; rintro e w16 ⟨rfl, hb⟩
  replace FB := Lib.hid (FB.out.b hb)
  replace Fa04 := Lib.hid (Fa04.out.b hb)
  replace Fa06 := Lib.hid (Fa06.out.b hb)
  replace Fa14 := Lib.hid (Fa14.out.b hb)
  replace Fa16 := Lib.hid (Fa16.out.b hb)
  replace Ba0 := Lib.hid (Ba0.out.b hb)
  replace Ba1 := Lib.hid (Ba1.out.b hb)
  replace Vmr00 := Lib.hid (Vmr00.out.b hb)
  replace Ogr00 := Lib.hid (Ogr00.out.b hb)
  have z_w16 : w15.heap.size ≤ w16.heap.size := by have hsz := hb.size; first | omega | (simp at hsz; omega)
  clear hb
  go_wp2_with fail
  refine (mark_IntS hr0m0 Ogr00.out.now Ogr00.out.top (by omega) (by omega)).mono ?_; rintro e w17 ⟨rfl, hm0, hg⟩
  replace FB := Lib.hid (FB.out.far hg (by omega))
  replace Fa04 := Lib.hid (Fa04.out.far hg (by omega))
  replace Fa06 := Lib.hid (Fa06.out.far hg (by omega))
  replace Fa14 := Lib.hid (Fa14.out.far hg (by omega))
  replace Fa16 := Lib.hid (Fa16.out.far hg (by omega))
  replace Ba0 := Lib.hid (Ba0.out.far hg (by omega))
  replace Ba1 := Lib.hid (Ba1.out.far hg (by omega))
  replace Vmr00 := Lib.hid (Vmr00.out.far hg (by omega))
  have z_w17 : w16.heap.size ≤ w17.heap.size := by have hsz := hg.size; first | omega | (simp at hsz; omega)
  replace Ogr00 := Lib.hid (At.mk hm0 (Nat.le_trans Ogr00.out.top hg.size) (Ow.lives _ _ _ _ _ _))
  clear hg hm0
  go_wp2_with fail
  refine (held_IntS hr0m0 Ogr00.out.orow (by omega) (by omega)).mono ?_; rintro e w18 ⟨rfl, hb⟩
  replace FB := Lib.hid (FB.out.b hb)
  replace Fa04 := Lib.hid (Fa04.out.b hb)
  replace Fa06 := Lib.hid (Fa06.out.b hb)
  replace Fa14 := Lib.hid (Fa14.out.b hb)
  replace Fa16 := Lib.hid (Fa16.out.b hb)
  replace Ba0 := Lib.hid (Ba0.out.b hb)
  replace Ba1 := Lib.hid (Ba1.out.b hb)
  replace Vmr00 := Lib.hid (Vmr00.out.b hb)
  replace Ogr00 := Lib.hid (Ogr00.out.b hb)
  have z_w18 : w17.heap.size ≤ w18.heap.size := by have hsz := hb.size; first | omega | (simp at hsz; omega)
  clear hb
  have c_Ba0_0 := Ba0.out.now 0 _ rfl
  have c_Ba0_1 := Ba0.out.now 1 _ rfl
  have c_Ba0_2 := Ba0.out.now 2 _ rfl
  have c_Ba0_3 := Ba0.out.now 3 _ rfl
  have c_Ba0_4 := Ba0.out.now 4 _ rfl
  have c_Ba0_5 := Ba0.out.now 5 _ rfl
  have c_Ba0_6 := Ba0.out.now 6 _ rfl
  have c_Ba1_0 := Ba1.out.now 0 _ rfl
  have c_Ba1_1 := Ba1.out.now 1 _ rfl
  have c_Ba1_2 := Ba1.out.now 2 _ rfl
  have c_Ba1_3 := Ba1.out.now 3 _ rfl
  have c_Ba1_4 := Ba1.out.now 4 _ rfl
  have c_Ba1_5 := Ba1.out.now 5 _ rfl
  have c_Ba1_6 := Ba1.out.now 6 _ rfl
  go_wp2_with fail
  go_region_held3 (fun w' => w'.cell? ⟨w.heap.size, 0, none⟩ = some (.int .i64 a0z0) ∧ w'.cell? ⟨w.heap.size, 1, none⟩ = some (.int .i64 a0z1) ∧ w'.cell? ⟨w.heap.size, 2, none⟩ = some (.int .i64 a0z2) ∧ w'.cell? ⟨w.heap.size, 3, none⟩ = some (.int .i64 a0z3) ∧ w'.cell? ⟨w.heap.size, 4, none⟩ = some (.slice a0A4 a0n4 a0c4) ∧ w'.cell? ⟨w.heap.size, 5, none⟩ = some (.int .i64 a0z5) ∧ w'.cell? ⟨w.heap.size, 6, none⟩ = some (.slice a0A6 a0n6 a0c6) ∧ w'.cell? ⟨w.heap.size + 1, 0, none⟩ = some (.int .i64 a1z0) ∧ w'.cell? ⟨w.heap.size + 1, 1, none⟩ = some (.int .i64 a1z1) ∧ w'.cell? ⟨w.heap.size + 1, 2, none⟩ = some (.int .i64 a1z2) ∧ w'.cell? ⟨w.heap.size + 1, 3, none⟩ = some (.int .i64 a1z3) ∧ w'.cell? ⟨w.heap.size + 1, 4, none⟩ = some (.slice a1A4 a1n4 a1c4) ∧ w'.cell? ⟨w.heap.size + 1, 5, none⟩ = some (.int .i64 a1z5) ∧ w'.cell? ⟨w.heap.size + 1, 6, none⟩ = some (.slice a1A6 a1n6 a1c6))
    (first | (go_keep; done) | exact ⟨((((Ba0.out.b hq1).b hq2).b hq3)).now 0 _ rfl, ((((Ba0.out.b hq1).b hq2).b hq3)).now 1 _ rfl, ((((Ba0.out.b hq1).b hq2).b hq3)).now 2 _ rfl, ((((Ba0.out.b hq1).b hq2).b hq3)).now 3 _ rfl, ((((Ba0.out.b hq1).b hq2).b hq3)).now 4 _ rfl, ((((Ba0.out.b hq1).b hq2).b hq3)).now 5 _ rfl, ((((Ba0.out.b hq1).b hq2).b hq3)).now 6 _ rfl, ((((Ba1.out.b hq1).b hq2).b hq3)).now 0 _ rfl, ((((Ba1.out.b hq1).b hq2).b hq3)).now 1 _ rfl, ((((Ba1.out.b hq1).b hq2).b hq3)).now 2 _ rfl, ((((Ba1.out.b hq1).b hq2).b hq3)).now 3 _ rfl, ((((Ba1.out.b hq1).b hq2).b hq3)).now 4 _ rfl, ((((Ba1.out.b hq1).b hq2).b hq3)).now 5 _ rfl, ((((Ba1.out.b hq1).b hq2).b hq3)).now 6 _ rfl⟩ | exact ⟨(((Ba0.out.b hq1).b hq2)).now 0 _ rfl, (((Ba0.out.b hq1).b hq2)).now 1 _ rfl, (((Ba0.out.b hq1).b hq2)).now 2 _ rfl, (((Ba0.out.b hq1).b hq2)).now 3 _ rfl, (((Ba0.out.b hq1).b hq2)).now 4 _ rfl, (((Ba0.out.b hq1).b hq2)).now 5 _ rfl, (((Ba0.out.b hq1).b hq2)).now 6 _ rfl, (((Ba1.out.b hq1).b hq2)).now 0 _ rfl, (((Ba1.out.b hq1).b hq2)).now 1 _ rfl, (((Ba1.out.b hq1).b hq2)).now 2 _ rfl, (((Ba1.out.b hq1).b hq2)).now 3 _ rfl, (((Ba1.out.b hq1).b hq2)).now 4 _ rfl, (((Ba1.out.b hq1).b hq2)).now 5 _ rfl, (((Ba1.out.b hq1).b hq2)).now 6 _ rfl⟩ | exact ⟨((Ba0.out.b hq1)).now 0 _ rfl, ((Ba0.out.b hq1)).now 1 _ rfl, ((Ba0.out.b hq1)).now 2 _ rfl, ((Ba0.out.b hq1)).now 3 _ rfl, ((Ba0.out.b hq1)).now 4 _ rfl, ((Ba0.out.b hq1)).now 5 _ rfl, ((Ba0.out.b hq1)).now 6 _ rfl, ((Ba1.out.b hq1)).now 0 _ rfl, ((Ba1.out.b hq1)).now 1 _ rfl, ((Ba1.out.b hq1)).now 2 _ rfl, ((Ba1.out.b hq1)).now 3 _ rfl, ((Ba1.out.b hq1)).now 4 _ rfl, ((Ba1.out.b hq1)).now 5 _ rfl, ((Ba1.out.b hq1)).now 6 _ rfl⟩)
    (first
      | (have hqz := hq2; clear hqz; go_at_call 29; refine (S2.out _ _ _ _ _ _ _ _ _ (hG_a04.b hq2) (hG_a06.b hq2) hG_a14 hG_a16).mono ?_; rintro e w21 ⟨hr0A0, hr0c0, rfl, hrr00, hq3⟩)
      | (have hqz := hq1; clear hqz; go_at_call 28; (first | refine (to_Sparse ha1k4 ha1k6 ((Fa14.out.b hq1)).row ((Fa16.out.b hq1)).row).mono ?_); rintro e w20 ⟨tha1A4, tha1c4, tha1A6, tha1c6, rfl, ho_a14, ho_a16, hz_a1_0, hq2⟩; have hG_a14 := (Ow.rd ho_a14).row (Nat.le_refl _); have hG_a16 := (Ow.rd ho_a16).row (Nat.le_refl _); clear ho_a14 ho_a16 hz_a1_0)
      | (go_at_call 28; (first | refine (to_Sparse ha0k4 ha0k6 (Fa04.out).row (Fa06.out).row).mono ?_ | refine (to_Sparse ha0k4 ha0k6 (GRow.drew (Fa04.out).row) (GRow.drew (Fa06.out).row)).mono ?_); rintro e w19 ⟨tha0A4, tha0c4, tha0A6, tha0c6, rfl, ho_a04, ho_a06, hz_a0_0, hq1'⟩; have hq1 := of_drew hq1'; clear hq1'; have hG_a04 := (Ow.rd ho_a04).row (Nat.le_refl _); have hG_a06 := (Ow.rd ho_a06).row (Nat.le_refl _); clear ho_a04 ho_a06 hz_a0_0))
  replace FB := Lib.hid (FB.out.b hq1)
  replace Fa04 := Lib.hid (Fa04.out.b hq1)
  replace Fa06 := Lib.hid (Fa06.out.b hq1)
  replace Fa14 := Lib.hid (Fa14.out.b hq1)
  replace Fa16 := Lib.hid (Fa16.out.b hq1)
  replace Ba0 := Lib.hid (Ba0.out.b hq1)
  replace Ba1 := Lib.hid (Ba1.out.b hq1)
  replace Vmr00 := Lib.hid (Vmr00.out.b hq1)
  replace Ogr00 := Lib.hid (Ogr00.out.b hq1)
  replace FB := Lib.hid (FB.out.b hq2)
  replace Fa04 := Lib.hid (Fa04.out.b hq2)
  replace Fa06 := Lib.hid (Fa06.out.b hq2)
  replace Fa14 := Lib.hid (Fa14.out.b hq2)
  replace Fa16 := Lib.hid (Fa16.out.b hq2)
  replace Ba0 := Lib.hid (Ba0.out.b hq2)
  replace Ba1 := Lib.hid (Ba1.out.b hq2)
  replace Vmr00 := Lib.hid (Vmr00.out.b hq2)
  replace Ogr00 := Lib.hid (Ogr00.out.b hq2)
  replace FB := Lib.hid (FB.out.b hq3)
  replace Fa04 := Lib.hid (Fa04.out.b hq3)
  replace Fa06 := Lib.hid (Fa06.out.b hq3)
  replace Fa14 := Lib.hid (Fa14.out.b hq3)
  replace Fa16 := Lib.hid (Fa16.out.b hq3)
  replace Ba0 := Lib.hid (Ba0.out.b hq3)
  replace Ba1 := Lib.hid (Ba1.out.b hq3)
  replace Vmr00 := Lib.hid (Vmr00.out.b hq3)
  replace Ogr00 := Lib.hid (Ogr00.out.b hq3)
  have z_w19 : w18.heap.size ≤ w19.heap.size := by have hsz := hq1.size; first | omega | (simp at hsz; omega)
  have z_w20 : w19.heap.size ≤ w20.heap.size := by have hsz := hq2.size; first | omega | (simp at hsz; omega)
  have z_w21 : w20.heap.size ≤ w21.heap.size := by have hsz := hq3.size; first | omega | (simp at hsz; omega)
  clear c_Ba0_0 c_Ba0_1 c_Ba0_2 c_Ba0_3 c_Ba0_4 c_Ba0_5 c_Ba0_6 c_Ba1_0 c_Ba1_1 c_Ba1_2 c_Ba1_3 c_Ba1_4 c_Ba1_5 c_Ba1_6
  have Ohr00 := Lib.hid (owned (hrr00.mono (lo' := w20.heap.size) (Nat.le_refl _) (Nat.le_refl _)))
  clear hq1 hq2 hq3 hG_a04 hG_a06 hG_a14 hG_a16 hrr00
  go_wp2_with fail
  refine (eq_IntS hr0m0 Ohr00.out.orow Vmr00.out.row).mono ?_; rintro e w22 ⟨rfl, hb⟩
  replace FB := Lib.hid (FB.out.b hb)
  replace Fa04 := Lib.hid (Fa04.out.b hb)
  replace Fa06 := Lib.hid (Fa06.out.b hb)
  replace Fa14 := Lib.hid (Fa14.out.b hb)
  replace Fa16 := Lib.hid (Fa16.out.b hb)
  replace Ba0 := Lib.hid (Ba0.out.b hb)
  replace Ba1 := Lib.hid (Ba1.out.b hb)
  replace Vmr00 := Lib.hid (Vmr00.out.b hb)
  replace Ogr00 := Lib.hid (Ogr00.out.b hb)
  replace Ohr00 := Lib.hid (Ohr00.out.b hb)
  have z_w22 : w21.heap.size ≤ w22.heap.size := by have hsz := hb.size; first | omega | (simp at hsz; omega)
  clear hb
  go_wp2_with fail
  refine (held_IntS hr0m0 Ogr00.out.orow (by omega) (by omega)).mono ?_; rintro e w23 ⟨rfl, hb⟩
  replace FB := Lib.hid (FB.out.b hb)
  replace Fa04 := Lib.hid (Fa04.out.b hb)
  replace Fa06 := Lib.hid (Fa06.out.b hb)
  replace Fa14 := Lib.hid (Fa14.out.b hb)
  replace Fa16 := Lib.hid (Fa16.out.b hb)
  replace Ba0 := Lib.hid (Ba0.out.b hb)
  replace Ba1 := Lib.hid (Ba1.out.b hb)
  replace Vmr00 := Lib.hid (Vmr00.out.b hb)
  replace Ogr00 := Lib.hid (Ogr00.out.b hb)
  replace Ohr00 := Lib.hid (Ohr00.out.b hb)
  have z_w23 : w22.heap.size ≤ w23.heap.size := by have hsz := hb.size; first | omega | (simp at hsz; omega)
  clear hb
  go_wp2_with fail
  go_ret
  exact ⟨rfl, FB.out.now⟩
theorem walk_FnExactMeetSparse (w : World) (z0 : Int) (_w0 : (Lit.int .i64 z0).wf = true) (z1 : Int) (_w1 : (Lit.int .i64 z1).wf = true) (z2 : Int) (_w2 : (Lit.int .i64 z2).wf = true) (z3 : Int) (_w3 : (Lit.int .i64 z3).wf = true) (A1 : Option Addr) (n1 c1 : Nat) (X1 : Nat → Int) (m1 : n1 ≤ maxLen) (r1 : IRow w A1 n1 X1) (z4 : Int) (_w4 : (Lit.int .i64 z4).wf = true) (A2 : Option Addr) (n2 c2 : Nat) (X2 : Nat → Int) (m2 : n2 ≤ maxLen) (r2 : IRow w A2 n2 X2) (y0 : Int) (_v0 : (Lit.int .i64 y0).wf = true) (y1 : Int) (_v1 : (Lit.int .i64 y1).wf = true) (y2 : Int) (_v2 : (Lit.int .i64 y2).wf = true) (y3 : Int) (_v3 : (Lit.int .i64 y3).wf = true) (B1 : Option Addr) (p1 d1 : Nat) (Y1 : Nat → Int) (k1 : p1 ≤ maxLen) (s1 : IRow w B1 p1 Y1) (y4 : Int) (_v4 : (Lit.int .i64 y4).wf = true) (B2 : Option Addr) (p2 d2 : Nat) (Y2 : Nat → Int) (k2 : p2 ≤ maxLen) (s2 : IRow w B2 p2 Y2) :
    Calls Try.prog 6 #[.agg #[.int .i64 z0, .int .i64 z1, .int .i64 z2, .int .i64 z3, .slice A1 n1 c1, .int .i64 z4, .slice A2 n2 c2], .agg #[.int .i64 y0, .int .i64 y1, .int .i64 y2, .int .i64 y3, .slice B1 p1 d1, .int .i64 y4, .slice B2 p2 d2]] w fun e w' => e = .returned (.bool true) ∧ Below w.heap.size w w' := by
  by_cases h : SpV z0 z1 z2 z3 n1 X1 z4 n2 X2 ∧ SpV y0 y1 y2 y3 p1 Y1 y4 p2 Y2
  rotate_left
  · exact main_FnExactMeetSparse z0 z1 z2 z3 n1 X1 z4 n2 X2 y0 y1 y2 y3 p1 Y1 y4 p2 Y2 0 (fun _ => 0) false A1 c1 A2 c2 B1 d1 B2 d2 w m1 r1 m2 r2 k1 s1 k2 s2 (by omega)
      (fun hs _ _ _ _ _ _ _ _ _ g1 g2 g3 g4 => (spec_meet_no _ n1 _ X1 _ n2 _ X2 _ p1 _ Y1 _ p2 _ Y2 _ (by omega) (by omega) (by omega) (by omega) g1 g2 g3 g4 h).mono fun e w' k => ⟨none, 0, k.1, fun h0 => absurd h0 (by omega), k.2⟩)
      (fun hs _ _ _ _ _ _ _ _ _ g1 g2 g3 g4 => (impl_meet_no _ n1 _ X1 _ n2 _ X2 _ p1 _ Y1 _ p2 _ Y2 _ (by omega) (by omega) (by omega) (by omega) g1 g2 g3 g4 h).mono fun e w' k => ⟨none, 0, k.1, ow_zero _ _ _ _ _ _, k.2⟩)
  have hva := h.1
  have hvb := h.2
  obtain ⟨⟨c, L, v, f, ha⟩, c', L', v', f', hb⟩ := h
  have hlen := mt_len f (InP f' c') c
  have hc : c ≤ 60 := ha.num.hc
  exact main_FnExactMeetSparse z0 z1 z2 z3 n1 X1 z4 n2 X2 y0 y1 y2 y3 p1 Y1 y4 p2 Y2 (mtL f (InP f' c') c).length (lstV (mtL f (InP f' c') c)) true A1 c1 A2 c2 B1 d1 B2 d2 w m1 r1 m2 r2 k1 s1 k2 s2 (by omega)
    (fun hs _ _ _ _ _ _ _ _ _ g1 g2 g3 g4 => spec_meet_yes _ n1 _ X1 _ n2 _ X2 _ p1 _ Y1 _ p2 _ Y2 _ (by omega) (by omega) (by omega) (by omega) g1 g2 g3 g4 ha hb hva hvb)
    (fun hs _ _ _ _ _ _ _ _ _ g1 g2 g3 g4 => impl_meet_yes _ n1 _ X1 _ n2 _ X2 _ p1 _ Y1 _ p2 _ Y2 _ (by omega) (by omega) (by omega) (by omega) g1 g2 g3 g4 ha hb)
end Go.Proofs.Ytffdkfhnlgfigaa
