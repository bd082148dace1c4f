/- All strings of a table that are not empty, in order: the program's keysIn. -/
import Derived.Test.YtfjimjbndkhkcaaSrtW
namespace Go.Proofs.Ytfjimjbndkhkcaa
open Go.RowKit

theorem ownS_new (w : World) (G : Nat) (cs : Array Value) (hs : cs.size = G) (hG : G ≤ maxLen) : ((w.alloc (.cells cs 9)).drew).ownsRow w.heap.size 9 1 (.slice (some ⟨w.heap.size, 0, none⟩) 0 G) 0 [] :=
  ⟨rfl, .inr ⟨w.heap.size, G, cs, rfl, Nat.le_refl _, Go.Deep.blk_alloc_new w _, Nat.zero_le _, hG, by omega, by simp⟩⟩
set_option maxRecDepth 100000 in
set_option maxHeartbeats 1000000 in
theorem grow_strs (n : Nat) (w : World) (h0 : 0 < n) (h1 : n ≤ 4096) :
    Calls Try.prog 122 #[.slice none 0 0, .int .i64 n] w fun e w' => ∃ A c, e = .returned (.slice A 0 c) ∧ w'.ownsRow w.heap.size 9 1 (.slice A 0 c) 0 [] ∧ Below w.heap.size w w' := by
  obtain ⟨i0, hi0, hz0, hs0, hb0⟩ := info_parts infoS
  have hrz : ∀ ty, (Builtin.append_ #[25, 3] ty #[.slice none 0 0, .int .i64 (n : Int)]).run Try.prog w =
      .ok (.slice (some ⟨w.heap.size, 0, none⟩) n (grownCap w n 0 9)) (w.drew.alloc (.cells (#[] ++ Builtin.zeroCells (Value.string ByteArray.empty).cells n ++ Builtin.zeroCells (Value.string ByteArray.empty).cells (grownCap w n 0 9 - n)) 9)) := fun ty => by
    have h := Lib.run_append_grow_zeros w 25 3 ty 9 i0 (.string ByteArray.empty) .i64 .i64 Try.underlying25 Try.underlying3 hi0 hz0 none 0 0 [] (run_firstCells_none w.drew i0.size 0 0 0) n (by omega) (by omega) (by omega) (by omega)
      (by rw [hb0]; omega)
      (by rw [Nat.zero_add]; exact growslice_fits h0 (by rw [hb0]; omega))
    rw [Nat.zero_add] at h
    exact h
  have hGn : n ≤ grownCap w n 0 9 := grownCap_ge w _ _ _
  have hG63 : grownCap w n 0 9 ≤ maxLen := grownCap_le_maxLen w n 0 9 (by unfold maxLen; omega)
  generalize grownCap w n 0 9 = G at *
  have HO := Lib.hid (ownS_new w G (Builtin.zeroCells #[Value.string ByteArray.empty] n ++ Builtin.zeroCells #[Value.string ByteArray.empty] (G - n)) (by simp [Builtin.zeroCells]; omega) hG63)
  have HG := Lib.hid (show G ≤ 9223372036854775807 by unfold maxLen at hG63; omega)
  have hG2 := HG.out
  go_enter Try.func122, Try.ntmps122
  go_wp2_with (at_builtin; refine Lib.wpList_append_run _ rfl _ _ _ _ rfl _ _ rfl rfl _ _ (hrz _) ?_)
  go_ret
  exact ⟨_, _, rfl, HO.out, ((Below.refl _ _).alloc (Nat.le_refl _) _).drew⟩
set_option maxRecDepth 100000 in
set_option maxHeartbeats 4000000 in
theorem concat_strs (q : Nat) (A : Option Addr) (n c : Nat) (S : Nat → ByteArray) (B : Option Addr) (m d : Nat) (H : Nat → ByteArray) (w : World) (h0 : 0 < n + m) (hn : n ≤ 2048) (hm : m ≤ 2048) (hq : q < w.heap.size) (h1 : GRow w A n (strV S)) (h2 : GRow w B m (strV H))
    (c1 : w.cell? ⟨q, 0, none⟩ = some (.slice A n c)) (c2 : w.cell? ⟨q, 1, none⟩ = some (.slice B m d)) :
    Calls Try.prog 108 #[.slice (some ⟨q, 0, none⟩) 2 2] w fun e w' => ∃ A' c', e = .returned (.slice A' (n + m) c') ∧ w'.ownsRow w.heap.size 9 1 (.slice A' (n + m) c') (n + m) (vals (strV (catS S H n)) (n + m)) ∧ Below w.heap.size w w' := by
  have R1 := Lib.hid h1
  have R2 := Lib.hid h2
  have K1 := Lib.hid (show ∀ W, Below w.heap.size w W → W.cell? ⟨q, 0, none⟩ = some (.slice A n c) from fun W hW => (hW.cell (p := ⟨q, 0, none⟩) hq).trans c1)
  have K2 := Lib.hid (show ∀ W, Below w.heap.size w W → W.cell? ⟨q, 1, none⟩ = some (.slice B m d) from fun W hW => (hW.cell (p := ⟨q, 1, none⟩) hq).trans c2)
  clear h1 h2
  go_enter Try.func108, Try.ntmps108
  go_wp2_with fail
  go_loop [3, 11] (fun v i => ∃ k : Nat, k ≤ 2 ∧ i = .int .i64 k ∧ v = .int .i64 ((if k = 0 then 0 else if k = 1 then n else n + m : Nat) : Int)) (fun _ i => 2 - (intOf i).toNat)
  case atStart => exact ⟨0, by omega, rfl, rfl⟩
  case round =>
    obtain ⟨k, hk, rfl, rfl⟩ := hrel
    have hk3 : k = 0 ∨ k = 1 ∨ k = 2 := by omega
    rcases hk3 with rfl | rfl | rfl
    · simp only [if_true]
      go_wp2_with fail
      go_round
      case rel => exact ⟨1, by omega, by go_num, by first | rfl | (simp; done) | (congr 1; simp)⟩
      case measure => simp [intOf]
    · simp only [Nat.one_ne_zero, if_false, if_true]
      go_wp2_with fail
      go_round
      case rel => exact ⟨2, by omega, by go_num, by first | rfl | (simp; done) | (congr 1; simp)⟩
      case measure => simp [intOf]
    · simp only [show ¬ (2 = 0) by omega, show ¬ (2 = 1) by omega, if_false]
      go_wp2_with fail
      refine (grow_strs (n + m) _ h0 (by omega)).mono ?_; rintro e w1 ⟨A1, g1, rfl, ho1, hb1⟩
      have O1 := Lib.hid ho1
      have B1 := Lib.hid hb1
      have k1 := K1.out _ hb1
      clear ho1 hb1
      go_wp2_with fail
      go_loopw [6, 27] (fun v i wr => ∃ (k : Nat) (A2 : Option Addr) (g2 : Nat), k ≤ 2 ∧ i = .int .i64 k ∧ v = .slice A2 (if k = 0 then 0 else if k = 1 then n else n + m) g2 ∧ Hid (wr.ownsRow w.heap.size 9 1 (.slice A2 (if k = 0 then 0 else if k = 1 then n else n + m) g2) (if k = 0 then 0 else if k = 1 then n else n + m) (vals (strV (catS S H n)) (if k = 0 then 0 else if k = 1 then n else n + m))) ∧ Hid (Below w.heap.size w wr)) (fun _ i _ => 2 - (intOf i).toNat)
      case atStart => exact ⟨0, A1, g1, by omega, rfl, rfl, O1, B1⟩
      case round =>
        obtain ⟨k, A2, g2, hk, rfl, rfl, HO, HB⟩ := hrel
        have kk1 := K1.out _ HB.out
        have kk2 := K2.out _ HB.out
        have hs2 := HB.out.size
        have hk3 : k = 0 ∨ k = 1 ∨ k = 2 := by omega
        rcases hk3 with rfl | rfl | rfl
        · simp only [if_true] at HO ⊢
          have RR := Lib.hid (R1.out.b HB.out)
          go_wp2_with (at_builtin; refine wpList_append_vals rfl _ _ 25 rfl w.heap.size 9 (.string ByteArray.empty) 16 Try.underlying25 infoS rfl rfl rfl HO.out RR.out (fun _ _ => rfl) (by omega) (by omega) hs2 ?_)
          intro A3 g3 w3 ho3 hb3
          have HO3 := Lib.hid (show w3.ownsRow w.heap.size 9 1 (.slice A3 n g3) n (vals (strV (catS S H n)) n) by
            rw [vals_congr (F := catV (strV (catS S H n)) (strV S) 0) (G := strV (catS S H n)) (fun i hi => by unfold catV; rw [if_neg (by omega), Nat.sub_zero]; unfold strV catS; rw [if_pos hi])] at ho3
            exact ho3)
          have HB3 := Lib.hid (HB.out.trans hb3)
          clear ho3 hb3
          go_wp2_with fail
          go_roundw
          case rel => exact ⟨1, A3, g3, by omega, by go_num, by first | rfl | (simp; done), HO3, HB3⟩
          case measure => simp [intOf]
        · simp only [Nat.one_ne_zero, if_false, if_true] at HO ⊢
          have RR := Lib.hid (R2.out.b HB.out)
          go_wp2_with (at_builtin; refine wpList_append_vals rfl _ _ 25 rfl w.heap.size 9 (.string ByteArray.empty) 16 Try.underlying25 infoS rfl rfl rfl HO.out RR.out (fun _ _ => rfl) (by omega) (by omega) hs2 ?_)
          intro A3 g3 w3 ho3 hb3
          have HO3 := Lib.hid (show w3.ownsRow w.heap.size 9 1 (.slice A3 (n + m) g3) (n + m) (vals (strV (catS S H n)) (n + m)) by
            rw [vals_congr (F := catV (strV (catS S H n)) (strV H) n) (G := strV (catS S H n)) (fun i hi => by
              unfold catV
              by_cases e : i < n
              · rw [if_pos e]
              · rw [if_neg e]; unfold strV catS; rw [if_neg e])] at ho3
            exact ho3)
          have HB3 := Lib.hid (HB.out.trans hb3)
          clear ho3 hb3
          go_wp2_with fail
          go_roundw
          case rel => exact ⟨2, A3, g3, by omega, by go_num, rfl, HO3, HB3⟩
          case measure => simp [intOf]
        · simp only [show ¬ (2 = 0) by omega, show ¬ (2 = 1) by omega, if_false] at HO ⊢
          go_wp2_with fail
          go_ret
          exact ⟨A2, g2, rfl, HO.out, HB.out⟩
/-- All keys of a table in order, some perhaps twice. -/
def keptL (S : Nat → ByteArray) (n : Nat) (H : Nat → ByteArray) (m : Nat) : List Byt := keepS (lsOf S n ++ lsOf H m)
def OwnLs (L : List Byt) (w : World) (e : Ending) (w' : World) : Prop :=
  ∃ A c, e = .returned (.slice A L.length c) ∧ w'.ownsRow w.heap.size 9 1 (.slice A L.length c) L.length (vals (strV (rowS L)) L.length) ∧ Below w.heap.size w w'
end Go.Proofs.Ytfjimjbndkhkcaa
