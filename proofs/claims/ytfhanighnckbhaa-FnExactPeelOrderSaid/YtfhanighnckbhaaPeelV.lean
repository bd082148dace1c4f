/- A peeling begun. -/
import Derived.Test.YtfhanighnckbhaaPeelU
import Derived.Deep.RegionHeld3
namespace Go.Proofs.Ytfhanighnckbhaa
open Go.RowKit

theorem infoBo : (Try.prog.info? 4).map (fun i => (i.zero, i.size, i.bytes)) = some (some (.bool false), 1, 1) := by kernel_rfl
theorem degF_start {l : Nat → Nat} {X : Nat → Nat → Int} {n : Nat} (p : Nat) : dgF (fun i => i) l X n 0 p = degF l X (fun _ => false) n p := by rw [dgF_end]; unfold degF; rw [dgR_none]
set_option maxRecDepth 100000 in
set_option maxHeartbeats 8000000 in
theorem startPeeling_is (z : Nat) (A : Option Addr) (n c : Nat) (B : Nat → Option Addr) (l d : Nat → Nat) (X : Nat → Nat → Int) (w : World) (hr : HR w A n B l d X) (h : HyperOk z n l X) :
    Calls Try.prog 72 #[.agg #[.int .i64 z, .slice A n c]] w fun en w' => ∃ pb gb db, en = .returned (.pointer (some ⟨pb, 0, none⟩)) ∧ PG w pb gb db z n c A l X (fun _ => false) w' := by
  have L0 := Lib.hid (LH.start (z := (z : Int)) (c := c) hr 26)
  have HG := Lib.hid h
  have hn40 := h.2.2.1
  have hz72 : z ≤ 72 := by have := h.2.1; omega
  have hmk := fun W => run_make_row' (P := Try.prog) 75 4 (.bool false) 1 Try.underlying75 infoBo rfl .i64 .i64 n (by omega) (by omega) W
  clear hr h
  obtain ⟨hsz, b0, b1⟩ := L0.out.box
  have LB := Lib.hid (L0.out.drew.step ((Below.refl _ _).alloc (Nat.le_refl _) (.cells (madeCells #[.bool false] n) 4)))
  have GB := Lib.hid (show GOwn ((w.alloc (.cells #[.int .i64 z, .slice A n c] 26)).drew.alloc (.cells (madeCells #[.bool false] n) 4)) 4 (w.heap.size + 1) n (fun _ => .bool false) by
    have h := GOwn.made (w.alloc (.cells #[.int .i64 z, .slice A n c] 26)).drew 4 (.bool false) n
    have e : (w.alloc (.cells #[.int .i64 z, .slice A n c] 26)).drew.heap.size = w.heap.size + 1 := by show (w.alloc (.cells #[.int .i64 z, .slice A n c] 26)).heap.size = _; simp
    rwa [e] at h)
  have hwd : w.heap.size + 1 ≤ (w.alloc (.cells #[.int .i64 z, .slice A n c] 26)).drew.heap.size := by show w.heap.size + 1 ≤ (w.alloc (.cells #[.int .i64 z, .slice A n c] 26)).heap.size; simp
  have HKM := Lib.hid (fun o => (L0.out.drew.step ((Below.refl _ _).alloc (Nat.le_refl _) o)).box.2)
  go_enter Try.func72, Try.ntmps72
  go_wp2_with fail
  go_region_held3 (fun w' => w'.cell? ⟨w.heap.size, 0, none⟩ = some (.int .i64 z) ∧ w'.cell? ⟨w.heap.size, 1, none⟩ = some (.slice A n c))
    (first | with_reducible exact L4.out.box.2 | with_reducible exact HKM.out _ | (go_keep; done) | exact L4.out.box.2 | exact (L4.out.step ((Below.refl _ _).alloc (Nat.le_refl _) _)).box.2 | exact (L0.out.drew.step ((Below.refl _ _).alloc (Nat.le_refl _) _)).box.2)
    (first
    | ((try go_simp); go_at_call 103; refine (impl_degreesOf z A n c B l d X (w.alloc (.cells #[.int .i64 z, .slice A n c] 26)).drew hn40 hz72 L0.out.drew.row HG.out.three HG.out.inn).mono ?_; rintro e w4 ⟨g, rfl, hg, ho, hb⟩; have L4 := Lib.hid (L0.out.drew.step hb); have HO4 := Lib.hid ho; have hgl := ho.lt; have HG4 := Lib.hid (GOwn.made w4 4 (.bool false) n); have hgw : w.heap.size + 1 ≤ g := Nat.le_trans hwd hg; have KA := Lib.hid trivial; obtain ⟨_, b04, b14⟩ := L4.out.box; clear ho hb)
    | ((try go_simp); go_at_call 103; refine (impl_degreesOf z A n c B l d X ((w.alloc (.cells #[.int .i64 z, .slice A n c] 26)).drew.alloc (.cells (madeCells #[.bool false] n) 4)) hn40 hz72 LB.out.row HG.out.three HG.out.inn).mono ?_; rintro e w4 ⟨g, rfl, hg, ho, hb⟩; have L4 := Lib.hid (LB.out.step hb); have HO4 := Lib.hid ho; have hgl := ho.lt; have GB4 := Lib.hid (GB.out.b hb); have hgw : w.heap.size + 1 + 1 ≤ g := (by have h := hg; simp only [World.size_alloc] at h; omega); have KB := Lib.hid trivial; obtain ⟨_, b04, b14⟩ := L4.out.box; clear ho hb))
  all_goals go_wp2_with fail
  all_goals go_ret
  all_goals first
    | (have hk := KA; clear hk
       have hb2 : w.heap.size ≤ (w4.alloc (.cells (madeCells #[.bool false] n) 4)).heap.size := by have := L4.out.below.size; simp only [World.size_alloc]; omega
       have hb1 := (L4.out.below.alloc L4.out.below.size (.cells (madeCells #[.bool false] n) 4))
       refine ⟨w4.heap.size + 1, w4.heap.size, g, rfl, ⟨hb1.alloc hb2 _, ⟨by have := Go.Deep.blk_alloc_new (w4.alloc (.cells (madeCells #[.bool false] n) 4)) (.cells #[.slice A n c, .slice (some ⟨w4.heap.size, 0, none⟩) n n, .slice (some ⟨g, 0, none⟩) z z] 108); simpa using this, by have := L4.out.below.size; omega⟩, (HG4.out.alloc _).congr (fun i _ => rfl), ((HO4.out.b ((Below.refl _ _).alloc (Nat.le_refl _) _)).b ((Below.refl _ _).alloc (Nat.le_refl _) _)).congr (fun p _ => degF_start p), ⟨L4.out.below.size, by omega⟩, by omega⟩⟩)
    | (have hk := KB; clear hk
       have hgb := GB4.out.lt
       exact ⟨w4.heap.size, w.heap.size + 1, g, rfl, ⟨L4.out.below.alloc L4.out.below.size _, ⟨Go.Deep.blk_alloc_new _ _, L4.out.below.size⟩, (GB4.out.alloc _).congr (fun i _ => rfl), (HO4.out.b ((Below.refl _ _).alloc (Nat.le_refl _) _)).congr (fun p _ => degF_start p), ⟨by omega, by omega⟩, by omega⟩⟩)
end Go.Proofs.Ytfhanighnckbhaa
