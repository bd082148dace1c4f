/- NewCuckoo: both sides. -/
import Derived.Test.YtfjimjbndkhkcaaCuA
import Derived.Test.YtfjimjbndkhkcaaObjStT
namespace Go.Proofs.Ytfjimjbndkhkcaa
open Go.RowKit

/-- An empty table. -/
def NewCuIs (z : Int) (n : Nat) (w : World) (e : Ending) (w' : World) : Prop :=
  ∃ A c, e = .returned (.tuple #[.agg #[.int .i64 z, .slice A n c, .slice none 0 0], .bool true]) ∧ Ow w.heap.size w'.heap.size 9 A n (strV fun _ => ⟨#[]⟩) w' ∧ Below w.heap.size w w'
def NoCu (w : World) (e : Ending) (w' : World) : Prop := e = .returned (.tuple #[.agg #[.int .i64 0, .slice none 0 0, .slice none 0 0], .bool false]) ∧ Below w.heap.size w w'
section
variable (z : Int) (w : World)
theorem newCu_own (n : Nat) (o : Obj) : GOwn ((w.alloc o).alloc (.cells (madeCells #[.string ByteArray.empty] n) 9)) 9 (w.heap.size + 1) n (strV fun _ => ⟨#[]⟩) := by
  have h := GOwn.made (w.alloc o) 9 (.string ByteArray.empty) n
  simp only [World.size_alloc] at h
  exact h.congr (fun _ _ => rfl)
set_option maxHeartbeats 1000000 in
theorem impl_newCu_no (P : Int) (h : sizeB z P = false) : Calls Try.prog 27 #[.int .i64 z, .int .i64 P] w (NoCu w) := by
  have HB := Lib.hid ((Below.refl w.heap.size w).alloc (Nat.le_refl _) (.cells #[.int .i64 0, .slice none 0 0, .slice none 0 0] 36))
  go_enter Try.func27, Try.ntmps27
  go_wp2_with fail
  refine (impl_hasCells z P _).mono ?_; rintro e w' ⟨rfl, rfl⟩
  rw [h]
  go_wp2_with fail
  refine bodyPost_ret (v := .tuple #[.agg #[.int .i64 0, .slice none 0 0, .slice none 0 0], .bool false]) (by simp [results, Try.results27, go_sem]) rfl ?_
  exact ⟨rfl, HB.out⟩
set_option maxHeartbeats 1000000 in
theorem spec_newCu_no (P : Int) (h : sizeB z P = false) : Calls Try.prog 26 #[.int .i64 z, .int .i64 P] w (NoCu w) := by
  have HB := Lib.hid ((Below.refl w.heap.size w).alloc (Nat.le_refl _) (.cells #[.int .i64 0, .slice none 0 0, .slice none 0 0] 36))
  go_enter Try.func26, Try.ntmps26
  go_wp2_with fail
  refine (spec_cuSize z P _).mono ?_; rintro e w' ⟨rfl, rfl⟩
  rw [h]
  go_wp2_with fail
  refine bodyPost_ret (v := .tuple #[.agg #[.int .i64 0, .slice none 0 0, .slice none 0 0], .bool false]) (by simp [results, Try.results26, go_sem]) rfl ?_
  exact ⟨rfl, HB.out⟩
set_option maxHeartbeats 1000000 in
theorem impl_newCu (n : Nat) (h : sizeB z n = true) : Calls Try.prog 27 #[.int .i64 z, .int .i64 n] w (NewCuIs z n w) := by
  have hs := sizeB_out h
  have hmk := fun W => run_make_row' (P := Try.prog) 25 9 (.string ByteArray.empty) 16 Try.underlying25 infoS rfl .i64 .i64 n (by omega) (by omega) W
  have HO := Lib.hid (fun o => newCu_own w n o)
  go_enter Try.func27, Try.ntmps27
  go_wp2_with fail
  refine (impl_hasCells z n _).mono ?_; rintro e w' ⟨rfl, rfl⟩
  rw [h]
  go_wp2_with fail
  refine bodyPost_ret (v := .tuple #[.agg #[.int .i64 z, .slice (some ⟨w.heap.size + 1, 0, none⟩) n n, .slice none 0 0], .bool true]) (by simp [results, Try.results27, go_sem]) rfl ?_
  have HB := fun o o' => ((Below.refl w.heap.size w).alloc (Nat.le_refl _) o).alloc (by simp) o'
  exact ⟨some ⟨w.heap.size + 1, 0, none⟩, n, rfl, ow_of_own (m := n) (HO.out _) (by omega) (Nat.le_refl _), HB _ _⟩
set_option maxHeartbeats 1000000 in
theorem spec_newCu (n : Nat) (h : sizeB z n = true) : Calls Try.prog 26 #[.int .i64 z, .int .i64 n] w (NewCuIs z n w) := by
  have hs := sizeB_out h
  have hmk := fun W => run_make_row' (P := Try.prog) 25 9 (.string ByteArray.empty) 16 Try.underlying25 infoS rfl .i64 .i64 n (by omega) (by omega) W
  have HO := Lib.hid (fun o => newCu_own w n o)
  go_enter Try.func26, Try.ntmps26
  go_wp2_with fail
  refine (spec_cuSize z n _).mono ?_; rintro e w' ⟨rfl, rfl⟩
  rw [h]
  go_wp2_with fail
  refine bodyPost_ret (v := .tuple #[.agg #[.int .i64 z, .slice (some ⟨w.heap.size + 1, 0, none⟩) n n, .slice none 0 0], .bool true]) (by simp [results, Try.results26, go_sem]) rfl ?_
  have HB := fun o o' => ((Below.refl w.heap.size w).alloc (Nat.le_refl _) o).alloc (by simp) o'
  exact ⟨some ⟨w.heap.size + 1, 0, none⟩, n, rfl, ow_of_own (m := n) (HO.out _) (by omega) (Nat.le_refl _), HB _ _⟩
end
end Go.Proofs.Ytfjimjbndkhkcaa
