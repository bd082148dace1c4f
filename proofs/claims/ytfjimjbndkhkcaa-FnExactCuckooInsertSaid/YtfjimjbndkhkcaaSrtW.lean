/- Slices of strings: joined, sorted, some taken away, by the library's functions. -/
import Derived.Test.YtfjimjbndkhkcaaSrt
import Derived.Test.YtfjimjbndkhkcaaStrP
import Derived.Test.YtfjimjbndkhkcaaCuT
import Derived.Sort.OwnSorted
import Derived.Lib.OwnBridge
import Derived.Lib.AppendZerosOnto
namespace Go.Proofs.Ytfjimjbndkhkcaa
open Go.RowKit

theorem vals_enc (S : Nat → ByteArray) (n : Nat) : vals (strV S) n = (lsOf S n).map encStr := by
  unfold vals lsOf
  rw [List.map_map]
  exact List.map_congr_left (fun i _ => by unfold strV encStr; simp)
theorem vals_row (l : List Byt) (n : Nat) (h : l.length = n) : vals (strV (rowS l)) n = l.map encStr := by
  subst h
  rw [vals_enc, rowS_ls]
theorem len_sortS (l : List Byt) : (sortS l).length = l.length := (sortS_perm l).length_eq
/-- What the sort leaves: the same slice, its strings in order. -/
theorem sort_strs (B g n c : Nat) (S : Nat → ByteArray) (w : World) (hn : n ≤ 1048576) (hO : w.ownsRow B 9 1 (.slice (some ⟨g, 0, none⟩) n c) n (vals (strV S) n)) :
    Calls Try.prog 89 #[.slice (some ⟨g, 0, none⟩) n c] w fun e w' => e = .returned (.tuple #[]) ∧
      w'.ownsRow B 9 1 (.slice (some ⟨g, 0, none⟩) n c) n (vals (strV (rowS (sortS (lsOf S n)))) n) ∧ w.grownBy w' (some g) := by
  rw [vals_enc] at hO
  rcases hO.2 with ⟨h0, _⟩ | ⟨g', cap, cur, hv, hbase, hb, h1, h2, h3, h4⟩
  · cases h0
  cases hv
  have hl := lsOf_len S n
  have hs := Any.slices_Sort_string (P := Try.prog) laysSort g 0 c (lsOf S n) w (holds_of_block hb (by rw [hl]; simpa using h4)) (Array.getElem?_eq_some_iff.1 hb).1 (by rw [hl]; omega)
  rw [hl] at hs
  refine (show Calls Try.prog 89 _ _ _ from hs).mono ?_
  rintro e w' ⟨rfl, q, os, rfl⟩
  refine ⟨rfl, ?_, grownBy_sorted _⟩
  rw [vals_row _ _ (by rw [len_sortS, hl])]
  have ho := ownsRow_sorted (n := q) (os := os) (ts := sortS (lsOf S n)) (ss := lsOf S n) (len_sortS _) hbase hb (by rw [hl]; exact h1) h2 h3
  rw [hl] at ho
  exact ho
set_option maxHeartbeats 400000 in
theorem isEmpty_fn (x : ByteArray) (w : World) : Calls Try.prog 110 #[.string x] w fun e w' => e = .returned (.bool x.data.toList.isEmpty) ∧ w = w' := by
  go_enter Try.func110, Try.ntmps110
  go_wp2
  go_ret
  exact ⟨ret_bool (by rw [ba_toList]), rfl⟩
theorem gives_empty (x : Byt) (W : World) : FnGives Try.prog 110 #[] #[encStr x] (.bool x.isEmpty) W := by
  unfold FnGives
  rw [Array.append_empty]
  have h := isEmpty_fn ⟨x.toArray⟩ W
  refine h.mono ?_
  rintro e w' ⟨rfl, rfl⟩
  exact ⟨by simp, 0, rfl⟩
theorem enters_empty : ∀ args w, (callFunc 110 args).run Try.prog w = .ok (.enter 110 args) w := enters_of Try.func110 (by kernel_rfl) rfl
theorem drop_strs (B g n c : Nat) (S : Nat → ByteArray) (w : World) (hn : n ≤ 1048576) (hO : w.ownsRow B 9 1 (.slice (some ⟨g, 0, none⟩) n c) n (vals (strV S) n)) :
    Calls Try.prog 109 #[.slice (some ⟨g, 0, none⟩) n c, .func (.func 110) #[] #[]] w fun e w' => e = .returned (.slice (some ⟨g, 0, none⟩) (fullS (lsOf S n)).length c) ∧
      w'.ownsRow B 9 1 (.slice (some ⟨g, 0, none⟩) (fullS (lsOf S n)).length c) (fullS (lsOf S n)).length (vals (strV (rowS (fullS (lsOf S n)))) (fullS (lsOf S n)).length) ∧ w.grownBy w' (some g) := by
  have hO2 := hO
  rw [vals_enc] at hO
  rcases hO.2 with ⟨h0, _⟩ | ⟨g', cap, cur, hv, hbase, hb, h1, h2, h3, h4⟩
  · cases h0
  cases hv
  have hl := lsOf_len S n
  have hs := AnyE.slices_DeleteFunc (P := Try.prog) laysDel encStr (fun _ => rfl) (fun x : Byt => x.isEmpty) 110 #[] enters_empty [] (fun w => by kernel_rfl) g 0 c (lsOf S n).toArray w (fun W x _ => gives_empty x W) (fun _ _ _ x _ => gives_empty x _) (holds_of_block hb (by rw [hl]; simpa using h4)) (by simp [hl]; omega) (by simp [hl]; exact h1)
  simp only [List.size_toArray, hl] at hs
  have hle := fullS_le (lsOf S n)
  rw [hl] at hle
  refine (show Calls Try.prog 109 _ _ _ from hs).mono ?_
  rintro e w' ⟨rfl, q, rfl⟩
  refine ⟨rfl, ?_, ?_⟩
  · rw [vals_row _ _ rfl]
    have ho := Lib.ownsRow_putRow (q := q) (k := (fullS (lsOf S n)).length) (ys := fullS (lsOf S n) ++ List.replicate (n - (fullS (lsOf S n)).length) []) hO (by simp; omega) hle
    rw [List.take_left] at ho
    exact ho
  · have h := grownBy_sorted (w := w) (g := g) (n := q) (os := #[]) (fullS (lsOf S n) ++ List.replicate (n - (fullS (lsOf S n)).length) []).toArray
    rw [Sort.grow_empty] at h
    exact h
end Go.Proofs.Ytfjimjbndkhkcaa
