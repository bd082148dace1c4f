/- LoadsOf: the program's and the model's. -/
import Derived.Test.YtfjimjbndkhkcabKeyRow
namespace Go.Proofs.Ytfjimjbndkhkcab
open Go.RowKit

def plF (seed part : Int) (S : Nat → ByteArray) (P : Int) (i : Nat) : Int := placeI seed part (S i).data.toList P
theorem plF_bd (seed part : Int) (S : Nat → ByteArray) (P : Nat) (i : Nat) (h : 1 ≤ P) : ∃ q : Nat, plF seed part S P i = (q : Int) ∧ q < P := by
  obtain ⟨h0, h1⟩ := placeI_bd seed part (S i).data.toList P (by omega)
  exact ⟨(plF seed part S P i).toNat, (Int.toNat_of_nonneg h0).symm, by unfold plF; omega⟩
def cnt (F : Nat → Int) : Nat → Nat → Int
  | 0, _ => 0
  | k + 1, p => cnt F k p + (if F k = p then 1 else 0)
theorem cnt_bd (F : Nat → Int) (k p : Nat) : 0 ≤ cnt F k p ∧ cnt F k p ≤ k := by
  induction k with
  | zero => simp [cnt]
  | succ k ih => simp only [cnt]; split <;> omega
def LoadsOk (seed part : Int) (S : Nat → ByteArray) (n : Nat) (P : Int) : Prop := seedB seed part = true ∧ keysB S n = true ∧ 1 ≤ P ∧ P ≤ 64
/-- A slice of ints of the call's own and a word whether it is one. -/
def RowIs (m : Nat) (Y : Nat → Int) (b : Bool) (w : World) (e : Ending) (w' : World) : Prop :=
  ∃ A c, e = .returned (.tuple #[.slice A m c, .bool b]) ∧ Ow w.heap.size w'.heap.size 3 A m (intV Y) w' ∧ Below w.heap.size w w'

def NoRow (w : World) (e : Ending) (w' : World) : Prop := e = .returned (.tuple #[.slice none 0 0, .bool false]) ∧ w = w'
set_option maxRecDepth 100000 in
set_option maxHeartbeats 1000000 in
theorem spec_biPlaces (seed part : Int) (P : Nat) (A : Option Addr) (n c : Nat) (S : Nat → ByteArray) (w : World) (hn : n ≤ 40) (hs : ∀ i, i < n → (S i).size ≤ maxLen) (hr : GRow w A n (strV S)) (hsd : seedB seed part = true) (h2 : P ≤ 4096) :
    Calls Try.prog 55 #[.int .i64 seed, .int .i64 part, .slice A n c, .int .i64 P] w fun e w' => ∃ A' c', e = .returned (.slice A' n c') ∧ w'.ownsRow w.heap.size 3 1 (.slice A' n c') n (vals (intV (plF seed part S P)) n) ∧ Below w.heap.size w w' := by
  have HR := Lib.hid hr
  have HS := Lib.hid hs
  clear hr hs
  go_enter Try.func55, Try.ntmps55
  go_wp2_with fail
  go_loopw [9, 14] (fun v i wr => ∃ k : Nat, k ≤ n ∧ i = .int .i64 k ∧ (∃ A1 c1, v = .slice A1 k c1 ∧ wr.ownsRow w.heap.size 3 1 (.slice A1 k c1) k (vals (intV (plF seed part S P)) k)) ∧ Below w.heap.size w wr) (fun _ i _ => n - (intOf i).toNat)
  case atStart => exact ⟨0, Nat.zero_le _, rfl, ⟨none, 0, rfl, World.ownsRow_nil _ _ _ _⟩, Below.refl _ _⟩
  case round =>
    obtain ⟨k, hk', rfl, ⟨A1, c1, rfl, hown⟩, hb⟩ := hrel
    have HO1 := Lib.hid hown
    have HB := Lib.hid hb
    clear hown
    by_cases hlt : k < n
    · obtain ⟨b, off, rfl, _, hc⟩ := HR.out.below hb (Nat.le_refl _) (by omega)
      have hck := hc k hlt
      have hsk := HS.out k hlt
      have hsz := hb.size
      unfold strV at hck
      clear hc hb
      go_wp2_with fail
      refine (spec_biPlace seed part P (S k) wr hsk hsd (by omega) (by omega)).mono ?_; rintro e w2 ⟨rfl, rfl⟩
      go_wp2_with (at_builtin; refine wpList_push rfl _ _ 31 rfl w.heap.size 3 (.int .i64 0) 8 Try.underlying31 infoI rfl A1 k c1 (intV (plF seed part S P)) (.int .i64 (placeI seed part (S k).data.toList P)) wr rfl HO1.out rfl rfl rfl (by omega) (by omega) hsz ?_)
      intro A' c' w3 hown' hb3
      have HO3 := Lib.hid hown'
      have HB3 := Lib.hid (HB.out.trans (hb3.mono (Nat.le_refl _)))
      clear hown' hb3 HB HO1
      go_wp2_with fail
      go_roundw
      case rel => exact ⟨k + 1, by omega, by go_num, ⟨_, _, rfl, HO3.out⟩, HB3.out⟩
      case measure => simp [intOf]; omega
    · obtain rfl : k = n := by omega
      clear hb
      go_wp2_with fail
      go_ret
      exact ⟨_, _, rfl, HO1.out, HB.out⟩
theorem RowIs.post {m : Nat} {Y : Nat → Int} {b : Bool} {w : World} (e : Ending) (w' : World) (h : RowIs m Y b w e w') :
    ∃ A c, e = .returned (.tuple #[.slice A m c, .bool b]) ∧ Ow w.heap.size w'.heap.size 3 A m (intV Y) w' ∧ Below w.heap.size w w' := h
theorem RowIs.read {m : Nat} {Y : Nat → Int} {b : Bool} {w : World} (e : Ending) (w' : World) (h : RowIs m Y b w e w') :
    ∃ A c, e = .returned (.tuple #[.slice A m c, .bool b]) ∧ GRow w' A m (intV Y) ∧ Below w.heap.size w w' := by
  obtain ⟨A, c, he, ho, hb⟩ := h
  exact ⟨A, c, he, ho.rd.row (Nat.le_refl _), hb⟩
theorem NoRow.is {w : World} (e : Ending) (w' : World) (h : NoRow w e w') : RowIs 0 (fun _ => 0) false w e w' := by
  obtain ⟨he, rfl⟩ := h
  exact ⟨none, 0, he, ow_zero _ _ _ _ _ _, Below.refl _ _⟩
end Go.Proofs.Ytfjimjbndkhkcab
