/- MovesBetween: the program's. -/
import Derived.Test.YtfjimjbndkhkcaaMvM
import Derived.Shelf.Abstract
namespace Go.Proofs.Ytfjimjbndkhkcaa
open Go.RowKit

set_option maxRecDepth 100000 in
set_option maxHeartbeats 1000000 in
theorem index_first (g : Nat) (eg : ∀ args w, (callFunc g args).run Try.prog w = .ok (.enter g args) w) (cb : Array Value) (A : Option Addr) (n c : Nat) (X : Nat → Int) (Q : Int → Prop) (w : World) (hn : n ≤ 1048576) (hr : IRow w A n X)
    (hf : ∀ x, Calls Try.prog g (#[.int .i64 x] ++ cb) w fun e w' => ∃ r : Bool, e = .returned (.bool r) ∧ (r = true ↔ Q x) ∧ w = w') :
    Calls Try.prog 96 #[.slice A n c, .func (.func g) #[] cb] w fun e w' => w = w' ∧ ((∃ i : Nat, i < n ∧ e = .returned (.int .i64 i) ∧ Q (X i) ∧ ∀ j, j < i → ¬ Q (X j)) ∨ (e = .returned (.int .i64 (-1)) ∧ ∀ i, i < n → ¬ Q (X i))) := by
  have HR := Lib.hid hr
  have HF := Lib.hid hf
  clear hr hf
  go_enter Try.func96, Try.ntmps96
  go_wp2_with fail
  go_loop [8] (fun s8 => ∃ k : Nat, k ≤ n ∧ s8 = .int .i64 k ∧ Hid (∀ t, t < k → ¬ Q (X t))) (fun s8 => n - (intOf s8).toNat)
  case atStart => exact ⟨0, Nat.zero_le _, rfl, Lib.hid (fun t ht => absurd ht (Nat.not_lt_zero _))⟩
  case round =>
    obtain ⟨k, hk, rfl, HN⟩ := hrel
    by_cases hlt : k < n
    · obtain ⟨b, off, hA, _, hcc⟩ := HR.out (by omega)
      subst hA
      have hx := hcc k hlt
      clear hcc
      have hc := HF.out (X k)
      go_wp2_with fail
      refine hc.mono ?_; rintro e w' ⟨r, rfl, hq, rfl⟩
      cases r with
      | true =>
        have HQ := Lib.hid (hq.1 rfl)
        clear hq
        go_wp2_with fail
        go_ret
        exact ⟨rfl, .inl ⟨k, hlt, rfl, HQ.out, HN.out⟩⟩
      | false =>
        have HN2 := Lib.hid (show ∀ t, t < k + 1 → ¬ Q (X t) from fun t ht => by
          by_cases e : t = k
          · subst e; exact fun h => absurd (hq.2 h) (by simp)
          · exact HN.out t (by omega))
        clear hq
        go_wp2_with fail
        go_round
        case rel => exact ⟨k + 1, by omega, by go_num, HN2⟩
        case measure => simp [intOf]; omega
    · obtain rfl : k = n := by omega
      go_wp2_with fail
      go_ret
      exact ⟨rfl, .inr ⟨rfl, HN.out⟩⟩
/-- The moves under way, with the captured list's box. -/
structure IQ (w : World) (B1 gb : Nat) (NA : Option Addr) (nc n : Nat) (T F : Nat → Int) (k : Nat) (A : Option Addr) (c : Nat) (wr : World) : Prop where
  m : MQ w B1 (gb + 1) NA n T F k A c wr
  box : NBX gb gb #[.slice NA n nc] 26 wr
theorem IQ.b {w wr wj : World} {B1 gb n nc k c : Nat} {NA A : Option Addr} {T F : Nat → Int} (h : IQ w B1 gb NA nc n T F k A c wr) (hb : Below wr.heap.size wr wj) : IQ w B1 gb NA nc n T F k A c wj := ⟨h.m.b hb, h.box.b hb⟩
theorem nbx_ne_orow {w : World} {b q g n : Nat} {cs : Array Value} {t : TypeId} {X : Nat → Int} (h : NBX b q cs t w) (ho : ORow w g n X) (hne : t ≠ 3) : q ≠ g := fun e => by
  subst e
  obtain ⟨c, hb, _⟩ := ho
  have := h.blk
  rw [hb] at this
  injection this with h1; injection h1 with _ h2 _
  exact hne h2.symm
theorem isEmpty_fn (w wr : World) (B1 gb : Nat) (NA : Option Addr) (nc n : Nat) (T F : Nat → Int) (k : Nat) (A : Option Addr) (c : Nat) (hn : n ≤ 1048576) (h : IQ w B1 gb NA nc n T F k A c wr) (x : Int) :
    Calls Try.prog 95 #[.int .i64 x, .pointer (some ⟨gb, 0, none⟩)] wr fun e w' => ∃ r : Bool, e = .returned (.bool r) ∧ (r = true ↔ ∀ j, j < n → mvS T F n k j ≠ x) ∧ wr = w' := by
  have c0 := h.box.cell 0 _ rfl
  have HRw := Lib.hid h.m.now.row
  clear h
  go_enter Try.func95, Try.ntmps95
  go_wp2_with fail
  refine (contains_is NA n nc _ x _ hn HRw.out).mono ?_; rintro e w2 ⟨r, rfl, hrr, rfl⟩
  cases r with
  | true =>
    have HX := Lib.hid (show ¬ ∀ j, j < n → mvS T F n k j ≠ x from fun h => by
      obtain ⟨j, h1, h2⟩ := hrr.1 rfl
      exact h j h1 h2)
    clear hrr
    go_wp2_with fail
    go_ret
    exact ⟨false, rfl, by simp only [Bool.false_eq_true, false_iff]; exact HX.out, rfl⟩
  | false =>
    have HX := Lib.hid (show ∀ j, j < n → mvS T F n k j ≠ x from fun j h1 h2 => absurd (hrr.2 ⟨j, h1, h2⟩) (by simp))
    clear hrr
    go_wp2_with fail
    go_ret
    exact ⟨true, rfl, by simp only [true_iff]; exact HX.out, rfl⟩
def FoundQ (T X : Nat → Int) (n : Nat) (v : Value) : Prop := (∃ i : Nat, v = .int .i64 i ∧ IsNx T X n i) ∨ (v = .int .i64 (-1) ∧ ∀ i, i < n → ¬ MvOk T X n i)
theorem find_moved (w wr : World) (B1 gb : Nat) (NA : Option Addr) (nc n : Nat) (T F : Nat → Int) (k : Nat) (A : Option Addr) (c : Nat) (EA : Option Addr) (hn : n ≤ 1048576) (h : IQ w B1 gb NA nc n T F k A c wr) (he : IRow wr EA n T) :
    Calls Try.prog 96 #[.slice EA n n, .func (.func 95) #[] #[.pointer (some ⟨gb, 0, none⟩)]] wr fun e w' => wr = w' ∧ ∃ v : Int, e = .returned (.int .i64 v) ∧ FoundQ T (mvS T F n k) n (.int .i64 v) :=
  (index_first 95 (enters_of Try.func95 (by kernel_rfl) rfl) #[.pointer (some ⟨gb, 0, none⟩)] EA n n T (fun x => ∀ j, j < n → mvS T F n k j ≠ x) wr hn he (fun x => isEmpty_fn w wr B1 gb NA nc n T F k A c hn h x)).mono fun e w' ⟨hw, hor⟩ => ⟨hw, by
    rcases hor with ⟨i, hi, e1, e2, e3⟩ | ⟨e1, e2⟩
    · exact ⟨i, e1, .inl ⟨i, rfl, hi, e2, e3⟩⟩
    · exact ⟨-1, e1, .inr ⟨rfl, e2⟩⟩⟩
end Go.Proofs.Ytfjimjbndkhkcaa
