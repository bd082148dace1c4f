/- slices.IndexFunc and ContainsFunc of ints with a closure that keeps a fact on the world; areBelow, hasEdges. -/
import Derived.Test.YtpajbcgdoedleabFromG
import Derived.Test.YtpajbcgdoedleabObjTch
import Derived.Test.YtpajbcgdoedleabHash
import Derived.Deep.RegionHeld3
import Derived.Shelf.Abstract
namespace Go.Proofs.Ytpajbcgdoedleab
open Go.RowKit

theorem quiet_ris {P : Program} {f : FuncId} {args : Array Value} {w : World} {n : Nat} {b : Bool} {Q : Prop} (h : Calls P f args (w.drewN n) (RisIs Q (w.drewN n))) (hb : b = true ↔ Q) : Calls P f args (w.drewN n) fun e w' => e = .returned (.bool b) ∧ ∃ m, w' = w.drewN m :=
  h.mono fun _ _ ⟨b', he, hb', k, hk⟩ => ⟨by rw [he, show b' = b from Bool.eq_iff_iff.2 (hb'.trans hb.symm)], n + k, by rw [hk, World.drewN_drewN]⟩
theorem l1In_of {n lo hi : Int} {b : Bool} (h : decide (lo ≤ n ∧ n ≤ hi) = b) (w : World) : Calls Try.prog 72 #[.int .i64 n, .int .i64 lo, .int .i64 hi] w fun e w' => e = .returned (.bool b) ∧ w = w' := h ▸ l1In_any n lo hi w

set_option maxRecDepth 100000 in
set_option maxHeartbeats 1000000 in
theorem indexFunc_any (g : Nat) (eg : ∀ args w, (callFunc g args).run Try.prog w = .ok (.enter g args) w) (cb : Array Value) (A : Option Addr) (n c : Nat) (X : Nat → Int) (p : Int → Bool) (I : World → Prop) (w : World) (hn : n ≤ 1048576) (hI : I w)
    (hrow : ∀ W, I W → IRow W A n X) (hf : ∀ (x : Int) (W : World), I W → Calls Try.prog g (#[.int .i64 x] ++ cb) W fun e W' => e = .returned (.bool (p x)) ∧ I W') :
    Calls Try.prog 114 #[.slice A n c, .func (.func g) #[] cb] w fun e W' => ∃ v : Int, e = .returned (.int .i64 v) ∧ (0 ≤ v ↔ ∃ i, i < n ∧ p (X i) = true) ∧ I W' := by
  have HI := Lib.hid hI
  have HF := Lib.hid hf
  have HR := Lib.hid hrow
  clear hI hf hrow
  go_enter Try.func114, Try.ntmps114
  go_wp2_with fail
  go_loopw [8] (fun s8 wr => ∃ k : Nat, k ≤ n ∧ s8 = .int .i64 k ∧ Hid (∀ t, t < k → p (X t) = false) ∧ Hid (I wr)) (fun s8 _ => n - (intOf s8).toNat)
  case atStart => exact ⟨0, Nat.zero_le _, rfl, Lib.hid (fun t ht => absurd ht (Nat.not_lt_zero _)), HI⟩
  case round =>
    obtain ⟨k, hk, rfl, HN, HW⟩ := hrel
    by_cases hlt : k < n
    · obtain ⟨b, off, rfl, _, hcc⟩ := (HR.out wr HW.out) (by omega)
      have hx := hcc k hlt
      clear hcc
      have hc := HF.out (X k) wr HW.out
      cases hp : p (X k) <;> rw [hp] at hc
      · have HP := Lib.hid hp
        clear hp
        go_wp2_with (go_at_fn g; refine hc.mono ?_; rintro e w' ⟨rfl, hI2⟩; have I2 := Lib.hid hI2; clear hI2)
        go_roundw
        case rel => exact ⟨k + 1, by omega, by go_num, Lib.hid (fun t ht => by
          by_cases e : t = k
          · subst e; exact HP.out
          · exact HN.out t (by omega)), I2⟩
        case measure => simp [intOf]; omega
      · have HP := Lib.hid hp
        clear hp
        go_wp2_with (go_at_fn g; refine hc.mono ?_; rintro e w' ⟨rfl, hI2⟩; have I2 := Lib.hid hI2; clear hI2)
        go_ret
        exact ⟨k, rfl, ⟨fun _ => ⟨k, hlt, HP.out⟩, fun _ => by omega⟩, I2.out⟩
    · obtain rfl : k = n := by omega
      go_wp2_with fail
      go_ret
      exact ⟨-1, rfl, ⟨fun h => by omega, fun ⟨i, hi, hp⟩ => by rw [HN.out i hi] at hp; cases hp⟩, HW.out⟩
set_option maxRecDepth 100000 in
set_option maxHeartbeats 1000000 in
theorem containsFunc_any (g : Nat) (eg : ∀ args w, (callFunc g args).run Try.prog w = .ok (.enter g args) w) (cb : Array Value) (A : Option Addr) (n c : Nat) (X : Nat → Int) (p : Int → Bool) (I : World → Prop) (w : World) (hn : n ≤ 1048576) (hI : I w)
    (hrow : ∀ W, I W → IRow W A n X) (hf : ∀ (x : Int) (W : World), I W → Calls Try.prog g (#[.int .i64 x] ++ cb) W fun e W' => e = .returned (.bool (p x)) ∧ I W') :
    Calls Try.prog 90 #[.slice A n c, .func (.func g) #[] cb] w fun e W' => ∃ b : Bool, e = .returned (.bool b) ∧ (b = true ↔ ∃ i, i < n ∧ p (X i) = true) ∧ I W' := by
  go_enter Try.func90, Try.ntmps90
  go_wp2_with fail
  refine (indexFunc_any g eg cb A n c X p I _ hn hI hrow hf).mono ?_; rintro e w' ⟨v, rfl, hv, hI2⟩
  have HV := Lib.hid hv
  have I2 := Lib.hid hI2
  clear hv hI2 hI hf hrow
  go_wp2_with fail
  go_ret
  exact ⟨_, rfl, by simp only [decide_eq_true_eq]; exact HV.out, I2.out⟩

/-! areBelow -/
structure LimB (w : World) (b : Nat) (lim : Int) (A : Option Addr) (n : Nat) (X : Nat → Int) (wi : World) : Prop where
  below : Below w.heap.size w wi
  box : NBX w.heap.size b #[.int .i64 lim] 3 wi
  row : IRow wi A n X
theorem LimB.step {w wi wj : World} {b : Nat} {lim : Int} {A : Option Addr} {n : Nat} {X : Nat → Int} (h : LimB w b lim A n X wi) (hb : Below wi.heap.size wi wj) : LimB w b lim A n X wj := ⟨h.below.trans (hb.mono h.below.size), h.box.b hb, h.row.b hb⟩
set_option maxRecDepth 100000 in
set_option maxHeartbeats 1000000 in
theorem areBelow_fn (b : Nat) (lim x : Int) (w W : World) (A : Option Addr) (n : Nat) (X : Nat → Int) (h : LimB w b lim A n X W) :
    Calls Try.prog 91 #[.int .i64 x, .pointer (some ⟨b, 0, none⟩)] W fun e W' => e = .returned (.bool (decide (x < 0 ∨ lim ≤ x))) ∧ LimB w b lim A n X W' := by
  have H := Lib.hid h
  have c0 := h.box.cell 0 _ rfl
  clear h
  by_cases h0 : x < 0
  · have d0 : decide (x < 0) = true := by simpa using h0
    have d : decide (x < 0 ∨ lim ≤ x) = true := by simpa using .inl h0
    rw [d]
    go_enter Try.func91, Try.ntmps91
    go_wp2_with fail
    go_ret
    exact ⟨rfl, H.out⟩
  · have d0 : decide (x < 0) = false := by simpa using h0
    by_cases h1 : lim ≤ x
    · have d1 : decide (lim ≤ x) = true := by simpa using h1
      have d : decide (x < 0 ∨ lim ≤ x) = true := by simpa using .inr h1
      rw [d]
      go_enter Try.func91, Try.ntmps91
      go_wp2_with fail
      go_ret
      exact ⟨rfl, H.out⟩
    · have d1 : decide (lim ≤ x) = false := by simpa using h1
      have d : decide (x < 0 ∨ lim ≤ x) = false := by simp; omega
      rw [d]
      go_enter Try.func91, Try.ntmps91
      go_wp2_with fail
      go_ret
      exact ⟨rfl, H.out⟩
set_option maxRecDepth 100000 in
set_option maxHeartbeats 1000000 in
theorem impl_areBelow (A : Option Addr) (n c : Nat) (X : Nat → Int) (cnt lim : Int) (w : World) (hn : n ≤ 1048576) (hr : IRow w A n X) :
    Calls Try.prog 54 #[.slice A n c, .int .i64 cnt, .int .i64 lim] w (BoolIs ((n : Int) = cnt ∧ InAll n X 0 (lim - 1)) w) := by
  have L0 := Lib.hid (show LimB w w.heap.size lim A n X (w.alloc (.cells #[.int .i64 lim] 3)) from ⟨(Below.refl _ _).alloc (Nat.le_refl _) _, nbx0 w _ _, hr.b ((Below.refl _ _).alloc (Nat.le_refl _) _)⟩)
  clear hr
  by_cases h : (n : Int) = cnt
  · have d0 : ((n : Int) == cnt) = true := by simpa using h
    have HE := Lib.hid h
    clear h
    go_enter Try.func54, Try.ntmps54
    go_wp2_with fail
    go_wp2_with (go_at_call 90; refine (containsFunc_any 91 (enters_of Try.func91 (by kernel_rfl) rfl) #[.pointer (some ⟨w.heap.size, 0, none⟩)] A n c X (fun x => decide (x < 0 ∨ lim ≤ x)) (fun W => LimB w w.heap.size lim A n X W) _ hn L0.out (fun W h => h.row) (fun x W h => areBelow_fn _ lim x w W A n X h)).mono ?_; rintro e w' ⟨b, rfl, hb, hL⟩; have HL := Lib.hid hL; have HB := Lib.hid hb; clear hL hb)
    go_ret
    refine ⟨_, rfl, ?_, HL.out.below⟩
    have hb := HB.out
    simp only [decide_eq_true_eq] at hb
    constructor
    · intro h
      refine ⟨HE.out, fun i hi => ?_⟩
      have hbf : b = false := by simpa using h
      by_cases e : X i < 0 ∨ lim ≤ X i
      · rw [hb.2 ⟨i, hi, e⟩] at hbf; cases hbf
      · omega
    · rintro ⟨_, h⟩
      have hbf : b = false := by
        cases hb1 : b
        · rfl
        · obtain ⟨i, hi, e⟩ := hb.1 hb1
          have := h i hi
          omega
      rw [hbf]; rfl
  · have d0 : ((n : Int) == cnt) = false := by simpa using h
    have HE := Lib.hid h
    clear h
    go_enter Try.func54, Try.ntmps54
    go_wp2_with fail
    go_ret
    exact ⟨false, rfl, by simp only [Bool.false_eq_true, false_iff]; exact fun h => HE.out h.1, L0.out.below⟩
/-- hasEdges. -/
def heB (s g : Int) : Bool := seedB s 0 && decide (1 ≤ g ∧ g ≤ 24)
set_option maxRecDepth 100000 in
set_option maxHeartbeats 1000000 in
theorem impl_hasEdges (s g : Int) (w : World) : Calls Try.prog 105 #[.int .i64 s, .int .i64 g] w fun e w' => e = .returned (.bool (heB s g)) ∧ w = w' := by
  unfold heB
  cases hs : seedB s 0 with
  | false =>
    go_enter Try.func105, Try.ntmps105
    go_wp2_with fail
    refine (impl_isHashNumber s 0 _).mono ?_; rintro e w1 ⟨rfl, rfl⟩
    rw [hs]
    go_wp2_with fail
    go_ret
    exact ⟨rfl, rfl⟩
  | true =>
    by_cases h1 : 1 ≤ g
    · have d1 : decide ((1 : Int) ≤ g) = true := by simpa using h1
      by_cases h2 : g ≤ 24
      · have d2 : decide (g ≤ (24 : Int)) = true := by simpa using h2
        rw [show decide (1 ≤ g ∧ g ≤ 24) = true by simp; omega]
        go_enter Try.func105, Try.ntmps105
        go_wp2_with fail
        refine (impl_isHashNumber s 0 _).mono ?_; rintro e w1 ⟨rfl, rfl⟩
        rw [hs]
        go_wp2_with fail
        go_ret
        exact ⟨rfl, rfl⟩
      · have d2 : decide (g ≤ (24 : Int)) = false := by simpa using h2
        rw [show decide (1 ≤ g ∧ g ≤ 24) = false by simp; omega]
        go_enter Try.func105, Try.ntmps105
        go_wp2_with fail
        refine (impl_isHashNumber s 0 _).mono ?_; rintro e w1 ⟨rfl, rfl⟩
        rw [hs]
        go_wp2_with fail
        go_ret
        exact ⟨rfl, rfl⟩
    · have d1 : decide ((1 : Int) ≤ g) = false := by simpa using h1
      rw [show decide (1 ≤ g ∧ g ≤ 24) = false by simp; omega]
      go_enter Try.func105, Try.ntmps105
      go_wp2_with fail
      refine (impl_isHashNumber s 0 _).mono ?_; rintro e w1 ⟨rfl, rfl⟩
      rw [hs]
      go_wp2_with fail
      go_ret
      exact ⟨rfl, rfl⟩
end Go.Proofs.Ytpajbcgdoedleab
