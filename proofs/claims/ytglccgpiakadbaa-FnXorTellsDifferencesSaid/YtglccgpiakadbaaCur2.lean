/- What is drawn for keys: parts, places, keys and texts. -/
import Derived.Test.YtglccgpiakadbaaCur
import Derived.Test.YtglccgpiakadbaaKeyRow
namespace Go.Proofs.Ytglccgpiakadbaa
open Go.RowKit

set_option maxHeartbeats 1000000 in
theorem cur_part {b n c k : Nat} {A : Option Addr} {D : Nat → Int} {w : World} (h : CurS b A n c k D w) (hk : k ≤ 100000000000) (hn : n ≤ 1048576) :
    Calls Try.prog 110 #[.pointer (some ⟨b, 0, none⟩)] w fun e w' => ∃ x : Int, -1 ≤ x ∧ x ≤ 10 ∧ e = .returned (.int .i64 x) ∧ Drawn b A n c (k + 4) D w w' := by
  have H := Lib.hid h
  clear h
  go_enter Try.func110, Try.ntmps110
  go_wp2_with fail
  refine (cur_one H.out (by omega) hn).mono ?_; rintro e w1 ⟨x, rfl, hd⟩
  have H1 := Lib.hid hd
  have hlt := hd.1.lt
  clear hd
  cases x with
  | true =>
    have HA := Lib.hid (H1.out.alloc (.cells #[.int .i64 (-1), .int .i64 9, .int .i64 10] 3))
    have hrow := int_row w1 [-1, 9, 10] 3
    have HM := Lib.hid (cur_among (d := 3) (lo := -1) (hi := 10) HA.out.1 (by omega) hn (by decide) (by decide) hrow (fun g o e => by injection e with e; injection e with e1 e2; omega) (fun i hi => by
      have hi3 : i < 3 := hi
      have : i = 0 ∨ i = 1 ∨ i = 2 := by omega
      rcases this with rfl | rfl | rfl <;> decide))
    clear hrow
    go_wp2_with fail
    refine HM.out.mono ?_; rintro e w2 ⟨y, y0, y1, rfl, hd⟩
    have H2 := Lib.hid (HA.out.trans hd)
    clear hd
    go_wp2_with fail
    go_ret
    exact ⟨y, y0, y1, rfl, H2.out.low (by omega)⟩
  | false =>
    go_wp2_with fail
    refine (cur_pick H1.out.1 (by omega) hn).mono ?_; rintro e w2 ⟨y, y0, y1, rfl, hd⟩
    have H2 := Lib.hid (H1.out.trans hd)
    clear hd
    go_wp2_with fail
    go_ret
    exact ⟨y, by omega, by omega, rfl, H2.out.low (by omega)⟩

set_option maxHeartbeats 1000000 in
theorem cur_places {b n c k : Nat} {A : Option Addr} {D : Nat → Int} {w : World} (h : CurS b A n c k D w) (hk : k ≤ 100000000000) (hn : n ≤ 1048576) :
    Calls Try.prog 112 #[.pointer (some ⟨b, 0, none⟩)] w fun e w' => ∃ x : Int, -1 ≤ x ∧ x ≤ 4097 ∧ e = .returned (.int .i64 x) ∧ Drawn b A n c (k + 4) D w w' := by
  have H := Lib.hid h
  clear h
  go_enter Try.func112, Try.ntmps112
  go_wp2_with fail
  refine (cur_pick H.out (by omega) hn).mono ?_; rintro e w1 ⟨x, x0, x1, rfl, hd⟩
  have H1 := Lib.hid hd
  have hlt := hd.1.lt
  clear hd
  by_cases e0 : x = 0
  · subst e0
    have HA := Lib.hid (H1.out.alloc (.cells #[.int .i64 (-1), .int .i64 0, .int .i64 64, .int .i64 65, .int .i64 4096, .int .i64 4097] 3))
    have hrow := int_row w1 [-1, 0, 64, 65, 4096, 4097] 3
    have HM := Lib.hid (cur_among (d := 6) (lo := -1) (hi := 4097) HA.out.1 (by omega) hn (by decide) (by decide) hrow (fun g o e => by injection e with e; injection e with e1 e2; omega) (fun i hi => by
      have hi3 : i < 6 := hi
      have : i = 0 ∨ i = 1 ∨ i = 2 ∨ i = 3 ∨ i = 4 ∨ i = 5 := by omega
      rcases this with rfl | rfl | rfl | rfl | rfl | rfl <;> decide))
    clear hrow
    go_wp2_with fail
    refine HM.out.mono ?_; rintro e w2 ⟨y, y0, y1, rfl, hd⟩
    have H2 := Lib.hid (HA.out.trans hd)
    clear hd
    go_wp2_with fail
    go_ret
    exact ⟨y, y0, y1, rfl, H2.out.low (by omega)⟩
  · by_cases e1 : x = 1
    · subst e1
      go_wp2_with fail
      refine (cur_pick H1.out.1 (by omega) hn).mono ?_; rintro e w2 ⟨y, y0, y1, rfl, hd⟩
      have H2 := Lib.hid (H1.out.trans hd)
      clear hd
      go_wp2_with fail
      go_ret
      exact ⟨1 + y, by omega, by omega, rfl, H2.out.low (by omega)⟩
    · have b0 : (x == 0) = false := by simpa using e0
      have b1 : (x == 1) = false := by simpa using e1
      go_wp2_with fail
      refine (cur_pick H1.out.1 (by omega) hn).mono ?_; rintro e w2 ⟨y, y0, y1, rfl, hd⟩
      have H2 := Lib.hid (H1.out.trans hd)
      clear hd
      go_wp2_with fail
      go_ret
      exact ⟨1 + y, by omega, by omega, rfl, H2.out.low (by omega)⟩

/-- An element of a list of strings, each of at most m bytes. -/
theorem cur_of {b n c k q m : Nat} {A B : Option Addr} {d : Nat} {D : Nat → Int} {S : Nat → ByteArray} {w : World} (h : CurS b A n c k D w) (hk : k ≤ 1000000000000) (hn : n ≤ 1048576) (h0 : 0 < q) (hq : q ≤ 1048576)
    (hr : GRow w B q (strV S)) (hne : ∀ g o, B = some ⟨g, o, none⟩ → b < g) (hS : ∀ i, i < q → (S i).size ≤ m) :
    Calls Try.prog 142 #[.pointer (some ⟨b, 0, none⟩), .slice B q d] w fun e w' => ∃ s : ByteArray, s.size ≤ m ∧ e = .returned (.string s) ∧ Drawn b A n c (k + 2) D w w' := by
  have H := Lib.hid h
  obtain ⟨g, o, rfl, hg, hc⟩ := hr h0
  have hbg := hne g o rfl
  have HC := Lib.hid hc
  have HS := Lib.hid hS
  clear h hr hne hc hS
  go_enter Try.func142, Try.ntmps142
  go_wp2_with fail
  refine (cur_pick H.out (by omega) hn).mono ?_; rintro e w1 ⟨x, x0, x1, rfl, hd⟩
  obtain ⟨j, rfl⟩ : ∃ j : Nat, x = j := ⟨x.toNat, by omega⟩
  have hj : j < q := by omega
  have hcell := (World.cell?_of_block (a := ⟨g, o + j, none⟩) (hd.2.block g hg (.inr (by omega)))).trans (HC.out j hj)
  unfold strV at hcell
  have l0 := HS.out j hj
  have H1 := Lib.hid hd
  clear hd
  go_wp2_with fail
  go_ret
  exact ⟨_, l0, rfl, H1.out⟩

theorem grown_of_only {b : Nat} {w w' : World} (h : Only b (b + 1) w w') : w.grownBy w' (some b) :=
  ⟨h.os, h.tape, h.output, h.size, fun k hk hne => h.block k hk (by
    by_cases c : k < b
    · exact .inl c
    · by_cases e : k = b
      · exact absurd (congrArg some e) hne
      · exact .inr (by omega))⟩
theorem owned_only {b B n : Nat} {e : TypeId} {v : Value} {xs : List Value} {w w' : World} (h : w.ownsRow B e 1 v n xs) (ho : Only b (b + 1) w w') (hb : b < B) : w'.ownsRow B e 1 v n xs :=
  h.kept (grown_of_only ho) (by
    cases hv : v.ownBlock with
    | none => exact .inl rfl
    | some g => exact .inr fun hc => by injection hc with hc; have := (h.lt g hv).1; omega)
theorem Drawn.lowB {b n c k : Nat} {A : Option Addr} {D : Nat → Int} {w w1 w2 : World} (h : Drawn b A n c k D w w1) (hlt : b < w.heap.size) (hb : Below w.heap.size w1 w2) : Drawn b A n c k D w w2 :=
  ⟨h.1.same fun j hj => hb.block j (by omega), ⟨hb.os.trans h.2.os, hb.tape.trans h.2.tape, hb.output.trans h.2.output, Nat.le_trans h.2.size hb.size, fun j hj hne => (hb.block j hj).trans (h.2.block j hj hne)⟩⟩

theorem infoU : (Try.prog.info? 5).map (fun i => (i.zero, i.size, i.bytes)) = some (some (.int .u8 0), 1, 1) := by kernel_rfl
def bytesT (F : Nat → Int) (n : Nat) : ByteArray := strOfNums ((List.range n).map F)
theorem bytesT_size (F : Nat → Int) (n : Nat) : (bytesT F n).size = n := by simp [bytesT, strOfNums_size]
theorem conv_bytes {w : World} {A : Option Addr} {n c : Nat} {F : Nat → Int} (h : GRow w A n (u8V F)) (h0 : 0 < n) :
    (convert 22 9 (.slice A n c)).run Try.prog w = .ok (.string (bytesT F n)) w := by
  obtain ⟨b, off, rfl, _, hc⟩ := h h0
  refine run_convert_bytes_arg w 22 5 Try.underlying22 Try.underlying5 b off n c _ (by simp) (fun i hi => ?_) 9 Try.underlying9
  rw [hc i hi]
  simp [u8V, List.getD_eq_getElem?_getD, hi]
def putV (F : Nat → Int) (k : Nat) (x : Int) (i : Nat) : Int := if i = k then x else F i
theorem owned_put {B k c : Nat} {A : Option Addr} {F : Nat → Int} {w : World} (x : Int) (h : w.ownsRow B 5 1 (.slice A k c) k (vals (u8V F) k)) : w.ownsRow B 5 1 (.slice A k c) k (vals (u8V (putV F k x)) k) := by
  have e : vals (u8V (putV F k x)) k = vals (u8V F) k := by
    unfold vals
    apply List.map_congr_left
    intro i hi
    have := List.mem_range.1 hi
    simp [u8V, putV, show i ≠ k by omega]
  rw [e]; exact h

theorem putV_at (F : Nat → Int) (k : Nat) (x : Int) : u8V (putV F k x) k = .int .u8 x := by simp [u8V, putV]
def keyA : ByteArray := ⟨#[97, 97, 98, 98, 99, 120, 121, 122, 33, 125, 48]⟩
set_option maxRecDepth 100000 in
set_option maxHeartbeats 1000000 in
theorem cur_key {b n c k : Nat} {A : Option Addr} {D : Nat → Int} {w : World} (h : CurS b A n c k D w) (hk : k ≤ 100000000000) (hn : n ≤ 1048576) :
    Calls Try.prog 141 #[.pointer (some ⟨b, 0, none⟩)] w fun e w' => ∃ s : ByteArray, s.size ≤ 12 ∧ e = .returned (.string s) ∧ Drawn b A n c (k + 12) D w w' := by
  have H := Lib.hid h
  have hlt := h.lt
  clear h
  go_enter Try.func141, Try.ntmps141
  go_wp2_with fail
  refine (cur_pick H.out (by omega) hn).mono ?_; rintro e w1 ⟨x, x0, x1, rfl, hd⟩
  have H1 := Lib.hid hd
  clear hd
  go_wp2_with fail
  go_loopw [3, 4] (fun v r wr => ∃ (j m : Nat) (F : Nat → Int) (A1 : Option Addr) (c1 : Nat), j + m ≤ 4 ∧ 1 ≤ j + m ∧ v = .slice A1 j c1 ∧ r = .int .i64 m ∧ wr.ownsRow w.heap.size 5 1 (.slice A1 j c1) j (vals (u8V F) j) ∧ Drawn b A n c (k + 2 + 2 * j) D w wr) (fun _ r _ => (intOf r).toNat)
  case atStart => exact ⟨0, (1 + x).toNat, fun _ => 0, none, 0, by omega, by omega, rfl, by rw [Int.toNat_of_nonneg (by omega)], World.ownsRow_nil _ _ _ _, H1.out.low (by omega)⟩
  case round =>
    obtain ⟨j, m, F, A1, c1, hjm, hjm1, rfl, rfl, hown, hd⟩ := hrel
    have HO := Lib.hid hown
    have H2 := Lib.hid hd
    clear hown hd H1
    by_cases hm : m = 0
    · subst hm
      go_wp2_with fail
      refine (cur_one H2.out.1 (by omega) hn).mono ?_; rintro e w3 ⟨y, rfl, hd⟩
      have H3 := Lib.hid (H2.out.trans hd)
      have HO3 := Lib.hid (owned_only HO.out hd.2 hlt)
      clear hd HO
      cases y with
      | false =>
        have hcv := conv_bytes (w := w3) (c := c1) (owned_vec HO3.out).row (by omega)
        go_wp2_with fail
        go_ret
        exact ⟨_, by rw [bytesT_size]; omega, rfl, H3.out.low (by omega)⟩
      | true =>
        go_wp2_with fail
        go_loopw [3] (fun v wr => ∃ (i : Nat) (G : Nat → Int) (A2 : Option Addr) (c2 : Nat), i ≤ 12 ∧ 1 ≤ i ∧ v = .slice A2 i c2 ∧ wr.ownsRow w.heap.size 5 1 (.slice A2 i c2) i (vals (u8V G) i) ∧ Drawn b A n c (k + 12) D w wr) (fun v _ => 12 - (match v with | .slice _ l _ => l | _ => 0))
        case atStart => exact ⟨j, F, A1, c1, by omega, by omega, rfl, HO3.out, H3.out.low (by omega)⟩
        case round =>
          obtain ⟨i, G, A2, c2, hi, hi1, rfl, hown, hd⟩ := hrel
          have HO4 := Lib.hid hown
          have H4 := Lib.hid hd
          have hsz := hd.2.size
          clear hown hd HO3 H3
          by_cases hlt12 : i < 12
          · go_wp2_with (at_builtin; refine wpList_push rfl _ _ 22 rfl w.heap.size 5 (.int .u8 0) 1 Try.underlying22 infoU rfl A2 i c2 (u8V (putV G i 97)) (.int .u8 97) wr rfl (owned_put 97 HO4.out) rfl (by simp [u8V, putV]) rfl (by omega) (by omega) hsz ?_)
            intro A' c' w4 hown' hb4
            have HO5 := Lib.hid hown'
            have H5 := Lib.hid (H4.out.lowB hlt hb4)
            clear hown' hb4 HO4 H4
            go_wp2_with fail
            go_roundw
            case rel => exact ⟨i + 1, putV G i 97, A', c', by omega, by omega, rfl, HO5.out, H5.out⟩
            case measure => first | (simp; done) | (simp; omega)
          · have hcv := conv_bytes (w := wr) (c := c2) (owned_vec HO4.out).row (by omega)
            go_wp2_with fail
            go_ret
            exact ⟨_, by rw [bytesT_size]; omega, rfl, H4.out.low (by omega)⟩
    · go_wp2_with fail
      refine (cur_pick H2.out.1 (by omega) hn).mono ?_; rintro e w3 ⟨y, y0, y1, rfl, hd⟩
      have H3 := Lib.hid (H2.out.trans hd)
      have HO3 := Lib.hid (owned_only HO.out hd.2 hlt)
      have hsz := Nat.le_trans H2.out.2.size hd.2.size
      clear hd HO
      go_wp2_with (at_builtin; refine wpList_push rfl _ _ 22 rfl w.heap.size 5 (.int .u8 0) 1 Try.underlying22 infoU rfl A1 j c1 (u8V (putV F j _)) (.int .u8 _) w3 rfl (owned_put _ HO3.out) rfl (putV_at F j _) rfl (by omega) (by omega) hsz ?_)
      intro A' c' w4 hown' hb4
      have HO5 := Lib.hid hown'
      have H5 := Lib.hid (H3.out.lowB hlt hb4)
      clear hown' hb4 HO3 H3
      go_wp2_with fail
      go_roundw
      case rel => exact ⟨j + 1, m - 1, _, A', c', by omega, by omega, rfl, by go_num, HO5.out, H5.out.low (by omega)⟩
      case measure => simp [intOf]; omega

set_option maxRecDepth 100000 in
set_option maxHeartbeats 1000000 in
theorem cur_text {b n c k : Nat} {A : Option Addr} {D : Nat → Int} {w : World} (h : CurS b A n c k D w) (hk : k ≤ 100000000) (hn : n ≤ 1048576) :
    Calls Try.prog 111 #[.pointer (some ⟨b, 0, none⟩)] w fun e w' => ∃ s : ByteArray, s.size ≤ 13 ∧ e = .returned (.string s) ∧ Drawn b A n c (k + 14) D w w' := by
  have H := Lib.hid h
  clear h
  go_enter Try.func111, Try.ntmps111
  go_wp2_with fail
  refine (cur_pick H.out (by omega) hn).mono ?_; rintro e w1 ⟨x, x0, x1, rfl, hd⟩
  have H1 := Lib.hid hd
  have hlt := hd.1.lt
  clear hd
  by_cases e0 : x = 0
  · subst e0
    go_wp2_with fail
    go_ret
    exact ⟨_, by decide, rfl, H1.out.low (by omega)⟩
  by_cases e1 : x = 1
  · subst e1
    go_wp2_with fail
    refine (cur_key H1.out.1 (by omega) hn).mono ?_; rintro e w2 ⟨s, hs, rfl, hd⟩
    have H2 := Lib.hid (H1.out.trans hd)
    clear hd
    have hs1 : (s.size : Int) ≤ 8388608 := by omega
    have hs2 : (((⟨#[32]⟩ : ByteArray).size : Nat) : Int) ≤ 8388608 := by decide
    have hs3 : (s ++ ⟨#[32]⟩ : ByteArray).size ≤ 13 := by
      rw [ByteArray.size_append]
      have : (⟨#[32]⟩ : ByteArray).size = 1 := rfl
      omega
    go_wp2_with fail
    go_ret
    exact ⟨_, hs3, rfl, H2.out.low (by omega)⟩
  by_cases e2 : x = 2
  · subst e2
    go_wp2_with fail
    go_ret
    exact ⟨_, by decide, rfl, H1.out.low (by omega)⟩
  by_cases e3 : x = 3
  · subst e3
    have HA := Lib.hid (H1.out.alloc (.cells #[.string ⟨#[126]⟩, .string ⟨#[125]⟩, .string ⟨#[97, 126]⟩, .string ⟨#[127]⟩] 9))
    have hrow := str_row w1 [⟨#[126]⟩, ⟨#[125]⟩, ⟨#[97, 126]⟩, ⟨#[127]⟩] 9
    have HM := Lib.hid (cur_of (d := 4) (m := 13) HA.out.1 (by omega) hn (by decide) (by decide) hrow (fun g o e => by injection e with e; injection e with e1 e2; omega) (fun i hi => by
      have hi3 : i < 4 := hi
      have : i = 0 ∨ i = 1 ∨ i = 2 ∨ i = 3 := by omega
      rcases this with rfl | rfl | rfl | rfl <;> decide))
    clear hrow
    go_wp2_with fail
    refine HM.out.mono ?_; rintro e w2 ⟨s, hs, rfl, hd⟩
    have H2 := Lib.hid (HA.out.trans hd)
    clear hd
    go_wp2_with fail
    go_ret
    exact ⟨s, hs, rfl, H2.out.low (by omega)⟩
  have b0 : (x == 0) = false := by simpa using e0
  have b1 : (x == 1) = false := by simpa using e1
  have b2 : (x == 2) = false := by simpa using e2
  have b3 : (x == 3) = false := by simpa using e3
  clear e0 e1 e2 e3
  go_wp2_with fail
  refine (cur_key H1.out.1 (by omega) hn).mono ?_; rintro e w2 ⟨s, hs, rfl, hd⟩
  have H2 := Lib.hid (H1.out.trans hd)
  clear hd
  go_wp2_with fail
  go_ret
  exact ⟨s, by omega, rfl, H2.out.low (by omega)⟩

theorem CurS.start {A : Option Addr} {n : Nat} (c : Nat) {D : Nat → Int} {w : World} (hr : GRow w A n (u8V D)) (hD : ∀ i, i < n → 0 ≤ D i ∧ D i < 256) :
    CurS w.heap.size A n c 0 D (w.alloc (.cells #[.slice A n c, .int .i64 0, .int .u64 0] 81)) :=
  ⟨⟨0, 0, Nat.le_refl _, by omega, by omega, Go.Deep.blk_alloc_new _ _⟩, fun hn => by
    obtain ⟨q, off, hA, hq, hc⟩ := hr hn
    exact ⟨q, off, hA, hq, fun i hi => (World.cell?_of_block (a := ⟨q, off + i, none⟩) (Go.Deep.blk_alloc_lt _ _ _ hq)).trans (hc i hi)⟩, hD⟩
theorem Drawn.end {A : Option Addr} {n c k : Nat} {D : Nat → Int} {w w1 : World} {o : Obj} (h : Drawn w.heap.size A n c k D (w.alloc o) w1) : Below w.heap.size w w1 :=
  ((Below.refl _ w).alloc (Nat.le_refl _) o).trans (h.2.below (by simp) (Nat.le_refl _))

set_option maxRecDepth 100000 in
set_option maxHeartbeats 1000000 in
theorem draw_placeOf (A : Option Addr) (n c : Nat) (D : Nat → Int) (w : World) (hn : n ≤ 1048576) (hr : GRow w A n (u8V D)) (hD : ∀ i, i < n → 0 ≤ D i ∧ D i < 256) :
    Calls Try.prog 50 #[.slice A n c] w fun e w' => ∃ (s p : Int) (t : ByteArray) (x : Int), -1 ≤ s ∧ s ≤ 10000 ∧ -1 ≤ p ∧ p ≤ 10 ∧ t.size ≤ 13 ∧ -1 ≤ x ∧ x ≤ 4097 ∧ e = .returned (.tuple #[.int .i64 s, .int .i64 p, .string t, .int .i64 x]) ∧ Below w.heap.size w w' := by
  have H0 := Lib.hid (CurS.start c hr hD).still
  clear hr hD
  go_enter Try.func50, Try.ntmps50
  go_wp2_with fail
  refine (cur_seed9 H0.out.1 (by omega) hn).mono ?_; rintro e w1 ⟨s, s0, s1, rfl, hd⟩
  have H1 := Lib.hid (H0.out.trans hd)
  clear hd H0
  go_wp2_with fail
  refine (cur_part H1.out.1 (by omega) hn).mono ?_; rintro e w2 ⟨p, p0, p1, rfl, hd⟩
  have H2 := Lib.hid (H1.out.trans hd)
  clear hd H1
  go_wp2_with fail
  refine (cur_text H2.out.1 (by omega) hn).mono ?_; rintro e w3 ⟨t, ht, rfl, hd⟩
  have H3 := Lib.hid (H2.out.trans hd)
  clear hd H2
  go_wp2_with fail
  refine (cur_places H3.out.1 (by omega) hn).mono ?_; rintro e w4 ⟨x, x0, x1, rfl, hd⟩
  have H4 := Lib.hid (H3.out.trans hd)
  clear hd H3
  go_wp2_with fail
  refine bodyPost_ret (v := .tuple #[.int .i64 s, .int .i64 p, .string t, .int .i64 x]) (by simp [results, Try.results50, go_sem]) rfl ?_
  exact ⟨s, p, t, x, s0, s1, p0, p1, ht, x0, x1, rfl, H4.out.end⟩
end Go.Proofs.Ytglccgpiakadbaa
