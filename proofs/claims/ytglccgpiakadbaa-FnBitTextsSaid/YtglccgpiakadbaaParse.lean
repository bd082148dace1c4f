/- ParseBits: the program's and the model's. -/
import Derived.Test.YtglccgpiakadbaaPutF
namespace Go.Proofs.Ytglccgpiakadbaa
open Go.RowKit

def digB (c : UInt8) : Bool := decide ((c.toNat : Int) = 48 ∨ (c.toNat : Int) = 49)
def parseF (l : List UInt8) (i : Nat) : Bool := decide (i < l.length) && decide (((l.getD i 0).toNat : Int) = 49)
theorem parseF_at (s : ByteArray) (k : Nat) (h : k < s.size) : parseF s.data.toList k = decide ((s[k].toNat : Int) = 49) := by
  have e : s.data.toList.getD k 0 = s[k] := by
    rw [List.getD_eq_getElem?_getD, List.getElem?_eq_getElem (by simpa using h)]; rfl
  unfold parseF
  rw [e]; simp [h]

set_option maxRecDepth 100000 in
set_option maxHeartbeats 1000000 in
theorem impl_parse_yes (s : ByteArray) (n m : Nat) (w : World) (hn : n = s.size) (h1 : 1 ≤ n) (h2 : n ≤ 4096) (hm : m = (n + 15) / 16) (hd : (s.toList == [45]) = false) (hall : ∀ k, (h : k < s.size) → digB s[k] = true) :
    Calls Try.prog 47 #[.string s] w (OwnIs n m (fun k => (wordsOf (parseF s.data.toList) k : Int)) true w) := by
  have RB0 := Lib.hid (show RB w w.heap.size (w.alloc (.cells #[.int .i64 0, .slice none 0 0] 26)) from ⟨(Below.refl _ _).alloc (Nat.le_refl _) _, Box.new w 0 none 0 0 _, free_new w _ _⟩)
  have HALL := Lib.hid hall
  have HM := Lib.hid hm
  subst hn
  clear hall hm
  go_enter Try.func47, Try.ntmps47
  go_wp2_with fail
  refine (growWords_any s.size m none 0 0 (fun _ => 0) _ h2 HM.out (Nat.zero_le _) IRow.zero).mono ?_; rintro e w2 ⟨A2, rfl, ho, hb⟩
  have O2 := Lib.hid ((ho.low (show w.heap.size + 1 ≤ _ by simp)).congr (Y := fun i => (((fun _ => 0 : Nat → Nat) i : Nat) : Int)) (fun _ _ => by simp))
  have RB2 := Lib.hid (RB0.out.b hb)
  have hs12 := hb.size
  have hsr := RB0.out.box.1
  clear ho hb RB0
  have hs2 : w.heap.size + 1 ≤ w2.heap.size := by simp at hs12; omega
  have hsm : s.size ≤ 16 * m := by have := HM.out; omega
  have hm2 : m ≤ 256 := by have := HM.out; omega
  clear hs12 hsr
  go_wp2_with fail
  go_loopw [23] (fun i wr => ∃ k : Nat, k ≤ s.size ∧ i = .int .i64 k ∧ w.heap.size + 1 ≤ wr.heap.size ∧ RB w w.heap.size wr ∧ (∃ W1 : Nat → Nat, (∀ i, i < m → W1 i < 65536) ∧ (∀ i, i < 16 * m → bitN W1 i = (decide (i < k) && parseF s.data.toList i)) ∧ OVec wr (w.heap.size + 1) A2 m (fun i => (W1 i : Int)))) (fun i _ => s.size - (intOf i).toNat)
  case atStart => exact ⟨0, Nat.zero_le _, rfl, hs2, RB2.out, ⟨fun _ => 0, fun _ _ => (by show 0 < 65536; omega), fun i _ => by simp [bitN], O2.out⟩⟩
  case round =>
    obtain ⟨k, hk, rfl, hsz, hrb, ⟨W1, hW1, hW2, ho⟩⟩ := hrel
    have RB3 := Lib.hid hrb
    have HW1 := Lib.hid hW1
    have HW2 := Lib.hid hW2
    have O3 := Lib.hid ho
    clear hrb hW1 hW2 ho RB2 O2
    by_cases hlt : k < s.size
    · have hdig := HALL.out k hlt
      have hpf := parseF_at s k hlt
      have HPF := Lib.hid hpf
      clear hpf
      by_cases h48 : (s[k].toNat : Int) = 48
      · have b48 : ((s[k].toNat : Int) == 48) = true := by simpa using h48
        have HN := Lib.hid (show ∀ i, i < 16 * m → bitN W1 i = (decide (i < k + 1) && parseF s.data.toList i) from fun i hi => by
          rw [HW2.out i hi]
          by_cases e : i = k
          · subst e; rw [HPF.out, h48]; simp
          · simp [show (i < k + 1) = (i < k) by simp; omega])
        clear h48 hdig
        go_wp2_with fail
        go_roundw
        case rel => exact ⟨k + 1, by omega, by go_num, hsz, RB3.out, ⟨W1, HW1.out, HN.out, O3.out⟩⟩
        case measure => simp [intOf]; omega
      · have h49 : (s[k].toNat : Int) = 49 := by unfold digB at hdig; simp at hdig; omega
        have b48 : ((s[k].toNat : Int) == 48) = false := by simpa using h48
        have b49 : ((s[k].toNat : Int) == 49) = true := by simpa using h49
        have H49 := Lib.hid h49
        clear h48 h49 hdig
        go_wp2_with fail
        refine (setField_own A2 m _ W1 k 1 1 _ hm2 O3.out HW1.out (by omega) (by omega) (by omega) hsz).mono ?_; rintro e w4 ⟨rfl, ⟨W2, hst, ho⟩, hb⟩
        have RB4 := Lib.hid (RB3.out.low hb (by omega) (by omega))
        have HN := Lib.hid (show ∀ i, i < 16 * m → bitN W2 i = (decide (i < k + 1) && parseF s.data.toList i) from fun i hi => by
          rw [hst.2 i hi]
          by_cases e : i = k
          · subst e; rw [if_pos (by omega), HPF.out, H49.out, Nat.sub_self]; simp
          · rw [if_neg (by omega), HW2.out i hi]; simp [show (i < k + 1) = (i < k) by simp; omega])
        have H1 := Lib.hid hst.1
        have O4 := Lib.hid ho
        have hsz4 := hb.size
        clear hb hst ho RB3 O3
        go_wp2_with fail
        go_roundw
        case rel => exact ⟨k + 1, by omega, by go_num, by omega, RB4.out, ⟨W2, H1.out, HN.out, O4.out⟩⟩
        case measure => simp [intOf]; omega
    · obtain hks : k = s.size := by omega
      have HE := Lib.hid (words_eq (f := parseF s.data.toList) HW1.out (fun i hi => by
        rw [HW2.out i hi]
        by_cases e : i < k
        · simp [e]
        · have : ¬ i < s.data.toList.length := by simp; omega
          unfold parseF; simp only [this, e, decide_false, Bool.false_and]))
      subst hks
      obtain ⟨hr4, d0, d1⟩ := RB3.out.box
      obtain ⟨f0, f1⟩ := RB3.out.free
      go_wp2_with fail
      refine bodyPost_ret (v := .tuple #[.agg #[.int .i64 s.size, .slice A2 m m], .bool true]) (by simp [results, Try.results47, go_sem, d0, d1]) rfl ?_
      exact ⟨A2, _, rfl, (((O3.out.setAt (by omega) _).setAt (by omega) _).low (by omega)).congr (fun i hi => by rw [HE.out i hi]), below_setAt (below_setAt RB3.out.below (by omega) _) (by omega) _⟩

theorem impl_parse_dash (s : ByteArray) (w : World) (hd : (s.toList == [45]) = true) : Calls Try.prog 47 #[.string s] w (OwnIs 0 0 (fun _ => 0) true w) := by
  go_enter Try.func47, Try.ntmps47
  go_wp2_with fail
  refine bodyPost_ret (v := .tuple #[.agg #[.int .i64 0, .slice none 0 0], .bool true]) (by simp [results, Try.results47, go_sem]) rfl ?_
  exact ⟨none, 0, rfl, .inl ⟨rfl, rfl⟩, (Below.refl _ _).alloc (Nat.le_refl _) _⟩

theorem impl_parse_len (s : ByteArray) (w : World) (hd : (s.toList == [45]) = false) (hl : s.size < 1 ∨ 4096 < s.size) : Calls Try.prog 47 #[.string s] w (OwnIs 0 0 (fun _ => 0) false w) := by
  by_cases h1 : (s.size : Int) < 1
  · have b1 : decide ((s.size : Int) < 1) = true := by simpa using h1
    go_enter Try.func47, Try.ntmps47
    go_wp2_with fail
    refine bodyPost_ret (v := .tuple #[.agg #[.int .i64 0, .slice none 0 0], .bool false]) (by simp [results, Try.results47, go_sem]) rfl ?_
    exact ⟨none, 0, rfl, .inl ⟨rfl, rfl⟩, by first | exact (Below.refl _ _).alloc (Nat.le_refl _) _ | go_grown⟩
  · have b1 : decide ((s.size : Int) < 1) = false := by simpa using h1
    have b2 : decide ((4096 : Int) < (s.size : Int)) = true := by simp; omega
    go_enter Try.func47, Try.ntmps47
    go_wp2_with fail
    refine bodyPost_ret (v := .tuple #[.agg #[.int .i64 0, .slice none 0 0], .bool false]) (by simp [results, Try.results47, go_sem]) rfl ?_
    exact ⟨none, 0, rfl, .inl ⟨rfl, rfl⟩, by first | exact (Below.refl _ _).alloc (Nat.le_refl _) _ | go_grown⟩

set_option maxRecDepth 100000 in
set_option maxHeartbeats 1000000 in
theorem impl_parse_bad (s : ByteArray) (b m : Nat) (w : World) (h1 : 1 ≤ s.size) (h2 : s.size ≤ 4096) (hm : m = (s.size + 15) / 16) (hd : (s.toList == [45]) = false) (hb : b < s.size) (hbad : digB s[b] = false) (hall : ∀ k, (h : k < s.size) → k < b → digB s[k] = true) :
    Calls Try.prog 47 #[.string s] w (OwnIs 0 0 (fun _ => 0) false w) := by
  have RB0 := Lib.hid (show RB w w.heap.size (w.alloc (.cells #[.int .i64 0, .slice none 0 0] 26)) from ⟨(Below.refl _ _).alloc (Nat.le_refl _) _, Box.new w 0 none 0 0 _, free_new w _ _⟩)
  have HALL := Lib.hid hall
  have HBAD := Lib.hid hbad
  have HM := Lib.hid hm
  clear hall hm hbad
  go_enter Try.func47, Try.ntmps47
  go_wp2_with fail
  refine (growWords_any s.size m none 0 0 (fun _ => 0) _ h2 HM.out (Nat.zero_le _) IRow.zero).mono ?_; rintro e w2 ⟨A2, rfl, ho, hb2⟩
  have O2 := Lib.hid ((ho.low (show w.heap.size + 1 ≤ _ by simp)).congr (Y := fun i => (((fun _ => 0 : Nat → Nat) i : Nat) : Int)) (fun _ _ => by simp))
  have RB2 := Lib.hid (RB0.out.b hb2)
  have hs12 := hb2.size
  clear ho hb2 RB0
  have hs2 : w.heap.size + 1 ≤ w2.heap.size := by simp at hs12; omega
  have hsm : s.size ≤ 16 * m := by have := HM.out; omega
  have hm2 : m ≤ 256 := by have := HM.out; omega
  clear hs12
  go_wp2_with fail
  go_loopw [23] (fun i wr => ∃ k : Nat, k ≤ b ∧ i = .int .i64 k ∧ w.heap.size + 1 ≤ wr.heap.size ∧ RB w w.heap.size wr ∧ (∃ W1 : Nat → Nat, (∀ i, i < m → W1 i < 65536) ∧ OVec wr (w.heap.size + 1) A2 m (fun i => (W1 i : Int)))) (fun i _ => (b + 1) - (intOf i).toNat)
  case atStart => exact ⟨0, Nat.zero_le _, rfl, hs2, RB2.out, ⟨fun _ => 0, fun _ _ => (by show 0 < 65536; omega), O2.out⟩⟩
  case round =>
    obtain ⟨k, hk, rfl, hsz, hrb, ⟨W1, hW1, ho⟩⟩ := hrel
    have RB3 := Lib.hid hrb
    have HW1 := Lib.hid hW1
    have O3 := Lib.hid ho
    clear hrb hW1 ho RB2 O2
    have hlt : k < s.size := by omega
    by_cases hkb : k < b
    · have hdig := HALL.out k hlt hkb
      by_cases h48 : (s[k].toNat : Int) = 48
      · have b48 : ((s[k].toNat : Int) == 48) = true := by simpa using h48
        clear h48 hdig
        go_wp2_with fail
        go_roundw
        case rel => exact ⟨k + 1, by omega, by go_num, hsz, RB3.out, ⟨W1, HW1.out, O3.out⟩⟩
        case measure => simp [intOf]; omega
      · have h49 : (s[k].toNat : Int) = 49 := by unfold digB at hdig; simp at hdig; omega
        have b48 : ((s[k].toNat : Int) == 48) = false := by simpa using h48
        have b49 : ((s[k].toNat : Int) == 49) = true := by simpa using h49
        clear h48 h49 hdig
        go_wp2_with fail
        refine (setField_own A2 m _ W1 k 1 1 _ hm2 O3.out HW1.out (by omega) (by omega) (by omega) hsz).mono ?_; rintro e w4 ⟨rfl, ⟨W2, hst, ho⟩, hb⟩
        have RB4 := Lib.hid (RB3.out.low hb (by omega) (by omega))
        have H1 := Lib.hid hst.1
        have O4 := Lib.hid ho
        have hsz4 := hb.size
        clear hb hst ho RB3 O3
        go_wp2_with fail
        go_roundw
        case rel => exact ⟨k + 1, by omega, by go_num, by omega, RB4.out, ⟨W2, H1.out, O4.out⟩⟩
        case measure => simp [intOf]; omega
    · obtain rfl : k = b := by omega
      have hbd := HBAD.out
      have b48 : ((s[k].toNat : Int) == 48) = false := by unfold digB at hbd; simp at hbd; simp; omega
      have b49 : ((s[k].toNat : Int) == 49) = false := by unfold digB at hbd; simp at hbd; simp; omega
      clear hbd
      obtain ⟨hr4, d0, d1⟩ := RB3.out.box
      obtain ⟨f0, f1⟩ := RB3.out.free
      go_wp2_with fail
      refine bodyPost_ret (v := .tuple #[.agg #[.int .i64 0, .slice none 0 0], .bool false]) (by simp [results, Try.results47, go_sem, d0, d1]) rfl ?_
      exact ⟨none, 0, rfl, .inl ⟨rfl, rfl⟩, by first | exact RB3.out.below | exact below_setAt (below_setAt RB3.out.below (by omega) _) (by omega) _⟩

theorem first_bad (s : ByteArray) : (∀ k, (h : k < s.size) → digB s[k] = true) ∨ ∃ b, ∃ h : b < s.size, digB s[b] = false ∧ ∀ k, (h : k < s.size) → k < b → digB s[k] = true := by
  have key : ∀ n, n ≤ s.size → (∀ k, (h : k < s.size) → k < n → digB s[k] = true) ∨ ∃ b, ∃ h : b < s.size, digB s[b] = false ∧ ∀ k, (h : k < s.size) → k < b → digB s[k] = true := by
    intro n
    induction n with
    | zero => exact fun _ => .inl fun k _ h => by omega
    | succ n ih =>
      intro hn
      rcases ih (by omega) with h | h
      · by_cases hd : digB s[n] = true
        · refine .inl fun k hk hkn => ?_
          by_cases e : k = n
          · subst e; exact hd
          · exact h k hk (by omega)
        · exact .inr ⟨n, by omega, by simpa using hd, h⟩
      · exact .inr h
  rcases key s.size (Nat.le_refl _) with h | h
  · exact .inl fun k hk => h k hk hk
  · exact .inr h

def ParseIs (s : ByteArray) (b : Nat) (w : World) (e : Ending) (w' : World) : Prop :=
  if b = s.size ∧ 1 ≤ s.size ∧ s.size ≤ 4096 then OwnIs s.size ((s.size + 15) / 16) (fun k => (wordsOf (parseF s.data.toList) k : Int)) true w e w' else OwnIs 0 0 (fun _ => 0) false w e w'

set_option maxRecDepth 100000 in
set_option maxHeartbeats 2000000 in
theorem spec_biParse (s : ByteArray) (b : Nat) (w : World) (h2 : s.size ≤ 1048576) (hd : (s.toList == [45]) = false) (hb : b ≤ s.size) (hall : ∀ k, (h : k < s.size) → k < b → digB s[k] = true) (hend : (h : b < s.size) → digB s[b] = false) :
    Calls Try.prog 127 #[.string s] w (ParseIs s b w) := by
  obtain ⟨i0, hi, hz0, hz1, hz2⟩ := info_parts infoB
  have RB0 := Lib.hid (show RB w w.heap.size (w.alloc (.cells #[.int .i64 0, .slice none 0 0] 26)) from ⟨(Below.refl _ _).alloc (Nat.le_refl _) _, Box.new w 0 none 0 0 _, free_new w _ _⟩)
  have HALL := Lib.hid hall
  have HEND := Lib.hid hend
  clear hall hend
  go_enter Try.func127, Try.ntmps127
  go_wp2_with fail
  go_loopw [4, 5] (fun v i wr => ∃ k : Nat, k ≤ b ∧ i = .int .i64 k ∧ wr.ownsRow (w.heap.size + 1) 4 1 v k (bools (parseF s.data.toList) k) ∧ RB w w.heap.size wr) (fun _ i _ => (b + 1) - (intOf i).toNat)
  case atStart => exact ⟨0, Nat.zero_le _, rfl, World.ownsRow_nil _ _ _ _, RB0.out⟩
  case round =>
    obtain ⟨k, hk, rfl, hown, hrb⟩ := hrel
    have RB3 := Lib.hid hrb
    have HO1 := Lib.hid hown
    have hsz : w.heap.size + 1 ≤ wr.heap.size := hrb.box.1
    clear hrb hown RB0
    by_cases hkb : k < b
    · have hlt : k < s.size := by omega
      have hdig := HALL.out k hlt hkb
      have hpf := Lib.hid (parseF_at s k hlt)
      have hown2 := HO1.out
      have hstep : ∀ (v' : Value) (w3 : World), w3.ownsRow (w.heap.size + 1) 4 1 v' (k + 1) (bools (parseF s.data.toList) k ++ [Value.bool ((s[k].toNat : Int) == 49)]) →
          (wr.alloc (.cells #[Value.bool ((s[k].toNat : Int) == 49)] 4)).grownBy w3 u4.ownBlock → w3.ownsRow (w.heap.size + 1) 4 1 v' (k + 1) (bools (parseF s.data.toList) (k + 1)) ∧ RB w w.heap.size w3 := fun v' w3 ho hg => by
        have hb3 : Below (w.heap.size + 1) wr w3 := ((Below.refl _ _).alloc hsz _).grown hg (by simp; omega) (fun g hg => (hown2.lt g hg).1)
        refine ⟨?_, RB3.out.low hb3 (by omega) (by omega)⟩
        rw [bools_snoc, hpf.out]
        exact ho
      have HSTEP := Lib.hid hstep
      clear hstep
      by_cases h48 : (s[k].toNat : Int) = 48
      · have b48 : ((s[k].toNat : Int) == 48) = true := by simpa using h48
        have c48 : ((s[k].toNat : Int) != 48) = false := by simpa using h48
        clear h48 hdig
        go_wp2_with (at_builtin; refine wpList_append_own _ rfl _ _ 90 rfl (w.heap.size + 1) 4 i0 (.bool false) 1 1 Try.underlying90 hi hz0 hz1 hz2 rfl (by decide) _ _ _ rfl (hown2.alloc _) ⟨wr.heap.size, 0, none⟩ 1 1 [.bool ((s[k].toNat : Int) == 49)] rfl rfl ?c1A ?c2A ?c3A ?c4A ?c5A ?_)
        case c1A =>
          intro j u hj
          match j, hj with
          | 0, hj => simp at hj; subst hj; simp [Addr.add]
        case c2A => intro u hu; simp at hu; subst hu; rfl
        case c3A => unfold maxLen; omega
        case c4A => omega
        case c5A => simp; omega
        · intro v' w3 hown' hgrow _
          have HN := Lib.hid (HSTEP.out v' w3 hown' hgrow)
          clear hown' hgrow hown2 HSTEP RB3 HO1
          go_wp2_with fail
          go_roundw
          case rel => exact ⟨k + 1, by omega, by go_num, HN.out.1, HN.out.2⟩
          case measure => simp [intOf]; omega
      · have h49 : (s[k].toNat : Int) = 49 := by unfold digB at hdig; simp at hdig; omega
        have b48 : ((s[k].toNat : Int) == 48) = false := by simpa using h48
        have c48 : ((s[k].toNat : Int) != 48) = true := by simpa using h48
        have c49 : ((s[k].toNat : Int) != 49) = false := by simpa using h49
        clear h48 hdig h49
        go_wp2_with (at_builtin; refine wpList_append_own _ rfl _ _ 90 rfl (w.heap.size + 1) 4 i0 (.bool false) 1 1 Try.underlying90 hi hz0 hz1 hz2 rfl (by decide) _ _ _ rfl (hown2.alloc _) ⟨wr.heap.size, 0, none⟩ 1 1 [.bool ((s[k].toNat : Int) == 49)] rfl rfl ?c1B ?c2B ?c3B ?c4B ?c5B ?_)
        case c1B =>
          intro j u hj
          match j, hj with
          | 0, hj => simp at hj; subst hj; simp [Addr.add]
        case c2B => intro u hu; simp at hu; subst hu; rfl
        case c3B => unfold maxLen; omega
        case c4B => omega
        case c5B => simp; omega
        · intro v' w3 hown' hgrow _
          have HN := Lib.hid (HSTEP.out v' w3 hown' hgrow)
          clear hown' hgrow hown2 HSTEP RB3 HO1
          go_wp2_with fail
          go_roundw
          case rel => exact ⟨k + 1, by omega, by go_num, HN.out.1, HN.out.2⟩
          case measure => simp [intOf]; omega
    · obtain rfl : k = b := by omega
      obtain ⟨hr4, d0, d1⟩ := RB3.out.box
      obtain ⟨f0, f1⟩ := RB3.out.free
      by_cases hks : k < s.size
      · have hbd := HEND.out hks
        have b48 : ((s[k].toNat : Int) != 48) = true := by unfold digB at hbd; simp at hbd; simp; omega
        have b49 : ((s[k].toNat : Int) != 49) = true := by unfold digB at hbd; simp at hbd; simp; omega
        have hP : ParseIs s k w = OwnIs 0 0 (fun _ => 0) false w := by funext e w'; unfold ParseIs; rw [if_neg (by omega)]
        clear hbd
        rw [hP]
        go_wp2_with fail
        refine bodyPost_ret (v := .tuple #[.agg #[.int .i64 0, .slice none 0 0], .bool false]) (by simp [results, Try.results127, go_sem, d0, d1]) rfl ?_
        exact ⟨none, 0, rfl, .inl ⟨rfl, rfl⟩, by first | exact RB3.out.below | exact below_setAt (below_setAt RB3.out.below (by omega) _) (by omega) _⟩
      · obtain rfl : k = s.size := by omega
        have h2' : ∃ A c, u4 = Value.slice A s.size c := by
          rcases HO1.out.2 with ⟨rfl, h0⟩ | ⟨g, cap, cur, rfl, _⟩
          · exact ⟨none, 0, by rw [h0]⟩
          · exact ⟨_, cap, rfl⟩
        obtain ⟨A2, c2, rfl⟩ := h2'
        have O2 := Lib.hid (ownB_vec HO1.out).row
        clear HO1 HALL HEND
        by_cases hin : 1 ≤ (s.size : Int) ∧ (s.size : Int) ≤ 4096
        · have hP : ParseIs s s.size w = OwnIs s.size ((s.size + 15) / 16) (fun k => (wordsOf (parseF s.data.toList) k : Int)) true w := by funext e w'; unfold ParseIs; rw [if_pos (by omega)]
          go_wp2_with fail
          refine (l1In_yes _ _ _ _ hin.1 hin.2).mono ?_; rintro e w' ⟨rfl, rfl⟩
          clear d0 d1 f0 f1
          go_wp2_with fail
          refine (spec_biSome _ s.size _ _ _ _ (by omega) rfl O2.out).mono ?_; rintro e w4 ⟨g4, rfl, hg4, ho, hb⟩
          have RB4 := Lib.hid (RB3.out.b hb)
          have hs3 := RB3.out.box.1
          have O4 := Lib.hid ho
          clear ho hb RB3 O2
          obtain ⟨hr4, d0, d1⟩ := RB4.out.box
          obtain ⟨f0, f1⟩ := RB4.out.free
          have hF : (fun i => decide (i < s.size) && parseF s.data.toList i) = parseF s.data.toList := by
            funext i
            unfold parseF
            simp
          go_wp2_with fail
          refine bodyPost_ret (v := .tuple #[.agg #[.int .i64 s.size, .slice (some ⟨g4, 0, none⟩) ((s.size + 15) / 16) ((s.size + 15) / 16)], .bool true]) (by simp [results, Try.results127, go_sem, d0, d1]) rfl ?_
          rw [hP, ← hF]
          exact ⟨_, _, rfl, .inr ⟨g4, rfl, by omega, (O4.out.setAt (by omega) _).setAt (by omega) _⟩, below_setAt (below_setAt RB4.out.below (by omega) _) (by omega) _⟩
        · have hP : ParseIs s s.size w = OwnIs 0 0 (fun _ => 0) false w := by funext e w'; unfold ParseIs; rw [if_neg (by omega)]
          go_wp2_with fail
          refine (l1In_no _ _ _ _ hin).mono ?_; rintro e w' ⟨rfl, rfl⟩
          go_wp2_with fail
          refine bodyPost_ret (v := .tuple #[.agg #[.int .i64 0, .slice none 0 0], .bool false]) (by simp [results, Try.results127, go_sem, d0, d1]) rfl ?_
          rw [hP]
          exact ⟨none, 0, rfl, .inl ⟨rfl, rfl⟩, by first | exact RB3.out.below | exact below_setAt (below_setAt RB3.out.below (by omega) _) (by omega) _⟩

theorem spec_biParse_dash (s : ByteArray) (w : World) (hd : (s.toList == [45]) = true) : Calls Try.prog 127 #[.string s] w (OwnIs 0 0 (fun _ => 0) true w) := by
  go_enter Try.func127, Try.ntmps127
  go_wp2_with fail
  refine bodyPost_ret (v := .tuple #[.agg #[.int .i64 0, .slice none 0 0], .bool true]) (by simp [results, Try.results127, go_sem]) rfl ?_
  exact ⟨none, 0, rfl, .inl ⟨rfl, rfl⟩, by first | exact (Below.refl _ _).alloc (Nat.le_refl _) _ | go_grown⟩

theorem spec_parse (s : ByteArray) (z : Int) (m : Nat) (Y : Nat → Int) (b : Bool) (h : ∀ w, Calls Try.prog 127 #[.string s] w (OwnIs z m Y b w)) (w : World) : Calls Try.prog 68 #[.string s] w (OwnIs z m Y b w) := by
  have H := Lib.hid h
  clear h
  go_enter Try.func68, Try.ntmps68
  go_wp2_with fail
  refine (H.out _).mono ?_; rintro e w1 ⟨A, c, rfl, hr, hb⟩
  have HR := Lib.hid hr
  have RB1 := Lib.hid ((show RB w w.heap.size (w.alloc (.cells #[.int .i64 0, .slice none 0 0] 26)) from ⟨(Below.refl _ _).alloc (Nat.le_refl _) _, Box.new w 0 none 0 0 _, free_new w _ _⟩).b hb)
  clear hr hb
  obtain ⟨hr4, d0, d1⟩ := RB1.out.box
  obtain ⟨f0, f1⟩ := RB1.out.free
  go_wp2_with fail
  refine bodyPost_ret (v := .tuple #[.agg #[.int .i64 z, .slice A m c], .bool b]) (by simp [results, Try.results68, go_sem, d0, d1]) rfl ?_
  exact ⟨_, _, rfl, ((HR.out.setAt (by simp) _).setAt (by simp) _).low (by simp), below_setAt (below_setAt RB1.out.below (by omega) _) (by omega) _⟩
end Go.Proofs.Ytglccgpiakadbaa
