/- FnExactParseBits: the law's walk. -/
import Derived.Test.YtglccgpiakadbaaNewB
import Derived.Test.YtglccgpiakadbaaParse
namespace Go.Proofs.Ytglccgpiakadbaa
open Go.RowKit

set_option maxHeartbeats 2000000 in
theorem main_FnExactParseBits (s : ByteArray) (zr : Int) (m : Nat) (Y : Nat → Int) (b : Bool) (w : World) (hm : m ≤ 4096) (hsz : s.size ≤ 1048576)
    (s1 : ∀ w, Calls Try.prog 68 #[.string s] w (VecIs zr m Y b w)) (s2 : ∀ w, Calls Try.prog 47 #[.string s] w (OwnIs zr m Y b w)) :
    Calls Try.prog 20 #[.string s] w fun e w' => e = .returned (.bool true) ∧ Below w.heap.size w w' := by
  have S1 := Lib.hid s1
  have S2 := Lib.hid s2
  clear s1 s2
  have blen : decide ((1048576 : Int) < (s.size : Int)) = false := by simp; omega
  go_enter Try.func20, Try.ntmps20
  go_wp2_with fail
  refine (S1.out _).mono ?_; rintro e w1 ⟨A1, k1, rfl, r1, hb1⟩
  have R1 := Lib.hid r1
  have HB1 := Lib.hid hb1
  clear r1 hb1
  go_wp2_with fail
  refine (S2.out _).mono ?_; rintro e w2 ⟨A2, k2, rfl, o2, hb2⟩
  have ha1 : Below w1.heap.size w1 (w1.alloc (.cells #[.int .i64 zr, .slice A1 m k1] 26)) := (Below.refl _ _).alloc (Nat.le_refl _) _
  have hs12 : w1.heap.size < w2.heap.size := by have := hb2.size; simp at this; omega
  have n0 : A2 ≠ some ⟨w1.heap.size, 0, none⟩ := o2.ne_low (by simp)
  have n1 : A2 ≠ some ⟨w2.heap.size, 0, none⟩ := o2.ne_high (Nat.le_refl _)
  have hww : w.heap.size ≤ w1.heap.size := HB1.out.size
  have hL : NS w w1 w1.heap.size w2.heap.size (w1.heap.size + 1) zr m A1 k1 A2 k2 Y (w2.alloc (.cells #[.int .i64 zr, .slice A2 m k2] 26)) := by
    have h2 : Below w1.heap.size w1 w2 := ha1.trans (hb2.mono (by simp))
    exact ⟨(HB1.out.trans (h2.mono hww)).alloc (by omega) _, h2.alloc (by omega) _, ((Box.new w1 zr A1 m k1 26).b hb2).b ((Below.refl _ _).alloc (Nat.le_refl _) _), Box.new w2 zr A2 m k2 26, (o2.low (by simp)).b ((Below.refl _ _).alloc (Nat.le_refl _) _)⟩
  have L2 := Lib.hid hL
  have hx0 : Box w2 w1.heap.size zr A1 m k1 := (Box.new w1 zr A1 m k1 26).b hb2
  obtain ⟨_, c0, c1⟩ := hx0
  have N0 := Lib.hid n0
  have N1 := Lib.hid n1
  clear hL o2 hb2 ha1 n0 n1
  go_wp2_with fail
  refine (eqBits_yes _ _ _ _ _ _ _ Y Y _ (by omega) L2.out.own.row (R1.out.below L2.out.below1 (Nat.le_refl _)) (fun _ _ => rfl) rfl).mono ?_; rintro e w3 ⟨rfl, hb⟩
  have L3 := Lib.hid (L2.out.b hb)
  clear hb L2 c0 c1
  obtain ⟨hs1, c0, c1⟩ := L3.out.box0
  obtain ⟨hs2, d0, d1⟩ := L3.out.box1
  go_wp2_with fail
  refine (mark_rest _ _ _ _ _ _ _ _ (by omega) L3.out.own (by omega) (by omega) (by omega)).mono ?_; rintro e w4 ⟨rfl, ho, hb, hr⟩
  have L4 := Lib.hid (L3.out.mark (by omega) (by omega) ho hb hr N0.out N1.out)
  clear hb ho hr L3 c0 c1 d0 d1 hs1 hs2
  obtain ⟨hs1, c0, c1⟩ := L4.out.box0
  obtain ⟨hs2, d0, d1⟩ := L4.out.box1
  go_wp2_with fail
  refine (heldBits_yes _ _ _ _ _ _ _ (by omega) L4.out.own.row (by omega) (by omega) (fun _ _ => rfl)).mono ?_; rintro e w5 ⟨rfl, hb⟩
  have L5 := Lib.hid (L4.out.b hb)
  clear hb L4 c0 c1 d0 d1 hs1 hs2
  obtain ⟨hs1, c0, c1⟩ := L5.out.box0
  obtain ⟨hs2, d0, d1⟩ := L5.out.box1
  go_wp2_with fail
  refine (S2.out _).mono ?_; rintro e w6 ⟨A3, k3, rfl, o3, hb⟩
  have L6 := Lib.hid (L5.out.b hb)
  have O3 := Lib.hid o3.row
  clear hb o3 L5 c0 c1 d0 d1 hs1 hs2
  obtain ⟨hs1, c0, c1⟩ := L6.out.box0
  obtain ⟨hs2, d0, d1⟩ := L6.out.box1
  go_wp2_with fail
  have ha : ∀ o : Obj, Below w6.heap.size w6 (w6.alloc o) := fun o => (Below.refl _ _).alloc (Nat.le_refl _) _
  refine (eqBits_yes _ _ _ _ _ _ _ Y Y _ (by omega) (O3.out.b (ha _)) (R1.out.below (L6.out.b (ha _)).below1 (Nat.le_refl _)) (fun _ _ => rfl) rfl).mono ?_; rintro e w7 ⟨rfl, hb⟩
  have L7 := Lib.hid ((L6.out.b (ha _)).b hb)
  clear hb L6 ha c0 c1 d0 d1 hs1 hs2
  obtain ⟨hs1, c0, c1⟩ := L7.out.box0
  obtain ⟨hs2, d0, d1⟩ := L7.out.box1
  go_wp2_with fail
  refine (heldBits_yes _ _ _ _ _ _ _ (by omega) L7.out.own.row (by omega) (by omega) (fun _ _ => rfl)).mono ?_; rintro e w8 ⟨rfl, hb⟩
  have L8 := Lib.hid (L7.out.b hb)
  clear hb L7 c0 c1 d0 d1 hs1 hs2
  go_wp2_with fail
  go_ret
  exact ⟨rfl, L8.out.below⟩


theorem walk_FnExactParseBits (w : World) (s : ByteArray) (_ws : s.size ≤ maxLen) :
    Calls Try.prog 20 #[.string s] w fun e w' => e = .returned (.bool true) ∧ Below w.heap.size w w' := by
  by_cases hbig : 1048576 < s.size
  · have blen : decide ((1048576 : Int) < (s.size : Int)) = true := by simp; omega
    go_enter Try.func20, Try.ntmps20
    go_wp2_with fail
    go_ret
    exact ⟨rfl, Below.refl _ _⟩
  have hsz : s.size ≤ 1048576 := by omega
  have key : ∀ (zr : Int) (m : Nat) (Y : Nat → Int) (b : Bool), m ≤ 4096 → (∀ w, Calls Try.prog 127 #[.string s] w (OwnIs zr m Y b w)) → (∀ w, Calls Try.prog 47 #[.string s] w (OwnIs zr m Y b w)) →
      Calls Try.prog 20 #[.string s] w fun e w' => e = .returned (.bool true) ∧ Below w.heap.size w w' := fun zr m Y b hm h1 h2 =>
    main_FnExactParseBits s zr m Y b w hm hsz (fun w => (spec_parse s zr m Y b h1 w).mono fun e w' ⟨A, c, he, ho, hb⟩ => ⟨A, c, he, ho.row, hb⟩) h2
  by_cases hd : (s.toList == [45]) = true
  · exact key 0 0 _ true (by omega) (fun w => spec_biParse_dash s w hd) (fun w => impl_parse_dash s w hd)
  have hd' : (s.toList == [45]) = false := by simpa using hd
  by_cases hl : 1 ≤ s.size ∧ s.size ≤ 4096
  · rcases first_bad s with hall | ⟨b, hb, hbad, hall⟩
    · refine key s.size ((s.size + 15) / 16) (fun k => (wordsOf (parseF s.data.toList) k : Int)) true (by omega) (fun w => ?_) (fun w => impl_parse_yes s _ _ w rfl hl.1 hl.2 rfl hd' hall)
      have h := spec_biParse s s.size w hsz hd' (Nat.le_refl _) (fun k hk _ => hall k hk) (fun h => absurd h (by omega))
      have e : ParseIs s s.size w = OwnIs s.size ((s.size + 15) / 16) (fun k => (wordsOf (parseF s.data.toList) k : Int)) true w := by funext e w'; unfold ParseIs; rw [if_pos ⟨rfl, hl⟩]
      rw [e] at h; exact h
    · refine key 0 0 (fun _ => 0) false (by omega) (fun w => ?_) (fun w => impl_parse_bad s b _ w hl.1 hl.2 rfl hd' hb hbad hall)
      have h := spec_biParse s b w hsz hd' (by omega) hall (fun _ => hbad)
      have e : ParseIs s b w = OwnIs 0 0 (fun _ => 0) false w := by funext e w'; unfold ParseIs; rw [if_neg (by omega)]
      rw [e] at h; exact h
  · have hl' : s.size < 1 ∨ 4096 < s.size := by omega
    refine key 0 0 (fun _ => 0) false (by omega) (fun w => ?_) (fun w => impl_parse_len s w hd' hl')
    rcases first_bad s with hall | ⟨b, hb, hbad, hall⟩
    · have h := spec_biParse s s.size w hsz hd' (Nat.le_refl _) (fun k hk _ => hall k hk) (fun h => absurd h (by omega))
      have e : ParseIs s s.size w = OwnIs 0 0 (fun _ => 0) false w := by funext e w'; unfold ParseIs; rw [if_neg (by omega)]
      rw [e] at h; exact h
    · have h := spec_biParse s b w hsz hd' (by omega) hall (fun _ => hbad)
      have e : ParseIs s b w = OwnIs 0 0 (fun _ => 0) false w := by funext e w'; unfold ParseIs; rw [if_neg (by omega)]
      rw [e] at h; exact h
end Go.Proofs.Ytglccgpiakadbaa
