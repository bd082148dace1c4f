/- The law of BitsText, walked: what both sides answer comes in as hypotheses. -/
import Derived.Test.YtglccgpiakadbaaText
import Derived.Deep.RegionHeld3
namespace Go.Proofs.Ytglccgpiakadbaa
open Go.RowKit

set_option maxHeartbeats 400000 in
theorem big_FnExactBitsText (z : Int) (A : Option Addr) (n c : Nat) (w : World) (hm : n ≤ maxLen) (h : ¬ n ≤ 1048576) :
    Calls Try.prog 19 #[.agg #[.int .i64 z, .slice A n c]] w fun e w' => e = .returned (.bool true) ∧ Below w.heap.size w w' := by
  go_enter Try.func19, Try.ntmps19
  go_wp2_with fail
  refine (szBits_big _ _ _ _ _ hm h).mono ?_; rintro e w1 ⟨rfl, hb⟩
  go_wp2_with fail
  go_ret
  exact ⟨rfl, ((Below.refl _ _).alloc (Nat.le_refl _) _).trans (hb.mono (by simp))⟩

set_option maxHeartbeats 1000000 in
theorem main_FnExactBitsText (z : Int) (A : Option Addr) (n c : Nat) (X : Nat → Int) (w : World) (hn : n ≤ 1048576) (hr : IRow w A n X) (v0 : ByteArray) (v1 : Bool)
    (s1 : (∀ (A : Option Addr) (c : Nat) (w : World), IRow w A n X → Calls Try.prog 45 #[.agg #[.int .i64 z, .slice A n c]] w fun e w' => e = .returned (.tuple #[.string v0, .bool v1]) ∧ Below w.heap.size w w'))
    (s2 : (∀ (A : Option Addr) (c : Nat) (w : World), IRow w A n X → Calls Try.prog 44 #[.agg #[.int .i64 z, .slice A n c]] w fun e w' => e = .returned (.tuple #[.string v0, .bool v1]) ∧ Below w.heap.size w w')) :
    Calls Try.prog 19 #[.agg #[.int .i64 z, .slice A n c]] w fun e w' => e = .returned (.bool true) ∧ Below w.heap.size w w' := by
  have L0 := Lib.hid (LS.start (z := z) (c := c) hr 52)
  clear hr
  have hlt : ¬ ((1048576 : Int) - n < 0) := by omega
  have S1 := Lib.hid s1
  have S2 := Lib.hid s2
  clear s1 s2
  go_enter Try.func19, Try.ntmps19
  go_wp2_with fail
  refine (szBits_ok _ _ _ _ _ hn).mono ?_; rintro e w1 ⟨rfl, hb⟩
  have L1 := Lib.hid (L0.out.step hb)
  clear hb L0
  obtain ⟨hs1, c0, c1⟩ := L1.out.box
  go_wp2_with fail
  refine (toBits_any _ _ _ _ X _ hn L1.out.row).mono ?_; rintro e w2 ⟨g2, rfl, hg2, ho2, hb⟩
  have L2 := Lib.hid (L1.out.step hb)
  have O2 := Lib.hid ho2
  clear hb L1 c0 c1 ho2 hg2 hs1
  obtain ⟨hs2, c0, c1⟩ := L2.out.box
  go_wp2_with fail
  refine (S1.out _ _ _ O2.out.row).mono ?_; rintro e w3 ⟨rfl, hb⟩
  have L3 := Lib.hid (L2.out.step hb)
  clear hb L2 c0 c1 hs2 O2
  obtain ⟨hs3, c0, c1⟩ := L3.out.box
  go_wp2_with fail
  refine (toBits_any _ _ _ _ X _ hn L3.out.row).mono ?_; rintro e w4 ⟨g4, rfl, hg4, ho4, hb⟩
  have L4 := Lib.hid (L3.out.step hb)
  have O4 := Lib.hid ho4
  clear hb L3 c0 c1 ho4 hg4 hs3
  obtain ⟨hs4, c0, c1⟩ := L4.out.box
  go_wp2_with fail
  refine (S2.out _ _ _ (O4.out.alloc _).row).mono ?_; rintro e w5 ⟨rfl, hb⟩
  have L5 := Lib.hid (L4.out.step (((Below.refl _ w4).alloc (Nat.le_refl _) _).trans (hb.mono (by simp))))
  have O5 := Lib.hid ((O4.out.alloc _).b hb)
  have X5 := Lib.hid ((Box.new w4 z (some ⟨g4, 0, none⟩) n n 26).b hb)
  clear hb L4 c0 c1 hs4 O4
  obtain ⟨hs5, c0, c1⟩ := L5.out.box
  obtain ⟨hx5, d0, d1⟩ := X5.out
  go_wp2_with fail
  go_region_held3 (fun w' => w'.cell? ⟨w.heap.size, 0, none⟩ = some (.int .i64 z) ∧ w'.cell? ⟨w.heap.size, 1, none⟩ = some (.slice A n c) ∧ w'.cell? ⟨w4.heap.size, 0, none⟩ = some (.int .i64 z) ∧ w'.cell? ⟨w4.heap.size, 1, none⟩ = some (.slice (some ⟨g4, 0, none⟩) n n))
    (first | go_keep | exact ⟨((L5.out.step hb6).step hb7).box.2.1, ((L5.out.step hb6).step hb7).box.2.2, ((X5.out.b hb6).b hb7).2.1, ((X5.out.b hb6).b hb7).2.2⟩ | exact ⟨(L5.out.step hb6).box.2.1, (L5.out.step hb6).box.2.2, (X5.out.b hb6).2.1, (X5.out.b hb6).2.2⟩)
    (first
      | (go_at_call 57; refine (toBits_any _ _ _ _ X _ hn ?_).mono ?_; exact L5.out.row; rintro e w6 ⟨g6, rfl, hg6, ho6, hb6'⟩; have hb6 := of_drew hb6'; clear hb6')
      | (go_at_call 58; refine (eqBits_yes _ _ _ _ _ _ _ X X _ hn ?_ ?_ (fun _ _ => rfl) rfl).mono ?_; exact (O5.out.b hb6).row; exact ho6.row; rintro e w7 ⟨rfl, hb7⟩))
  have L7 := Lib.hid ((L5.out.step hb6).step hb7)
  clear hb6 hb7 ho6 L5 X5 O5 hg6
  go_wp2_with fail
  go_ret
  exact ⟨rfl, L7.out.below⟩

theorem walk_FnExactBitsText (w : World) (z : Int) (_wz : (Lit.int .i64 z).wf = true) (A : Option Addr) (n c : Nat) (X : Nat → Int) (hm : n ≤ maxLen) (hr : IRow w A n X) :
    Calls Try.prog 19 #[.agg #[.int .i64 z, .slice A n c]] w fun e w' => e = .returned (.bool true) ∧ Below w.heap.size w w' := by
  by_cases h : n ≤ 1048576
  · by_cases hg : Good z n X
    · obtain ⟨z, rfl⟩ := Int.eq_ofNat_of_zero_le hg.1
      by_cases h0 : z = 0
      · subst h0
        exact main_FnExactBitsText 0 A n c X w h hr ⟨#[45]⟩ true (fun A c w hr => spec_text 0 ⟨#[45]⟩ true A n c X w h hr (by simpa using hg) (fun _ w _ => spec_biText_zero A n c w) (by simp)) (fun A c w hr => impl_text_zero A n c X w h hr hg)
      · exact main_FnExactBitsText z A n c X w h hr _ true (fun A c w hr => spec_text z _ true A n c X w h hr (by simpa using hg) (fun _ w hr => spec_biText z n c A _ w h (by have := hg.2.1; omega) (by have := hg.2.2.1; omega) (by omega) (good_row hg hr)) (by simp)) (fun A c w hr => impl_text_yes z A n c X w h hr hg (by omega))
    · exact main_FnExactBitsText z A n c X w h hr ⟨#[]⟩ false (fun A c w hr => spec_text z _ false A n c X w h hr (by simpa using hg) (by simp) (by simp)) (fun A c w hr => impl_text_no z A n c X w h hr hg)
  · exact big_FnExactBitsText z A n c w hm h
end Go.Proofs.Ytglccgpiakadbaa
