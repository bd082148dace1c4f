/- askRanked: the valid Ranked is asked. -/
import Derived.Test.YtbflgbmobbbebaaRankQ
import Derived.Shelf.Abstract
namespace Go.Proofs.Ytbflgbmobbbebaa
open Go.RowKit

section
variable (z : Int) (A1 : Option Addr) (n c1 : Nat) (X : Nat → Int) (A2 : Option Addr) (s c2 : Nat) (Y : Nat → Int) (A3 : Option Addr) (m c3 : Nat) (Z : Nat → Int) (w : World)
set_option maxRecDepth 100000 in
set_option maxHeartbeats 1000000 in
theorem impl_ask_yes (K : Nat) (eg : ∀ args w, (callFunc K args).run Try.prog w = .ok (.enter K args) w) (kind i v : Int) (b : Bool) (h : RkR A1 n X A2 s Y A3 m Z w) (hk : RankOk z n X s Y m Z)
    (hq : ∀ w1, RkR A1 n X A2 s Y A3 m Z w1 → Calls Try.prog K #[.agg #[.int .i64 z, .slice A1 n c1, .slice A2 s c2, .slice A3 m c3], .int .i64 kind, .int .i64 i] w1 (AnsI v b w1)) :
    Calls Try.prog 57 #[.agg #[.int .i64 z, .slice A1 n c1, .slice A2 s c2, .slice A3 m c3], .func (.func K) #[] #[], .int .i64 kind, .int .i64 i] w (AnsI v b w) := by
  have L0 := Lib.hid (RL.start (z := z) (c1 := c1) (c2 := c2) (c3 := c3) h)
  have HK := Lib.hid hk
  have HQ := Lib.hid hq
  clear h hk hq
  obtain ⟨hs0, b0, b1, b2, b3⟩ := L0.out.cells
  go_enter Try.func57, Try.ntmps57
  go_wp2_with fail
  refine ((BoolIs.two (impl_isRanked z A1 n c1 X A2 s c2 Y A3 m c3 Z _ L0.out.rows)).1 HK.out).mono ?_; rintro e w1 ⟨rfl, hb⟩
  have L1 := Lib.hid (L0.out.step hb)
  clear hb b0 b1 b2 b3
  obtain ⟨hs1, b0, b1, b2, b3⟩ := L1.out.cells
  go_wp2_with (go_at_fn K; refine (HQ.out _ L1.out.rows).mono ?_; rintro e w2 ⟨rfl, hb⟩; have L2 := Lib.hid (L1.out.step hb); clear hb)
  go_ret2
  exact ⟨rfl, L2.out.below⟩

set_option maxRecDepth 100000 in
set_option maxHeartbeats 1000000 in
theorem impl_ask_no (fv : Value) (kind i : Int) (h : RkR A1 n X A2 s Y A3 m Z w) (hk : ¬ RankOk z n X s Y m Z) :
    Calls Try.prog 57 #[.agg #[.int .i64 z, .slice A1 n c1, .slice A2 s c2, .slice A3 m c3], fv, .int .i64 kind, .int .i64 i] w (AnsI 0 false w) := by
  have L0 := Lib.hid (RL.start (z := z) (c1 := c1) (c2 := c2) (c3 := c3) h)
  have HK := Lib.hid hk
  clear h hk
  obtain ⟨hs0, b0, b1, b2, b3⟩ := L0.out.cells
  go_enter Try.func57, Try.ntmps57
  go_wp2_with fail
  refine ((BoolIs.two (impl_isRanked z A1 n c1 X A2 s c2 Y A3 m c3 Z _ L0.out.rows)).2 HK.out).mono ?_; rintro e w1 ⟨rfl, hb⟩
  have L1 := Lib.hid (L0.out.step hb)
  clear hb
  go_wp2_with fail
  go_ret2
  exact ⟨rfl, L1.out.below⟩
end
end Go.Proofs.Ytbflgbmobbbebaa
