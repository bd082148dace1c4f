/- What the code answers on a valid Ranked, call by call. -/
import Derived.Test.YtbflgbmobbbebaaRankA
import Derived.Test.YtbflgbmobbbebaaSelC
namespace Go.Proofs.Ytbflgbmobbbebaa
open Go.RowKit

theorem cntB_sum (W : Nat → Nat) (i : Nat) : cntB W true i + cntB W false i = i := by
  have := cntN_le W i 0
  simp only [cntB, if_true, Bool.false_eq_true, if_false]; omega
section
variable {z : Nat} {A1 A2 A3 : Option Addr} {n c1 s c2 m c3 : Nat} {X Y Z : Nat → Int} {w : World}
theorem rank1_call {i : Nat} (h : RkR A1 n X A2 s Y A3 m Z w) (hk : RankOk z n X s Y m Z) (hi : i ≤ z) :
    Calls Try.prog 15 #[.agg #[.int .i64 z, .slice A1 n c1, .slice A2 s c2, .slice A3 m c3], .int .i64 i] w (AnsI (cntB (wdR X) true i : Nat) true w) :=
  impl_Rank1_asked z _ n _ X _ s _ Y _ m _ Z _ i _ true h hk fun w1 hr => impl_rankOf_yes z _ n _ X _ s _ Y _ m _ Z w1 true i hr hk hi
theorem rank0_call {i : Nat} (h : RkR A1 n X A2 s Y A3 m Z w) (hk : RankOk z n X s Y m Z) (hi : i ≤ z) :
    Calls Try.prog 16 #[.agg #[.int .i64 z, .slice A1 n c1, .slice A2 s c2, .slice A3 m c3], .int .i64 i] w (AnsI (cntB (wdR X) false i : Nat) true w) :=
  impl_Rank0_asked z _ n _ X _ s _ Y _ m _ Z _ i _ true h hk fun w1 hr => impl_rankOf_yes z _ n _ X _ s _ Y _ m _ Z w1 false i hr hk hi
theorem sel1_call {k i : Nat} (h : RkR A1 n X A2 s Y A3 m Z w) (hk : RankOk z n X s Y m Z) (hi : SelAt (wdR X) true z k i) :
    Calls Try.prog 17 #[.agg #[.int .i64 z, .slice A1 n c1, .slice A2 s c2, .slice A3 m c3], .int .i64 k] w (AnsI i true w) :=
  impl_Select1_asked z _ n _ X _ s _ Y _ m _ Z _ k _ true h hk fun w1 hr => impl_select_on_yes z _ n _ X _ s _ Y _ m _ Z w1 k i hr hk hi
theorem sel0_call {k i : Nat} (h : RkR A1 n X A2 s Y A3 m Z w) (hk : RankOk z n X s Y m Z) (hi : SelAt (wdR X) false z k i) :
    Calls Try.prog 18 #[.agg #[.int .i64 z, .slice A1 n c1, .slice A2 s c2, .slice A3 m c3], .int .i64 k] w (AnsI i true w) :=
  impl_Select0_asked z _ n _ X _ s _ Y _ m _ Z _ k _ true h hk fun w1 hr => impl_select_off_yes z _ n _ X _ s _ Y _ m _ Z w1 k i hr hk hi
theorem sel1_none {k : Int} (h : RkR A1 n X A2 s Y A3 m Z w) (hk : RankOk z n X s Y m Z) (hi : ¬ (0 ≤ k ∧ k < (cntB (wdR X) true z : Nat))) :
    Calls Try.prog 17 #[.agg #[.int .i64 z, .slice A1 n c1, .slice A2 s c2, .slice A3 m c3], .int .i64 k] w (AnsI 0 false w) :=
  impl_Select1_asked z _ n _ X _ s _ Y _ m _ Z _ k 0 false h hk fun w1 hr => impl_select_on_no z _ n _ X _ s _ Y _ m _ Z w1 k hr hk hi
theorem sel0_none {k : Int} (h : RkR A1 n X A2 s Y A3 m Z w) (hk : RankOk z n X s Y m Z) (hi : ¬ (0 ≤ k ∧ k < (cntB (wdR X) false z : Nat))) :
    Calls Try.prog 18 #[.agg #[.int .i64 z, .slice A1 n c1, .slice A2 s c2, .slice A3 m c3], .int .i64 k] w (AnsI 0 false w) :=
  impl_Select0_asked z _ n _ X _ s _ Y _ m _ Z _ k 0 false h hk fun w1 hr => impl_select_off_no z _ n _ X _ s _ Y _ m _ Z w1 k hr hk hi
/-- Some answer. -/
theorem sel1_some {k : Nat} (h : RkR A1 n X A2 s Y A3 m Z w) (hk : RankOk z n X s Y m Z) :
    ∃ (v : Int) (b : Bool), Calls Try.prog 17 #[.agg #[.int .i64 z, .slice A1 n c1, .slice A2 s c2, .slice A3 m c3], .int .i64 k] w (AnsI v b w) := by
  by_cases hi : k < cntB (wdR X) true z
  · obtain ⟨i, hs⟩ := sel_some hi
    exact ⟨i, true, sel1_call h hk hs⟩
  · exact ⟨0, false, sel1_none h hk (by omega)⟩
theorem ones_call (h : RkR A1 n X A2 s Y A3 m Z w) (hk : RankOk z n X s Y m Z) :
    Calls Try.prog 19 #[.agg #[.int .i64 z, .slice A1 n c1, .slice A2 s c2, .slice A3 m c3]] w (AnsI (cntB (wdR X) true z : Nat) true w) :=
  impl_OnesOf_asked z _ n _ X _ s _ Y _ m _ Z _ _ true h hk fun w1 hr => impl_rankOf_yes z _ n _ X _ s _ Y _ m _ Z w1 true z hr hk (Nat.le_refl _)
end
end Go.Proofs.Ytbflgbmobbbebaa
