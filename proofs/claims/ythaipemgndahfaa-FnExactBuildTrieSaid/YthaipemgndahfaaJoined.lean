/- The row's closed facts, one by one: the kernel asks each as a lemma of its own. -/
import Derived.JoinedOf
import Derived.KernelRfl
namespace Go.Proofs.Ythaipemgndahfaa
theorem joined_intro {P : Program} {f : FuncId} {fn : Func} {s : ChangeSpec} {c : OpenClaim}
    (k1 : c.wf (OpenSpec.ofChange s) = true) (k2 : laidOutB P = true) (k3 : mapsRowed P = true)
    (k4 : fn.params.all (P.readableRec ·) = true) (k5 : namedTie P c.named s.vars = true)
    (k6 : (c.stops == []) = true) (k7 : (P.stops == []) = true) (k8 : (c.knobs == []) = true) (k9 : (P.stopKnobs == []) = true)
    (k10 : (c.inPlace == P.inPlace f) = true) (k11 : (c.unfollowed == P.unfollowed f) = true) (k12 : (c.recurses == P.recurses f) = true) (k13 : (c.named == P.varsNamed f) = true)
    (k14 : (c.maps == (fn.params.toList ++ s.plain.varTypes P).any (P.mapsRec ·)) = true) (k15 : (c.ifaces == (fn.params.toList ++ s.plain.varTypes P).any (P.ifacesRec ·)) = true)
    (k16 : (c.mapsOut == P.mapsAmong fn.resultTypes.toList) = true)
    (k17 : (c.loops == (fn.params.toList ++ s.plain.varTypes P).any (P.loopsFrom ·)) = true)
    (k17b : (c.wideKeys == (fn.params.toList ++ s.plain.varTypes P ++ fn.resultTypes.toList).any (P.wideKeysFrom ·)) = true)
    (k18 : s.vars.all (P.varReadable ·) = true) (k19 : fn.resultTypes.all (fun t => P.readableRec t && decide (t < P.types.size)) = true)
    (k20 : (c.ifacesOut == fn.resultTypes.toList.any (P.ifacesRec ·)) = true) (k21 : (c.loopsOut == fn.resultTypes.toList.any (P.loopsFrom ·)) = true)
    (k22 : (c.plainKeys == P.plainKeys) = true) (k23 : c.shortTexts.isNone = true) (k23b : P.stopsHeard = true) (k24 : P.mayEnter = true)
    (k24b : (c.lifted == P.liftsFinal) = true) (k24c : (P.make == some c.make) = true)
    (k25a : c.domain = []) (k25b : c.kinds = [])
    (k26 : (c.pinned == c.pinnedBy) = true) (k27 : (c.veiled == (fn.params.toList ++ s.plain.varTypes P ++ fn.resultTypes.toList).any (P.veiledRec ·)) = true)
    (k28 : c.veiledFits P fn.params.toList (fn.params.toList ++ s.plain.varTypes P ++ fn.resultTypes.toList) = true) : joinedFacts P f fn s c = true := by
  unfold joinedFacts
  rw [k1, k2, k3, k4, k5, k6, k7, k8, k9, k10, k11, k12, k13, k14, k15, k16, k17, k17b, k18, k19, k20, k21, k22, k23, k23b, k24, k24b, k24c, k25a, k25b, k26, k27, k28]
  rfl

/-- One word of a head: what stands ahead of the first blank. -/
theorem ws_cons : ∀ (n : Nat) (l : List Char), (l.take n).all (· != ' ') = true → l[n]? = some ' ' → wordsSigns l = l.take n :: wordsSigns (l.drop (n + 1))
  | 0, l, _, hs => by
    cases l with
    | nil => simp at hs
    | cons c r => simp at hs; subst hs; simp [wordsSigns]
  | n + 1, l, h, hs => by
    cases l with
    | nil => simp at hs
    | cons c r =>
      simp only [List.take_succ_cons, List.all_cons, Bool.and_eq_true] at h
      have ih := ws_cons n r h.2 (by simpa using hs)
      have hc : c ≠ ' ' := by simpa using h.1
      rw [wordsSigns]
      · rw [ih]; simp
      · intro e; exact hc e

section
variable {P : Program} {S : List Char} {R : List (List Char)}
theorem behind_cut (h : wordsSigns P.initOrder.toList = "harness".toList :: S :: "cut".toList :: R) (hS : isSumSigns S = true) : behindMainWord (wordsSigns P.initOrder.toList) = "cut".toList :: R := by
  rw [h]; simp [behindMainWord, hS]
theorem strip_cut (R : List (List Char)) : stripLifts liftWords ("cut".toList :: R) = ([], "cut".toList :: R) := by rfl
theorem mayEnter_of (h : wordsSigns P.initOrder.toList = "harness".toList :: S :: "cut".toList :: R) (hS : isSumSigns S = true) (hl : P.laysLater = false) (hr : P.bearsReflect = false) (hd : P.doorFits [] = true) : P.mayEnter = true := by
  unfold Program.mayEnter
  rw [behind_cut h hS]
  simp only [strip_cut, hl, hr, hd]
  simp
theorem headLifts_of (h : wordsSigns P.initOrder.toList = "harness".toList :: S :: "cut".toList :: R) (hS : isSumSigns S = true) : P.headLifts = [] := by
  unfold Program.headLifts
  rw [behind_cut h hS]
  simp only [strip_cut]
  simp
theorem liftsFinal_of (h : wordsSigns P.initOrder.toList = "harness".toList :: S :: "cut".toList :: R) (hS : isSumSigns S = true) : P.liftsFinal = false := by
  unfold Program.liftsFinal
  rw [behind_cut h hS, headLifts_of h hS]
  simp
theorem make_of (h : wordsSigns P.initOrder.toList = "harness".toList :: S :: "cut".toList :: R) (hS : isSumSigns S = true) : P.make = some .cut := by
  unfold Program.make
  rw [behind_cut h hS]
  simp
theorem words_of (l : List Char) (h1 : (l.take 7) = "harness".toList) (h2 : l[7]? = some ' ') (h3 : ((l.drop 8).take 64).all (· != ' ') = true) (h4 : (l.drop 8)[64]? = some ' ')
    (h5 : (((l.drop 8).drop 65).take 3) = "cut".toList) (h6 : ((l.drop 8).drop 65)[3]? = some ' ') :
    wordsSigns l = "harness".toList :: (l.drop 8).take 64 :: "cut".toList :: wordsSigns (((l.drop 8).drop 65).drop 4) := by
  rw [ws_cons 7 l (by rw [h1]; decide) h2, ws_cons 64 (l.drop 8) h3 h4, ws_cons 3 _ (by rw [h5]; decide) h6, h1, h5]
end
end Go.Proofs.Ythaipemgndahfaa
