/-
  No cell of these rows narrows 'for every input' (looked for: loops, veiled, ifaces, maps, wideKeys, modest, calm, conditions, laid).
  DERIVED. THE GIVEN ROWS OF THIS SEAT. 8 by the template 'for every input the law returns true; each argument reads behind the call as it read before'; 0 by the template 'total and deterministic' (their statements: YtmampgkhobbdcabTotals.lean).
  GIVEN WITH THE SEED: the statements are not yours to turn. If you find one false, say at which input.
  Laid BY PROGRAM, IN A SANDBOX (cutbox-rows.mjs): the forced cells as the released guide's own fill.sh prints them over the translation 4dd46133005449df… (all of the seat's roots in one cut). By AI agents, Wed Nov 11 2026. No macro, syntax, notation, axiom, sorry.
-/
import Derived.Test.YtmampgkhobbdcabChecked
import GoSem.Claim
import GoSem.ClaimJoined
import GoSem.ClaimMapViews
import Derived.JoinedTies
import Derived.KernelRfl
namespace Go.Proofs.Ytmampgkhobbdcab
/- THE CELL 'sum', in the pinned program and in every row, IS THE sha256 OF THE DUMP (.gsa) THAT YtmampgkhobbdcabProg.lean LOADS. Nothing in Lean hashes anything: it is a label: what it is worth is what the hold of that sum in a sandbox is worth. -/
noncomputable def Try.pinned : Pinned := { name := "ytmampgkhobbdcab", sum := "4dd46133005449df6fc1f9ee2ec24258e953c7dd9f51af768309a6dbe071255e", checked := Try.checked }
namespace Rows
def none {H : Type} : Left H := { results := [], args := [] }

/-- 'laws.FnExactIsBalanced': WHATEVER THE INPUT: true; the input reads as it did. -/
def fnExactIsBalancedSpec : ChangeSpec := { name := "fnExactIsBalanced", fn := fun _ => fun
  | [d] => { results := [.lit (.bool true)], args := [d] }
  | _ => none }
def fnExactIsBalancedRow : OpenClaim := { program := "ytmampgkhobbdcab", sum := "4dd46133005449df6fc1f9ee2ec24258e953c7dd9f51af768309a6dbe071255e", func := "loop.example/g01097/laws.FnExactIsBalanced", spec := "fnExactIsBalanced", apart := false }
def FnExactIsBalancedSaid : Prop := fnExactIsBalancedRow.holds Try.pinned (OpenSpec.ofChange fnExactIsBalancedSpec)

/-- ITS FALSE NEIGHBOUR: 'it returns false'. Refute it at one input. -/
def fnExactIsBalancedWrong : ChangeSpec := { name := "fnExactIsBalanced", fn := fun _ => fun
  | [d] => { results := [.lit (.bool false)], args := [d] }
  | _ => none }
def FnExactIsBalancedWrongFalsely : Prop := fnExactIsBalancedRow.holds Try.pinned (OpenSpec.ofChange fnExactIsBalancedWrong)

/-- 'laws.FnExactExcessAt': WHATEVER THE INPUT: true; the input reads as it did. -/
def fnExactExcessAtSpec : ChangeSpec := { name := "fnExactExcessAt", fn := fun _ => fun
  | [d1, d2] => { results := [.lit (.bool true)], args := [d1, d2] }
  | _ => none }
def fnExactExcessAtRow : OpenClaim := { program := "ytmampgkhobbdcab", sum := "4dd46133005449df6fc1f9ee2ec24258e953c7dd9f51af768309a6dbe071255e", func := "loop.example/g01097/laws.FnExactExcessAt", spec := "fnExactExcessAt", apart := false }
def FnExactExcessAtSaid : Prop := fnExactExcessAtRow.holds Try.pinned (OpenSpec.ofChange fnExactExcessAtSpec)

/-- ITS FALSE NEIGHBOUR: 'it returns false'. Refute it at one input. -/
def fnExactExcessAtWrong : ChangeSpec := { name := "fnExactExcessAt", fn := fun _ => fun
  | [d1, d2] => { results := [.lit (.bool false)], args := [d1, d2] }
  | _ => none }
def FnExactExcessAtWrongFalsely : Prop := fnExactExcessAtRow.holds Try.pinned (OpenSpec.ofChange fnExactExcessAtWrong)

/-- 'laws.FnExactCloseOf': WHATEVER THE INPUT: true; the input reads as it did. -/
def fnExactCloseOfSpec : ChangeSpec := { name := "fnExactCloseOf", fn := fun _ => fun
  | [d1, d2] => { results := [.lit (.bool true)], args := [d1, d2] }
  | _ => none }
def fnExactCloseOfRow : OpenClaim := { program := "ytmampgkhobbdcab", sum := "4dd46133005449df6fc1f9ee2ec24258e953c7dd9f51af768309a6dbe071255e", func := "loop.example/g01097/laws.FnExactCloseOf", spec := "fnExactCloseOf", apart := false }
def FnExactCloseOfSaid : Prop := fnExactCloseOfRow.holds Try.pinned (OpenSpec.ofChange fnExactCloseOfSpec)

/-- ITS FALSE NEIGHBOUR: 'it returns false'. Refute it at one input. -/
def fnExactCloseOfWrong : ChangeSpec := { name := "fnExactCloseOf", fn := fun _ => fun
  | [d1, d2] => { results := [.lit (.bool false)], args := [d1, d2] }
  | _ => none }
def FnExactCloseOfWrongFalsely : Prop := fnExactCloseOfRow.holds Try.pinned (OpenSpec.ofChange fnExactCloseOfWrong)

/-- 'laws.FnExactOpenOf': WHATEVER THE INPUT: true; the input reads as it did. -/
def fnExactOpenOfSpec : ChangeSpec := { name := "fnExactOpenOf", fn := fun _ => fun
  | [d1, d2] => { results := [.lit (.bool true)], args := [d1, d2] }
  | _ => none }
def fnExactOpenOfRow : OpenClaim := { program := "ytmampgkhobbdcab", sum := "4dd46133005449df6fc1f9ee2ec24258e953c7dd9f51af768309a6dbe071255e", func := "loop.example/g01097/laws.FnExactOpenOf", spec := "fnExactOpenOf", apart := false }
def FnExactOpenOfSaid : Prop := fnExactOpenOfRow.holds Try.pinned (OpenSpec.ofChange fnExactOpenOfSpec)

/-- ITS FALSE NEIGHBOUR: 'it returns false'. Refute it at one input. -/
def fnExactOpenOfWrong : ChangeSpec := { name := "fnExactOpenOf", fn := fun _ => fun
  | [d1, d2] => { results := [.lit (.bool false)], args := [d1, d2] }
  | _ => none }
def FnExactOpenOfWrongFalsely : Prop := fnExactOpenOfRow.holds Try.pinned (OpenSpec.ofChange fnExactOpenOfWrong)

/-- 'laws.FnExactEnclosingOf': WHATEVER THE INPUT: true; the input reads as it did. -/
def fnExactEnclosingOfSpec : ChangeSpec := { name := "fnExactEnclosingOf", fn := fun _ => fun
  | [d1, d2] => { results := [.lit (.bool true)], args := [d1, d2] }
  | _ => none }
def fnExactEnclosingOfRow : OpenClaim := { program := "ytmampgkhobbdcab", sum := "4dd46133005449df6fc1f9ee2ec24258e953c7dd9f51af768309a6dbe071255e", func := "loop.example/g01097/laws.FnExactEnclosingOf", spec := "fnExactEnclosingOf", apart := false }
def FnExactEnclosingOfSaid : Prop := fnExactEnclosingOfRow.holds Try.pinned (OpenSpec.ofChange fnExactEnclosingOfSpec)

/-- ITS FALSE NEIGHBOUR: 'it returns false'. Refute it at one input. -/
def fnExactEnclosingOfWrong : ChangeSpec := { name := "fnExactEnclosingOf", fn := fun _ => fun
  | [d1, d2] => { results := [.lit (.bool false)], args := [d1, d2] }
  | _ => none }
def FnExactEnclosingOfWrongFalsely : Prop := fnExactEnclosingOfRow.holds Try.pinned (OpenSpec.ofChange fnExactEnclosingOfWrong)

/-- 'laws.FnExactDepthOf': WHATEVER THE INPUT: true; the input reads as it did. -/
def fnExactDepthOfSpec : ChangeSpec := { name := "fnExactDepthOf", fn := fun _ => fun
  | [d1, d2] => { results := [.lit (.bool true)], args := [d1, d2] }
  | _ => none }
def fnExactDepthOfRow : OpenClaim := { program := "ytmampgkhobbdcab", sum := "4dd46133005449df6fc1f9ee2ec24258e953c7dd9f51af768309a6dbe071255e", func := "loop.example/g01097/laws.FnExactDepthOf", spec := "fnExactDepthOf", apart := false }
def FnExactDepthOfSaid : Prop := fnExactDepthOfRow.holds Try.pinned (OpenSpec.ofChange fnExactDepthOfSpec)

/-- ITS FALSE NEIGHBOUR: 'it returns false'. Refute it at one input. -/
def fnExactDepthOfWrong : ChangeSpec := { name := "fnExactDepthOf", fn := fun _ => fun
  | [d1, d2] => { results := [.lit (.bool false)], args := [d1, d2] }
  | _ => none }
def FnExactDepthOfWrongFalsely : Prop := fnExactDepthOfRow.holds Try.pinned (OpenSpec.ofChange fnExactDepthOfWrong)

/-- 'laws.FnExactParenthesesOf': WHATEVER THE INPUT: true; the input reads as it did. -/
def fnExactParenthesesOfSpec : ChangeSpec := { name := "fnExactParenthesesOf", fn := fun _ => fun
  | [d] => { results := [.lit (.bool true)], args := [d] }
  | _ => none }
def fnExactParenthesesOfRow : OpenClaim := { program := "ytmampgkhobbdcab", sum := "4dd46133005449df6fc1f9ee2ec24258e953c7dd9f51af768309a6dbe071255e", func := "loop.example/g01097/laws.FnExactParenthesesOf", spec := "fnExactParenthesesOf", apart := false }
def FnExactParenthesesOfSaid : Prop := fnExactParenthesesOfRow.holds Try.pinned (OpenSpec.ofChange fnExactParenthesesOfSpec)

/-- ITS FALSE NEIGHBOUR: 'it returns false'. Refute it at one input. -/
def fnExactParenthesesOfWrong : ChangeSpec := { name := "fnExactParenthesesOf", fn := fun _ => fun
  | [d] => { results := [.lit (.bool false)], args := [d] }
  | _ => none }
def FnExactParenthesesOfWrongFalsely : Prop := fnExactParenthesesOfRow.holds Try.pinned (OpenSpec.ofChange fnExactParenthesesOfWrong)

/-- 'laws.FnExactParentsOf': WHATEVER THE INPUT: true; the input reads as it did. -/
def fnExactParentsOfSpec : ChangeSpec := { name := "fnExactParentsOf", fn := fun _ => fun
  | [d] => { results := [.lit (.bool true)], args := [d] }
  | _ => none }
def fnExactParentsOfRow : OpenClaim := { program := "ytmampgkhobbdcab", sum := "4dd46133005449df6fc1f9ee2ec24258e953c7dd9f51af768309a6dbe071255e", func := "loop.example/g01097/laws.FnExactParentsOf", spec := "fnExactParentsOf", apart := false }
def FnExactParentsOfSaid : Prop := fnExactParentsOfRow.holds Try.pinned (OpenSpec.ofChange fnExactParentsOfSpec)

/-- ITS FALSE NEIGHBOUR: 'it returns false'. Refute it at one input. -/
def fnExactParentsOfWrong : ChangeSpec := { name := "fnExactParentsOf", fn := fun _ => fun
  | [d] => { results := [.lit (.bool false)], args := [d] }
  | _ => none }
def FnExactParentsOfWrongFalsely : Prop := fnExactParentsOfRow.holds Try.pinned (OpenSpec.ofChange fnExactParentsOfWrong)

/- THE SECOND FORM. 'bulk': how many values and letters a reading holds, each counted each time it is reached (what is shared counts as often as it is met; a slice's spare places count too). A statement '..UptoSaid' is the law's where the arguments, and the package variables that the reading takes, are together of bulk at most 1048576: NARROWER than '..Said'. Prove '..Said' where nothing that the law and all that it calls make is longer than what came in: it says more and counts as full. Else prove '..UptoSaid'. A law counts once. -/
mutual
def uptoBulk {H : Type} : DataW H → Nat
  | .lit (.string bytes) => bytes.length + 1
  | .lit _ => 1
  | .nil => 1
  | .ptr d => uptoBulk d + 1
  | .slice elems spare => uptoBulkAll elems + uptoBulkAll spare + 1
  | .agg parts => uptoBulkAll parts + 1
  | .iface _ d => uptoBulk d + 1
  | .map entries => uptoBulkEntries entries + 1
  | .held _ => 1
def uptoBulkAll {H : Type} : List (DataW H) → Nat
  | [] => 0
  | d :: r => uptoBulk d + uptoBulkAll r
def uptoBulkEntries {H : Type} : List (Lit × DataW H) → Nat
  | [] => 0
  | x :: r => uptoBulkEntry x + uptoBulkEntries r
def uptoBulkEntry {H : Type} : Lit × DataW H → Nat
  | (.string bytes, d) => bytes.length + uptoBulk d + 1
  | (_, d) => uptoBulk d + 1
 end
def uptoSmall : (H : Type) → List (DataW H) → Bool := fun _ ds => decide (uptoBulkAll ds ≤ 1048576)
def OpenSpec.upto (s : _root_.Go.ChangeSpec) : _root_.Go.OpenSpec := { _root_.Go.OpenSpec.ofChange s with cond := some uptoSmall }

/-- 'laws.FnExactIsBalanced', WHERE WHAT IT READS IS OF BULK AT MOST 1048576: true; the input reads as it did. -/
def fnExactIsBalancedUptoRow : OpenClaim := { program := "ytmampgkhobbdcab", sum := "4dd46133005449df6fc1f9ee2ec24258e953c7dd9f51af768309a6dbe071255e", func := "loop.example/g01097/laws.FnExactIsBalanced", spec := "fnExactIsBalanced", apart := false, narrowed := true }
def FnExactIsBalancedUptoSaid : Prop := fnExactIsBalancedUptoRow.holds Try.pinned (OpenSpec.upto fnExactIsBalancedSpec)

/-- 'laws.FnExactExcessAt', WHERE WHAT IT READS IS OF BULK AT MOST 1048576: true; the input reads as it did. -/
def fnExactExcessAtUptoRow : OpenClaim := { program := "ytmampgkhobbdcab", sum := "4dd46133005449df6fc1f9ee2ec24258e953c7dd9f51af768309a6dbe071255e", func := "loop.example/g01097/laws.FnExactExcessAt", spec := "fnExactExcessAt", apart := false, narrowed := true }
def FnExactExcessAtUptoSaid : Prop := fnExactExcessAtUptoRow.holds Try.pinned (OpenSpec.upto fnExactExcessAtSpec)

/-- 'laws.FnExactCloseOf', WHERE WHAT IT READS IS OF BULK AT MOST 1048576: true; the input reads as it did. -/
def fnExactCloseOfUptoRow : OpenClaim := { program := "ytmampgkhobbdcab", sum := "4dd46133005449df6fc1f9ee2ec24258e953c7dd9f51af768309a6dbe071255e", func := "loop.example/g01097/laws.FnExactCloseOf", spec := "fnExactCloseOf", apart := false, narrowed := true }
def FnExactCloseOfUptoSaid : Prop := fnExactCloseOfUptoRow.holds Try.pinned (OpenSpec.upto fnExactCloseOfSpec)

/-- 'laws.FnExactOpenOf', WHERE WHAT IT READS IS OF BULK AT MOST 1048576: true; the input reads as it did. -/
def fnExactOpenOfUptoRow : OpenClaim := { program := "ytmampgkhobbdcab", sum := "4dd46133005449df6fc1f9ee2ec24258e953c7dd9f51af768309a6dbe071255e", func := "loop.example/g01097/laws.FnExactOpenOf", spec := "fnExactOpenOf", apart := false, narrowed := true }
def FnExactOpenOfUptoSaid : Prop := fnExactOpenOfUptoRow.holds Try.pinned (OpenSpec.upto fnExactOpenOfSpec)

/-- 'laws.FnExactEnclosingOf', WHERE WHAT IT READS IS OF BULK AT MOST 1048576: true; the input reads as it did. -/
def fnExactEnclosingOfUptoRow : OpenClaim := { program := "ytmampgkhobbdcab", sum := "4dd46133005449df6fc1f9ee2ec24258e953c7dd9f51af768309a6dbe071255e", func := "loop.example/g01097/laws.FnExactEnclosingOf", spec := "fnExactEnclosingOf", apart := false, narrowed := true }
def FnExactEnclosingOfUptoSaid : Prop := fnExactEnclosingOfUptoRow.holds Try.pinned (OpenSpec.upto fnExactEnclosingOfSpec)

/-- 'laws.FnExactDepthOf', WHERE WHAT IT READS IS OF BULK AT MOST 1048576: true; the input reads as it did. -/
def fnExactDepthOfUptoRow : OpenClaim := { program := "ytmampgkhobbdcab", sum := "4dd46133005449df6fc1f9ee2ec24258e953c7dd9f51af768309a6dbe071255e", func := "loop.example/g01097/laws.FnExactDepthOf", spec := "fnExactDepthOf", apart := false, narrowed := true }
def FnExactDepthOfUptoSaid : Prop := fnExactDepthOfUptoRow.holds Try.pinned (OpenSpec.upto fnExactDepthOfSpec)

/-- 'laws.FnExactParenthesesOf', WHERE WHAT IT READS IS OF BULK AT MOST 1048576: true; the input reads as it did. -/
def fnExactParenthesesOfUptoRow : OpenClaim := { program := "ytmampgkhobbdcab", sum := "4dd46133005449df6fc1f9ee2ec24258e953c7dd9f51af768309a6dbe071255e", func := "loop.example/g01097/laws.FnExactParenthesesOf", spec := "fnExactParenthesesOf", apart := false, narrowed := true }
def FnExactParenthesesOfUptoSaid : Prop := fnExactParenthesesOfUptoRow.holds Try.pinned (OpenSpec.upto fnExactParenthesesOfSpec)

/-- 'laws.FnExactParentsOf', WHERE WHAT IT READS IS OF BULK AT MOST 1048576: true; the input reads as it did. -/
def fnExactParentsOfUptoRow : OpenClaim := { program := "ytmampgkhobbdcab", sum := "4dd46133005449df6fc1f9ee2ec24258e953c7dd9f51af768309a6dbe071255e", func := "loop.example/g01097/laws.FnExactParentsOf", spec := "fnExactParentsOf", apart := false, narrowed := true }
def FnExactParentsOfUptoSaid : Prop := fnExactParentsOfUptoRow.holds Try.pinned (OpenSpec.upto fnExactParentsOfSpec)

end Rows
end Go.Proofs.Ytmampgkhobbdcab
