/-
  No cell of these rows narrows 'for every input' (looked for: loops, veiled, ifaces, maps, wideKeys, modest, calm, conditions, laid).
  DERIVED. THE GIVEN ROWS OF THIS SEAT. 8 by the template 'for every input the law returns true; each argument reads behind the call as it read before'; 0 by the template 'total and deterministic' (their statements: YthaipemgndahfaaTotals.lean).
  GIVEN WITH THE SEED: the statements are not yours to turn. If you find one false, say at which input.
  Laid BY PROGRAM, IN A SANDBOX (cutbox-rows.mjs): the forced cells as the released guide's own fill.sh prints them over the translation c0f2a3da531d9544… (all of the seat's roots in one cut). By AI agents, Wed Nov 11 2026. No macro, syntax, notation, axiom, sorry.
-/
import Derived.Test.YthaipemgndahfaaChecked
import GoSem.Claim
import GoSem.ClaimJoined
import GoSem.ClaimMapViews
import Derived.JoinedTies
import Derived.KernelRfl
namespace Go.Proofs.Ythaipemgndahfaa
/- THE CELL 'sum', in the pinned program and in every row, IS THE sha256 OF THE DUMP (.gsa) THAT YthaipemgndahfaaProg.lean LOADS. Nothing in Lean hashes anything: it is a label: what it is worth is what the hold of that sum in a sandbox is worth. -/
noncomputable def Try.pinned : Pinned := { name := "ythaipemgndahfaa", sum := "c0f2a3da531d9544bb6d62a756c42e8517b15b1f0a991137ab4c35b34e62a8a7", checked := Try.checked }
namespace Rows
def none {H : Type} : Left H := { results := [], args := [] }

/-- 'laws.FnExactBuildFront': WHATEVER THE INPUT: true; the input reads as it did. -/
def fnExactBuildFrontSpec : ChangeSpec := { name := "fnExactBuildFront", fn := fun _ => fun
  | [d1, d2] => { results := [.lit (.bool true)], args := [d1, d2] }
  | _ => none }
def fnExactBuildFrontRow : OpenClaim := { program := "ythaipemgndahfaa", sum := "c0f2a3da531d9544bb6d62a756c42e8517b15b1f0a991137ab4c35b34e62a8a7", func := "loop.example/g01097/laws.FnExactBuildFront", spec := "fnExactBuildFront", apart := false }
def FnExactBuildFrontSaid : Prop := fnExactBuildFrontRow.holds Try.pinned (OpenSpec.ofChange fnExactBuildFrontSpec)

/-- ITS FALSE NEIGHBOUR: 'it returns false'. Refute it at one input. -/
def fnExactBuildFrontWrong : ChangeSpec := { name := "fnExactBuildFront", fn := fun _ => fun
  | [d1, d2] => { results := [.lit (.bool false)], args := [d1, d2] }
  | _ => none }
def FnExactBuildFrontWrongFalsely : Prop := fnExactBuildFrontRow.holds Try.pinned (OpenSpec.ofChange fnExactBuildFrontWrong)

/-- 'laws.FnExactIsFront': WHATEVER THE INPUT: true; the input reads as it did. -/
def fnExactIsFrontSpec : ChangeSpec := { name := "fnExactIsFront", fn := fun _ => fun
  | [d] => { results := [.lit (.bool true)], args := [d] }
  | _ => none }
def fnExactIsFrontRow : OpenClaim := { program := "ythaipemgndahfaa", sum := "c0f2a3da531d9544bb6d62a756c42e8517b15b1f0a991137ab4c35b34e62a8a7", func := "loop.example/g01097/laws.FnExactIsFront", spec := "fnExactIsFront", apart := false }
def FnExactIsFrontSaid : Prop := fnExactIsFrontRow.holds Try.pinned (OpenSpec.ofChange fnExactIsFrontSpec)

/-- ITS FALSE NEIGHBOUR: 'it returns false'. Refute it at one input. -/
def fnExactIsFrontWrong : ChangeSpec := { name := "fnExactIsFront", fn := fun _ => fun
  | [d] => { results := [.lit (.bool false)], args := [d] }
  | _ => none }
def FnExactIsFrontWrongFalsely : Prop := fnExactIsFrontRow.holds Try.pinned (OpenSpec.ofChange fnExactIsFrontWrong)

/-- 'laws.FnExactFrontKey': WHATEVER THE INPUT: true; the input reads as it did. -/
def fnExactFrontKeySpec : ChangeSpec := { name := "fnExactFrontKey", fn := fun _ => fun
  | [d1, d2] => { results := [.lit (.bool true)], args := [d1, d2] }
  | _ => none }
def fnExactFrontKeyRow : OpenClaim := { program := "ythaipemgndahfaa", sum := "c0f2a3da531d9544bb6d62a756c42e8517b15b1f0a991137ab4c35b34e62a8a7", func := "loop.example/g01097/laws.FnExactFrontKey", spec := "fnExactFrontKey", apart := false }
def FnExactFrontKeySaid : Prop := fnExactFrontKeyRow.holds Try.pinned (OpenSpec.ofChange fnExactFrontKeySpec)

/-- ITS FALSE NEIGHBOUR: 'it returns false'. Refute it at one input. -/
def fnExactFrontKeyWrong : ChangeSpec := { name := "fnExactFrontKey", fn := fun _ => fun
  | [d1, d2] => { results := [.lit (.bool false)], args := [d1, d2] }
  | _ => none }
def FnExactFrontKeyWrongFalsely : Prop := fnExactFrontKeyRow.holds Try.pinned (OpenSpec.ofChange fnExactFrontKeyWrong)

/-- 'laws.FnExactFrontRank': WHATEVER THE INPUT: true; the input reads as it did. -/
def fnExactFrontRankSpec : ChangeSpec := { name := "fnExactFrontRank", fn := fun _ => fun
  | [d1, d2] => { results := [.lit (.bool true)], args := [d1, d2] }
  | _ => none }
def fnExactFrontRankRow : OpenClaim := { program := "ythaipemgndahfaa", sum := "c0f2a3da531d9544bb6d62a756c42e8517b15b1f0a991137ab4c35b34e62a8a7", func := "loop.example/g01097/laws.FnExactFrontRank", spec := "fnExactFrontRank", apart := false }
def FnExactFrontRankSaid : Prop := fnExactFrontRankRow.holds Try.pinned (OpenSpec.ofChange fnExactFrontRankSpec)

/-- ITS FALSE NEIGHBOUR: 'it returns false'. Refute it at one input. -/
def fnExactFrontRankWrong : ChangeSpec := { name := "fnExactFrontRank", fn := fun _ => fun
  | [d1, d2] => { results := [.lit (.bool false)], args := [d1, d2] }
  | _ => none }
def FnExactFrontRankWrongFalsely : Prop := fnExactFrontRankRow.holds Try.pinned (OpenSpec.ofChange fnExactFrontRankWrong)

/-- 'laws.FnExactFrontHas': WHATEVER THE INPUT: true; the input reads as it did. -/
def fnExactFrontHasSpec : ChangeSpec := { name := "fnExactFrontHas", fn := fun _ => fun
  | [d1, d2] => { results := [.lit (.bool true)], args := [d1, d2] }
  | _ => none }
def fnExactFrontHasRow : OpenClaim := { program := "ythaipemgndahfaa", sum := "c0f2a3da531d9544bb6d62a756c42e8517b15b1f0a991137ab4c35b34e62a8a7", func := "loop.example/g01097/laws.FnExactFrontHas", spec := "fnExactFrontHas", apart := false }
def FnExactFrontHasSaid : Prop := fnExactFrontHasRow.holds Try.pinned (OpenSpec.ofChange fnExactFrontHasSpec)

/-- ITS FALSE NEIGHBOUR: 'it returns false'. Refute it at one input. -/
def fnExactFrontHasWrong : ChangeSpec := { name := "fnExactFrontHas", fn := fun _ => fun
  | [d1, d2] => { results := [.lit (.bool false)], args := [d1, d2] }
  | _ => none }
def FnExactFrontHasWrongFalsely : Prop := fnExactFrontHasRow.holds Try.pinned (OpenSpec.ofChange fnExactFrontHasWrong)

/-- 'laws.FnExactFrontBytes': WHATEVER THE INPUT: true; the input reads as it did. -/
def fnExactFrontBytesSpec : ChangeSpec := { name := "fnExactFrontBytes", fn := fun _ => fun
  | [d] => { results := [.lit (.bool true)], args := [d] }
  | _ => none }
def fnExactFrontBytesRow : OpenClaim := { program := "ythaipemgndahfaa", sum := "c0f2a3da531d9544bb6d62a756c42e8517b15b1f0a991137ab4c35b34e62a8a7", func := "loop.example/g01097/laws.FnExactFrontBytes", spec := "fnExactFrontBytes", apart := false }
def FnExactFrontBytesSaid : Prop := fnExactFrontBytesRow.holds Try.pinned (OpenSpec.ofChange fnExactFrontBytesSpec)

/-- ITS FALSE NEIGHBOUR: 'it returns false'. Refute it at one input. -/
def fnExactFrontBytesWrong : ChangeSpec := { name := "fnExactFrontBytes", fn := fun _ => fun
  | [d] => { results := [.lit (.bool false)], args := [d] }
  | _ => none }
def FnExactFrontBytesWrongFalsely : Prop := fnExactFrontBytesRow.holds Try.pinned (OpenSpec.ofChange fnExactFrontBytesWrong)

/-- 'laws.FnExactMergeFronts': WHATEVER THE INPUT: true; the input reads as it did. -/
def fnExactMergeFrontsSpec : ChangeSpec := { name := "fnExactMergeFronts", fn := fun _ => fun
  | [d1, d2] => { results := [.lit (.bool true)], args := [d1, d2] }
  | _ => none }
def fnExactMergeFrontsRow : OpenClaim := { program := "ythaipemgndahfaa", sum := "c0f2a3da531d9544bb6d62a756c42e8517b15b1f0a991137ab4c35b34e62a8a7", func := "loop.example/g01097/laws.FnExactMergeFronts", spec := "fnExactMergeFronts", apart := false }
def FnExactMergeFrontsSaid : Prop := fnExactMergeFrontsRow.holds Try.pinned (OpenSpec.ofChange fnExactMergeFrontsSpec)

/-- ITS FALSE NEIGHBOUR: 'it returns false'. Refute it at one input. -/
def fnExactMergeFrontsWrong : ChangeSpec := { name := "fnExactMergeFronts", fn := fun _ => fun
  | [d1, d2] => { results := [.lit (.bool false)], args := [d1, d2] }
  | _ => none }
def FnExactMergeFrontsWrongFalsely : Prop := fnExactMergeFrontsRow.holds Try.pinned (OpenSpec.ofChange fnExactMergeFrontsWrong)

/-- 'laws.FnExactBuildTrie': WHATEVER THE INPUT: true; the input reads as it did. -/
def fnExactBuildTrieSpec : ChangeSpec := { name := "fnExactBuildTrie", fn := fun _ => fun
  | [d] => { results := [.lit (.bool true)], args := [d] }
  | _ => none }
def fnExactBuildTrieRow : OpenClaim := { program := "ythaipemgndahfaa", sum := "c0f2a3da531d9544bb6d62a756c42e8517b15b1f0a991137ab4c35b34e62a8a7", func := "loop.example/g01097/laws.FnExactBuildTrie", spec := "fnExactBuildTrie", apart := false }
def FnExactBuildTrieSaid : Prop := fnExactBuildTrieRow.holds Try.pinned (OpenSpec.ofChange fnExactBuildTrieSpec)

/-- ITS FALSE NEIGHBOUR: 'it returns false'. Refute it at one input. -/
def fnExactBuildTrieWrong : ChangeSpec := { name := "fnExactBuildTrie", fn := fun _ => fun
  | [d] => { results := [.lit (.bool false)], args := [d] }
  | _ => none }
def FnExactBuildTrieWrongFalsely : Prop := fnExactBuildTrieRow.holds Try.pinned (OpenSpec.ofChange fnExactBuildTrieWrong)

/- THE SECOND FORM. 'bulk': how many values and letters a reading holds, each counted each time it is reached (what is shared counts as often as it is met; a slice's spare places count too). A statement '..UptoSaid' is the law's where the arguments, and the package variables that the reading takes, are together of bulk at most 1048576: NARROWER than '..Said'. Prove '..Said' where nothing that the law and all that it calls make is longer than what came in: it says more and counts as full. Else prove '..UptoSaid'. A law counts once. -/
mutual
def uptoBulk {H : Type} : DataW H → Nat
  | .lit (.string bytes) => bytes.length + 1
  | .lit _ => 1
  | .nil => 1
  | .ptr d => uptoBulk d + 1
  | .slice elems spare => uptoBulkAll elems + uptoBulkAll spare + 1
  | .agg parts => uptoBulkAll parts + 1
  | .iface _ d => uptoBulk d + 1
  | .map entries => uptoBulkEntries entries + 1
  | .held _ => 1
def uptoBulkAll {H : Type} : List (DataW H) → Nat
  | [] => 0
  | d :: r => uptoBulk d + uptoBulkAll r
def uptoBulkEntries {H : Type} : List (Lit × DataW H) → Nat
  | [] => 0
  | x :: r => uptoBulkEntry x + uptoBulkEntries r
def uptoBulkEntry {H : Type} : Lit × DataW H → Nat
  | (.string bytes, d) => bytes.length + uptoBulk d + 1
  | (_, d) => uptoBulk d + 1
 end
def uptoSmall : (H : Type) → List (DataW H) → Bool := fun _ ds => decide (uptoBulkAll ds ≤ 1048576)
def OpenSpec.upto (s : _root_.Go.ChangeSpec) : _root_.Go.OpenSpec := { _root_.Go.OpenSpec.ofChange s with cond := some uptoSmall }

/-- 'laws.FnExactBuildFront', WHERE WHAT IT READS IS OF BULK AT MOST 1048576: true; the input reads as it did. -/
def fnExactBuildFrontUptoRow : OpenClaim := { program := "ythaipemgndahfaa", sum := "c0f2a3da531d9544bb6d62a756c42e8517b15b1f0a991137ab4c35b34e62a8a7", func := "loop.example/g01097/laws.FnExactBuildFront", spec := "fnExactBuildFront", apart := false, narrowed := true }
def FnExactBuildFrontUptoSaid : Prop := fnExactBuildFrontUptoRow.holds Try.pinned (OpenSpec.upto fnExactBuildFrontSpec)

/-- 'laws.FnExactIsFront', WHERE WHAT IT READS IS OF BULK AT MOST 1048576: true; the input reads as it did. -/
def fnExactIsFrontUptoRow : OpenClaim := { program := "ythaipemgndahfaa", sum := "c0f2a3da531d9544bb6d62a756c42e8517b15b1f0a991137ab4c35b34e62a8a7", func := "loop.example/g01097/laws.FnExactIsFront", spec := "fnExactIsFront", apart := false, narrowed := true }
def FnExactIsFrontUptoSaid : Prop := fnExactIsFrontUptoRow.holds Try.pinned (OpenSpec.upto fnExactIsFrontSpec)

/-- 'laws.FnExactFrontKey', WHERE WHAT IT READS IS OF BULK AT MOST 1048576: true; the input reads as it did. -/
def fnExactFrontKeyUptoRow : OpenClaim := { program := "ythaipemgndahfaa", sum := "c0f2a3da531d9544bb6d62a756c42e8517b15b1f0a991137ab4c35b34e62a8a7", func := "loop.example/g01097/laws.FnExactFrontKey", spec := "fnExactFrontKey", apart := false, narrowed := true }
def FnExactFrontKeyUptoSaid : Prop := fnExactFrontKeyUptoRow.holds Try.pinned (OpenSpec.upto fnExactFrontKeySpec)

/-- 'laws.FnExactFrontRank', WHERE WHAT IT READS IS OF BULK AT MOST 1048576: true; the input reads as it did. -/
def fnExactFrontRankUptoRow : OpenClaim := { program := "ythaipemgndahfaa", sum := "c0f2a3da531d9544bb6d62a756c42e8517b15b1f0a991137ab4c35b34e62a8a7", func := "loop.example/g01097/laws.FnExactFrontRank", spec := "fnExactFrontRank", apart := false, narrowed := true }
def FnExactFrontRankUptoSaid : Prop := fnExactFrontRankUptoRow.holds Try.pinned (OpenSpec.upto fnExactFrontRankSpec)

/-- 'laws.FnExactFrontHas', WHERE WHAT IT READS IS OF BULK AT MOST 1048576: true; the input reads as it did. -/
def fnExactFrontHasUptoRow : OpenClaim := { program := "ythaipemgndahfaa", sum := "c0f2a3da531d9544bb6d62a756c42e8517b15b1f0a991137ab4c35b34e62a8a7", func := "loop.example/g01097/laws.FnExactFrontHas", spec := "fnExactFrontHas", apart := false, narrowed := true }
def FnExactFrontHasUptoSaid : Prop := fnExactFrontHasUptoRow.holds Try.pinned (OpenSpec.upto fnExactFrontHasSpec)

/-- 'laws.FnExactFrontBytes', WHERE WHAT IT READS IS OF BULK AT MOST 1048576: true; the input reads as it did. -/
def fnExactFrontBytesUptoRow : OpenClaim := { program := "ythaipemgndahfaa", sum := "c0f2a3da531d9544bb6d62a756c42e8517b15b1f0a991137ab4c35b34e62a8a7", func := "loop.example/g01097/laws.FnExactFrontBytes", spec := "fnExactFrontBytes", apart := false, narrowed := true }
def FnExactFrontBytesUptoSaid : Prop := fnExactFrontBytesUptoRow.holds Try.pinned (OpenSpec.upto fnExactFrontBytesSpec)

/-- 'laws.FnExactMergeFronts', WHERE WHAT IT READS IS OF BULK AT MOST 1048576: true; the input reads as it did. -/
def fnExactMergeFrontsUptoRow : OpenClaim := { program := "ythaipemgndahfaa", sum := "c0f2a3da531d9544bb6d62a756c42e8517b15b1f0a991137ab4c35b34e62a8a7", func := "loop.example/g01097/laws.FnExactMergeFronts", spec := "fnExactMergeFronts", apart := false, narrowed := true }
def FnExactMergeFrontsUptoSaid : Prop := fnExactMergeFrontsUptoRow.holds Try.pinned (OpenSpec.upto fnExactMergeFrontsSpec)

/-- 'laws.FnExactBuildTrie', WHERE WHAT IT READS IS OF BULK AT MOST 1048576: true; the input reads as it did. -/
def fnExactBuildTrieUptoRow : OpenClaim := { program := "ythaipemgndahfaa", sum := "c0f2a3da531d9544bb6d62a756c42e8517b15b1f0a991137ab4c35b34e62a8a7", func := "loop.example/g01097/laws.FnExactBuildTrie", spec := "fnExactBuildTrie", apart := false, narrowed := true }
def FnExactBuildTrieUptoSaid : Prop := fnExactBuildTrieUptoRow.holds Try.pinned (OpenSpec.upto fnExactBuildTrieSpec)

end Rows
end Go.Proofs.Ythaipemgndahfaa
