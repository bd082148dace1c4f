/-
  No cell of these rows narrows 'for every input' (looked for: loops, veiled, ifaces, maps, wideKeys, modest, calm, conditions, laid).
  DERIVED. THE GIVEN ROWS OF THIS SEAT. 9 by the template 'for every input the law returns true; each argument reads behind the call as it read before'; 0 by the template 'total and deterministic' (their statements: YtdkkflejpcgipabTotals.lean).
  GIVEN WITH THE SEED: the statements are not yours to turn. If you find one false, say at which input.
  Laid BY PROGRAM, IN A SANDBOX (cutbox-rows.mjs): the forced cells as the released guide's own fill.sh prints them over the translation d4fad3d1ec6509af… (all of the seat's roots in one cut). By AI agents, Wed Nov 11 2026. No macro, syntax, notation, axiom, sorry.
-/
import Derived.Test.YtdkkflejpcgipabChecked
import GoSem.Claim
import GoSem.ClaimJoined
import GoSem.ClaimMapViews
import Derived.JoinedTies
import Derived.KernelRfl
namespace Go.Proofs.Ytdkkflejpcgipab
/- THE CELL 'sum', in the pinned program and in every row, IS THE sha256 OF THE DUMP (.gsa) THAT YtdkkflejpcgipabProg.lean LOADS. Nothing in Lean hashes anything: it is a label: what it is worth is what the hold of that sum in a sandbox is worth. -/
noncomputable def Try.pinned : Pinned := { name := "ytdkkflejpcgipab", sum := "d4fad3d1ec6509afebc393d386993f6a63ec424910e0d7497183ce46215b0ccb", checked := Try.checked }
namespace Rows
def none {H : Type} : Left H := { results := [], args := [] }

/-- 'laws.FnExactGammaLength': WHATEVER THE INPUT: true; the input reads as it did. -/
def fnExactGammaLengthSpec : ChangeSpec := { name := "fnExactGammaLength", fn := fun _ => fun
  | [d] => { results := [.lit (.bool true)], args := [d] }
  | _ => none }
def fnExactGammaLengthRow : OpenClaim := { program := "ytdkkflejpcgipab", sum := "d4fad3d1ec6509afebc393d386993f6a63ec424910e0d7497183ce46215b0ccb", func := "loop.example/g01097/laws.FnExactGammaLength", spec := "fnExactGammaLength", apart := false }
def FnExactGammaLengthSaid : Prop := fnExactGammaLengthRow.holds Try.pinned (OpenSpec.ofChange fnExactGammaLengthSpec)

/-- ITS FALSE NEIGHBOUR: 'it returns false'. Refute it at one input. -/
def fnExactGammaLengthWrong : ChangeSpec := { name := "fnExactGammaLength", fn := fun _ => fun
  | [d] => { results := [.lit (.bool false)], args := [d] }
  | _ => none }
def FnExactGammaLengthWrongFalsely : Prop := fnExactGammaLengthRow.holds Try.pinned (OpenSpec.ofChange fnExactGammaLengthWrong)

/-- 'laws.FnExactDeltaLength': WHATEVER THE INPUT: true; the input reads as it did. -/
def fnExactDeltaLengthSpec : ChangeSpec := { name := "fnExactDeltaLength", fn := fun _ => fun
  | [d] => { results := [.lit (.bool true)], args := [d] }
  | _ => none }
def fnExactDeltaLengthRow : OpenClaim := { program := "ytdkkflejpcgipab", sum := "d4fad3d1ec6509afebc393d386993f6a63ec424910e0d7497183ce46215b0ccb", func := "loop.example/g01097/laws.FnExactDeltaLength", spec := "fnExactDeltaLength", apart := false }
def FnExactDeltaLengthSaid : Prop := fnExactDeltaLengthRow.holds Try.pinned (OpenSpec.ofChange fnExactDeltaLengthSpec)

/-- ITS FALSE NEIGHBOUR: 'it returns false'. Refute it at one input. -/
def fnExactDeltaLengthWrong : ChangeSpec := { name := "fnExactDeltaLength", fn := fun _ => fun
  | [d] => { results := [.lit (.bool false)], args := [d] }
  | _ => none }
def FnExactDeltaLengthWrongFalsely : Prop := fnExactDeltaLengthRow.holds Try.pinned (OpenSpec.ofChange fnExactDeltaLengthWrong)

/-- 'laws.FnExactEncodeGamma': WHATEVER THE INPUT: true; the input reads as it did. -/
def fnExactEncodeGammaSpec : ChangeSpec := { name := "fnExactEncodeGamma", fn := fun _ => fun
  | [d] => { results := [.lit (.bool true)], args := [d] }
  | _ => none }
def fnExactEncodeGammaRow : OpenClaim := { program := "ytdkkflejpcgipab", sum := "d4fad3d1ec6509afebc393d386993f6a63ec424910e0d7497183ce46215b0ccb", func := "loop.example/g01097/laws.FnExactEncodeGamma", spec := "fnExactEncodeGamma", unfollowed := true, recurses := true, apart := false }
def FnExactEncodeGammaSaid : Prop := fnExactEncodeGammaRow.holds Try.pinned (OpenSpec.ofChange fnExactEncodeGammaSpec)

/-- ITS FALSE NEIGHBOUR: 'it returns false'. Refute it at one input. -/
def fnExactEncodeGammaWrong : ChangeSpec := { name := "fnExactEncodeGamma", fn := fun _ => fun
  | [d] => { results := [.lit (.bool false)], args := [d] }
  | _ => none }
def FnExactEncodeGammaWrongFalsely : Prop := fnExactEncodeGammaRow.holds Try.pinned (OpenSpec.ofChange fnExactEncodeGammaWrong)

/-- 'laws.FnExactDecodeGamma': WHATEVER THE INPUT: true; the input reads as it did. -/
def fnExactDecodeGammaSpec : ChangeSpec := { name := "fnExactDecodeGamma", fn := fun _ => fun
  | [d1, d2] => { results := [.lit (.bool true)], args := [d1, d2] }
  | _ => none }
def fnExactDecodeGammaRow : OpenClaim := { program := "ytdkkflejpcgipab", sum := "d4fad3d1ec6509afebc393d386993f6a63ec424910e0d7497183ce46215b0ccb", func := "loop.example/g01097/laws.FnExactDecodeGamma", spec := "fnExactDecodeGamma", unfollowed := true, recurses := true, apart := false }
def FnExactDecodeGammaSaid : Prop := fnExactDecodeGammaRow.holds Try.pinned (OpenSpec.ofChange fnExactDecodeGammaSpec)

/-- ITS FALSE NEIGHBOUR: 'it returns false'. Refute it at one input. -/
def fnExactDecodeGammaWrong : ChangeSpec := { name := "fnExactDecodeGamma", fn := fun _ => fun
  | [d1, d2] => { results := [.lit (.bool false)], args := [d1, d2] }
  | _ => none }
def FnExactDecodeGammaWrongFalsely : Prop := fnExactDecodeGammaRow.holds Try.pinned (OpenSpec.ofChange fnExactDecodeGammaWrong)

/-- 'laws.FnExactEncodeDelta': WHATEVER THE INPUT: true; the input reads as it did. -/
def fnExactEncodeDeltaSpec : ChangeSpec := { name := "fnExactEncodeDelta", fn := fun _ => fun
  | [d] => { results := [.lit (.bool true)], args := [d] }
  | _ => none }
def fnExactEncodeDeltaRow : OpenClaim := { program := "ytdkkflejpcgipab", sum := "d4fad3d1ec6509afebc393d386993f6a63ec424910e0d7497183ce46215b0ccb", func := "loop.example/g01097/laws.FnExactEncodeDelta", spec := "fnExactEncodeDelta", unfollowed := true, recurses := true, apart := false }
def FnExactEncodeDeltaSaid : Prop := fnExactEncodeDeltaRow.holds Try.pinned (OpenSpec.ofChange fnExactEncodeDeltaSpec)

/-- ITS FALSE NEIGHBOUR: 'it returns false'. Refute it at one input. -/
def fnExactEncodeDeltaWrong : ChangeSpec := { name := "fnExactEncodeDelta", fn := fun _ => fun
  | [d] => { results := [.lit (.bool false)], args := [d] }
  | _ => none }
def FnExactEncodeDeltaWrongFalsely : Prop := fnExactEncodeDeltaRow.holds Try.pinned (OpenSpec.ofChange fnExactEncodeDeltaWrong)

/-- 'laws.FnExactDecodeDelta': WHATEVER THE INPUT: true; the input reads as it did. -/
def fnExactDecodeDeltaSpec : ChangeSpec := { name := "fnExactDecodeDelta", fn := fun _ => fun
  | [d1, d2] => { results := [.lit (.bool true)], args := [d1, d2] }
  | _ => none }
def fnExactDecodeDeltaRow : OpenClaim := { program := "ytdkkflejpcgipab", sum := "d4fad3d1ec6509afebc393d386993f6a63ec424910e0d7497183ce46215b0ccb", func := "loop.example/g01097/laws.FnExactDecodeDelta", spec := "fnExactDecodeDelta", unfollowed := true, recurses := true, apart := false }
def FnExactDecodeDeltaSaid : Prop := fnExactDecodeDeltaRow.holds Try.pinned (OpenSpec.ofChange fnExactDecodeDeltaSpec)

/-- ITS FALSE NEIGHBOUR: 'it returns false'. Refute it at one input. -/
def fnExactDecodeDeltaWrong : ChangeSpec := { name := "fnExactDecodeDelta", fn := fun _ => fun
  | [d1, d2] => { results := [.lit (.bool false)], args := [d1, d2] }
  | _ => none }
def FnExactDecodeDeltaWrongFalsely : Prop := fnExactDecodeDeltaRow.holds Try.pinned (OpenSpec.ofChange fnExactDecodeDeltaWrong)

/-- 'laws.FnExactGapsOf': WHATEVER THE INPUT: true; the input reads as it did. -/
def fnExactGapsOfSpec : ChangeSpec := { name := "fnExactGapsOf", fn := fun _ => fun
  | [d] => { results := [.lit (.bool true)], args := [d] }
  | _ => none }
def fnExactGapsOfRow : OpenClaim := { program := "ytdkkflejpcgipab", sum := "d4fad3d1ec6509afebc393d386993f6a63ec424910e0d7497183ce46215b0ccb", func := "loop.example/g01097/laws.FnExactGapsOf", spec := "fnExactGapsOf", apart := false }
def FnExactGapsOfSaid : Prop := fnExactGapsOfRow.holds Try.pinned (OpenSpec.ofChange fnExactGapsOfSpec)

/-- ITS FALSE NEIGHBOUR: 'it returns false'. Refute it at one input. -/
def fnExactGapsOfWrong : ChangeSpec := { name := "fnExactGapsOf", fn := fun _ => fun
  | [d] => { results := [.lit (.bool false)], args := [d] }
  | _ => none }
def FnExactGapsOfWrongFalsely : Prop := fnExactGapsOfRow.holds Try.pinned (OpenSpec.ofChange fnExactGapsOfWrong)

/-- 'laws.FnExactFromGaps': WHATEVER THE INPUT: true; the input reads as it did. -/
def fnExactFromGapsSpec : ChangeSpec := { name := "fnExactFromGaps", fn := fun _ => fun
  | [d] => { results := [.lit (.bool true)], args := [d] }
  | _ => none }
def fnExactFromGapsRow : OpenClaim := { program := "ytdkkflejpcgipab", sum := "d4fad3d1ec6509afebc393d386993f6a63ec424910e0d7497183ce46215b0ccb", func := "loop.example/g01097/laws.FnExactFromGaps", spec := "fnExactFromGaps", apart := false }
def FnExactFromGapsSaid : Prop := fnExactFromGapsRow.holds Try.pinned (OpenSpec.ofChange fnExactFromGapsSpec)

/-- ITS FALSE NEIGHBOUR: 'it returns false'. Refute it at one input. -/
def fnExactFromGapsWrong : ChangeSpec := { name := "fnExactFromGaps", fn := fun _ => fun
  | [d] => { results := [.lit (.bool false)], args := [d] }
  | _ => none }
def FnExactFromGapsWrongFalsely : Prop := fnExactFromGapsRow.holds Try.pinned (OpenSpec.ofChange fnExactFromGapsWrong)

/-- 'laws.FnExactUnpackDirectory': WHATEVER THE INPUT: true; the input reads as it did. -/
def fnExactUnpackDirectorySpec : ChangeSpec := { name := "fnExactUnpackDirectory", fn := fun _ => fun
  | [d1, d2] => { results := [.lit (.bool true)], args := [d1, d2] }
  | _ => none }
def fnExactUnpackDirectoryRow : OpenClaim := { program := "ytdkkflejpcgipab", sum := "d4fad3d1ec6509afebc393d386993f6a63ec424910e0d7497183ce46215b0ccb", func := "loop.example/g01097/laws.FnExactUnpackDirectory", spec := "fnExactUnpackDirectory", apart := false }
def FnExactUnpackDirectorySaid : Prop := fnExactUnpackDirectoryRow.holds Try.pinned (OpenSpec.ofChange fnExactUnpackDirectorySpec)

/-- ITS FALSE NEIGHBOUR: 'it returns false'. Refute it at one input. -/
def fnExactUnpackDirectoryWrong : ChangeSpec := { name := "fnExactUnpackDirectory", fn := fun _ => fun
  | [d1, d2] => { results := [.lit (.bool false)], args := [d1, d2] }
  | _ => none }
def FnExactUnpackDirectoryWrongFalsely : Prop := fnExactUnpackDirectoryRow.holds Try.pinned (OpenSpec.ofChange fnExactUnpackDirectoryWrong)

/- THE SECOND FORM. 'bulk': how many values and letters a reading holds, each counted each time it is reached (what is shared counts as often as it is met; a slice's spare places count too). A statement '..UptoSaid' is the law's where the arguments, and the package variables that the reading takes, are together of bulk at most 1048576: NARROWER than '..Said'. Prove '..Said' where nothing that the law and all that it calls make is longer than what came in: it says more and counts as full. Else prove '..UptoSaid'. A law counts once. -/
mutual
def uptoBulk {H : Type} : DataW H → Nat
  | .lit (.string bytes) => bytes.length + 1
  | .lit _ => 1
  | .nil => 1
  | .ptr d => uptoBulk d + 1
  | .slice elems spare => uptoBulkAll elems + uptoBulkAll spare + 1
  | .agg parts => uptoBulkAll parts + 1
  | .iface _ d => uptoBulk d + 1
  | .map entries => uptoBulkEntries entries + 1
  | .held _ => 1
def uptoBulkAll {H : Type} : List (DataW H) → Nat
  | [] => 0
  | d :: r => uptoBulk d + uptoBulkAll r
def uptoBulkEntries {H : Type} : List (Lit × DataW H) → Nat
  | [] => 0
  | x :: r => uptoBulkEntry x + uptoBulkEntries r
def uptoBulkEntry {H : Type} : Lit × DataW H → Nat
  | (.string bytes, d) => bytes.length + uptoBulk d + 1
  | (_, d) => uptoBulk d + 1
 end
def uptoSmall : (H : Type) → List (DataW H) → Bool := fun _ ds => decide (uptoBulkAll ds ≤ 1048576)
def OpenSpec.upto (s : _root_.Go.ChangeSpec) : _root_.Go.OpenSpec := { _root_.Go.OpenSpec.ofChange s with cond := some uptoSmall }

/-- 'laws.FnExactGammaLength', WHERE WHAT IT READS IS OF BULK AT MOST 1048576: true; the input reads as it did. -/
def fnExactGammaLengthUptoRow : OpenClaim := { program := "ytdkkflejpcgipab", sum := "d4fad3d1ec6509afebc393d386993f6a63ec424910e0d7497183ce46215b0ccb", func := "loop.example/g01097/laws.FnExactGammaLength", spec := "fnExactGammaLength", apart := false, narrowed := true }
def FnExactGammaLengthUptoSaid : Prop := fnExactGammaLengthUptoRow.holds Try.pinned (OpenSpec.upto fnExactGammaLengthSpec)

/-- 'laws.FnExactDeltaLength', WHERE WHAT IT READS IS OF BULK AT MOST 1048576: true; the input reads as it did. -/
def fnExactDeltaLengthUptoRow : OpenClaim := { program := "ytdkkflejpcgipab", sum := "d4fad3d1ec6509afebc393d386993f6a63ec424910e0d7497183ce46215b0ccb", func := "loop.example/g01097/laws.FnExactDeltaLength", spec := "fnExactDeltaLength", apart := false, narrowed := true }
def FnExactDeltaLengthUptoSaid : Prop := fnExactDeltaLengthUptoRow.holds Try.pinned (OpenSpec.upto fnExactDeltaLengthSpec)

/-- 'laws.FnExactEncodeGamma', WHERE WHAT IT READS IS OF BULK AT MOST 1048576: true; the input reads as it did. -/
def fnExactEncodeGammaUptoRow : OpenClaim := { program := "ytdkkflejpcgipab", sum := "d4fad3d1ec6509afebc393d386993f6a63ec424910e0d7497183ce46215b0ccb", func := "loop.example/g01097/laws.FnExactEncodeGamma", spec := "fnExactEncodeGamma", unfollowed := true, recurses := true, apart := false, narrowed := true }
def FnExactEncodeGammaUptoSaid : Prop := fnExactEncodeGammaUptoRow.holds Try.pinned (OpenSpec.upto fnExactEncodeGammaSpec)

/-- 'laws.FnExactDecodeGamma', WHERE WHAT IT READS IS OF BULK AT MOST 1048576: true; the input reads as it did. -/
def fnExactDecodeGammaUptoRow : OpenClaim := { program := "ytdkkflejpcgipab", sum := "d4fad3d1ec6509afebc393d386993f6a63ec424910e0d7497183ce46215b0ccb", func := "loop.example/g01097/laws.FnExactDecodeGamma", spec := "fnExactDecodeGamma", unfollowed := true, recurses := true, apart := false, narrowed := true }
def FnExactDecodeGammaUptoSaid : Prop := fnExactDecodeGammaUptoRow.holds Try.pinned (OpenSpec.upto fnExactDecodeGammaSpec)

/-- 'laws.FnExactEncodeDelta', WHERE WHAT IT READS IS OF BULK AT MOST 1048576: true; the input reads as it did. -/
def fnExactEncodeDeltaUptoRow : OpenClaim := { program := "ytdkkflejpcgipab", sum := "d4fad3d1ec6509afebc393d386993f6a63ec424910e0d7497183ce46215b0ccb", func := "loop.example/g01097/laws.FnExactEncodeDelta", spec := "fnExactEncodeDelta", unfollowed := true, recurses := true, apart := false, narrowed := true }
def FnExactEncodeDeltaUptoSaid : Prop := fnExactEncodeDeltaUptoRow.holds Try.pinned (OpenSpec.upto fnExactEncodeDeltaSpec)

/-- 'laws.FnExactDecodeDelta', WHERE WHAT IT READS IS OF BULK AT MOST 1048576: true; the input reads as it did. -/
def fnExactDecodeDeltaUptoRow : OpenClaim := { program := "ytdkkflejpcgipab", sum := "d4fad3d1ec6509afebc393d386993f6a63ec424910e0d7497183ce46215b0ccb", func := "loop.example/g01097/laws.FnExactDecodeDelta", spec := "fnExactDecodeDelta", unfollowed := true, recurses := true, apart := false, narrowed := true }
def FnExactDecodeDeltaUptoSaid : Prop := fnExactDecodeDeltaUptoRow.holds Try.pinned (OpenSpec.upto fnExactDecodeDeltaSpec)

/-- 'laws.FnExactGapsOf', WHERE WHAT IT READS IS OF BULK AT MOST 1048576: true; the input reads as it did. -/
def fnExactGapsOfUptoRow : OpenClaim := { program := "ytdkkflejpcgipab", sum := "d4fad3d1ec6509afebc393d386993f6a63ec424910e0d7497183ce46215b0ccb", func := "loop.example/g01097/laws.FnExactGapsOf", spec := "fnExactGapsOf", apart := false, narrowed := true }
def FnExactGapsOfUptoSaid : Prop := fnExactGapsOfUptoRow.holds Try.pinned (OpenSpec.upto fnExactGapsOfSpec)

/-- 'laws.FnExactFromGaps', WHERE WHAT IT READS IS OF BULK AT MOST 1048576: true; the input reads as it did. -/
def fnExactFromGapsUptoRow : OpenClaim := { program := "ytdkkflejpcgipab", sum := "d4fad3d1ec6509afebc393d386993f6a63ec424910e0d7497183ce46215b0ccb", func := "loop.example/g01097/laws.FnExactFromGaps", spec := "fnExactFromGaps", apart := false, narrowed := true }
def FnExactFromGapsUptoSaid : Prop := fnExactFromGapsUptoRow.holds Try.pinned (OpenSpec.upto fnExactFromGapsSpec)

/-- 'laws.FnExactUnpackDirectory', WHERE WHAT IT READS IS OF BULK AT MOST 1048576: true; the input reads as it did. -/
def fnExactUnpackDirectoryUptoRow : OpenClaim := { program := "ytdkkflejpcgipab", sum := "d4fad3d1ec6509afebc393d386993f6a63ec424910e0d7497183ce46215b0ccb", func := "loop.example/g01097/laws.FnExactUnpackDirectory", spec := "fnExactUnpackDirectory", apart := false, narrowed := true }
def FnExactUnpackDirectoryUptoSaid : Prop := fnExactUnpackDirectoryUptoRow.holds Try.pinned (OpenSpec.upto fnExactUnpackDirectorySpec)

end Rows
end Go.Proofs.Ytdkkflejpcgipab
