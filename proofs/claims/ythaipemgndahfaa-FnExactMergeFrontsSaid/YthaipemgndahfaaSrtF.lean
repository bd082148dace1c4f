/- The contracts of the sort, the search and the deletion over this program, laid by the kit. -/
import Derived.Shelf.Spec.SearchS
import Derived.Ground.Names2Prog
import Derived.Shelf.Slices.CompactS
import Derived.Ground.NamesProg
import Derived.Test.YthaipemgndahfaaProg
namespace Go.Proofs
open Go.Shelf
def Ythaipemgndahfaa.laysBs_ren : Go.Shelf.Ren := ⟨fun | 26 => 54 | 33 => 72 | 34 => 73 | 38 => 80 | n => n, fun | 24 => 22 | 9 => 9 | 3 => 3 | 4 => 4 | 40 => 81 | 0 => 0 | n => n, fun | n => n⟩
theorem Ythaipemgndahfaa.laysBs : Go.Proofs.Lays2.n26 Try.prog Ythaipemgndahfaa.laysBs_ren := {
  mixed := by kernel_rfl
  f26 := Try.func54.trans (congrArg some (by kernel_rfl))
  f33 := Try.func72.trans (congrArg some (by kernel_rfl))
  f34 := Try.func73.trans (congrArg some (by kernel_rfl))
  f38 := Try.func80.trans (congrArg some (by kernel_rfl))
  t0 := Try.underlying0
  a0 := Try.isAgg0
  z0 := Try.sizeOf0
  v0 := Try.zeroValue0
  t3 := Try.underlying3
  a3 := Try.isAgg3
  z3 := Try.sizeOf3
  v3 := Try.zeroValue3
  t4 := Try.underlying4
  a4 := Try.isAgg4
  z4 := Try.sizeOf4
  v4 := Try.zeroValue4
  t9 := Try.underlying9
  a9 := Try.isAgg9
  z9 := Try.sizeOf9
  v9 := Try.zeroValue9
  t24 := Try.underlying22
  a24 := Try.isAgg22
  z24 := Try.sizeOf22
  v24 := Try.zeroValue22
  t40 := Try.underlying81
  a40 := Try.isAgg81
  z40 := Try.sizeOf81
  v40 := Try.zeroValue81 }
def Ythaipemgndahfaa.laysCs_ren : Go.Shelf.Ren := ⟨fun | 194 => 57 | n => n, fun | 31 => 22 | 9 => 9 | 3 => 3 | 4 => 4 | 0 => 0 | n => n, fun | n => n⟩
theorem Ythaipemgndahfaa.laysCs : Go.Proofs.Lays.n194 Try.prog Ythaipemgndahfaa.laysCs_ren := {
  mixed := by kernel_rfl
  f194 := Try.func57.trans (congrArg some (by kernel_rfl))
  t0 := Try.underlying0
  a0 := Try.isAgg0
  z0 := Try.sizeOf0
  v0 := Try.zeroValue0
  t3 := Try.underlying3
  a3 := Try.isAgg3
  z3 := Try.sizeOf3
  v3 := Try.zeroValue3
  t4 := Try.underlying4
  a4 := Try.isAgg4
  z4 := Try.sizeOf4
  v4 := Try.zeroValue4
  t9 := Try.underlying9
  a9 := Try.isAgg9
  z9 := Try.sizeOf9
  v9 := Try.zeroValue9
  t31 := Try.underlying22
  a31 := Try.isAgg22
  z31 := Try.sizeOf22
  v31 := Try.zeroValue22 }
end Go.Proofs
