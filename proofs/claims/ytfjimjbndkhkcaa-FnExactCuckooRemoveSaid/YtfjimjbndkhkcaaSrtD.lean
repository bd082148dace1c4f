/- The contract of slices.Delete over this program, laid by the kit. -/
import Derived.Shelf.Slices.Delete
import Derived.Ground.Names2Prog
import Derived.Test.YtfjimjbndkhkcaaProg
namespace Go.Proofs
open Go.Shelf
def Ytfjimjbndkhkcaa.laysDe_ren : Go.Shelf.Ren := ⟨fun | 24 => 79 | n => n, fun | 24 => 25 | 9 => 9 | 3 => 3 | 4 => 4 | 0 => 0 | n => n, fun | n => n⟩
theorem Ytfjimjbndkhkcaa.laysDe : Go.Proofs.Lays2.n24 Try.prog Ytfjimjbndkhkcaa.laysDe_ren := {
  mixed := by kernel_rfl
  f24 := Try.func79.trans (congrArg some (by kernel_rfl))
  t0 := Try.underlying0
  a0 := Try.isAgg0
  z0 := Try.sizeOf0
  v0 := Try.zeroValue0
  t3 := Try.underlying3
  a3 := Try.isAgg3
  z3 := Try.sizeOf3
  v3 := Try.zeroValue3
  t4 := Try.underlying4
  a4 := Try.isAgg4
  z4 := Try.sizeOf4
  v4 := Try.zeroValue4
  t9 := Try.underlying9
  a9 := Try.isAgg9
  z9 := Try.sizeOf9
  v9 := Try.zeroValue9
  t24 := Try.underlying25
  a24 := Try.isAgg25
  z24 := Try.sizeOf25
  v24 := Try.zeroValue25
  i9 := by kernel_rfl }
end Go.Proofs
