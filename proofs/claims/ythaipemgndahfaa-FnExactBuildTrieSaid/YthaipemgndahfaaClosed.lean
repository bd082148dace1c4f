/- The closed facts of the seat's program that every row asks. -/
import Derived.Test.YthaipemgndahfaaRows
import Derived.Test.YthaipemgndahfaaJoined
import Derived.KernelRfl
namespace Go.Proofs.Ythaipemgndahfaa
theorem own : ownKnob Try.prog.godebug = none := by kernel_rfl
theorem laidOut : laidOutB Try.prog = true := by kernel_rfl
theorem rowed : mapsRowed Try.prog = true := by kernel_rfl
theorem noStops : (Try.prog.stops == []) = true := by kernel_rfl
theorem noKnobs : (Try.prog.stopKnobs == []) = true := by kernel_rfl
/-- The signs of the dump's head, by number. -/
def headL : List Nat := [104, 97, 114, 110, 101, 115, 115, 32, 98, 48, 99, 56, 102, 49, 53, 55, 57, 98, 55, 55, 50, 98, 57, 99, 48, 53, 99, 49, 99, 52, 54, 54, 97, 50, 52, 102, 56, 99, 99, 53,
  49, 99, 56, 56, 98, 56, 97, 98, 53, 51, 55, 56, 52, 52, 97, 52, 98, 52, 49, 54, 50, 53, 50, 56, 102, 54, 100, 98, 101, 99, 100, 56, 32, 99, 117, 116, 32, 97, 116, 32,
  108, 111, 111, 112, 46, 101, 120, 97, 109, 112, 108, 101, 47, 103, 48, 49, 48, 57, 55, 47, 108, 97, 119, 115, 46, 70, 110, 69, 120, 97, 99, 116, 66, 117, 105, 108, 100, 70, 114, 111,
  110, 116, 32, 108, 111, 111, 112, 46, 101, 120, 97, 109, 112, 108, 101, 47, 103, 48, 49, 48, 57, 55, 47, 108, 97, 119, 115, 46, 70, 110, 69, 120, 97, 99, 116, 73, 115, 70, 114, 111,
  110, 116, 32, 108, 111, 111, 112, 46, 101, 120, 97, 109, 112, 108, 101, 47, 103, 48, 49, 48, 57, 55, 47, 108, 97, 119, 115, 46, 70, 110, 69, 120, 97, 99, 116, 70, 114, 111, 110, 116,
  75, 101, 121, 32, 108, 111, 111, 112, 46, 101, 120, 97, 109, 112, 108, 101, 47, 103, 48, 49, 48, 57, 55, 47, 108, 97, 119, 115, 46, 70, 110, 69, 120, 97, 99, 116, 70, 114, 111, 110,
  116, 82, 97, 110, 107, 32, 108, 111, 111, 112, 46, 101, 120, 97, 109, 112, 108, 101, 47, 103, 48, 49, 48, 57, 55, 47, 108, 97, 119, 115, 46, 70, 110, 69, 120, 97, 99, 116, 70, 114,
  111, 110, 116, 72, 97, 115, 32, 108, 111, 111, 112, 46, 101, 120, 97, 109, 112, 108, 101, 47, 103, 48, 49, 48, 57, 55, 47, 108, 97, 119, 115, 46, 70, 110, 69, 120, 97, 99, 116, 70,
  114, 111, 110, 116, 66, 121, 116, 101, 115, 32, 108, 111, 111, 112, 46, 101, 120, 97, 109, 112, 108, 101, 47, 103, 48, 49, 48, 57, 55, 47, 108, 97, 119, 115, 46, 70, 110, 69, 120, 97,
  99, 116, 77, 101, 114, 103, 101, 70, 114, 111, 110, 116, 115, 32, 108, 111, 111, 112, 46, 101, 120, 97, 109, 112, 108, 101, 47, 103, 48, 49, 48, 57, 55, 47, 108, 97, 119, 115, 46, 70,
  110, 69, 120, 97, 99, 116, 66, 117, 105, 108, 100, 84, 114, 105, 101]
def headC : List Char := headL.map Char.ofNat
theorem headIs : Try.prog.initOrder = String.ofList headC := by kernel_rfl
theorem headTo : Try.prog.initOrder.toList = headC := by rw [headIs, String.toList_ofList]
theorem headWords : wordsSigns Try.prog.initOrder.toList = "harness".toList :: (headC.drop 8).take 64 :: "cut".toList :: wordsSigns (((headC.drop 8).drop 65).drop 4) := by
  rw [headTo]
  exact words_of _ (by decide +kernel) (by decide +kernel) (by decide +kernel) (by decide +kernel) (by decide +kernel) (by decide +kernel)
theorem headSum : isSumSigns ((headC.drop 8).take 64) = true := by decide +kernel
theorem noLater : Try.prog.laysLater = false := by kernel_rfl
theorem noReflect : Try.prog.bearsReflect = false := by kernel_rfl
theorem doors : Try.prog.doorFits [] = true := by kernel_rfl
theorem enters : Try.prog.mayEnter = true := mayEnter_of headWords headSum noLater noReflect doors
theorem finals : Try.prog.liftsFinal = false := liftsFinal_of headWords headSum
theorem made : Try.prog.make = some .cut := make_of headWords headSum
theorem plain : Try.prog.plainKeys = true := by kernel_rfl
theorem heard : Try.prog.stopsHeard = true := by kernel_rfl
end Go.Proofs.Ythaipemgndahfaa
