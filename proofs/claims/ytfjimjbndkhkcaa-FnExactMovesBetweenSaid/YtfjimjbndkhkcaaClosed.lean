/- The closed facts of the seat's program that every row asks. -/
import Derived.Test.YtfjimjbndkhkcaaRows
import Derived.Test.YtfjimjbndkhkcaaJoined
import Derived.KernelRfl
namespace Go.Proofs.Ytfjimjbndkhkcaa
theorem own : ownKnob Try.prog.godebug = none := by kernel_rfl
theorem laidOut : laidOutB Try.prog = true := by kernel_rfl
theorem rowed : mapsRowed Try.prog = true := by kernel_rfl
theorem noStops : (Try.prog.stops == []) = true := by kernel_rfl
theorem noKnobs : (Try.prog.stopKnobs == []) = true := by kernel_rfl
/-- The signs of the dump's head, by number. -/
def headL : List Nat := [104, 97, 114, 110, 101, 115, 115, 32, 99, 51, 55, 51, 49, 48, 49, 98, 53, 100, 99, 50, 56, 51, 98, 98, 54, 48, 98, 57, 54, 98, 98, 56, 48, 55, 50, 101, 101, 51, 55, 55,
  102, 49, 57, 53, 51, 97, 56, 56, 101, 56, 52, 101, 97, 51, 102, 56, 48, 97, 51, 52, 57, 102, 101, 97, 57, 56, 54, 55, 56, 97, 50, 52, 32, 99, 117, 116, 32, 97, 116, 32,
  108, 111, 111, 112, 46, 101, 120, 97, 109, 112, 108, 101, 47, 103, 48, 49, 48, 57, 55, 47, 108, 97, 119, 115, 46, 70, 110, 69, 120, 97, 99, 116, 67, 101, 108, 108, 115, 79, 102, 32,
  108, 111, 111, 112, 46, 101, 120, 97, 109, 112, 108, 101, 47, 103, 48, 49, 48, 57, 55, 47, 108, 97, 119, 115, 46, 70, 110, 69, 120, 97, 99, 116, 73, 115, 80, 108, 97, 99, 101, 109,
  101, 110, 116, 32, 108, 111, 111, 112, 46, 101, 120, 97, 109, 112, 108, 101, 47, 103, 48, 49, 48, 57, 55, 47, 108, 97, 119, 115, 46, 70, 110, 69, 120, 97, 99, 116, 73, 115, 67, 114,
  111, 119, 100, 32, 108, 111, 111, 112, 46, 101, 120, 97, 109, 112, 108, 101, 47, 103, 48, 49, 48, 57, 55, 47, 108, 97, 119, 115, 46, 70, 110, 69, 120, 97, 99, 116, 78, 101, 119, 67,
  117, 99, 107, 111, 111, 32, 108, 111, 111, 112, 46, 101, 120, 97, 109, 112, 108, 101, 47, 103, 48, 49, 48, 57, 55, 47, 108, 97, 119, 115, 46, 70, 110, 69, 120, 97, 99, 116, 73, 115,
  67, 117, 99, 107, 111, 111, 32, 108, 111, 111, 112, 46, 101, 120, 97, 109, 112, 108, 101, 47, 103, 48, 49, 48, 57, 55, 47, 108, 97, 119, 115, 46, 70, 110, 69, 120, 97, 99, 116, 67,
  117, 99, 107, 111, 111, 75, 101, 121, 115, 32, 108, 111, 111, 112, 46, 101, 120, 97, 109, 112, 108, 101, 47, 103, 48, 49, 48, 57, 55, 47, 108, 97, 119, 115, 46, 70, 110, 69, 120, 97,
  99, 116, 67, 117, 99, 107, 111, 111, 70, 105, 110, 100, 32, 108, 111, 111, 112, 46, 101, 120, 97, 109, 112, 108, 101, 47, 103, 48, 49, 48, 57, 55, 47, 108, 97, 119, 115, 46, 70, 110,
  69, 120, 97, 99, 116, 67, 117, 99, 107, 111, 111, 82, 101, 109, 111, 118, 101, 32, 108, 111, 111, 112, 46, 101, 120, 97, 109, 112, 108, 101, 47, 103, 48, 49, 48, 57, 55, 47, 108, 97,
  119, 115, 46, 70, 110, 69, 120, 97, 99, 116, 67, 117, 99, 107, 111, 111, 85, 110, 115, 116, 97, 115, 104, 32, 108, 111, 111, 112, 46, 101, 120, 97, 109, 112, 108, 101, 47, 103, 48, 49,
  48, 57, 55, 47, 108, 97, 119, 115, 46, 70, 110, 69, 120, 97, 99, 116, 67, 117, 99, 107, 111, 111, 73, 110, 115, 101, 114, 116, 32, 108, 111, 111, 112, 46, 101, 120, 97, 109, 112, 108,
  101, 47, 103, 48, 49, 48, 57, 55, 47, 108, 97, 119, 115, 46, 70, 110, 69, 120, 97, 99, 116, 67, 117, 99, 107, 111, 111, 79, 102, 32, 108, 111, 111, 112, 46, 101, 120, 97, 109, 112,
  108, 101, 47, 103, 48, 49, 48, 57, 55, 47, 108, 97, 119, 115, 46, 70, 110, 69, 120, 97, 99, 116, 77, 111, 118, 101, 115, 66, 101, 116, 119, 101, 101, 110]
def headC : List Char := headL.map Char.ofNat
theorem headIs : Try.prog.initOrder = String.ofList headC := by kernel_rfl
theorem headTo : Try.prog.initOrder.toList = headC := by rw [headIs, String.toList_ofList]
theorem headWords : wordsSigns Try.prog.initOrder.toList = "harness".toList :: (headC.drop 8).take 64 :: "cut".toList :: wordsSigns (((headC.drop 8).drop 65).drop 4) := by
  rw [headTo]
  exact words_of _ (by decide +kernel) (by decide +kernel) (by decide +kernel) (by decide +kernel) (by decide +kernel) (by decide +kernel)
theorem headSum : isSumSigns ((headC.drop 8).take 64) = true := by decide +kernel
theorem noLater : Try.prog.laysLater = false := by kernel_rfl
theorem noReflect : Try.prog.bearsReflect = false := by kernel_rfl
theorem doors : Try.prog.doorFits [] = true := by kernel_rfl
theorem enters : Try.prog.mayEnter = true := mayEnter_of headWords headSum noLater noReflect doors
theorem finals : Try.prog.liftsFinal = false := liftsFinal_of headWords headSum
theorem made : Try.prog.make = some .cut := make_of headWords headSum
theorem plain : Try.prog.plainKeys = true := by kernel_rfl
theorem heard : Try.prog.stopsHeard = true := by kernel_rfl
end Go.Proofs.Ytfjimjbndkhkcaa
