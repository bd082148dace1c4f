/- The closed facts of the seat's program that every row asks. -/
import Derived.Test.YtbflgbmobbbebaaRows
import Derived.Test.YtbflgbmobbbebaaJoined
import Derived.KernelRfl
namespace Go.Proofs.Ytbflgbmobbbebaa
theorem own : ownKnob Try.prog.godebug = none := by kernel_rfl
theorem laidOut : laidOutB Try.prog = true := by kernel_rfl
theorem rowed : mapsRowed Try.prog = true := by kernel_rfl
theorem noStops : (Try.prog.stops == []) = true := by kernel_rfl
theorem noKnobs : (Try.prog.stopKnobs == []) = true := by kernel_rfl
/-- The signs of the dump's head, by number. -/
def headL : List Nat := [104, 97, 114, 110, 101, 115, 115, 32, 49, 56, 99, 49, 56, 98, 101, 102, 53, 101, 52, 97, 48, 48, 53, 102, 99, 56, 53, 101, 53, 54, 50, 48, 51, 54, 49, 57, 48, 100, 98, 102,
  57, 55, 54, 98, 50, 101, 101, 100, 56, 50, 50, 99, 52, 48, 102, 98, 99, 48, 55, 56, 102, 51, 48, 99, 53, 49, 56, 50, 50, 97, 54, 52, 32, 99, 117, 116, 32, 97, 116, 32,
  108, 111, 111, 112, 46, 101, 120, 97, 109, 112, 108, 101, 47, 103, 48, 49, 48, 57, 55, 47, 108, 97, 119, 115, 46, 70, 110, 82, 97, 110, 107, 85, 110, 100, 111, 101, 115, 83, 101, 108,
  101, 99, 116, 32, 108, 111, 111, 112, 46, 101, 120, 97, 109, 112, 108, 101, 47, 103, 48, 49, 48, 57, 55, 47, 108, 97, 119, 115, 46, 70, 110, 78, 101, 105, 103, 104, 98, 111, 117, 114,
  115, 79, 102, 82, 97, 110, 107, 32, 108, 111, 111, 112, 46, 101, 120, 97, 109, 112, 108, 101, 47, 103, 48, 49, 48, 57, 55, 47, 108, 97, 119, 115, 46, 70, 110, 82, 97, 110, 107, 115,
  74, 111, 105, 110, 32, 108, 111, 111, 112, 46, 101, 120, 97, 109, 112, 108, 101, 47, 103, 48, 49, 48, 57, 55, 47, 108, 97, 119, 115, 46, 70, 110, 68, 105, 114, 101, 99, 116, 111, 114,
  105, 101, 115, 65, 114, 101, 80, 97, 99, 107, 101, 100, 32, 108, 111, 111, 112, 46, 101, 120, 97, 109, 112, 108, 101, 47, 103, 48, 49, 48, 57, 55, 47, 108, 97, 119, 115, 46, 70, 110,
  80, 97, 114, 101, 110, 116, 104, 101, 115, 101, 115, 77, 97, 116, 99, 104, 32, 108, 111, 111, 112, 46, 101, 120, 97, 109, 112, 108, 101, 47, 103, 48, 49, 48, 57, 55, 47, 108, 97, 119,
  115, 46, 70, 110, 84, 114, 101, 101, 115, 65, 114, 101, 80, 97, 114, 101, 110, 116, 104, 101, 115, 101, 115]
def headC : List Char := headL.map Char.ofNat
theorem headIs : Try.prog.initOrder = String.ofList headC := by kernel_rfl
theorem headTo : Try.prog.initOrder.toList = headC := by rw [headIs, String.toList_ofList]
theorem headWords : wordsSigns Try.prog.initOrder.toList = "harness".toList :: (headC.drop 8).take 64 :: "cut".toList :: wordsSigns (((headC.drop 8).drop 65).drop 4) := by
  rw [headTo]
  exact words_of _ (by decide +kernel) (by decide +kernel) (by decide +kernel) (by decide +kernel) (by decide +kernel) (by decide +kernel)
theorem headSum : isSumSigns ((headC.drop 8).take 64) = true := by decide +kernel
theorem noLater : Try.prog.laysLater = false := by kernel_rfl
theorem noReflect : Try.prog.bearsReflect = false := by kernel_rfl
theorem doors : Try.prog.doorFits [] = true := by kernel_rfl
theorem enters : Try.prog.mayEnter = true := mayEnter_of headWords headSum noLater noReflect doors
theorem finals : Try.prog.liftsFinal = false := liftsFinal_of headWords headSum
theorem made : Try.prog.make = some .cut := make_of headWords headSum
theorem plain : Try.prog.plainKeys = true := by kernel_rfl
theorem heard : Try.prog.stopsHeard = true := by kernel_rfl
end Go.Proofs.Ytbflgbmobbbebaa
