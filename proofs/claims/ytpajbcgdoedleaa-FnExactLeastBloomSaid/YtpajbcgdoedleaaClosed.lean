/- The closed facts of the seat's program that every row asks. -/
import Derived.Test.YtpajbcgdoedleaaRows
import Derived.Test.YtpajbcgdoedleaaJoined
import Derived.KernelRfl
namespace Go.Proofs.Ytpajbcgdoedleaa
theorem own : ownKnob Try.prog.godebug = none := by kernel_rfl
theorem laidOut : laidOutB Try.prog = true := by kernel_rfl
theorem rowed : mapsRowed Try.prog = true := by kernel_rfl
theorem noStops : (Try.prog.stops == []) = true := by kernel_rfl
theorem noKnobs : (Try.prog.stopKnobs == []) = true := by kernel_rfl
/-- The signs of the dump's head, by number. -/
def headL : List Nat := [104, 97, 114, 110, 101, 115, 115, 32, 52, 56, 97, 57, 57, 101, 52, 101, 101, 100, 101, 101, 52, 54, 54, 98, 99, 100, 56, 97, 100, 50, 98, 102, 51, 52, 102, 50, 101, 100, 102, 54,
  53, 51, 52, 99, 100, 57, 98, 51, 57, 53, 49, 98, 99, 98, 102, 97, 99, 100, 99, 53, 48, 102, 56, 54, 55, 99, 97, 54, 99, 50, 56, 57, 32, 99, 117, 116, 32, 97, 116, 32,
  108, 111, 111, 112, 46, 101, 120, 97, 109, 112, 108, 101, 47, 103, 48, 49, 48, 57, 55, 47, 108, 97, 119, 115, 46, 70, 110, 69, 120, 97, 99, 116, 73, 115, 66, 108, 111, 111, 109, 32,
  108, 111, 111, 112, 46, 101, 120, 97, 109, 112, 108, 101, 47, 103, 48, 49, 48, 57, 55, 47, 108, 97, 119, 115, 46, 70, 110, 69, 120, 97, 99, 116, 78, 101, 119, 66, 108, 111, 111, 109,
  32, 108, 111, 111, 112, 46, 101, 120, 97, 109, 112, 108, 101, 47, 103, 48, 49, 48, 57, 55, 47, 108, 97, 119, 115, 46, 70, 110, 69, 120, 97, 99, 116, 80, 114, 111, 98, 101, 115, 79,
  102, 32, 108, 111, 111, 112, 46, 101, 120, 97, 109, 112, 108, 101, 47, 103, 48, 49, 48, 57, 55, 47, 108, 97, 119, 115, 46, 70, 110, 69, 120, 97, 99, 116, 66, 108, 111, 111, 109, 65,
  100, 100, 32, 108, 111, 111, 112, 46, 101, 120, 97, 109, 112, 108, 101, 47, 103, 48, 49, 48, 57, 55, 47, 108, 97, 119, 115, 46, 70, 110, 69, 120, 97, 99, 116, 66, 108, 111, 111, 109,
  72, 97, 115, 32, 108, 111, 111, 112, 46, 101, 120, 97, 109, 112, 108, 101, 47, 103, 48, 49, 48, 57, 55, 47, 108, 97, 119, 115, 46, 70, 110, 69, 120, 97, 99, 116, 66, 108, 111, 111,
  109, 79, 102, 32, 108, 111, 111, 112, 46, 101, 120, 97, 109, 112, 108, 101, 47, 103, 48, 49, 48, 57, 55, 47, 108, 97, 119, 115, 46, 70, 110, 69, 120, 97, 99, 116, 85, 110, 105, 111,
  110, 66, 108, 111, 111, 109, 32, 108, 111, 111, 112, 46, 101, 120, 97, 109, 112, 108, 101, 47, 103, 48, 49, 48, 57, 55, 47, 108, 97, 119, 115, 46, 70, 110, 69, 120, 97, 99, 116, 67,
  111, 118, 101, 114, 115, 66, 108, 111, 111, 109, 32, 108, 111, 111, 112, 46, 101, 120, 97, 109, 112, 108, 101, 47, 103, 48, 49, 48, 57, 55, 47, 108, 97, 119, 115, 46, 70, 110, 69, 120,
  97, 99, 116, 66, 108, 111, 111, 109, 76, 111, 97, 100, 32, 108, 111, 111, 112, 46, 101, 120, 97, 109, 112, 108, 101, 47, 103, 48, 49, 48, 57, 55, 47, 108, 97, 119, 115, 46, 70, 110,
  69, 120, 97, 99, 116, 70, 97, 108, 115, 101, 65, 110, 115, 119, 101, 114, 115, 32, 108, 111, 111, 112, 46, 101, 120, 97, 109, 112, 108, 101, 47, 103, 48, 49, 48, 57, 55, 47, 108, 97,
  119, 115, 46, 70, 110, 69, 120, 97, 99, 116, 76, 101, 97, 115, 116, 66, 108, 111, 111, 109]
def headC : List Char := headL.map Char.ofNat
theorem headIs : Try.prog.initOrder = String.ofList headC := by kernel_rfl
theorem headTo : Try.prog.initOrder.toList = headC := by rw [headIs, String.toList_ofList]
theorem headWords : wordsSigns Try.prog.initOrder.toList = "harness".toList :: (headC.drop 8).take 64 :: "cut".toList :: wordsSigns (((headC.drop 8).drop 65).drop 4) := by
  rw [headTo]
  exact words_of _ (by decide +kernel) (by decide +kernel) (by decide +kernel) (by decide +kernel) (by decide +kernel) (by decide +kernel)
theorem headSum : isSumSigns ((headC.drop 8).take 64) = true := by decide +kernel
theorem noLater : Try.prog.laysLater = false := by kernel_rfl
theorem noReflect : Try.prog.bearsReflect = false := by kernel_rfl
theorem doors : Try.prog.doorFits [] = true := by kernel_rfl
theorem enters : Try.prog.mayEnter = true := mayEnter_of headWords headSum noLater noReflect doors
theorem finals : Try.prog.liftsFinal = false := liftsFinal_of headWords headSum
theorem made : Try.prog.make = some .cut := make_of headWords headSum
theorem plain : Try.prog.plainKeys = true := by kernel_rfl
theorem heard : Try.prog.stopsHeard = true := by kernel_rfl
end Go.Proofs.Ytpajbcgdoedleaa
