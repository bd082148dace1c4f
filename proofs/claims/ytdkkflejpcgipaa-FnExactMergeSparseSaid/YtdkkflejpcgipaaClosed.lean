/- The closed facts of the seat's program that every row asks. -/
import Derived.Test.YtdkkflejpcgipaaRows
import Derived.Test.YtdkkflejpcgipaaJoined
import Derived.KernelRfl
namespace Go.Proofs.Ytdkkflejpcgipaa
theorem own : ownKnob Try.prog.godebug = none := by kernel_rfl
theorem laidOut : laidOutB Try.prog = true := by kernel_rfl
theorem rowed : mapsRowed Try.prog = true := by kernel_rfl
theorem noStops : (Try.prog.stops == []) = true := by kernel_rfl
theorem noKnobs : (Try.prog.stopKnobs == []) = true := by kernel_rfl
/-- The signs of the dump's head, by number. -/
def headL : List Nat := [104, 97, 114, 110, 101, 115, 115, 32, 52, 98, 56, 54, 55, 51, 50, 55, 54, 99, 54, 101, 50, 98, 98, 57, 57, 48, 56, 52, 53, 101, 102, 57, 98, 56, 102, 97, 102, 98, 52, 52,
  99, 52, 97, 101, 98, 55, 57, 98, 48, 101, 48, 48, 51, 102, 98, 100, 52, 55, 50, 50, 55, 56, 53, 102, 100, 101, 55, 56, 99, 97, 102, 49, 32, 99, 117, 116, 32, 97, 116, 32,
  108, 111, 111, 112, 46, 101, 120, 97, 109, 112, 108, 101, 47, 103, 48, 49, 48, 57, 55, 47, 108, 97, 119, 115, 46, 70, 110, 69, 120, 97, 99, 116, 87, 105, 100, 116, 104, 70, 111, 114,
  32, 108, 111, 111, 112, 46, 101, 120, 97, 109, 112, 108, 101, 47, 103, 48, 49, 48, 57, 55, 47, 108, 97, 119, 115, 46, 70, 110, 69, 120, 97, 99, 116, 66, 117, 105, 108, 100, 83, 112,
  97, 114, 115, 101, 32, 108, 111, 111, 112, 46, 101, 120, 97, 109, 112, 108, 101, 47, 103, 48, 49, 48, 57, 55, 47, 108, 97, 119, 115, 46, 70, 110, 69, 120, 97, 99, 116, 73, 115, 83,
  112, 97, 114, 115, 101, 32, 108, 111, 111, 112, 46, 101, 120, 97, 109, 112, 108, 101, 47, 103, 48, 49, 48, 57, 55, 47, 108, 97, 119, 115, 46, 70, 110, 69, 120, 97, 99, 116, 83, 112,
  97, 114, 115, 101, 65, 116, 32, 108, 111, 111, 112, 46, 101, 120, 97, 109, 112, 108, 101, 47, 103, 48, 49, 48, 57, 55, 47, 108, 97, 119, 115, 46, 70, 110, 69, 120, 97, 99, 116, 83,
  112, 97, 114, 115, 101, 76, 105, 115, 116, 32, 108, 111, 111, 112, 46, 101, 120, 97, 109, 112, 108, 101, 47, 103, 48, 49, 48, 57, 55, 47, 108, 97, 119, 115, 46, 70, 110, 69, 120, 97,
  99, 116, 67, 111, 117, 110, 116, 66, 101, 108, 111, 119, 32, 108, 111, 111, 112, 46, 101, 120, 97, 109, 112, 108, 101, 47, 103, 48, 49, 48, 57, 55, 47, 108, 97, 119, 115, 46, 70, 110,
  69, 120, 97, 99, 116, 76, 97, 115, 116, 65, 116, 77, 111, 115, 116, 32, 108, 111, 111, 112, 46, 101, 120, 97, 109, 112, 108, 101, 47, 103, 48, 49, 48, 57, 55, 47, 108, 97, 119, 115,
  46, 70, 110, 69, 120, 97, 99, 116, 70, 105, 114, 115, 116, 65, 116, 76, 101, 97, 115, 116, 32, 108, 111, 111, 112, 46, 101, 120, 97, 109, 112, 108, 101, 47, 103, 48, 49, 48, 57, 55,
  47, 108, 97, 119, 115, 46, 70, 110, 69, 120, 97, 99, 116, 72, 97, 115, 78, 117, 109, 98, 101, 114, 32, 108, 111, 111, 112, 46, 101, 120, 97, 109, 112, 108, 101, 47, 103, 48, 49, 48,
  57, 55, 47, 108, 97, 119, 115, 46, 70, 110, 69, 120, 97, 99, 116, 83, 112, 97, 114, 115, 101, 66, 105, 116, 115, 32, 108, 111, 111, 112, 46, 101, 120, 97, 109, 112, 108, 101, 47, 103,
  48, 49, 48, 57, 55, 47, 108, 97, 119, 115, 46, 70, 110, 69, 120, 97, 99, 116, 83, 108, 105, 99, 101, 83, 112, 97, 114, 115, 101, 32, 108, 111, 111, 112, 46, 101, 120, 97, 109, 112,
  108, 101, 47, 103, 48, 49, 48, 57, 55, 47, 108, 97, 119, 115, 46, 70, 110, 69, 120, 97, 99, 116, 77, 101, 114, 103, 101, 83, 112, 97, 114, 115, 101, 32, 108, 111, 111, 112, 46, 101,
  120, 97, 109, 112, 108, 101, 47, 103, 48, 49, 48, 57, 55, 47, 108, 97, 119, 115, 46, 70, 110, 69, 120, 97, 99, 116, 77, 101, 101, 116, 83, 112, 97, 114, 115, 101]
def headC : List Char := headL.map Char.ofNat
theorem headIs : Try.prog.initOrder = String.ofList headC := by kernel_rfl
theorem headTo : Try.prog.initOrder.toList = headC := by rw [headIs, String.toList_ofList]
theorem headWords : wordsSigns Try.prog.initOrder.toList = "harness".toList :: (headC.drop 8).take 64 :: "cut".toList :: wordsSigns (((headC.drop 8).drop 65).drop 4) := by
  rw [headTo]
  exact words_of _ (by decide +kernel) (by decide +kernel) (by decide +kernel) (by decide +kernel) (by decide +kernel) (by decide +kernel)
theorem headSum : isSumSigns ((headC.drop 8).take 64) = true := by decide +kernel
theorem noLater : Try.prog.laysLater = false := by kernel_rfl
theorem noReflect : Try.prog.bearsReflect = false := by kernel_rfl
theorem doors : Try.prog.doorFits [] = true := by kernel_rfl
theorem enters : Try.prog.mayEnter = true := mayEnter_of headWords headSum noLater noReflect doors
theorem finals : Try.prog.liftsFinal = false := liftsFinal_of headWords headSum
theorem made : Try.prog.make = some .cut := make_of headWords headSum
theorem plain : Try.prog.plainKeys = true := by kernel_rfl
theorem heard : Try.prog.stopsHeard = true := by kernel_rfl
end Go.Proofs.Ytdkkflejpcgipaa
