/- Contracts of HashOf and PlaceOf, of the program and of its model. -/
import Derived.Test.YthaipemgndahfaaKeys
namespace Go.Proofs.Ythaipemgndahfaa
open Go.RowKit

theorem seedB_out {seed part : Int} (h : seedB seed part = true) : 0 ≤ seed ∧ seed ≤ 9999 ∧ 0 ≤ part ∧ part ≤ 9 := by simpa [seedB] using h

def hashR (seed part : Int) (l : List UInt8) : Int × Bool := if seedB seed part = true ∧ isKeyB l = true then (hashI seed part l, true) else (0, false)
def placeR (seed part : Int) (l : List UInt8) (n : Int) : Int × Bool := if seedB seed part = true ∧ isKeyB l = true ∧ 1 ≤ n ∧ n ≤ 4096 then (placeI seed part l n, true) else (0, false)

end Go.Proofs.Ythaipemgndahfaa
