/- Contracts of the laws' own small functions on int slices and bit vectors: size, copy, compare, mark, look again. -/
import Derived.Test.YtpmedeefoaoabaaRows
import Derived.Test.YtpmedeefoaoabaaMem
import Derived.WalkSpells
import Derived.WalkLawsBesides
import Derived.Deep.QuietTactic
import Derived.BigQuiet
namespace Go.Proofs.Ytpmedeefoaoabaa
open Go.RowKit

theorem infoI : (Try.prog.info? 3).map (fun i => (i.zero, i.size, i.bytes)) = some (some (.int .i64 0), 1, 8) := by kernel_rfl

def NewRow (w : World) (n : Nat) (X : Nat → Int) (e : Ending) (w' : World) : Prop :=
  ∃ g, e = .returned (.slice (some ⟨g, 0, none⟩) n n) ∧ w.heap.size ≤ g ∧ ORow w' g n X ∧ Below w.heap.size w w'

/-- Two ints differ or not: what '!=' says. -/
def SameRow (w : World) (v : Bool) (e : Ending) (w' : World) : Prop := e = .returned (.bool v) ∧ Below w.heap.size w w'

end Go.Proofs.Ytpmedeefoaoabaa
