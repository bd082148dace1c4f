/- EdgesAt: both sides. -/
import Derived.Test.YtfhanighnckbhaaCont
import Derived.Deep.DeepCutAuto
namespace Go.Proofs.Ytfhanighnckbhaa
open Go.RowKit

end Go.Proofs.Ytfhanighnckbhaa
