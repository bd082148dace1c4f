/- What is drawn for a field that is put. -/
import Derived.Test.YtpmedeefoaoabaaVecGen
import Derived.Deep.RegionHeld3
namespace Go.Proofs.Ytpmedeefoaoabaa
open Go.RowKit

end Go.Proofs.Ytpmedeefoaoabaa
