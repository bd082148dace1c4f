/- EdgesAt: both sides. -/
import Derived.Test.YtijlpbcgkecinabCont
import Derived.Deep.DeepCutAuto
namespace Go.Proofs.Ytijlpbcgkecinab
open Go.RowKit

end Go.Proofs.Ytijlpbcgkecinab
