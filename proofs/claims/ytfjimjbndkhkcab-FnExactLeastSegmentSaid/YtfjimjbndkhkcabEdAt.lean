/- EdgesAt: both sides. -/
import Derived.Test.YtfjimjbndkhkcabCont
import Derived.Deep.DeepCutAuto
namespace Go.Proofs.Ytfjimjbndkhkcab
open Go.RowKit

end Go.Proofs.Ytfjimjbndkhkcab
