/- EdgesAt: both sides. -/
import Derived.Test.YtpajbcgdoedleabCont
import Derived.Deep.DeepCutAuto
namespace Go.Proofs.Ytpajbcgdoedleab
open Go.RowKit

end Go.Proofs.Ytpajbcgdoedleab
