/- The laws' small functions on Ranked. -/
import Derived.Test.YtbflgbmobbbebaaObjTch
namespace Go.Proofs.Ytbflgbmobbbebaa
open Go.RowKit

end Go.Proofs.Ytbflgbmobbbebaa
