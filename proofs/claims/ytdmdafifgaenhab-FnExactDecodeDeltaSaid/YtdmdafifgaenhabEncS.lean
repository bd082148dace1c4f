/- The model's codes of a list, one behind another. -/
import Derived.Test.YtdmdafifgaenhabCodeN
import Derived.Test.YtdmdafifgaenhabSome
import Derived.Test.YtdmdafifgaenhabPutF
import Derived.Test.YtdmdafifgaenhabObj
namespace Go.Proofs.Ytdmdafifgaenhab
open Go.RowKit

end Go.Proofs.Ytdmdafifgaenhab
