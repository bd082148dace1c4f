/- math/bits.OnesCount of a word. -/
import Derived.Test.YtffdkfhnlgfigaaPop
import Derived.Test.YtffdkfhnlgfigaaRead
namespace Go.Proofs.Ytffdkfhnlgfigaa
open Go.RowKit

end Go.Proofs.Ytffdkfhnlgfigaa
