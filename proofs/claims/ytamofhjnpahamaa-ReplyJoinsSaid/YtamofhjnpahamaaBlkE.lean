/- Two sectors compared. -/
import Derived.Test.YtamofhjnpahamaaBlk
import Derived.Test.YtamofhjnpahamaaEqI
set_option maxRecDepth 4000
namespace Go.Proofs.Ytamofhjnpahamaa
open Go Go.RowKit
end Go.Proofs.Ytamofhjnpahamaa
