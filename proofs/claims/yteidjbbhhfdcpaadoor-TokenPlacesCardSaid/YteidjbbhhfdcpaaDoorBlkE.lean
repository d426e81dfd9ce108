/- Two sectors compared. -/
import Derived.Test.YteidjbbhhfdcpaaDoorBlk
import Derived.Test.YteidjbbhhfdcpaaDoorEqI
set_option maxRecDepth 4000
namespace Go.Proofs.YteidjbbhhfdcpaaDoor
open Go Go.RowKit
end Go.Proofs.YteidjbbhhfdcpaaDoor
