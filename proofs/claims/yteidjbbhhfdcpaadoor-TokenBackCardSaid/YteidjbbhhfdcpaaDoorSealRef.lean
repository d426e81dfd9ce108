/- The document's bytes with their check behind. -/
import Derived.Test.YteidjbbhhfdcpaaDoorCopyR
import Derived.Test.YteidjbbhhfdcpaaDoorCrcRef
import Derived.Test.YteidjbbhhfdcpaaDoorSealSpec
set_option maxRecDepth 4000
namespace Go.Proofs.YteidjbbhhfdcpaaDoor
open Go Go.RowKit
attribute [local go_sem] lowb_hd lowb8_hd
end Go.Proofs.YteidjbbhhfdcpaaDoor
