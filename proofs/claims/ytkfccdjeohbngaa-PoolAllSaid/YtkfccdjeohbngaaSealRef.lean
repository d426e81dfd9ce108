/- The document's bytes with their check behind. -/
import Derived.Test.YtkfccdjeohbngaaCopyR
import Derived.Test.YtkfccdjeohbngaaCrcRef
import Derived.Test.YtkfccdjeohbngaaSealSpec
set_option maxRecDepth 4000
namespace Go.Proofs.Ytkfccdjeohbngaa
open Go Go.RowKit
attribute [local go_sem] lowb_hd lowb8_hd
end Go.Proofs.Ytkfccdjeohbngaa
