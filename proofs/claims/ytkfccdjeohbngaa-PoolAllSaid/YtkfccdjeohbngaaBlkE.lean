/- Two sectors compared. -/
import Derived.Test.YtkfccdjeohbngaaBlk
import Derived.Test.YtkfccdjeohbngaaEqI
set_option maxRecDepth 4000
namespace Go.Proofs.Ytkfccdjeohbngaa
open Go Go.RowKit
end Go.Proofs.Ytkfccdjeohbngaa
