/- What the document's own check comes to: crcMore, crcOf. -/
import Derived.Test.YtppbgkdkioldbaaCrcMore
set_option maxRecDepth 4000
namespace Go.Proofs.Ytppbgkdkioldbaa
open Go Go.RowKit
attribute [local go_sem] xor_hd low_hd convb_hd not_hd signed_u16
end Go.Proofs.Ytppbgkdkioldbaa
