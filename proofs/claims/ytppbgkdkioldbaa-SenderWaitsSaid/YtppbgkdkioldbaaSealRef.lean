/- The document's bytes with their check behind. -/
import Derived.Test.YtppbgkdkioldbaaCopyR
import Derived.Test.YtppbgkdkioldbaaCrcRef
import Derived.Test.YtppbgkdkioldbaaSealSpec
set_option maxRecDepth 4000
namespace Go.Proofs.Ytppbgkdkioldbaa
open Go Go.RowKit
attribute [local go_sem] lowb_hd lowb8_hd
end Go.Proofs.Ytppbgkdkioldbaa
