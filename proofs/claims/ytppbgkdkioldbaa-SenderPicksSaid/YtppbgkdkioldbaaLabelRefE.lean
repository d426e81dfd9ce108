/- The document's sector of a label. -/
import Derived.Test.YtppbgkdkioldbaaLabelRef
import Derived.Test.YtppbgkdkioldbaaAt2
import Derived.Test.YtppbgkdkioldbaaHalf
set_option maxRecDepth 4000
namespace Go.Proofs.Ytppbgkdkioldbaa
open Go Go.RowKit
def labCells (L : Lab) : Array Value := #[.int .u32 (wd L.e), .int .u32 (wd L.s), .int .u32 (wd L.n), .int .u16 (hd L.d), .int .u16 (hd L.l)]
theorem conv_hd (x : BitVec 16) : IntKind.u32.wrap (hd x) = wd (x.setWidth 32) := by
  rw [IntKind.wrap_u32']; unfold hd wd; have := x.isLt; rw [BitVec.toNat_setWidth]; omega
theorem bytesV_app (p q : List (BitVec 8)) : bytesV (p ++ q) = bytesV p ++ bytesV q := by simp [bytesV]
end Go.Proofs.Ytppbgkdkioldbaa
