/- Two sectors compared. -/
import Derived.Test.YtppbgkdkioldbaaBlk
import Derived.Test.YtppbgkdkioldbaaEqI
set_option maxRecDepth 4000
namespace Go.Proofs.Ytppbgkdkioldbaa
open Go Go.RowKit
theorem eql_blk (p q : List (BitVec 8)) (hp : p.length = 32) (hq : q.length = 32) (w : World) : (Op.equalIn 10000 59 (.agg (bs p)) (.agg (bs q))).run Try.prog w = .ok (decide (p = q)) w := equal_bytes _ 32 p q hp hq Try.underlying59 w
end Go.Proofs.Ytppbgkdkioldbaa
