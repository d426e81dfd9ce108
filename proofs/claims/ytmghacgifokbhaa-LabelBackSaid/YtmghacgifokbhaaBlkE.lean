/- Two sectors compared. -/
import Derived.Test.YtmghacgifokbhaaBlk
import Derived.Test.YtmghacgifokbhaaEqI
set_option maxRecDepth 4000
namespace Go.Proofs.Ytmghacgifokbhaa
open Go Go.RowKit
theorem eql_blk (p q : List (BitVec 8)) (hp : p.length = 32) (hq : q.length = 32) (w : World) : (Op.equalIn 10000 27 (.agg (bs p)) (.agg (bs q))).run Try.prog w = .ok (decide (p = q)) w := equal_bytes _ 32 p q hp hq Try.underlying27 w
end Go.Proofs.Ytmghacgifokbhaa
