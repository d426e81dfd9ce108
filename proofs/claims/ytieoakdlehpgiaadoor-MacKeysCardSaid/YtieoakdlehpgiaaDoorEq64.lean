/- Blocks that are the same are told as equal. -/
import Derived.Test.YtieoakdlehpgiaaDoorEq
namespace Go.Proofs.YtieoakdlehpgiaaDoor
open Go Go.RowKit
theorem eql_block (l : List (BitVec 8)) (hl : l.length = 64) (w : World) : (Op.equalIn 10000 31 (.agg (bs l)) (.agg (bs l))).run Tryd.prog w = .ok true w :=
  equal_same w 9998 31 5 .u8 64 (bs l) Tryd.underlying31 Tryd.underlying5 size_u8 fun i hi => ⟨_, get_bs l i (by omega)⟩
end Go.Proofs.YtieoakdlehpgiaaDoor
