/- Arrays that are the same are told as equal. -/
import Derived.Test.YtnfceejmkcohnaaDoorKeep
import Derived.Test.YtnfceejmkcohnaaDoorArr
namespace Go.Proofs.YtnfceejmkcohnaaDoor
open Go Go.RowKit
theorem eql_dig (l : List (BitVec 8)) (hl : l.length = 32) (w : World) : (Op.equalIn 10000 24 (.agg (bs l)) (.agg (bs l))).run Tryd.prog w = .ok true w :=
  equal_same w 9998 24 5 .u8 32 (bs l) Tryd.underlying24 Tryd.underlying5 size_u8 fun i hi => ⟨_, get_bs l i (by omega)⟩
theorem eql_h (l : List (BitVec 32)) (hl : l.length = 8) (w : World) : (Op.equalIn 10000 46 (.agg (ws l)) (.agg (ws l))).run Tryd.prog w = .ok true w :=
  equal_same w 9998 46 45 .u32 8 (ws l) Tryd.underlying46 Tryd.underlying45 info_u32 fun i hi => ⟨_, get_ws l i (by omega)⟩
end Go.Proofs.YtnfceejmkcohnaaDoor
