/- What the program's check and the document's come to: crcMore, crcOf. -/
import Derived.Test.YtkfccdjeohbngaaHalf
import Derived.Test.YtkfccdjeohbngaaSl
import Derived.Test.YtkfccdjeohbngaaCrcSpec
set_option maxRecDepth 4000
namespace Go.Proofs.Ytkfccdjeohbngaa
open Go Go.RowKit
attribute [local go_sem] xor_hd low_hd convb_hd
theorem crcBits_succ (n : Nat) (c : BitVec 16) : crcBits (n + 1) c = crcBit (crcBits n c) := rfl
theorem crcMore_take (c : BitVec 16) (q : List (BitVec 8)) (k : Nat) (hk : k < q.length) : crcMore c (q.take (k + 1)) = crcByte (crcMore c (q.take k)) q[k] := by
  rw [List.take_succ_eq_append_getElem hk, crcMore_append]; rfl
theorem flat_more (ps : List (List (BitVec 8))) (k : Nat) (hk : k < ps.length) (c : BitVec 16) : crcMore c (ps.take (k + 1)).flatten = crcMore (crcMore c (ps.take k).flatten) ps[k] := by
  rw [flat_succ ps k hk, crcMore_append]
attribute [local go_sem] not_hd signed_u16
end Go.Proofs.Ytkfccdjeohbngaa
