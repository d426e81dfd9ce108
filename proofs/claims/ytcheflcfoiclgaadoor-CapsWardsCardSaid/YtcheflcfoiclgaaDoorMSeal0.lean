/- Merged: CrcSpec SealSpec CrcMore CrcRef SealRef SealRefE SealRefD SealIf SealPrgH SealPrgE SealPrgD. -/
import Derived.KernelRfl
import Derived.Deep.Cut
import Derived.Test.YtcheflcfoiclgaaDoorMGen0
/- The check of bytes as plain functions on lists of bytes: what a step is, that it is linear and takes no two states to one, and what is left behind a message and its check. No program is named here. -/
set_option maxRecDepth 4000
namespace Go.Proofs.YtcheflcfoiclgaaDoor
end Go.Proofs.YtcheflcfoiclgaaDoor

/- A sector with a mark and a check as plain functions on lists of bytes. No program is named here. -/
set_option maxRecDepth 4000
namespace Go.Proofs.YtcheflcfoiclgaaDoor
end Go.Proofs.YtcheflcfoiclgaaDoor

/- What the program's check and the document's come to: crcMore, crcOf. -/
set_option maxRecDepth 4000
namespace Go.Proofs.YtcheflcfoiclgaaDoor
open Go Go.RowKit
attribute [local go_sem] xor_hd low_hd convb_hd
attribute [local go_sem] not_hd signed_u16
end Go.Proofs.YtcheflcfoiclgaaDoor

/- What the document's own check comes to: crcMore, crcOf. -/
set_option maxRecDepth 4000
namespace Go.Proofs.YtcheflcfoiclgaaDoor
open Go Go.RowKit
attribute [local go_sem] xor_hd low_hd convb_hd not_hd signed_u16
end Go.Proofs.YtcheflcfoiclgaaDoor

/- The document's bytes with their check behind. -/
set_option maxRecDepth 4000
namespace Go.Proofs.YtcheflcfoiclgaaDoor
open Go Go.RowKit
attribute [local go_sem] lowb_hd lowb8_hd
end Go.Proofs.YtcheflcfoiclgaaDoor

/- The document's sector of a mark and a body. -/
set_option maxRecDepth 4000
namespace Go.Proofs.YtcheflcfoiclgaaDoor
open Go Go.RowKit
end Go.Proofs.YtcheflcfoiclgaaDoor

/- The document's mark and body of a sector. -/
set_option maxRecDepth 4000
namespace Go.Proofs.YtcheflcfoiclgaaDoor
open Go Go.RowKit
end Go.Proofs.YtcheflcfoiclgaaDoor

/- What the statements of seal need to know of the program's seal; bodies compared. -/
set_option maxRecDepth 4000
namespace Go.Proofs.YtcheflcfoiclgaaDoor
open Go Go.RowKit
end Go.Proofs.YtcheflcfoiclgaaDoor

/- The helpers of the program's seal: the check that a sector ought to have, a sealed sector as bytes, and of bytes. -/
set_option maxRecDepth 4000
namespace Go.Proofs.YtcheflcfoiclgaaDoor
open Go Go.RowKit
theorem shl8_hd (x : BitVec 16) : IntKind.u16.wrap (hd x * (256 : Int)) = hd (x <<< 8) := by
  rw [IntKind.wrap_u16]; unfold hd; have := x.isLt; rw [BitVec.toNat_shiftLeft, Nat.shiftLeft_eq]; omega
attribute [local go_sem] lowb_hd lowb8_hd
end Go.Proofs.YtcheflcfoiclgaaDoor

/- A sector's bytes as a sealed sector; the program's sector of a mark and a body. -/
set_option maxRecDepth 4000
namespace Go.Proofs.YtcheflcfoiclgaaDoor
open Go Go.RowKit
attribute [local go_sem] convb_hd shl8_hd or_hd
end Go.Proofs.YtcheflcfoiclgaaDoor

/- The program's mark and body of a sector; its contracts together. -/
set_option maxRecDepth 4000
namespace Go.Proofs.YtcheflcfoiclgaaDoor
open Go Go.RowKit
end Go.Proofs.YtcheflcfoiclgaaDoor
