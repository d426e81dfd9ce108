/- The document's example of a tag, reckoned by the kernel. -/
import Derived.Test.YtieoakdlehpgiaaDoorMacSpec
import Derived.KernelRfl
namespace Go.Proofs.YtieoakdlehpgiaaDoor
def jefe : List (BitVec 8) := [74, 101, 102, 101]
def want1 : List (BitVec 8) := [119, 104, 97, 116, 32, 100, 111, 32, 121, 97, 32, 119, 97, 110, 116, 32]
def want2 : List (BitVec 8) := [102, 111, 114, 32, 110, 111, 116, 104, 105, 110, 103, 63]
def jefeTag : List (BitVec 8) := [0x5b, 0xdc, 0xc1, 0x46, 0xbf, 0x60, 0x75, 0x4e, 0x6a, 0x04, 0x24, 0x26, 0x08, 0x95, 0x75, 0xc7, 0x5a, 0x00, 0x3f, 0x08, 0x9d, 0x27, 0x39, 0x83, 0x9d, 0xec, 0x58, 0xb9, 0x64, 0xec, 0x38, 0x43]
set_option maxRecDepth 100000 in
theorem tag_jefe : tagOf jefe [want1, want2].flatten = jefeTag := by kernel_rfl
end Go.Proofs.YtieoakdlehpgiaaDoor
