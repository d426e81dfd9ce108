/- A sector of one byte, as the program has it. -/
import Derived.Test.YtppbgkdkioldbaaMem
import Derived.Test.YtppbgkdkioldbaaProg
set_option maxRecDepth 4000
namespace Go.Proofs.Ytppbgkdkioldbaa
open Go Go.RowKit
def blk (x : BitVec 8) : List (BitVec 8) := List.replicate 32 x
theorem length_blk (x : BitVec 8) : (blk x).length = 32 := by simp [blk]
theorem size_blk : (Try.prog.info? 59).map (·.size) = some 32 := by kernel_rfl
theorem zeros_blk : (#[.int .u8 0, .int .u8 0, .int .u8 0, .int .u8 0, .int .u8 0, .int .u8 0, .int .u8 0, .int .u8 0, .int .u8 0, .int .u8 0, .int .u8 0, .int .u8 0, .int .u8 0, .int .u8 0, .int .u8 0, .int .u8 0, .int .u8 0, .int .u8 0, .int .u8 0, .int .u8 0, .int .u8 0, .int .u8 0, .int .u8 0, .int .u8 0, .int .u8 0, .int .u8 0, .int .u8 0, .int .u8 0, .int .u8 0, .int .u8 0, .int .u8 0, .int .u8 0] : Array Value) = bs (blk 0#8) := by rfl
end Go.Proofs.Ytppbgkdkioldbaa
