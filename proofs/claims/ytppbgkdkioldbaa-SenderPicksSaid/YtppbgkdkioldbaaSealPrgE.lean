/- A sector's bytes as a sealed sector; the program's sector of a mark and a body. -/
import Derived.Test.YtppbgkdkioldbaaSealPrgH
set_option maxRecDepth 4000
namespace Go.Proofs.Ytppbgkdkioldbaa
open Go Go.RowKit
attribute [local go_sem] convb_hd shl8_hd or_hd
theorem both_sld {r p : List (BitVec 8)} (c d : BitVec 16) (h : r.length = 30) (k : p.length = 30) : (sld r c).size = (sld p d).size := by rw [size_sld31 h, size_sld31 k]
theorem sld_put {r : List (BitVec 8)} (hr : r.length = 30) (c d : BitVec 16) : (sld r c).setIfInBounds 30 (.int .u16 (hd d)) = sld r d := by
  rw [← spl_at _ _ _ (by rw [size_sld31 hr]; decide)]; exact sld_set hr c d
end Go.Proofs.Ytppbgkdkioldbaa
