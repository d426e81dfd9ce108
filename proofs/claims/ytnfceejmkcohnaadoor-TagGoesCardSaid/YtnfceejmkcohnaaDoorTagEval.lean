/- A chain of two records, reckoned by the kernel. -/
import Derived.Test.YtnfceejmkcohnaaDoorTagSpec
import Derived.KernelRfl
namespace Go.Proofs.YtnfceejmkcohnaaDoor
open Go Go.RowKit
def lnk0 : List (BitVec 8) := [65, 160, 55, 12, 61, 159, 66, 119, 58, 89, 232, 224, 22, 81, 145, 28, 244, 59, 30, 63, 102, 148, 76, 187, 105, 0, 41, 222, 188, 78, 182, 71]
def lnk1 : List (BitVec 8) := [171, 204, 190, 155, 36, 210, 187, 211, 170, 19, 96, 214, 5, 20, 122, 132, 29, 208, 81, 19, 1, 49, 198, 146, 157, 96, 4, 225, 174, 71, 150, 232]
set_option maxRecDepth 100000 in
theorem sha_lnk0 : sha (zer 32 ++ [97#8]) = lnk0 := by kernel_rfl
set_option maxRecDepth 100000 in
theorem sha_lnk1 : sha (lnk0 ++ [98#8]) = lnk1 := by kernel_rfl
theorem chain_ab : chainOf (zer 32) [[97#8], [98#8]] 2 = [lnk0, lnk1] := by
  have e : chainOf (zer 32) [[97#8], [98#8]] 2 = [sha (zer 32 ++ [97#8]), sha (sha (zer 32 ++ [97#8]) ++ [98#8])] := rfl
  rw [e, sha_lnk0, sha_lnk1]
end Go.Proofs.YtnfceejmkcohnaaDoor
