/- A slice of bytes made of a constant text: its block bears a mark. No function of the program is named here. -/
import Derived.Test.YtamofhjnpahamaaSl
import Derived.Lib.SlBytesConst
import Derived.Laws.IdiomStrings
set_option maxRecDepth 4000
namespace Go.Proofs.Ytamofhjnpahamaa
open Go Go.RowKit
theorem slice_mark (w : World) (t : TypeId) (fr : Nat × Nat) (q : List (BitVec 8)) {n c : Nat} (hn : q.length = n) (hc : n ≤ c) : Slice (w.alloc (.cells (bs q) t fr)) (.slice (some ⟨w.heap.size, 0, none⟩) n c) q := by
  subst hn
  refine ⟨_, c, rfl, hc, fun _ => ⟨w.heap.size, 0, rfl, by simp, fun j x hx => ?_⟩⟩
  rw [Nat.zero_add, World.cell?_alloc_mark, ← Array.getElem?_toList, bs_toList]
  simp [bytesV, hx]
end Go.Proofs.Ytamofhjnpahamaa
