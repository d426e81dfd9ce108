/- A block of bytes read as a slice; a conversion of a text's bytes. -/
import Derived.Test.YtnfceejmkcohnaaDoorSum
import Derived.Lib.SlBytesConst
namespace Go.Proofs.YtnfceejmkcohnaaDoor
open Go Go.RowKit
theorem bytes_slice {w : World} {g c : Nat} {q : List (BitVec 8)} {t : TypeId} {fr : Nat × Nat} (hg : w.heap[g]? = some (.cells (bs q) t fr)) (hc : q.length ≤ c) : Slice w (.slice (some ⟨g, 0, none⟩) q.length c) q := by
  refine ⟨_, c, rfl, hc, fun _ => ⟨g, 0, rfl, ?_, fun j x hx => ?_⟩⟩
  · by_cases hl : g < w.heap.size
    · exact hl
    · rw [Array.getElem?_eq_none (by omega)] at hg; cases hg
  · have hj := (List.getElem?_eq_some_iff.1 hx).1
    rw [Nat.zero_add, cell_of_row w g j _ _ _ hg, get_bs q j hj, List.getD_eq_getElem?_getD, hx]; rfl
theorem conv2 (w : World) (o : Obj) (C : Array Value) (n c : Nat) : (convert 22 22 (.slice (some ⟨w.heap.size + 1, 0, none⟩) n c)).run Tryd.prog ((w.alloc o).alloc (.cells C 5)) = .ok (.slice (some ⟨w.heap.size + 1, 0, none⟩) n c) ((w.alloc o).alloc (.cells C 5 (C.size, C.size + 1))) := by
  have h := Lib.run_convert_bytes_const (P := Tryd.prog) (w.alloc o) 22 5 C n c Tryd.underlying22 Tryd.underlying5
  rw [show (w.alloc o).heap.size = w.heap.size + 1 by simp] at h
  exact h
end Go.Proofs.YtnfceejmkcohnaaDoor
