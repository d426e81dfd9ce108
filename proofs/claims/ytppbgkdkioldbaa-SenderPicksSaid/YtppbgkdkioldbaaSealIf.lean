/- What the statements of seal need to know of the program's seal; bodies compared. -/
import Derived.Test.YtppbgkdkioldbaaSealRefD
import Derived.Test.YtppbgkdkioldbaaCrcMore
set_option maxRecDepth 4000
namespace Go.Proofs.Ytppbgkdkioldbaa
open Go Go.RowKit
theorem item_nil (w : World) : Item w (.slice none 0 0) [] := ⟨none, 0, rfl, slice_nil w, fun _ => rfl, Nat.zero_le _⟩
theorem row_at_bs {w : World} {g : Nat} {t : TypeId} {q : List (BitVec 8)} (h : Row w g t (bs q)) {i : Nat} {x : Int} (hi : i < q.length) (hx : bd (q.getD i 0#8) = x) : w.cell? ⟨g, i, none⟩ = some (.int .u8 x) := by
  rw [← hx]; exact h.get (get_bs q i hi)
theorem row_set_bs {w : World} {g k : Nat} {t : TypeId} {q : List (BitVec 8)} (h : Row w g t (bs q)) (x : BitVec 8) : Row (w.setCell ⟨g, k, none⟩ (.int .u8 (bd x))) g t (bs (q.set k x)) := by
  have := h.put k (.int .u8 (bd x))
  rwa [show (bs q).setIfInBounds k (.int .u8 (bd x)) = bs (q.set k x) by simp [bs, List.map_set]] at this
end Go.Proofs.Ytppbgkdkioldbaa
