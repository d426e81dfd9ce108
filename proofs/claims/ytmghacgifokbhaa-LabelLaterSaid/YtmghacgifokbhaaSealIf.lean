/- What the statements of seal need to know of the program's seal; bodies compared. -/
import Derived.Test.YtmghacgifokbhaaSealRefD
import Derived.Test.YtmghacgifokbhaaCrcMore
set_option maxRecDepth 4000
namespace Go.Proofs.Ytmghacgifokbhaa
open Go Go.RowKit
structure SealOps where
  enc : ∀ (m : BitVec 8) (q : List (BitVec 8)) (v : Value) (w : World), Item w v q → Calls Try.prog 21 #[.int .u8 (bd m), v] w fun e w' => e = .returned (.tuple #[.agg (bs (encB m q)), .int .i64 (encE m q)]) ∧ Below w.heap.size w w'
  dec : ∀ (b : List (BitVec 8)) (w : World), b.length = 32 → Calls Try.prog 17 #[.agg (bs b)] w fun e w' => e = .returned (.tuple #[.agg (bs (decR b)), .int .i64 (decE b)]) ∧ Below w.heap.size w w'
theorem size_sec : (Try.prog.info? 54).map (·.size) = some 30 := by kernel_rfl
theorem item_nil (w : World) : Item w (.slice none 0 0) [] := ⟨none, 0, rfl, slice_nil w, fun _ => rfl, Nat.zero_le _⟩
theorem row_at_bs {w : World} {g : Nat} {t : TypeId} {q : List (BitVec 8)} (h : Row w g t (bs q)) {i : Nat} {x : Int} (hi : i < q.length) (hx : bd (q.getD i 0#8) = x) : w.cell? ⟨g, i, none⟩ = some (.int .u8 x) := by
  rw [← hx]; exact h.get (get_bs q i hi)
theorem row_set_bs {w : World} {g k : Nat} {t : TypeId} {q : List (BitVec 8)} (h : Row w g t (bs q)) (x : BitVec 8) : Row (w.setCell ⟨g, k, none⟩ (.int .u8 (bd x))) g t (bs (q.set k x)) := by
  have := h.put k (.int .u8 (bd x))
  rwa [show (bs q).setIfInBounds k (.int .u8 (bd x)) = bs (q.set k x) by simp [bs, List.map_set]] at this
theorem size_29 : (Try.prog.info? 52).map (·.size) = some 29 := by kernel_rfl
theorem eql_29 (p q : List (BitVec 8)) (hp : p.length = 29) (hq : q.length = 29) (w : World) : (Op.equalIn 10000 52 (.agg (bs p)) (.agg (bs q))).run Try.prog w = .ok (decide (p = q)) w := equal_bytes _ 29 p q hp hq Try.underlying52 w
end Go.Proofs.Ytmghacgifokbhaa
