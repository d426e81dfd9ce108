/- The document's mark and body of a sector. -/
import Derived.Test.YtppbgkdkioldbaaSealRefE
import Derived.Test.YtppbgkdkioldbaaPhA
import Derived.Test.YtppbgkdkioldbaaBlkE
set_option maxRecDepth 4000
namespace Go.Proofs.Ytppbgkdkioldbaa
open Go Go.RowKit
/- the document's answer of a sector -/
def gotCells (r : List (BitVec 8)) (e : Int) : Array Value := (bytesV r ++ [Value.int .i64 e]).toArray
theorem size_gotCells {r : List (BitVec 8)} {e : Int} (h : r.length = 30) : (gotCells r e).size = 31 := by simp [gotCells, len_bytesV, h]
theorem one_gotCells (r : List (BitVec 8)) (e : Int) : (gotCells r e).all (·.oneCell') = true := all_oneCell_toArray fun v hv => by
  rcases List.mem_append.1 hv with h | h
  · exact one_bytesV _ v h
  · rw [List.mem_singleton.1 h]; rfl
theorem zeros_got : (#[.int .u8 0, .int .u8 0, .int .u8 0, .int .u8 0, .int .u8 0, .int .u8 0, .int .u8 0, .int .u8 0, .int .u8 0, .int .u8 0, .int .u8 0, .int .u8 0, .int .u8 0, .int .u8 0, .int .u8 0, .int .u8 0, .int .u8 0, .int .u8 0, .int .u8 0, .int .u8 0, .int .u8 0, .int .u8 0, .int .u8 0, .int .u8 0, .int .u8 0, .int .u8 0, .int .u8 0, .int .u8 0, .int .u8 0, .int .u8 0, .int .i64 0] : Array Value) = gotCells (zer 30) 0 := by rfl
theorem got11 : (#[.int .u8 0, .int .u8 0, .int .u8 0, .int .u8 0, .int .u8 0, .int .u8 0, .int .u8 0, .int .u8 0, .int .u8 0, .int .u8 0, .int .u8 0, .int .u8 0, .int .u8 0, .int .u8 0, .int .u8 0, .int .u8 0, .int .u8 0, .int .u8 0, .int .u8 0, .int .u8 0, .int .u8 0, .int .u8 0, .int .u8 0, .int .u8 0, .int .u8 0, .int .u8 0, .int .u8 0, .int .u8 0, .int .u8 0, .int .u8 0, .int .i64 11] : Array Value) = gotCells (zer 30) 11 := by rfl
theorem gotm (m : BitVec 8) : (#[.int .u8 (bd m), .int .u8 0, .int .u8 0, .int .u8 0, .int .u8 0, .int .u8 0, .int .u8 0, .int .u8 0, .int .u8 0, .int .u8 0, .int .u8 0, .int .u8 0, .int .u8 0, .int .u8 0, .int .u8 0, .int .u8 0, .int .u8 0, .int .u8 0, .int .u8 0, .int .u8 0, .int .u8 0, .int .u8 0, .int .u8 0, .int .u8 0, .int .u8 0, .int .u8 0, .int .u8 0, .int .u8 0, .int .u8 0, .int .u8 0, .int .i64 0] : Array Value) = gotCells (m :: zer 29) 0 := by rfl
theorem spl_got (m : BitVec 8) (q : List (BitVec 8)) (hq : q.length = 29) : (spl (gotCells (m :: zer 29) 0).toList 1 (bytesV q)).toArray = gotCells (m :: q) 0 := by
  unfold spl gotCells
  rw [len_bytesV, hq]
  simp [bytesV, zer]
theorem got_e {w : World} {g : Nat} {t : TypeId} {q : List (BitVec 8)} {e : Int} (h : Row w g t (gotCells q e)) (hq : q.length = 30) : w.cell? ⟨g, 30, none⟩ = some (.int .i64 e) :=
  h.get (by
    unfold gotCells
    rw [List.getElem?_toArray, List.getElem?_append_right (by rw [len_bytesV, hq]; exact Nat.le_refl _), len_bytesV, hq]; rfl)
theorem decR_no {b : List (BitVec 8)} (h : decOk b = false) : decR b = zer 30 := by unfold decR; rw [h]; rfl
theorem decE_no {b : List (BitVec 8)} (h : decOk b = false) : decE b = 11 := by unfold decE; rw [h]; rfl
theorem decR_yes {b : List (BitVec 8)} (hl : b.length = 32) (h : decOk b = true) : decR b = markOf b :: bodyOf b := by
  unfold decR; rw [h, if_pos rfl, ← take30 hl, pad30_full (length_bodyOf hl)]
theorem decE_yes {b : List (BitVec 8)} (h : decOk b = true) : decE b = 0 := by unfold decE; rw [h]; rfl
end Go.Proofs.Ytppbgkdkioldbaa
