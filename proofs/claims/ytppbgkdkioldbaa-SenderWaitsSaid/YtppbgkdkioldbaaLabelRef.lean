/- The document's numbers as bytes, the lowest first, and back. -/
import Derived.Test.YtppbgkdkioldbaaSealRefD
import Derived.Test.YtppbgkdkioldbaaLabelSpec
set_option maxRecDepth 4000
namespace Go.Proofs.Ytppbgkdkioldbaa
open Go Go.RowKit
attribute [local go_sem] low_wd low8_wd low16_wd low24_wd shl8_wd conv_bd add_wd
theorem bytesV_snoc (q : List (BitVec 8)) (x : BitVec 8) : bytesV (q ++ [x]) = bytesV q ++ bytesV [x] := by simp [bytesV]
theorem num_drop (q : List (BitVec 8)) (k : Nat) (hk : k < q.length) : num (q.drop k) = (num (q.drop (k + 1)) <<< 8) + (q.getD k 0#8).setWidth 32 := by
  rw [List.drop_eq_getElem_cons hk, List.getD_eq_getElem?_getD, List.getElem?_eq_getElem hk]; rfl
theorem got_piece {w : World} {g k n c : Nat} {t : TypeId} {q : List (BitVec 8)} {e : Int} (h : Row w g t (gotCells q e)) (hq : q.length = 30) (hn : 1 + k + n ≤ 30) (hc : n ≤ c) : Slice w (.slice (some ⟨g, 1 + k, none⟩) n c) (((q.drop 1).drop k).take n) := by
  have hl : (((q.drop 1).drop k).take n).length = n := by rw [List.length_take, List.length_drop, List.length_drop]; omega
  refine ⟨some ⟨g, 1 + k, none⟩, c, by rw [hl], by rw [hl]; exact hc, fun _ => ⟨g, 1 + k, rfl, h.lt, fun j x hx => ?_⟩⟩
  have hj : j < n := by have := (List.getElem?_eq_some_iff.1 hx).1; omega
  rw [List.getElem?_take_of_lt hj, List.getElem?_drop, List.getElem?_drop] at hx
  refine h.get ?_
  unfold gotCells
  rw [List.getElem?_toArray, List.getElem?_append_left (by rw [len_bytesV, hq]; omega)]
  unfold bytesV
  rw [List.getElem?_map, show 1 + k + j = 1 + (k + j) by omega, hx]; rfl
theorem got_at {w : World} {g i : Nat} {t : TypeId} {q : List (BitVec 8)} {e : Int} (h : Row w g t (gotCells q e)) (hq : q.length = 30) (hi : i < 30) : w.cell? ⟨g, i, none⟩ = some (.int .u8 (bd (q.getD i 0#8))) := by
  refine h.get ?_
  unfold gotCells
  rw [List.getElem?_toArray, List.getElem?_append_left (by rw [len_bytesV, hq]; exact hi)]
  unfold bytesV
  rw [List.getElem?_map, List.getElem?_eq_getElem (by rw [hq]; exact hi), List.getD_eq_getElem?_getD, List.getElem?_eq_getElem (by rw [hq]; exact hi)]; rfl
end Go.Proofs.Ytppbgkdkioldbaa
