/- Copying bytes into a part of a row; a slice of bytes that was just built. No function of the program is named here. -/
import Derived.Test.YtpnndkobaikhfaaObj
set_option maxRecDepth 4000
namespace Go.Proofs.Ytpnndkobaikhfaa
open Go Go.RowKit
/- bytes behind bytes -/
theorem spl_bs (p q : List (BitVec 8)) (off : Nat) : (spl (bs p).toList off (bytesV q)).toArray = bs (spl p off q) := by
  simp [spl, bs, bytesV]
theorem own_built (w : World) (q : List (BitVec 8)) (hq : q.length ≤ maxLen) : (w.alloc (.cells (bs q) 5)).ownsRow w.heap.size 5 1 (.slice (some ⟨w.heap.size, 0, none⟩) q.length q.length) q.length (bytesV q) :=
  ⟨by simp [bytesV], .inr ⟨w.heap.size, q.length, bs q, rfl, Nat.le_refl _, heap_alloc_new w _, Nat.le_refl _, hq, by rw [size_bs, Nat.mul_one], by rw [Nat.mul_one, bs_toList]; exact List.take_of_length_le (by rw [len_bytesV]; exact Nat.le_refl _)⟩⟩
/- a piece of a row of bytes -/
theorem row_piece {w : World} {g c off n : Nat} {t : TypeId} {p : List (BitVec 8)} (h : Row w g t (bs p)) (hn : off + n ≤ p.length) (hc : n ≤ c) : Slice w (.slice (some ⟨g, off, none⟩) n c) ((p.drop off).take n) := by
  have hl : ((p.drop off).take n).length = n := by rw [List.length_take, List.length_drop]; omega
  refine ⟨some ⟨g, off, none⟩, c, by rw [hl], by rw [hl]; exact hc, fun _ => ⟨g, off, rfl, h.lt, fun j x hx => ?_⟩⟩
  have hj : j < n := by have := (List.getElem?_eq_some_iff.1 hx).1; omega
  rw [List.getElem?_take_of_lt hj, List.getElem?_drop] at hx
  exact h.get (by simp [bs, hx])
end Go.Proofs.Ytpnndkobaikhfaa
