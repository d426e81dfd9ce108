/- Copying bytes into a part of a row; a slice of bytes that was just built. No function of the program is named here. -/
import Derived.Test.YtppbgkdkioldbaaObj
set_option maxRecDepth 4000
namespace Go.Proofs.Ytppbgkdkioldbaa
open Go Go.RowKit
theorem wp_copy_any {w : World} {o : Oper} {a : Act} {K : Act → World → Prop} {Q : Exit → Act → World → Prop} (d s : Operand)
    (ho : o.op = .call { callee := .builtin .copy, args := #[d, s], argTypes := #[56, 56] })
    (g off n m : Nat) (hd : a.eval d = .slice (some ⟨g, off, none⟩) n m) (v : Value) (hs : a.eval s = v) (q : List (BitVec 8)) (hq : Slice w v q) (t : TypeId) (cur : Array Value) (hg : Row w g t cur) (hfit : off + q.length ≤ cur.size) (hle : q.length ≤ n)
    (h : ∀ w', Row w' g t (spl cur.toList off (bytesV q)).toArray → w.grownBy w' (some g) → K (a.put o.dst (goInt q.length)) w') : o.wp Try.prog a w K Q := by
  obtain ⟨A, c, rfl, _, h3⟩ := hq
  by_cases hne : q = []
  · subst hne
    have hrun := run_copy_none (P := Try.prog) w 56 56 o.type 5 (some ⟨g, off, none⟩) A n m 0 c Try.underlying56 size_u8 (Nat.zero_min _)
    have e : spl cur.toList off (bytesV []) = cur.toList := by
      show cur.toList.take off ++ [] ++ cur.toList.drop (off + 0) = _
      rw [List.append_nil, Nat.add_zero, List.take_append_drop]
    have := h w (by rw [e]; simpa using hg) (owns_refl w _)
    unfold Oper.wp
    simp [execOp, ho, resolve, invoke, builtin, hd, hs, hrun, Result.andThen]
    exact this
  · obtain ⟨b, o', rfl, hbl, hc⟩ := h3 hne
    have hrun := run_copy_row (P := Try.prog) w 56 56 o.type 5 g off n m ⟨b, o', none⟩ q.length c cur t (bytesV q) Try.underlying56 size_u8 hg (by rw [len_bytesV]; exact (Nat.min_eq_left hle).symm) (by
      intro j u hu
      rw [Addr.add_mid]
      simp only [bytesV, List.getElem?_map, Option.map_eq_some_iff] at hu
      obtain ⟨y, hy, rfl⟩ := hu
      exact hc j y hy) (by rw [len_bytesV]; exact hfit) (one_bytesV q)
    have := h _ (hg.setRow _) (grown_setRow w g (spl cur.toList off (bytesV q)).toArray)
    rw [← len_bytesV q] at this
    unfold Oper.wp
    simp [execOp, ho, resolve, invoke, builtin, hd, hs, hrun, Result.andThen]
    unfold spl at this
    rw [List.append_assoc] at this
    exact this
theorem wpList_copy_any {w : World} {ops : Array Oper} {rest : List Oper} {o : Oper} {a : Act} {Q : Exit → Act → World → Prop} (hgd : o.guard = none) (d s : Operand)
    (ho : o.op = .call { callee := .builtin .copy, args := #[d, s], argTypes := #[56, 56] })
    (g off n m : Nat) (hd : a.eval d = .slice (some ⟨g, off, none⟩) n m) (v : Value) (hs : a.eval s = v) (q : List (BitVec 8)) (hq : Slice w v q) (t : TypeId) (cur : Array Value) (hg : Row w g t cur) (hfit : off + q.length ≤ cur.size) (hle : q.length ≤ n)
    (h : ∀ w', Row w' g t (spl cur.toList off (bytesV q)).toArray → w.grownBy w' (some g) → wpList Try.prog ops Q rest (a.put o.dst (goInt q.length)) w') : wpList Try.prog ops Q (o :: rest) a w :=
  wpList_plain hgd fun _ hK => wp_copy_any d s ho g off n m hd v hs q hq t cur hg hfit hle fun w' h1 h2 => hK _ _ (h w' h1 h2)
/- bytes behind bytes -/
theorem spl_bs (p q : List (BitVec 8)) (off : Nat) : (spl (bs p).toList off (bytesV q)).toArray = bs (spl p off q) := by
  simp [spl, bs, bytesV]
theorem own_built (w : World) (q : List (BitVec 8)) (hq : q.length ≤ maxLen) : (w.alloc (.cells (bs q) 5)).ownsRow w.heap.size 5 1 (.slice (some ⟨w.heap.size, 0, none⟩) q.length q.length) q.length (bytesV q) :=
  ⟨by simp [bytesV], .inr ⟨w.heap.size, q.length, bs q, rfl, Nat.le_refl _, heap_alloc_new w _, Nat.le_refl _, hq, by rw [size_bs, Nat.mul_one], by rw [Nat.mul_one, bs_toList]; exact List.take_of_length_le (by rw [len_bytesV]; exact Nat.le_refl _)⟩⟩
/- a piece of a row of bytes -/
theorem row_piece {w : World} {g c off n : Nat} {t : TypeId} {p : List (BitVec 8)} (h : Row w g t (bs p)) (hn : off + n ≤ p.length) (hc : n ≤ c) : Slice w (.slice (some ⟨g, off, none⟩) n c) ((p.drop off).take n) := by
  have hl : ((p.drop off).take n).length = n := by rw [List.length_take, List.length_drop]; omega
  refine ⟨some ⟨g, off, none⟩, c, by rw [hl], by rw [hl]; exact hc, fun _ => ⟨g, off, rfl, h.lt, fun j x hx => ?_⟩⟩
  have hj : j < n := by have := (List.getElem?_eq_some_iff.1 hx).1; omega
  rw [List.getElem?_take_of_lt hj, List.getElem?_drop] at hx
  exact h.get (by simp [bs, hx])
end Go.Proofs.Ytppbgkdkioldbaa
