/- Blocks that come to a list of blocks. No function of the program is named here. -/
import Derived.Test.YtppbgkdkioldbaaSt
set_option maxRecDepth 4000
namespace Go.Proofs.Ytppbgkdkioldbaa
open Go Go.RowKit
section
variable {w0 W W' : World} {F : Nat → Prop} {R : List Blk}
theorem St.join (h : St w0 F R W) {g : Nat} {t : TypeId} {cs : Array Value} (hr : Row W g t cs) (hg : w0.heap.size ≤ g) (hne : ∀ b ∈ R, b.g ≠ g) : St w0 F (R ++ [⟨g, t, cs⟩]) W := by
  have at_ : ∀ (j : Nat) (s : Blk), (R ++ [(⟨g, t, cs⟩ : Blk)])[j]? = some s → (j < R.length ∧ R[j]? = some s) ∨ (j = R.length ∧ s = ⟨g, t, cs⟩) := fun j s hj => by
    by_cases e : j < R.length
    · rw [List.getElem?_append_left e] at hj; exact .inl ⟨e, hj⟩
    · rw [List.getElem?_append_right (by omega)] at hj
      have e2 : j - R.length = 0 := by
        rcases Nat.eq_zero_or_pos (j - R.length) with h0 | h0
        · exact h0
        · rw [List.getElem?_eq_none (by simp; omega)] at hj; cases hj
      rw [e2] at hj
      exact .inr ⟨by omega, (Option.some.inj hj).symm⟩
  refine ⟨h.chg, fun j s hj => ?_, fun i j s u hij hi hj => ?_, fun j s hj => ?_⟩
  · rcases at_ j s hj with ⟨_, hk⟩ | ⟨_, rfl⟩
    · exact h.rows j s hk
    · exact hr
  · rcases at_ i s hi with ⟨_, hk⟩ | ⟨e1, rfl⟩ <;> rcases at_ j u hj with ⟨_, hu⟩ | ⟨e2, rfl⟩
    · exact h.apart _ _ _ _ hij hk hu
    · exact hne s (List.mem_of_getElem? hk)
    · exact fun e => hne u (List.mem_of_getElem? hu) e.symm
    · omega
  · rcases at_ j s hj with ⟨_, hk⟩ | ⟨_, rfl⟩
    · exact h.own j s hk
    · exact .inr hg
/- a block that is none of the list's changes -/
theorem St.far (h : St w0 F R W) {g : Nat} (k : W.grownBy W' (some g)) (hg : w0.heap.size ≤ g) (hne : ∀ b ∈ R, b.g ≠ g) : St w0 F R W' :=
  ⟨h.chg.grown k (fun j e => by cases e; exact .inr hg), fun j r hj => (h.rows j r hj).only k (hne r (List.mem_of_getElem? hj)), h.apart, h.own⟩
theorem St.lt (h : St w0 F R W) {b : Blk} (hb : b ∈ R) : b.g < W.heap.size := by
  obtain ⟨k, hk⟩ := List.getElem?_of_mem hb
  exact (h.rows k b hk).lt
end
theorem row_ne {w : World} {g k : Nat} {t u : TypeId} {cs ds : Array Value} (h : Row w g t cs) (h' : Row w k u ds) (hne : t ≠ u) : g ≠ k := by
  rintro rfl
  have := h.symm.trans h'
  injection this with this
  injection this with _ this _
  exact hne this
/- a guarded load of a whole row, said so that other operations fall at once -/
theorem wplG_row {P : Program} {ops : Array Oper} {rest : List Oper} {dst : Option Tmp} {type : TypeId} {pos : String} {after : Array Edge} {gd : Option (Nat × Bool)} {a : Act} {w : World} {Q : Exit → Act → World → Prop} (ty : TypeId) (x : Nat) (g : Nat) (t : TypeId) (cs : Array Value) (fr : Nat × Nat) (d : TypeDesc)
    (hw : Region.wanted { dst := dst, op := .load ty (.tmp x), type := type, pos := pos, after := after, guard := gd } (yielded ops a.tmps) = true) (hx : a.eval (.tmp x) = .pointer (some ⟨g, 0, none⟩)) (hg : w.heap[g]? = some (.cells cs t fr))
    (hu : P.underlying ty = some d) (hd : (match d with | .struct _ | .array _ _ => true | _ => false) = true) (hi : (P.info? ty).map (·.size) = some cs.size)
    (h : wpList P ops Q rest (a.put dst (.agg cs)) w) : wpList P ops Q ({ dst := dst, op := .load ty (.tmp x), type := type, pos := pos, after := after, guard := gd } :: rest) a w :=
  wpList_guarded hw fun _ hK => wp_load_row ty (.tmp x) rfl g hx t cs fr d hg hu hd hi (hK _ _ h)
theorem own_litq (w : World) (q : List (BitVec 8)) (h : q.length ≤ maxLen) : (w.alloc (.cells (bs q) 5)).ownsRow w.heap.size 5 1 (.slice (some ⟨w.heap.size, 0, none⟩) q.length q.length) q.length (bytesV q) :=
  ⟨by rw [len_bytesV, Nat.mul_one], .inr ⟨w.heap.size, q.length, bs q, rfl, Nat.le_refl _, heap_alloc_new w _, Nat.le_refl _, h, by rw [size_bs, Nat.mul_one], by rw [bs_toList]; exact List.take_of_length_le (by rw [len_bytesV]; omega)⟩⟩
theorem own_base {w : World} {b b' e size n : Nat} {v : Value} {xs : List Value} (h : w.ownsRow b e size v n xs) (hb : b' ≤ b) : w.ownsRow b' e size v n xs := by
  refine ⟨h.1, ?_⟩
  rcases h.2 with h | ⟨g, cap, cur, h1, h2, h3⟩
  · exact .inl h
  · exact .inr ⟨g, cap, cur, h1, Nat.le_trans hb h2, h3⟩
theorem wp_new_row {P : Program} {o : Oper} {a : Act} {w : World} {K : Act → World → Prop} {Q : Exit → Act → World → Prop} (e : TypeId) (cs : Array Value) (ho : o.op = .alloc e) (hz : (P.info? e).bind (·.zero) = some (.agg cs))
    (h : K (a.put o.dst (.pointer (some ⟨w.heap.size, 0, none⟩))) (w.alloc (.cells cs e))) : o.wp P a w K Q := by
  cases hq : P.info? e with
  | none => simp [hq] at hz
  | some i =>
    have hi : i.zero = some (.agg cs) := by simpa [hq] using hz
    have hrun : (Instr.alloc e true (.tuple #[])).run P w = .ok (.pointer (some ⟨w.heap.size, 0, none⟩)) (w.alloc (.cells cs e)) := by
      simp [Instr.alloc, zeroValue, typeInfo, hq, hi, newVar, newRow, Value.cells]
    unfold Oper.wp execOp
    simp [ho, hrun]
    exact h
end Go.Proofs.Ytppbgkdkioldbaa
