/- What a walk knows of the memory, as one list of blocks: the operations on memory as steps from list to list, each with a new world. No function of the program is named here. -/
import Derived.Test.YtppbgkdkioldbaaPhs
import Derived.Test.YtppbgkdkioldbaaCopyR
set_option maxRecDepth 4000
namespace Go.Proofs.Ytppbgkdkioldbaa
open Go Go.RowKit
structure Blk where
  g : Nat
  t : TypeId
  cs : Array Value
/- the blocks of R are as said, apart from each other, and may be written; all else that was there at w0, but for F, is as it was -/
structure St (w0 : World) (F : Nat → Prop) (R : List Blk) (w : World) : Prop where
  chg : Chg F w0 w
  rows : ∀ (k : Nat) (r : Blk), R[k]? = some r → Row w r.g r.t r.cs
  apart : ∀ (j k : Nat) (r s : Blk), j ≠ k → R[j]? = some r → R[k]? = some s → r.g ≠ s.g
  own : ∀ (k : Nat) (r : Blk), R[k]? = some r → F r.g ∨ w0.heap.size ≤ r.g
def noF : Nat → Prop := fun _ => False
section
variable {P : Program} {w0 w w' : World} {F : Nat → Prop} {R : List Blk}
theorem St.nil (w0 : World) (F : Nat → Prop) : St w0 F [] w0 := ⟨Chg.refl _ _, fun _ _ h => by simp at h, fun _ _ _ _ _ h => by simp at h, fun _ _ h => by simp at h⟩
theorem St.row (h : St w0 F R w) (k : Nat) {r : Blk} (hk : R[k]? = some r) : Row w r.g r.t r.cs := h.rows k r hk
theorem St.below (h : St w0 noF R w) : Below w0.heap.size w0 w := ⟨h.chg.os, h.chg.tape, h.chg.output, h.chg.size, fun k hk => h.chg.block k hk (fun h => h)⟩
theorem St.same (h : St w0 F R w) (k : Below w.heap.size w w') : St w0 F R w' :=
  ⟨h.chg.trans (F' := fun _ => False) (Chg.of_below k) (fun _ h => h.elim), fun j r hj => (h.rows j r hj).call k, h.apart, h.own⟩
theorem St.drew (h : St w0 F R w) : St w0 F R w.drew := h.same (Below.refl _ _).drew
theorem St.upd (h : St w0 F R w) (k : Nat) {r : Blk} (hk : R[k]? = some r) {cs : Array Value} (hr : Row w' r.g r.t cs) (hg : w.grownBy w' (some r.g)) : St w0 F (R.set k ⟨r.g, r.t, cs⟩) w' := by
  have hlt : k < R.length := (List.getElem?_eq_some_iff.1 hk).1
  have at_ : ∀ (j : Nat) (s : Blk), (R.set k ⟨r.g, r.t, cs⟩)[j]? = some s → (j = k ∧ s = ⟨r.g, r.t, cs⟩) ∨ (j ≠ k ∧ R[j]? = some s) := fun j s hj => by
    by_cases e : j = k
    · subst e
      rw [List.getElem?_set_self hlt] at hj
      exact .inl ⟨rfl, (Option.some.inj hj).symm⟩
    · rw [List.getElem?_set_ne (fun h => e h.symm)] at hj
      exact .inr ⟨e, hj⟩
  refine ⟨h.chg.grown hg (fun g e => by injection e with e; subst e; exact h.own k r hk), fun j s hj => ?_, fun i j s u hij hi hj => ?_, fun j s hj => ?_⟩
  · rcases at_ j s hj with ⟨_, rfl⟩ | ⟨hne, hs⟩
    · exact hr
    · exact (h.rows j s hs).only hg (h.apart j k s r hne hs hk)
  · rcases at_ i s hi with ⟨rfl, rfl⟩ | ⟨hne, hs⟩ <;> rcases at_ j u hj with ⟨rfl, rfl⟩ | ⟨hne', hu⟩
    · exact (hij rfl).elim
    · exact h.apart _ _ r u (fun e => hne' e.symm) hk hu
    · exact h.apart _ _ s r hne hs hk
    · exact h.apart _ _ s u hij hs hu
  · rcases at_ j s hj with ⟨rfl, rfl⟩ | ⟨_, hs⟩
    · exact h.own _ r hk
    · exact h.own j s hs
theorem St.snoc (h : St w0 F R w) (t : TypeId) (cs : Array Value) : St w0 F (R ++ [⟨w.heap.size, t, cs⟩]) (w.alloc (.cells cs t)) := by
  have at_ : ∀ (j : Nat) (s : Blk), (R ++ [(⟨w.heap.size, t, cs⟩ : Blk)])[j]? = some s → (j < R.length ∧ R[j]? = some s) ∨ (j = R.length ∧ s = ⟨w.heap.size, t, cs⟩) := fun j s hj => by
    by_cases e : j < R.length
    · rw [List.getElem?_append_left e] at hj; exact .inl ⟨e, hj⟩
    · rw [List.getElem?_append_right (by omega)] at hj
      have e2 : j - R.length = 0 := by
        rcases Nat.eq_zero_or_pos (j - R.length) with h0 | h0
        · exact h0
        · rw [List.getElem?_eq_none (by simp; omega)] at hj; cases hj
      rw [e2] at hj
      exact .inr ⟨by omega, (Option.some.inj hj).symm⟩
  refine ⟨h.chg.alloc _, fun j s hj => ?_, fun i j s u hij hi hj => ?_, fun j s hj => ?_⟩
  · rcases at_ j s hj with ⟨_, hs⟩ | ⟨_, rfl⟩
    · exact (h.rows j s hs).alloc _
    · exact Row.fresh _ _ _
  · rcases at_ i s hi with ⟨_, hs⟩ | ⟨e1, rfl⟩ <;> rcases at_ j u hj with ⟨_, hu⟩ | ⟨e2, rfl⟩
    · exact h.apart _ _ _ _ hij hs hu
    · have := (h.rows i s hs).lt; show s.g ≠ w.heap.size; omega
    · have := (h.rows j u hu).lt; show w.heap.size ≠ u.g; omega
    · omega
  · rcases at_ j s hj with ⟨_, hs⟩ | ⟨_, rfl⟩
    · exact h.own j s hs
    · exact .inr h.chg.size
/- cells of a row -/
theorem Row.slab {g : Nat} {t : TypeId} {cs : Array Value} (h : Row w g t cs) (o : Nat) (L : List Value) (hL : (cs.toList.drop o).take L.length = L) : w.rangeAt g o L := fun j v hv => by
  have hj := (List.getElem?_eq_some_iff.1 hv).1
  rw [h.cell, ← Array.getElem?_toList]
  rw [← hL, List.getElem?_take_of_lt hj, List.getElem?_drop] at hv
  exact hv
theorem run_storeVar_at (w : World) (g o : Nat) (t ty : TypeId) (cur : Array Value) (v : Value) (hg : Row w g t cur) (hi : (P.info? ty).map (·.size) = some v.cells.size) (ho : o + v.cells.size ≤ cur.size) (h1 : v.cells.all (·.oneCell') = true) :
    (storeVar ty ⟨g, o, none⟩ v).run P w = .ok () (w.setRow g (spl cur.toList o v.cells.toList).toArray) := by
  have := run_storeCells_at P g o t v.cells.toList 0 cur w hg (by simpa using ho) (fun x hx => (Array.all_eq_true_iff_forall_mem.1 h1) x (by simpa using hx))
  cases hq : P.info? ty with
  | none => simp [hq] at hi
  | some i =>
    have hs : v.cells.size = i.size := by simp [hq] at hi; omega
    simp [storeVar, sizeOf, typeInfo, hq, hs, this, spl]
section
variable {o : Oper} {a : Act} {K : Act → World → Prop} {Q : Exit → Act → World → Prop}
theorem wp_st_alloc (hS : St w0 F R w) (e : TypeId) (cs : Array Value) (ho : o.op = .alloc e) (z : Value) (hz : (P.info? e).bind (·.zero) = some z) (hc : z.cells = cs)
    (h : ∀ g w', St w0 F (R ++ [⟨g, e, cs⟩]) w' → K (a.put o.dst (.pointer (some ⟨g, 0, none⟩))) w') : o.wp P a w K Q := by
  cases hq : P.info? e with
  | none => simp [hq] at hz
  | some i =>
    have hi : i.zero = some z := by simpa [hq] using hz
    have hrun : (Instr.alloc e true (.tuple #[])).run P w = .ok (.pointer (some ⟨w.heap.size, 0, none⟩)) (w.alloc (.cells cs e)) := by
      simp [Instr.alloc, zeroValue, typeInfo, hq, hi, newVar, newRow, hc]
    unfold Oper.wp execOp
    simp [ho, hrun]
    exact h _ _ (hS.snoc e cs)
theorem wp_st_box (hS : St w0 F R w) (e : TypeId) (x : Operand) (ho : o.op = .box e x) (v : Value) (hx : a.eval x = v) (cs : Array Value) (hc : v.cells = cs)
    (h : ∀ g w', St w0 F (R ++ [⟨g, e, cs⟩]) w' → K (a.put o.dst (.pointer (some ⟨g, 0, none⟩))) w') : o.wp P a w K Q := by
  have hrun : (Instr.box e v).run P w = .ok (.pointer (some ⟨w.heap.size, 0, none⟩)) (w.alloc (.cells cs e)) := by
    simp [Instr.box, newVar, newRow, hc]
  unfold Oper.wp execOp
  simp [ho, hx, hrun]
  exact h _ _ (hS.snoc e cs)
/- one cell -/
theorem wp_st_get (hS : St w0 F R w) (k i : Nat) (ty : TypeId) (x : Operand) (ho : o.op = .load ty x) {r : Blk} (hk : R[k]? = some r) (hx : a.eval x = .pointer (some ⟨r.g, i, none⟩)) (v : Value) (hv : r.cs[i]? = some v) (d : TypeDesc) (hu : P.underlying ty = some d) (hd : d.isRow = false)
    (h : K (a.put o.dst v) w) : o.wp P a w K Q := by
  have hc : w.cell? ⟨r.g, i, none⟩ = some v := (hS.row k hk).get hv
  have hagg : (isAgg ty).run P w = .ok false w := by
    unfold isAgg
    rw [Sem.run_bind, run_underlying hu w]
    cases d <;> simp_all
  have hrun : (Instr.loadAt ty (.pointer (some ⟨r.g, i, none⟩))).run P w = .ok v w := by
    simp [Instr.loadAt, Instr.sureAddr, loadVar, Sem.run_bind, hagg, hc]
  unfold Oper.wp execOp
  simp [ho, hx, hrun]
  exact h
/- several cells -/
theorem wp_st_load (hS : St w0 F R w) (k i : Nat) (ty : TypeId) (x : Operand) (ho : o.op = .load ty x) {r : Blk} (hk : R[k]? = some r) (hx : a.eval x = .pointer (some ⟨r.g, i, none⟩)) (cs : Array Value) (hv : (r.cs.toList.drop i).take cs.size = cs.toList) (d : TypeDesc) (hu : P.underlying ty = some d) (hd : d.isRow = true) (hi : (P.info? ty).map (·.size) = some cs.size)
    (h : K (a.put o.dst (.agg cs)) w) : o.wp P a w K Q :=
  wp_load_mid ty x ho r.g i hx cs.toList d ((hS.row k hk).slab i cs.toList (by simpa using hv)) hu hd (by simpa using hi) (by simpa using h)
theorem wp_st_store (hS : St w0 F R w) (k i : Nat) (ty : TypeId) (x y : Operand) (ho : o.op = .store ty x y) {r : Blk} (hk : R[k]? = some r) (hx : a.eval x = .pointer (some ⟨r.g, i, none⟩)) (v : Value) (hy : a.eval y = v) (hi : (P.info? ty).map (·.size) = some v.cells.size) (hfit : i + v.cells.size ≤ r.cs.size) (h1 : v.cells.all (·.oneCell') = true)
    (cs : Array Value) (hcs : (spl r.cs.toList i v.cells.toList).toArray = cs)
    (h : ∀ w', St w0 F (R.set k ⟨r.g, r.t, cs⟩) w' → K (a.put o.dst undef) w') : o.wp P a w K Q := by
  have hrun := run_storeVar_at (P := P) w r.g i r.t ty r.cs v (hS.row k hk) hi hfit h1
  unfold Oper.wp execOp
  simp [ho, hx, hy, Instr.storeAt, Instr.sureAddr, hrun]
  rw [hcs]
  exact h _ (hS.upd k hk ((hS.row k hk).setRow cs) (grown_setRow w r.g cs))
end
/- at the list of a plain region's operations -/
section
variable {ops : Array Oper} {rest : List Oper} {o : Oper} {a : Act} {Q : Exit → Act → World → Prop}
theorem wpl_st_alloc (hS : St w0 F R w) (e : TypeId) (cs : Array Value) (hgd : o.guard = none) (ho : o.op = .alloc e) (z : Value) (hz : (P.info? e).bind (·.zero) = some z) (hc : z.cells = cs)
    (h : ∀ g w', St w0 F (R ++ [⟨g, e, cs⟩]) w' → wpList P ops Q rest (a.put o.dst (.pointer (some ⟨g, 0, none⟩))) w') : wpList P ops Q (o :: rest) a w :=
  wpList_plain hgd fun _ hK => wp_st_alloc hS e cs ho z hz hc fun g w' h1 => hK _ _ (h g w' h1)
theorem wpl_st_box (hS : St w0 F R w) (e : TypeId) (x : Operand) (hgd : o.guard = none) (ho : o.op = .box e x) (v : Value) (hx : a.eval x = v) (cs : Array Value) (hc : v.cells = cs)
    (h : ∀ g w', St w0 F (R ++ [⟨g, e, cs⟩]) w' → wpList P ops Q rest (a.put o.dst (.pointer (some ⟨g, 0, none⟩))) w') : wpList P ops Q (o :: rest) a w :=
  wpList_plain hgd fun _ hK => wp_st_box hS e x ho v hx cs hc fun g w' h1 => hK _ _ (h g w' h1)
theorem wpl_st_get (hS : St w0 F R w) (k i : Nat) (ty : TypeId) (x : Operand) (hgd : o.guard = none) (ho : o.op = .load ty x) {r : Blk} (hk : R[k]? = some r) (hx : a.eval x = .pointer (some ⟨r.g, i, none⟩)) (v : Value) (hv : r.cs[i]? = some v) (d : TypeDesc) (hu : P.underlying ty = some d) (hd : d.isRow = false)
    (h : wpList P ops Q rest (a.put o.dst v) w) : wpList P ops Q (o :: rest) a w :=
  wpList_plain hgd fun _ hK => wp_st_get hS k i ty x ho hk hx v hv d hu hd (hK _ _ h)
theorem wpl_st_load (hS : St w0 F R w) (k i : Nat) (ty : TypeId) (x : Operand) (hgd : o.guard = none) (ho : o.op = .load ty x) {r : Blk} (hk : R[k]? = some r) (hx : a.eval x = .pointer (some ⟨r.g, i, none⟩)) (cs : Array Value) (hv : (r.cs.toList.drop i).take cs.size = cs.toList) (d : TypeDesc) (hu : P.underlying ty = some d) (hd : d.isRow = true) (hi : (P.info? ty).map (·.size) = some cs.size)
    (h : wpList P ops Q rest (a.put o.dst (.agg cs)) w) : wpList P ops Q (o :: rest) a w :=
  wpList_plain hgd fun _ hK => wp_st_load hS k i ty x ho hk hx cs hv d hu hd hi (hK _ _ h)
theorem wpl_st_store (hS : St w0 F R w) (k i : Nat) (ty : TypeId) (x y : Operand) (hgd : o.guard = none) (ho : o.op = .store ty x y) {r : Blk} (hk : R[k]? = some r) (hx : a.eval x = .pointer (some ⟨r.g, i, none⟩)) (v : Value) (hy : a.eval y = v) (hi : (P.info? ty).map (·.size) = some v.cells.size) (hfit : i + v.cells.size ≤ r.cs.size) (h1 : v.cells.all (·.oneCell') = true)
    (cs : Array Value) (hcs : (spl r.cs.toList i v.cells.toList).toArray = cs)
    (h : ∀ w', St w0 F (R.set k ⟨r.g, r.t, cs⟩) w' → wpList P ops Q rest (a.put o.dst undef) w') : wpList P ops Q (o :: rest) a w :=
  wpList_plain hgd fun _ hK => wp_st_store hS k i ty x y ho hk hx v hy hi hfit h1 cs hcs fun w' h1 => hK _ _ (h w' h1)
end
/- the whole of a row, or a part -/
theorem slab_whole (cs : Array Value) : (cs.toList.drop 0).take cs.size = cs.toList := by rw [List.drop_zero]; exact List.take_of_length_le (by simp)
theorem spl_whole (cur cs : Array Value) (h : cur.size = cs.size) : (spl cur.toList 0 cs.toList).toArray = cs := by
  unfold spl
  rw [List.take_zero, List.nil_append, Nat.zero_add, List.drop_of_length_le (by simp [h]), List.append_nil]
theorem spl_agg (cur cs cs' : Array Value) (e : cs = cs') (h : cur.size = cs.size) : (spl cur.toList 0 (Value.agg cs).cells.toList).toArray = cs' := by
  rw [← e]; exact spl_whole cur cs h
theorem spl_at (cur : Array Value) (i : Nat) (v : Value) (h : i < cur.size) : (spl cur.toList i [v]).toArray = cur.setIfInBounds i v := by
  rw [← set_eq_spl _ _ _ (by simpa using h)]
  apply Array.ext'
  simp
theorem wp_st_put {o : Oper} {a : Act} {K : Act → World → Prop} {Q : Exit → Act → World → Prop} (hS : St w0 F R w) (k i : Nat) (ty : TypeId) (x y : Operand) (ho : o.op = .store ty x y) {r : Blk} (hk : R[k]? = some r) (hx : a.eval x = .pointer (some ⟨r.g, i, none⟩)) (v : Value) (hy : a.eval y = v) (hi : (P.info? ty).map (·.size) = some 1) (hv : v.cells = #[v]) (h1 : v.oneCell' = true) (hfit : i < r.cs.size)
    (cs : Array Value) (hcs : r.cs.setIfInBounds i v = cs)
    (h : ∀ w', St w0 F (R.set k ⟨r.g, r.t, cs⟩) w' → K (a.put o.dst undef) w') : o.wp P a w K Q :=
  wp_st_store hS k i ty x y ho hk hx v hy (by rw [hv]; exact hi) (by rw [hv]; exact hfit) (by rw [hv]; simp [h1]) cs (by rw [hv, ← hcs]; exact spl_at r.cs i v hfit) h
theorem wpl_st_put {ops : Array Oper} {rest : List Oper} {o : Oper} {a : Act} {Q : Exit → Act → World → Prop} (hS : St w0 F R w) (k i : Nat) (ty : TypeId) (x y : Operand) (hgd : o.guard = none) (ho : o.op = .store ty x y) {r : Blk} (hk : R[k]? = some r) (hx : a.eval x = .pointer (some ⟨r.g, i, none⟩)) (v : Value) (hy : a.eval y = v) (hi : (P.info? ty).map (·.size) = some 1) (hv : v.cells = #[v]) (h1 : v.oneCell' = true) (hfit : i < r.cs.size)
    (cs : Array Value) (hcs : r.cs.setIfInBounds i v = cs)
    (h : ∀ w', St w0 F (R.set k ⟨r.g, r.t, cs⟩) w' → wpList P ops Q rest (a.put o.dst undef) w') : wpList P ops Q (o :: rest) a w :=
  wpList_plain hgd fun _ hK => wp_st_put hS k i ty x y ho hk hx v hy hi hv h1 hfit cs hcs fun w' h1 => hK _ _ (h w' h1)
end
end Go.Proofs.Ytppbgkdkioldbaa
