/- The memory of a message in the making: its cells, and how a copy, a store of the length and a store of H turn them. -/
import Derived.Test.YtnfceejmkcohnaaDoorMem
import Derived.Test.YtnfceejmkcohnaaDoorSpec3
import Derived.Still
import Derived.Laws.AppendOwn
namespace Go.Proofs.YtnfceejmkcohnaaDoor
open Go Go.RowKit
def mcells (h : List (BitVec 32)) (b : List (BitVec 8)) (n : Nat) : Array Value := ws h ++ (bs b ++ #[.int .u64 (n : Int)])
theorem toList_mcells (h : List (BitVec 32)) (b : List (BitVec 8)) (n : Nat) : (mcells h b n).toList = (ws h).toList ++ ((bs b).toList ++ [.int .u64 (n : Int)]) := by simp [mcells]
theorem len_ws (h : List (BitVec 32)) : (ws h).toList.length = h.length := by simp [ws]
theorem len_bs (b : List (BitVec 8)) : (bs b).toList.length = b.length := by simp [bs]
theorem size_mcells (h : List (BitVec 32)) (b : List (BitVec 8)) (n : Nat) (hh : h.length = 8) (hb : b.length = 64) : (mcells h b n).size = 73 := by simp [mcells, size_ws, size_bs, hh, hb]
theorem mcells_len (h : List (BitVec 32)) (b : List (BitVec 8)) (n : Nat) (hh : h.length = 8) (hb : b.length = 64) : (mcells h b n)[72]? = some (.int .u64 (n : Int)) := by
  unfold mcells
  rw [Array.getElem?_append_right (by rw [size_ws]; omega), Array.getElem?_append_right (by rw [size_ws, size_bs]; omega), size_ws, size_bs, hh, hb]
  rfl
theorem mcells_setLen (h : List (BitVec 32)) (b : List (BitVec 8)) (n k : Nat) (hh : h.length = 8) (hb : b.length = 64) : (mcells h b n).setIfInBounds 72 (.int .u64 (k : Int)) = mcells h b k := by
  apply Array.toList_inj.1
  rw [Array.toList_setIfInBounds, toList_mcells, toList_mcells, List.set_append_right _ _ (by rw [len_ws]; omega), List.set_append_right _ _ (by rw [len_ws, len_bs]; omega), len_ws, len_bs, hh, hb]
  rfl
theorem mcells_setH (h : List (BitVec 32)) (b : List (BitVec 8)) (n i : Nat) (x : BitVec 32) (hi : i < h.length) : (mcells h b n).setIfInBounds i (.int .u32 (wd x)) = mcells (h.set i x) b n := by
  apply Array.toList_inj.1
  rw [Array.toList_setIfInBounds, toList_mcells, toList_mcells, List.set_append_left _ _ (by rw [len_ws]; omega), ← set_ws, Array.toList_setIfInBounds]
/- the copy into the block's place -/
theorem mcells_fill (h : List (BitVec 32)) (b : List (BitVec 8)) (n : Nat) (hh : h.length = 8) (hb : b.length = 64) (q : List (BitVec 8)) (r : Nat) (hr : r + q.length ≤ 64) :
    ((mcells h b n).toList.take (8 + r) ++ ((q.map fun x => Value.int .u8 (bd x)) ++ (mcells h b n).toList.drop (8 + r + (q.map fun x => Value.int .u8 (bd x)).length))).toArray = mcells h (fill b q r) n := by
  have h1 : (ws h).toList.length = 8 := by rw [len_ws, hh]
  have h2 : (bs b).toList.length = 64 := by rw [len_bs, hb]
  rw [toList_mcells h b n, List.take_append, List.drop_append, h1, List.take_of_length_le (by omega), List.drop_of_length_le (by omega), List.length_map, show 8 + r - 8 = r by omega, show 8 + r + q.length - 8 = r + q.length by omega]
  rw [List.take_append_of_le_length (by omega), List.drop_append_of_le_length (by omega), List.nil_append]
  apply Array.toList_inj.1
  rw [toList_mcells]
  simp [bs, fill, List.map_take, List.map_drop]
theorem range_h {h : List (BitVec 32)} {b : List (BitVec 8)} {n : Nat} {w : World} {g : Nat} {t : TypeId} (hr : Row w g t (mcells h b n)) : w.rangeAt g 0 (ws h).toList := fun j v hv => by
  rw [Nat.zero_add, hr.cell, mcells, Array.getElem?_append_left]
  · simpa using hv
  · have := (List.getElem?_eq_some_iff.1 hv).1; simpa using this
theorem range_b {h : List (BitVec 32)} {b : List (BitVec 8)} {n : Nat} {w : World} {g : Nat} {t : TypeId} (hh : h.length = 8) (hr : Row w g t (mcells h b n)) : w.rangeAt g 8 (bs b).toList := fun j v hv => by
  have hj := (List.getElem?_eq_some_iff.1 hv).1
  rw [hr.cell, mcells, Array.getElem?_append_right (by rw [size_ws]; omega), size_ws, hh, show 8 + j - 8 = j by omega, Array.getElem?_append_left (by simpa using hj)]
  simpa using hv
theorem there_h {h : List (BitVec 32)} {b : List (BitVec 8)} {n : Nat} (hh : h.length = 8) (hb : b.length = 64) {w : World} {g : Nat} {t : TypeId} (hr : Row w g t (mcells h b n)) : w.there g 0 8 := fun j hj => by
  rw [Nat.zero_add]
  refine ⟨?_, hr.free j⟩
  rw [hr.cell, Array.getElem?_eq_getElem (by rw [size_mcells h b n hh hb]; omega)]
  rfl
/- H written anew -/
theorem Row.putH {w : World} {g : Nat} {t : TypeId} {h h' : List (BitVec 32)} {b : List (BitVec 8)} {n : Nat} (hh : h.length = 8) (hh' : h'.length = 8) (hr : Row w g t (mcells h b n)) :
    Row (w.setCells g 0 (ws h').toList) g t (mcells h' b n) := by
  obtain ⟨a0, a1, a2, a3, a4, a5, a6, a7, rfl⟩ := list8 h hh
  obtain ⟨x0, x1, x2, x3, x4, x5, x6, x7, rfl⟩ := list8 h' hh'
  have h0 := hr.put 0 (.int .u32 (wd x0)); rw [mcells_setH _ _ _ _ _ (by simp)] at h0
  have h1 := h0.put 1 (.int .u32 (wd x1)); rw [mcells_setH _ _ _ _ _ (by simp)] at h1
  have h2 := h1.put 2 (.int .u32 (wd x2)); rw [mcells_setH _ _ _ _ _ (by simp)] at h2
  have h3 := h2.put 3 (.int .u32 (wd x3)); rw [mcells_setH _ _ _ _ _ (by simp)] at h3
  have h4 := h3.put 4 (.int .u32 (wd x4)); rw [mcells_setH _ _ _ _ _ (by simp)] at h4
  have h5 := h4.put 5 (.int .u32 (wd x5)); rw [mcells_setH _ _ _ _ _ (by simp)] at h5
  have h6 := h5.put 6 (.int .u32 (wd x6)); rw [mcells_setH _ _ _ _ _ (by simp)] at h6
  have h7 := h6.put 7 (.int .u32 (wd x7)); rw [mcells_setH _ _ _ _ _ (by simp)] at h7
  exact h7

/- nothing but block g, and what is new, has turned -/
theorem only_refl (w : World) (g : Nat) : w.grownBy w (some g) := ⟨rfl, rfl, rfl, Nat.le_refl _, fun _ _ _ => rfl⟩
theorem only_drew {a w : World} {g : Nat} (h : a.grownBy w (some g)) : a.grownBy w.drew (some g) := ⟨h.os, h.tape, h.output, h.size, h.block⟩
theorem only_call {a w w' : World} {g : Nat} (h : a.grownBy w (some g)) (hb : Below w.heap.size w w') : a.grownBy w' (some g) :=
  ⟨hb.os.trans h.os, hb.tape.trans h.tape, hb.output.trans h.output, Nat.le_trans h.size hb.size, fun k hk hne => (hb.block k (Nat.lt_of_lt_of_le hk h.size)).trans (h.block k hk hne)⟩
theorem only_setCell {a w : World} {g i : Nat} (h : a.grownBy w (some g)) (v : Value) : a.grownBy (w.setCell ⟨g, i, none⟩ v) (some g) :=
  ⟨h.os, h.tape, h.output, by simpa [World.setCell] using h.size, fun k hk hne => (heap_setCell_other w ⟨g, i, none⟩ k v (fun e => hne (by rw [e]))).trans (h.block k hk hne)⟩
theorem only_setRow {a w : World} {g : Nat} (h : a.grownBy w (some g)) (cs : Array Value) : a.grownBy (w.setRow g cs) (some g) :=
  ⟨h.os, h.tape, h.output, by simpa using h.size, fun k hk hne => (setRow_other w g k cs (fun e => hne (by rw [e]))).trans (h.block k hk hne)⟩
theorem only_setCells {a : World} {g : Nat} : ∀ (vs : List Value) (o : Nat) {w : World}, a.grownBy w (some g) → a.grownBy (w.setCells g o vs) (some g)
  | [], _, _, h => h
  | v :: vs, o, _, h => only_setCells vs (o + 1) (only_setCell h v)
theorem only_trans {a b c : World} {g : Nat} (h : a.grownBy b (some g)) (k : b.grownBy c (some g)) : a.grownBy c (some g) :=
  ⟨k.os.trans h.os, k.tape.trans h.tape, k.output.trans h.output, Nat.le_trans h.size k.size, fun i hi hne => (k.block i (Nat.lt_of_lt_of_le hi h.size) hne).trans (h.block i hi hne)⟩
theorem only_below {a w : World} {g B : Nat} (h : a.grownBy w (some g)) (hB : B ≤ g) (hs : B ≤ a.heap.size) : Below B a w :=
  ⟨h.os, h.tape, h.output, h.size, fun k hk => h.block k (by omega) (fun e => by injection e with e; omega)⟩
theorem Row.only {w w' : World} {g k : Nat} {t : TypeId} {cs : Array Value} (h : Row w k t cs) (hw : w.grownBy w' (some g)) (hne : k ≠ g) : Row w' k t cs :=
  (hw.block k h.lt (fun e => hne (by injection e))).trans h

/- an array read out of the midst of a block, in a region that draws its order -/
theorem wpStill_load_mid {P : Program} {ops : Array Oper} {w : World} {Q : Act → Prop} {op : Oper} {rest : List Oper} {a : Act} (hgd : op.guard = none) (ty : TypeId) (x : Operand) (ho : op.op = .load ty x)
    (b o : Nat) (hx : a.eval x = .pointer (some ⟨b, o, none⟩)) (cs : List Value) (d : TypeDesc) (hc : w.rangeAt b o cs) (hu : P.underlying ty = some d) (hd : d.isRow = true) (hi : (P.info? ty).map (·.size) = some cs.length)
    (h : wpStill P ops w Q rest (a.put op.dst (.agg cs.toArray))) : wpStill P ops w Q (op :: rest) a := by
  have hw : Region.wanted op (yielded ops a.tmps) = true := by simp [Region.wanted, hgd]
  unfold wpStill
  rw [if_pos hw]
  unfold Oper.still execOp
  simp only [ho, hx, Instr.loadAt, Instr.sureAddr, Sem.run_bind, Sem.run_pure, Result.andThen_ok, run_loadVar_mid w b o ty cs d hc hu hd hi]
  exact ⟨rfl, h⟩
theorem step_load_mid {P : Program} {ops : Array Oper} {w : World} {K : Act → World → Prop} {Q : Exit → Act → World → Prop} {E : Prop} {op : Oper} {a : Act} (hgd : op.guard = none) (ty : TypeId) (x : Operand) (ho : op.op = .load ty x)
    (b o : Nat) (hx : a.eval x = .pointer (some ⟨b, o, none⟩)) (cs : List Value) (d : TypeDesc) (hc : w.rangeAt b o cs) (hu : P.underlying ty = some d) (hd : d.isRow = true) (hi : (P.info? ty).map (·.size) = some cs.length)
    (h : K (a.put op.dst (.agg cs.toArray)) w) : if Region.wanted op (yielded ops a.tmps) = true then Oper.wp P op a w K Q else E := by
  rw [if_pos (by simp [Region.wanted, hgd])]
  exact wp_load_mid ty x ho b o hx cs d hc hu hd hi h
theorem step_store_mid {P : Program} {ops : Array Oper} {w : World} {K : Act → World → Prop} {Q : Exit → Act → World → Prop} {E : Prop} {op : Oper} {a : Act} (hgd : op.guard = none) (ty : TypeId) (x y : Operand) (ho : op.op = .store ty x y)
    (b o : Nat) (cells : Array Value) (hx : a.eval x = .pointer (some ⟨b, o, none⟩)) (hy : a.eval y = .agg cells)
    (ht : w.there b o cells.size) (hi : (P.info? ty).map (·.size) = some cells.size) (h1 : cells.all (·.oneCell') = true)
    (h : K (a.put op.dst undef) (w.setCells b o cells.toList)) : if Region.wanted op (yielded ops a.tmps) = true then Oper.wp P op a w K Q else E := by
  rw [if_pos (by simp [Region.wanted, hgd])]
  exact wp_store_mid ty x y ho b o cells hx hy ht hi h1 h
end Go.Proofs.YtnfceejmkcohnaaDoor
