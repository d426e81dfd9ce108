/- A block of memory that is known whole, and how it lasts through draws, new blocks, stores elsewhere and calls. No condition beyond the theorems' own. -/
import Derived.Test.YtppbgkdkioldbaaWords
import Derived.WalkKit
import Derived.Laws.Rows
import Derived.Laws.OwnMore
import Derived.Laws.CopyOwn
import Derived.Laws.AppendOwn
import Derived.Below
import Derived.Deep.Draws
import Derived.Deep.MidRow
import Derived.Deep.WholeRow
set_option maxRecDepth 4000
namespace Go.Proofs.Ytppbgkdkioldbaa
open Go Go.RowKit

def Row (w : World) (g : Nat) (t : TypeId) (cs : Array Value) : Prop := w.heap[g]? = some (.cells cs t (0, 0))

section
variable {w w' : World} {g : Nat} {t : TypeId} {cs : Array Value}
theorem Row.lt (h : Row w g t cs) : g < w.heap.size := by
  by_cases hl : g < w.heap.size
  · exact hl
  · unfold Row at h; rw [Array.getElem?_eq_none (by omega)] at h; cases h
theorem Row.cell (h : Row w g t cs) (i : Nat) : w.cell? ⟨g, i, none⟩ = cs[i]? := cell_of_row w g i cs t (0, 0) h
theorem Row.free (h : Row w g t cs) (i : Nat) : w.frozen? ⟨g, i, none⟩ = false := frozen_of_row w g i cs t h
theorem Row.fresh (w : World) (t : TypeId) (cs : Array Value) : Row (w.alloc (.cells cs t)) w.heap.size t cs := heap_alloc_new w _
theorem Row.drew (h : Row w g t cs) : Row w.drew g t cs := h
theorem Row.drewN (h : Row w g t cs) (n : Nat) : Row (w.drewN n) g t cs := h
theorem Row.alloc (h : Row w g t cs) (o : Obj) : Row (w.alloc o) g t cs := (Below.heap_alloc w o g h.lt).trans h
theorem Row.put (h : Row w g t cs) (i : Nat) (v : Value) : Row (w.setCell ⟨g, i, none⟩ v) g t (cs.setIfInBounds i v) := heap_setCell_same w g i cs t v h
theorem Row.far (h : Row w g t cs) {p : Addr} (hp : g ≠ p.block) (v : Value) : Row (w.setCell p v) g t cs := (heap_setCell_other w p g v hp).trans h
theorem Row.setRow (h : Row w g t cs) (ds : Array Value) : Row (w.setRow g ds) g t ds := setRow_heap w g cs ds t (0, 0) h
theorem Row.setRow_far (h : Row w g t cs) {k : Nat} (hk : g ≠ k) (ds : Array Value) : Row (w.setRow k ds) g t cs := (setRow_other w k g ds hk).trans h
theorem Row.below {B : Nat} (h : Row w g t cs) (hb : Below B w w') (hg : g < B) : Row w' g t cs := (hb.block g hg).trans h
theorem Row.call (h : Row w g t cs) (hb : Below w.heap.size w w') : Row w' g t cs := h.below hb h.lt
theorem Row.get (h : Row w g t cs) {i : Nat} {v : Value} (hi : cs[i]? = some v) : w.cell? ⟨g, i, none⟩ = some v := (h.cell i).trans hi
end

theorem row3a (w : World) (t : TypeId) (cs : Array Value) (o2 o3 : Obj) : Row (((w.alloc (.cells cs t)).alloc o2).alloc o3) w.heap.size t cs := ((Row.fresh _ _ _).alloc _).alloc _
theorem row2b (w : World) (t : TypeId) (cs : Array Value) (o1 : Obj) : Row ((w.alloc o1).alloc (.cells cs t)) (w.heap.size + 1) t cs := by
  have e : w.heap.size + 1 = (w.alloc o1).heap.size := by simp
  rw [e]; exact Row.fresh _ _ _
theorem row3b (w : World) (t : TypeId) (cs : Array Value) (o1 o3 : Obj) : Row (((w.alloc o1).alloc (.cells cs t)).alloc o3) (w.heap.size + 1) t cs := (row2b _ _ _ _).alloc _
theorem row3c (w : World) (t : TypeId) (cs : Array Value) (o1 o2 : Obj) : Row (((w.alloc o1).alloc o2).alloc (.cells cs t)) (w.heap.size + 1 + 1) t cs := by
  have e : w.heap.size + 1 + 1 = ((w.alloc o1).alloc o2).heap.size := by simp
  rw [e]; exact Row.fresh _ _ _
theorem below3 (w : World) (o1 o2 o3 : Obj) : Below w.heap.size w (((w.alloc o1).alloc o2).alloc o3) := ((((Below.refl _ _).alloc (Nat.le_refl _) _).alloc (by simp) _)).alloc (by simp; omega) _

theorem setRow_alloc2 (w : World) (o1 : Obj) (c c' : Array Value) (t : TypeId) : ((w.alloc o1).alloc (.cells c t)).setRow (w.heap.size + 1) c' = (w.alloc o1).alloc (.cells c' t) := by
  have e : w.heap.size + 1 = (w.alloc o1).heap.size := by simp
  rw [e]; exact World.setRow_alloc_new _ _ _ _

/- arrays of words, as values -/
def ws (l : List (BitVec 32)) : Array Value := (l.map fun x => Value.int .u32 (wd x)).toArray
def bs (l : List (BitVec 8)) : Array Value := (l.map fun x => Value.int .u8 (bd x)).toArray
theorem size_ws (l : List (BitVec 32)) : (ws l).size = l.length := by simp [ws]
theorem size_bs (l : List (BitVec 8)) : (bs l).size = l.length := by simp [bs]
theorem get_ws (l : List (BitVec 32)) (i : Nat) (h : i < l.length) : (ws l)[i]? = some (.int .u32 (wd (l.getD i 0))) := by simp [ws, h]
theorem get_bs (l : List (BitVec 8)) (i : Nat) (h : i < l.length) : (bs l)[i]? = some (.int .u8 (bd (l.getD i 0))) := by simp [bs, h]
theorem set_ws (l : List (BitVec 32)) (i : Nat) (x : BitVec 32) : (ws l).setIfInBounds i (.int .u32 (wd x)) = ws (l.set i x) := by
  simp [ws, List.map_set]
theorem set_bs (l : List (BitVec 8)) (i : Nat) (x : BitVec 8) : (bs l).setIfInBounds i (.int .u8 (bd x)) = bs (l.set i x) := by
  simp [bs, List.map_set]
theorem one_ws (l : List (BitVec 32)) : (ws l).all (·.oneCell') = true := by simp [ws, Value.oneCell']
theorem one_bs (l : List (BitVec 8)) : (bs l).all (·.oneCell') = true := by simp [bs, Value.oneCell']
theorem len_bs (b : List (BitVec 8)) : (bs b).toList.length = b.length := by simp [bs]
theorem only_refl (w : World) (g : Nat) : w.grownBy w (some g) := ⟨rfl, rfl, rfl, Nat.le_refl _, fun _ _ _ => rfl⟩
theorem only_drew {a w : World} {g : Nat} (h : a.grownBy w (some g)) : a.grownBy w.drew (some g) := ⟨h.os, h.tape, h.output, h.size, h.block⟩
theorem only_call {a w w' : World} {g : Nat} (h : a.grownBy w (some g)) (hb : Below w.heap.size w w') : a.grownBy w' (some g) :=
  ⟨hb.os.trans h.os, hb.tape.trans h.tape, hb.output.trans h.output, Nat.le_trans h.size hb.size, fun k hk hne => (hb.block k (Nat.lt_of_lt_of_le hk h.size)).trans (h.block k hk hne)⟩
theorem only_setCell {a w : World} {g i : Nat} (h : a.grownBy w (some g)) (v : Value) : a.grownBy (w.setCell ⟨g, i, none⟩ v) (some g) :=
  ⟨h.os, h.tape, h.output, by simpa [World.setCell] using h.size, fun k hk hne => (heap_setCell_other w ⟨g, i, none⟩ k v (fun e => hne (by rw [e]))).trans (h.block k hk hne)⟩
theorem only_setRow {a w : World} {g : Nat} (h : a.grownBy w (some g)) (cs : Array Value) : a.grownBy (w.setRow g cs) (some g) :=
  ⟨h.os, h.tape, h.output, by simpa using h.size, fun k hk hne => (setRow_other w g k cs (fun e => hne (by rw [e]))).trans (h.block k hk hne)⟩
theorem only_setCells {a : World} {g : Nat} : ∀ (vs : List Value) (o : Nat) {w : World}, a.grownBy w (some g) → a.grownBy (w.setCells g o vs) (some g)
  | [], _, _, h => h
  | v :: vs, o, _, h => only_setCells vs (o + 1) (only_setCell h v)
theorem only_trans {a b c : World} {g : Nat} (h : a.grownBy b (some g)) (k : b.grownBy c (some g)) : a.grownBy c (some g) :=
  ⟨k.os.trans h.os, k.tape.trans h.tape, k.output.trans h.output, Nat.le_trans h.size k.size, fun i hi hne => (k.block i (Nat.lt_of_lt_of_le hi h.size) hne).trans (h.block i hi hne)⟩
theorem only_below {a w : World} {g B : Nat} (h : a.grownBy w (some g)) (hB : B ≤ g) (hs : B ≤ a.heap.size) : Below B a w :=
  ⟨h.os, h.tape, h.output, h.size, fun k hk => h.block k (by omega) (fun e => by injection e with e; omega)⟩
theorem Row.only {w w' : World} {g k : Nat} {t : TypeId} {cs : Array Value} (h : Row w k t cs) (hw : w.grownBy w' (some g)) (hne : k ≠ g) : Row w' k t cs :=
  (hw.block k h.lt (fun e => hne (by injection e))).trans h

end Go.Proofs.Ytppbgkdkioldbaa
