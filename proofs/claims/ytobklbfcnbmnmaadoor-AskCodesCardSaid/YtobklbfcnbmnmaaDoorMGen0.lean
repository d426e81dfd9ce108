/- Merged: Words Mem Sl OpenB Obj Read Half CopyR Str Inv Does Ph Phs St StMore PhA Fill Aw. -/
import Derived.WalkKit
import Derived.Laws.BitsAllLaws
import Derived.Laws.BitsLemmas
import Derived.Laws.Rows
import Derived.Laws.OwnMore
import Derived.Below
import Derived.Deep.Draws
import Derived.Laws.CopyOwn
import Derived.Laws.AppendOwn
import Derived.Deep.MidRow
import Derived.Deep.WholeRow
import Derived.Test.YtobklbfcnbmnmaaDoorProg
import Derived.Still
import Derived.Laws.AppendOwnNone
import Derived.Laws.MakeOwn
import Derived.OwnWalk
import Derived.Maps.AppendAt
import Derived.Maps.RangeWalk
import Derived.Lib.SlBytesConst
import Derived.Lib.Hide
import Derived.ProofKit
import Derived.OpenShut
import Derived.Carry
import Derived.Deep.DeepHandedRow
import Derived.Deep.Slices
import Derived.Laws.BytesArg
import Derived.Laws.IdiomStrings
import Derived.Laws.Concat
import Derived.Laws.Strings3
import Derived.Shelf.Bytes.SlSmallAll
import Derived.OrdersHeld
import Derived.Great.BuildSlice
/- Plain facts on machine words as bit vectors, in the walk's own spelling: what the operations of Go on uint8, uint32 and uint64 come to. No condition. -/
set_option maxRecDepth 4000
namespace Go.Proofs.YtobklbfcnbmnmaaDoor
open Go Go.RowKit

/- a word's number, kept shut: the walk does not look into it -/
def wd (x : BitVec 32) : Int := (x.toNat : Int)
def bd (x : BitVec 8) : Int := (x.toNat : Int)

theorem wd_lo (x : BitVec 32) : 0 ≤ wd x := by unfold wd; omega
theorem wd_hi (x : BitVec 32) : wd x < 4294967296 := by unfold wd; have := x.isLt; omega
theorem bd_lo (x : BitVec 8) : 0 ≤ bd x := by unfold bd; omega
theorem bd_hi (x : BitVec 8) : bd x < 256 := by unfold bd; have := x.isLt; omega
theorem wd_inj {x y : BitVec 32} (h : wd x = wd y) : x = y := by unfold wd at h; exact BitVec.eq_of_toNat_eq (by omega)
theorem bd_inj {x y : BitVec 8} (h : bd x = bd y) : x = y := by unfold bd at h; exact BitVec.eq_of_toNat_eq (by omega)
theorem wd_of (n : Int) (h0 : 0 ≤ n) (h1 : n < 4294967296) : n = wd (BitVec.ofInt 32 n) := by
  unfold wd; obtain ⟨m, rfl⟩ := Int.eq_ofNat_of_zero_le h0
  rw [ofInt_u32 m (by omega)]
theorem bd_of (n : Int) (h0 : 0 ≤ n) (h1 : n < 256) : n = bd (BitVec.ofInt 8 n) := by
  unfold bd; obtain ⟨m, rfl⟩ := Int.eq_ofNat_of_zero_le h0
  rw [ofInt_u8 m (by omega)]

theorem ofInt_wd (x : BitVec 32) : BitVec.ofInt 32 (wd x) = x := by
  apply BitVec.eq_of_toNat_eq; unfold wd; rw [ofInt_u32 _ x.isLt]
theorem wrap_wd (x : BitVec 32) : IntKind.u32.wrap (wd x) = wd x := by
  rw [IntKind.wrap_u32']; have := wd_lo x; have := wd_hi x; omega
theorem wrap_bd (x : BitVec 8) : IntKind.u8.wrap (bd x) = bd x := by
  rw [IntKind.wrap_u8']; have := bd_lo x; have := bd_hi x; omega

theorem xor_wd (x y : BitVec 32) : bits .xor .u32 (wd x) (wd y) = wd (x ^^^ y) := by
  show IntKind.u32.wrap ((BitVec.ofInt 32 (wd x) ^^^ BitVec.ofInt 32 (wd y)).toNat : Int) = _
  rw [ofInt_wd, ofInt_wd]; exact wrap_wd _
theorem and_wd (x y : BitVec 32) : bits .and .u32 (wd x) (wd y) = wd (x &&& y) := by
  show IntKind.u32.wrap ((BitVec.ofInt 32 (wd x) &&& BitVec.ofInt 32 (wd y)).toNat : Int) = _
  rw [ofInt_wd, ofInt_wd]; exact wrap_wd _
theorem or_wd (x y : BitVec 32) : bits .or .u32 (wd x) (wd y) = wd (x ||| y) := by
  show IntKind.u32.wrap ((BitVec.ofInt 32 (wd x) ||| BitVec.ofInt 32 (wd y)).toNat : Int) = _
  rw [ofInt_wd, ofInt_wd]; exact wrap_wd _
theorem add_wd (x y : BitVec 32) : IntKind.u32.wrap (wd x + wd y) = wd (x + y) := by
  rw [IntKind.wrap_u32']; unfold wd; rw [BitVec.toNat_add]; omega
theorem signed_u32 : (IntKind.u32.signed = true) = False := by simp [IntKind.signed]
theorem not_wd (x : BitVec 32) : bits .xor .u32 IntKind.u32.max (wd x) = wd (~~~x) := by
  have e : IntKind.u32.max = wd (BitVec.allOnes 32) := by decide +kernel
  rw [e, xor_wd, BitVec.allOnes_xor]
theorem shr_wd (x : BitVec 32) (n : Nat) : wd x / 2 ^ n = wd (x >>> n) := by
  unfold wd; rw [BitVec.toNat_ushiftRight, Nat.shiftRight_eq_div_pow]; norm_cast
theorem shl_wd (x : BitVec 32) (n : Nat) : IntKind.u32.wrap (wd x * 2 ^ n) = wd (x <<< n) := by
  rw [IntKind.wrap_u32']; unfold wd; rw [BitVec.toNat_shiftLeft, Nat.shiftLeft_eq]
  have e : (2 : Int) ^ n = ((2 ^ n : Nat) : Int) := by norm_cast
  rw [e, ← Int.natCast_mul]
  generalize x.toNat * 2 ^ n = m
  show (m : Int) % 4294967296 = ((m % 4294967296 : Nat) : Int)
  omega
theorem conv_bd (x : BitVec 8) : IntKind.u32.wrap (bd x) = wd (x.setWidth 32) := by
  rw [IntKind.wrap_u32']; unfold bd wd; have := x.isLt; rw [BitVec.toNat_setWidth]; omega
theorem shl24_wd (x : BitVec 32) : IntKind.u32.wrap (wd x * (16777216 : Int)) = wd (x <<< 24) := shl_wd x 24
theorem shl16_wd (x : BitVec 32) : IntKind.u32.wrap (wd x * (65536 : Int)) = wd (x <<< 16) := shl_wd x 16
theorem shl8_wd (x : BitVec 32) : IntKind.u32.wrap (wd x * (256 : Int)) = wd (x <<< 8) := shl_wd x 8
theorem low_wd (x : BitVec 32) : IntKind.u8.wrap (wd x) = bd (x.setWidth 8) := by
  rw [IntKind.wrap_u8']; unfold bd wd; rw [BitVec.toNat_setWidth]; omega
theorem low24_wd (x : BitVec 32) : IntKind.u8.wrap (wd x / (16777216 : Int)) = bd ((x >>> 24).setWidth 8) := by rw [show wd x / (16777216 : Int) = wd (x >>> 24) from shr_wd x 24, low_wd]
theorem low16_wd (x : BitVec 32) : IntKind.u8.wrap (wd x / (65536 : Int)) = bd ((x >>> 16).setWidth 8) := by rw [show wd x / (65536 : Int) = wd (x >>> 16) from shr_wd x 16, low_wd]
theorem low8_wd (x : BitVec 32) : IntKind.u8.wrap (wd x / (256 : Int)) = bd ((x >>> 8).setWidth 8) := by rw [show wd x / (256 : Int) = wd (x >>> 8) from shr_wd x 8, low_wd]
theorem wrap_u8_bd (z : Int) : IntKind.u8.wrap z = bd (BitVec.ofInt 8 z) := by
  rw [IntKind.wrap_u8']; unfold bd; rw [BitVec.toNat_ofInt]; omega
theorem xor_bd (x y : BitVec 8) : bits .xor .u8 (bd x) (bd y) = bd (x ^^^ y) := by
  have e : ∀ z : BitVec 8, BitVec.ofInt 8 (bd z) = z := fun z => by
    apply BitVec.eq_of_toNat_eq; unfold bd; rw [ofInt_u8 _ z.isLt]
  show IntKind.u8.wrap ((BitVec.ofInt 8 (bd x) ^^^ BitVec.ofInt 8 (bd y)).toNat : Int) = _
  rw [e, e]; exact wrap_bd _
def zer (n : Nat) : List (BitVec 8) := List.replicate n 0
theorem length_zer (n : Nat) : (zer n).length = n := by simp [zer]
end Go.Proofs.YtobklbfcnbmnmaaDoor

/- A block of memory that is known whole, and how it lasts through draws, new blocks, stores elsewhere and calls. No condition beyond the theorems' own. -/
set_option maxRecDepth 4000
namespace Go.Proofs.YtobklbfcnbmnmaaDoor
open Go Go.RowKit

def Row (w : World) (g : Nat) (t : TypeId) (cs : Array Value) : Prop := w.heap[g]? = some (.cells cs t (0, 0))

section
variable {w w' : World} {g : Nat} {t : TypeId} {cs : Array Value}
theorem Row.lt (h : Row w g t cs) : g < w.heap.size := by
  by_cases hl : g < w.heap.size
  · exact hl
  · unfold Row at h; rw [Array.getElem?_eq_none (by omega)] at h; cases h
theorem Row.cell (h : Row w g t cs) (i : Nat) : w.cell? ⟨g, i, none⟩ = cs[i]? := cell_of_row w g i cs t (0, 0) h
theorem Row.free (h : Row w g t cs) (i : Nat) : w.frozen? ⟨g, i, none⟩ = false := frozen_of_row w g i cs t h
theorem Row.fresh (w : World) (t : TypeId) (cs : Array Value) : Row (w.alloc (.cells cs t)) w.heap.size t cs := heap_alloc_new w _
theorem Row.drew (h : Row w g t cs) : Row w.drew g t cs := h
theorem Row.drewN (h : Row w g t cs) (n : Nat) : Row (w.drewN n) g t cs := h
theorem Row.alloc (h : Row w g t cs) (o : Obj) : Row (w.alloc o) g t cs := (Below.heap_alloc w o g h.lt).trans h
theorem Row.put (h : Row w g t cs) (i : Nat) (v : Value) : Row (w.setCell ⟨g, i, none⟩ v) g t (cs.setIfInBounds i v) := heap_setCell_same w g i cs t v h
theorem Row.far (h : Row w g t cs) {p : Addr} (hp : g ≠ p.block) (v : Value) : Row (w.setCell p v) g t cs := (heap_setCell_other w p g v hp).trans h
theorem Row.setRow (h : Row w g t cs) (ds : Array Value) : Row (w.setRow g ds) g t ds := setRow_heap w g cs ds t (0, 0) h
theorem Row.setRow_far (h : Row w g t cs) {k : Nat} (hk : g ≠ k) (ds : Array Value) : Row (w.setRow k ds) g t cs := (setRow_other w k g ds hk).trans h
theorem Row.below {B : Nat} (h : Row w g t cs) (hb : Below B w w') (hg : g < B) : Row w' g t cs := (hb.block g hg).trans h
theorem Row.call (h : Row w g t cs) (hb : Below w.heap.size w w') : Row w' g t cs := h.below hb h.lt
theorem Row.get (h : Row w g t cs) {i : Nat} {v : Value} (hi : cs[i]? = some v) : w.cell? ⟨g, i, none⟩ = some v := (h.cell i).trans hi
end

theorem row3a (w : World) (t : TypeId) (cs : Array Value) (o2 o3 : Obj) : Row (((w.alloc (.cells cs t)).alloc o2).alloc o3) w.heap.size t cs := ((Row.fresh _ _ _).alloc _).alloc _
theorem row2b (w : World) (t : TypeId) (cs : Array Value) (o1 : Obj) : Row ((w.alloc o1).alloc (.cells cs t)) (w.heap.size + 1) t cs := by
  have e : w.heap.size + 1 = (w.alloc o1).heap.size := by simp
  rw [e]; exact Row.fresh _ _ _
theorem row3b (w : World) (t : TypeId) (cs : Array Value) (o1 o3 : Obj) : Row (((w.alloc o1).alloc (.cells cs t)).alloc o3) (w.heap.size + 1) t cs := (row2b _ _ _ _).alloc _
theorem row3c (w : World) (t : TypeId) (cs : Array Value) (o1 o2 : Obj) : Row (((w.alloc o1).alloc o2).alloc (.cells cs t)) (w.heap.size + 1 + 1) t cs := by
  have e : w.heap.size + 1 + 1 = ((w.alloc o1).alloc o2).heap.size := by simp
  rw [e]; exact Row.fresh _ _ _
theorem below3 (w : World) (o1 o2 o3 : Obj) : Below w.heap.size w (((w.alloc o1).alloc o2).alloc o3) := ((((Below.refl _ _).alloc (Nat.le_refl _) _).alloc (by simp) _)).alloc (by simp; omega) _

theorem setRow_alloc2 (w : World) (o1 : Obj) (c c' : Array Value) (t : TypeId) : ((w.alloc o1).alloc (.cells c t)).setRow (w.heap.size + 1) c' = (w.alloc o1).alloc (.cells c' t) := by
  have e : w.heap.size + 1 = (w.alloc o1).heap.size := by simp
  rw [e]; exact World.setRow_alloc_new _ _ _ _

/- arrays of words, as values -/
def ws (l : List (BitVec 32)) : Array Value := (l.map fun x => Value.int .u32 (wd x)).toArray
def bs (l : List (BitVec 8)) : Array Value := (l.map fun x => Value.int .u8 (bd x)).toArray
theorem size_ws (l : List (BitVec 32)) : (ws l).size = l.length := by simp [ws]
theorem size_bs (l : List (BitVec 8)) : (bs l).size = l.length := by simp [bs]
theorem get_ws (l : List (BitVec 32)) (i : Nat) (h : i < l.length) : (ws l)[i]? = some (.int .u32 (wd (l.getD i 0))) := by simp [ws, h]
theorem get_bs (l : List (BitVec 8)) (i : Nat) (h : i < l.length) : (bs l)[i]? = some (.int .u8 (bd (l.getD i 0))) := by simp [bs, h]
theorem set_ws (l : List (BitVec 32)) (i : Nat) (x : BitVec 32) : (ws l).setIfInBounds i (.int .u32 (wd x)) = ws (l.set i x) := by
  simp [ws, List.map_set]
theorem set_bs (l : List (BitVec 8)) (i : Nat) (x : BitVec 8) : (bs l).setIfInBounds i (.int .u8 (bd x)) = bs (l.set i x) := by
  simp [bs, List.map_set]
theorem one_ws (l : List (BitVec 32)) : (ws l).all (·.oneCell') = true := by simp [ws, Value.oneCell']
theorem one_bs (l : List (BitVec 8)) : (bs l).all (·.oneCell') = true := by simp [bs, Value.oneCell']
theorem len_bs (b : List (BitVec 8)) : (bs b).toList.length = b.length := by simp [bs]
theorem only_refl (w : World) (g : Nat) : w.grownBy w (some g) := ⟨rfl, rfl, rfl, Nat.le_refl _, fun _ _ _ => rfl⟩
theorem only_drew {a w : World} {g : Nat} (h : a.grownBy w (some g)) : a.grownBy w.drew (some g) := ⟨h.os, h.tape, h.output, h.size, h.block⟩
theorem only_call {a w w' : World} {g : Nat} (h : a.grownBy w (some g)) (hb : Below w.heap.size w w') : a.grownBy w' (some g) :=
  ⟨hb.os.trans h.os, hb.tape.trans h.tape, hb.output.trans h.output, Nat.le_trans h.size hb.size, fun k hk hne => (hb.block k (Nat.lt_of_lt_of_le hk h.size)).trans (h.block k hk hne)⟩
theorem only_setCell {a w : World} {g i : Nat} (h : a.grownBy w (some g)) (v : Value) : a.grownBy (w.setCell ⟨g, i, none⟩ v) (some g) :=
  ⟨h.os, h.tape, h.output, by simpa [World.setCell] using h.size, fun k hk hne => (heap_setCell_other w ⟨g, i, none⟩ k v (fun e => hne (by rw [e]))).trans (h.block k hk hne)⟩
theorem only_setRow {a w : World} {g : Nat} (h : a.grownBy w (some g)) (cs : Array Value) : a.grownBy (w.setRow g cs) (some g) :=
  ⟨h.os, h.tape, h.output, by simpa using h.size, fun k hk hne => (setRow_other w g k cs (fun e => hne (by rw [e]))).trans (h.block k hk hne)⟩
theorem only_setCells {a : World} {g : Nat} : ∀ (vs : List Value) (o : Nat) {w : World}, a.grownBy w (some g) → a.grownBy (w.setCells g o vs) (some g)
  | [], _, _, h => h
  | v :: vs, o, _, h => only_setCells vs (o + 1) (only_setCell h v)
theorem only_trans {a b c : World} {g : Nat} (h : a.grownBy b (some g)) (k : b.grownBy c (some g)) : a.grownBy c (some g) :=
  ⟨k.os.trans h.os, k.tape.trans h.tape, k.output.trans h.output, Nat.le_trans h.size k.size, fun i hi hne => (k.block i (Nat.lt_of_lt_of_le hi h.size) hne).trans (h.block i hi hne)⟩
theorem only_below {a w : World} {g B : Nat} (h : a.grownBy w (some g)) (hB : B ≤ g) (hs : B ≤ a.heap.size) : Below B a w :=
  ⟨h.os, h.tape, h.output, h.size, fun k hk => h.block k (by omega) (fun e => by injection e with e; omega)⟩
theorem Row.only {w w' : World} {g k : Nat} {t : TypeId} {cs : Array Value} (h : Row w k t cs) (hw : w.grownBy w' (some g)) (hne : k ≠ g) : Row w' k t cs :=
  (hw.block k h.lt (fun e => hne (by injection e))).trans h

end Go.Proofs.YtobklbfcnbmnmaaDoor

/- Slices of bytes and lists of them: what they read as, how they are appended, taken apart and handed on. No function of the program is named here. -/
set_option maxRecDepth 4000
namespace Go.Proofs.YtobklbfcnbmnmaaDoor
open Go Go.RowKit
theorem i64_id (n : Int) (h0 : 0 ≤ n) (h1 : n < 9223372036854775808) : IntKind.i64.wrap n = n := by
  rw [IntKind.wrap_i64]; omega
theorem ret_int {k : IntKind} {a b : Int} (h : a = b) : Ending.returned (.int k a) = .returned (.int k b) := by rw [h]
def bytesV (q : List (BitVec 8)) : List Value := q.map fun x => Value.int .u8 (bd x)
theorem size_u8 : (Tryd.prog.info? 5).map (·.size) = some 1 := by kernel_rfl
theorem one_bytesV (q : List (BitVec 8)) : ∀ v ∈ bytesV q, v.oneCell' = true := by
  intro v hv; simp only [bytesV, List.mem_map] at hv; obtain ⟨x, _, rfl⟩ := hv; rfl
theorem info_u8 : (Tryd.prog.info? 5).map (fun i => (i.zero, i.size, i.bytes)) = some (some (.int .u8 0), 1, 1) := by kernel_rfl
/- a slice value that reads as the bytes q -/
def Slice (w : World) (v : Value) (q : List (BitVec 8)) : Prop :=
  ∃ A c, v = .slice A q.length c ∧ q.length ≤ c ∧ (q ≠ [] → ∃ b o, A = some ⟨b, o, none⟩ ∧ b < w.heap.size ∧ ∀ j x, q[j]? = some x → w.cell? ⟨b, o + j, none⟩ = some (.int .u8 (bd x)))
/- a slice value that reads as these slices of bytes -/
def Parts (w : World) (v : Value) (ps : List (List (BitVec 8))) : Prop :=
  ∃ A c, v = .slice A ps.length c ∧ (ps ≠ [] → ∃ b o, A = some ⟨b, o, none⟩ ∧ b < w.heap.size ∧ ∀ k q, ps[k]? = some q → ∃ u, w.cell? ⟨b, o + k, none⟩ = some u ∧ Slice w u q)
theorem Slice.below {w w' : World} {B : Nat} {v : Value} {q : List (BitVec 8)} (h : Slice w v q) (hb : Below B w w') (hB : w.heap.size ≤ B) : Slice w' v q := by
  obtain ⟨A, c, h1, h2, h3⟩ := h
  refine ⟨A, c, h1, h2, fun hne => ?_⟩
  obtain ⟨b, o, h4, h5, h6⟩ := h3 hne
  exact ⟨b, o, h4, Nat.lt_of_lt_of_le h5 hb.size, fun j x hx => (hb.cell (p := ⟨b, o + j, none⟩) (Nat.lt_of_lt_of_le h5 hB)).trans (h6 j x hx)⟩
theorem flat_succ (ps : List (List (BitVec 8))) (k : Nat) (hk : k < ps.length) : (ps.take (k + 1)).flatten = (ps.take k).flatten ++ ps[k] := by
  rw [List.take_succ_eq_append_getElem hk, List.flatten_append]; simp
theorem flat_le (ps : List (List (BitVec 8))) (k : Nat) (hk : k < ps.length) : ((ps.take k).flatten ++ ps[k]).length ≤ ps.flatten.length := by
  rw [← flat_succ ps k hk]
  have : ps.flatten = (ps.take (k + 1)).flatten ++ (ps.drop (k + 1)).flatten := by rw [← List.flatten_append, List.take_append_drop]
  rw [this, List.length_append]; omega
theorem bytes_slice {w : World} {g c : Nat} {q : List (BitVec 8)} {t : TypeId} {fr : Nat × Nat} (hg : w.heap[g]? = some (.cells (bs q) t fr)) (hc : q.length ≤ c) : Slice w (.slice (some ⟨g, 0, none⟩) q.length c) q := by
  refine ⟨_, c, rfl, hc, fun _ => ⟨g, 0, rfl, ?_, fun j x hx => ?_⟩⟩
  · by_cases hl : g < w.heap.size
    · exact hl
    · rw [Array.getElem?_eq_none (by omega)] at hg; cases hg
  · have hj := (List.getElem?_eq_some_iff.1 hx).1
    rw [Nat.zero_add, cell_of_row w g j _ _ _ hg, get_bs q j hj, List.getD_eq_getElem?_getD, hx]; rfl
theorem conv2 (w : World) (o : Obj) (C : Array Value) (n c : Nat) : (convert 32 32 (.slice (some ⟨w.heap.size + 1, 0, none⟩) n c)).run Tryd.prog ((w.alloc o).alloc (.cells C 5)) = .ok (.slice (some ⟨w.heap.size + 1, 0, none⟩) n c) ((w.alloc o).alloc (.cells C 5 (C.size, C.size + 1))) := by
  have h := Lib.run_convert_bytes_const (P := Tryd.prog) (w.alloc o) 32 5 C n c Tryd.underlying32 Tryd.underlying5
  rw [show (w.alloc o).heap.size = w.heap.size + 1 by simp] at h
  exact h
theorem row_slice {w : World} {g c : Nat} {q : List (BitVec 8)} {t : TypeId} (hg : Row w g t (bs q)) (hc : q.length ≤ c) : Slice w (.slice (some ⟨g, 0, none⟩) q.length c) q := bytes_slice hg hc
theorem owns_refl (w : World) (row : Option Nat) : w.grownBy w row := ⟨rfl, rfl, rfl, Nat.le_refl _, fun _ _ _ => rfl⟩
theorem grown_of_below {w w' : World} (hb : Below w.heap.size w w') (row : Option Nat) : w.grownBy w' row := ⟨hb.os, hb.tape, hb.output, hb.size, fun k hk _ => hb.block k hk⟩
theorem below_of_grown {w w' : World} {base : Nat} {row : Option Nat} (h : w.grownBy w' row) (hr : ∀ g, row = some g → base ≤ g) (hs : base ≤ w.heap.size) : Below base w w' :=
  ⟨h.os, h.tape, h.output, h.size, fun k hk => h.block k (by omega) (fun e => by have := hr k e.symm; omega)⟩
theorem wpList_append_slice {w : World} {ops : Array Oper} {rest : List Oper} {o : Oper} {a : Act} {Q : Exit → Act → World → Prop} (hgd : o.guard = none) (s x : Operand)
    (ho : o.op = .call { callee := .builtin .append, args := #[s, x], argTypes := #[32, 32] }) (base : Nat)
    (v : Value) (n : Nat) (xs : List Value) (hs : a.eval s = v) (hown : w.ownsRow base 5 1 v n xs)
    (A : Option Addr) (m c : Nat) (q : List (BitVec 8)) (hx : a.eval x = .slice A m c) (hq : Slice w (.slice A m c) q) (hA : A = none → c = 0)
    (hnm : n + m ≤ 1000000000) (hbase : base ≤ w.heap.size)
    (h : ∀ v' w', w'.ownsRow base 5 1 v' (n + m) (xs ++ bytesV q) → Below base w w' → wpList Tryd.prog ops Q rest (a.put o.dst v') w') : wpList Tryd.prog ops Q (o :: rest) a w := by
  obtain ⟨i0, hi, hz0, hz1, hz2⟩ := info_parts info_u8
  have hblk : ∀ g, v.ownBlock = some g → base ≤ g := fun g hg => (hown.lt g hg).1
  obtain ⟨A', c', e1, _, h3⟩ := hq
  injection e1 with e1 e2 e3
  subst e1 e2 e3
  cases A with
  | none =>
    have hq0 : q = [] := by
      apply Decidable.byContradiction
      intro hne
      obtain ⟨_, _, h4, _⟩ := h3 hne
      cases h4
    subst hq0
    obtain rfl := hA rfl
    refine wpList_append_own_none hgd s x 32 ho base 5 i0 1 Tryd.underlying32 hi v n xs hs hown hx ?_
    exact h v w (by simpa [bytesV] using hown) (Below.refl _ _)
  | some ad =>
    refine wpList_append_own w hgd s x 32 ho base 5 i0 (.int .u8 0) 1 1 Tryd.underlying32 hi hz0 hz1 hz2 rfl (by omega) v n xs hs hown ad q.length c (bytesV q) hx (by simp [bytesV]) ?_ (one_bytesV q) (by unfold maxLen; omega) (by omega) hbase ?_
    · intro j u hu
      have hne : q ≠ [] := by rintro rfl; simp [bytesV] at hu
      obtain ⟨b, o, h4, _, h6⟩ := h3 hne
      have h4 := Option.some.inj h4
      subst h4
      rw [Addr.add_mid]
      simp only [bytesV, List.getElem?_map, Option.map_eq_some_iff] at hu
      obtain ⟨y, hy, rfl⟩ := hu
      exact h6 j y hy
    · intro v' w' h1 h2 _
      exact h v' w' h1 (below_of_grown h2 hblk hbase)
theorem own_empty (w : World) : (w.alloc (.cells #[] 5)).ownsRow w.heap.size 5 1 (.slice (some ⟨w.heap.size, 0, none⟩) 0 0) 0 [] :=
  ⟨rfl, .inr ⟨w.heap.size, 0, #[], rfl, Nat.le_refl _, heap_alloc_new w _, Nat.le_refl _, by unfold maxLen; omega, rfl, rfl⟩⟩
theorem owns_call {w w' : World} {base e size n : Nat} {v : Value} {xs : List Value} (h : w.ownsRow base e size v n xs) (hb : Below w.heap.size w w') : w'.ownsRow base e size v n xs := by
  refine h.kept (row := none) (grown_of_below hb none) ?_
  cases hv : v.ownBlock with
  | none => exact .inl rfl
  | some g => exact .inr (by simp)
/- a slice of the call's own that is not empty: where it lies and what it holds -/
theorem owns_form {w : World} {base n : Nat} {e : TypeId} {v : Value} {q : List (BitVec 8)} (h : w.ownsRow base e 1 v n (bytesV q)) (hq : 0 < q.length) :
    ∃ g cap, v = .slice (some ⟨g, 0, none⟩) q.length cap ∧ base ≤ g ∧ g < w.heap.size ∧ q.length ≤ cap ∧ ∀ j x, q[j]? = some x → w.cell? ⟨g, j, none⟩ = some (.int .u8 (bd x)) := by
  have hn : q.length = n := by have := h.1; simp [bytesV] at this; omega
  subst hn
  rcases h.2 with ⟨_, h0⟩ | ⟨g, cap, cur, rfl, hg, hh, hc, _⟩
  · omega
  · refine ⟨g, cap, rfl, hg, (h.lt g rfl).2, hc, fun j x hx => ?_⟩
    have hj := (List.getElem?_eq_some_iff.1 hx).1
    have := h.cellAt j (by omega)
    rw [this]
    simp [bytesV, hx]
theorem parts1 {w : World} {v : Value} {q : List (BitVec 8)} (h : Slice w v q) : Parts (w.alloc (.cells #[v] 32)) (.slice (some ⟨w.heap.size, 0, none⟩) 1 1) [q] := by
  have r := Row.fresh w 32 #[v]
  refine ⟨_, 1, rfl, fun _ => ⟨w.heap.size, 0, rfl, r.lt, fun k p hp => ?_⟩⟩
  match k, hp with
  | 0, hp => obtain rfl : q = p := by simpa using hp
             exact ⟨v, r.get rfl, h.below ((Below.refl _ _).alloc (Nat.le_refl _) _) (Nat.le_refl _)⟩
theorem parts3 {w : World} {a b c : Value} {p q r : List (BitVec 8)} (ha : Slice w a p) (hb : Slice w b q) (hc : Slice w c r) : Parts (w.alloc (.cells #[a, b, c] 32)) (.slice (some ⟨w.heap.size, 0, none⟩) 3 3) [p, q, r] := by
  have t := Row.fresh w 32 #[a, b, c]
  have hx := (Below.refl w.heap.size w).alloc (Nat.le_refl _) (.cells #[a, b, c] 32)
  refine ⟨_, 3, rfl, fun _ => ⟨w.heap.size, 0, rfl, t.lt, fun k s hs => ?_⟩⟩
  match k, hs with
  | 0, hs => obtain rfl : p = s := by simpa using hs
             exact ⟨a, t.get rfl, ha.below hx (Nat.le_refl _)⟩
  | 1, hs => obtain rfl : q = s := by simpa using hs
             exact ⟨b, t.get rfl, hb.below hx (Nat.le_refl _)⟩
  | 2, hs => obtain rfl : r = s := by simpa using hs
             exact ⟨c, t.get rfl, hc.below hx (Nat.le_refl _)⟩
theorem slice_nil (w : World) : Slice w (.slice none 0 0) [] := ⟨none, 0, rfl, by simp, fun h => absurd rfl h⟩
theorem Slice.take {w : World} {A : Option Addr} {c k : Nat} {q : List (BitVec 8)} (h : Slice w (.slice A q.length c) q) (hk : k ≤ q.length) : Slice w (.slice A k c) (q.take k) := by
  obtain ⟨A', c', h1, h2, h3⟩ := h
  injection h1 with h1 _ h1c
  subst h1 h1c
  refine ⟨A, c, by rw [List.length_take, Nat.min_eq_left hk], by rw [List.length_take]; omega, fun hne => ?_⟩
  obtain ⟨b, o, h4, h5, h6⟩ := h3 (by intro e; subst e; simp at hne)
  refine ⟨b, o, h4, h5, fun j x hx => h6 j x ?_⟩
  rw [List.getElem?_take] at hx
  split at hx
  · exact hx
  · cases hx
theorem Slice.drop {w : World} {A : Option Addr} {c k : Nat} {q : List (BitVec 8)} (h : Slice w (.slice A q.length c) q) (hk : k ≤ q.length) : Slice w (.slice (if c = k then A else A.map (·.add k)) (q.length - k) (c - k)) (q.drop k) := by
  obtain ⟨A', c', h1, h2, h3⟩ := h
  injection h1 with h1 _ h1c
  subst h1 h1c
  refine ⟨_, c - k, by rw [List.length_drop], by rw [List.length_drop]; omega, fun hne => ?_⟩
  have hl : 0 < (q.drop k).length := List.length_pos_iff.2 hne
  rw [List.length_drop] at hl
  obtain ⟨b, o, h4, h5, h6⟩ := h3 (by intro e; subst e; simp at hne)
  subst h4
  refine ⟨b, o + k, ?_, h5, fun j x hx => ?_⟩
  · rw [if_neg (by omega)]; simp [Addr.add_mid]
  · rw [List.getElem?_drop] at hx
    rw [Nat.add_assoc]; exact h6 _ x hx
theorem range_call {w w' : World} {g : Nat} {cs : List Value} (h : w.rangeAt g 0 cs) (hb : Below w.heap.size w w') : w'.rangeAt g 0 cs := fun j v hv => by
  have hc := h j v hv
  exact (hb.cell (p := ⟨g, 0 + j, none⟩) (World.block_lt_of_cell? w _ hc)).trans hc
theorem Parts.below {w w' : World} {B : Nat} {v : Value} {ps : List (List (BitVec 8))} (h : Parts w v ps) (hb : Below B w w') (hB : w.heap.size ≤ B) : Parts w' v ps := by
  obtain ⟨A, c, h1, h3⟩ := h
  refine ⟨A, c, h1, fun hne => ?_⟩
  obtain ⟨b, o, h4, h5, h6⟩ := h3 hne
  refine ⟨b, o, h4, Nat.lt_of_lt_of_le h5 hb.size, fun k q hq => ?_⟩
  obtain ⟨u, h7, h8⟩ := h6 k q hq
  exact ⟨u, (hb.cell (p := ⟨b, o + k, none⟩) (Nat.lt_of_lt_of_le h5 hB)).trans h7, h8.below hb hB⟩
theorem mem_flat (ps : List (List (BitVec 8))) (q : List (BitVec 8)) (h : q ∈ ps) : q.length ≤ ps.flatten.length := by
  induction ps with
  | nil => cases h
  | cons p r ih =>
    rw [List.flatten_cons, List.length_append]
    rcases List.mem_cons.1 h with rfl | h
    · omega
    · have := ih h; omega
/- a slice of bytes that may be appended: nil has no room -/
def Item (w : World) (u : Value) (q : List (BitVec 8)) : Prop := ∃ A c, u = .slice A q.length c ∧ Slice w (.slice A q.length c) q ∧ (A = none → c = 0) ∧ q.length ≤ maxLen
def Hand (w : World) (v : Value) (ps : List (List (BitVec 8))) : Prop :=
  ∃ A c, v = .slice A ps.length c ∧ (ps ≠ [] → ∃ b o, A = some ⟨b, o, none⟩ ∧ b < w.heap.size ∧ ∀ k q, ps[k]? = some q → ∃ u, w.cell? ⟨b, o + k, none⟩ = some u ∧ Item w u q)
theorem Item.below {w w' : World} {B : Nat} {u : Value} {q : List (BitVec 8)} (h : Item w u q) (hb : Below B w w') (hB : w.heap.size ≤ B) : Item w' u q := by
  obtain ⟨A, c, h1, h2, h3⟩ := h
  exact ⟨A, c, h1, h2.below hb hB, h3⟩
theorem Item.slice {w : World} {u : Value} {q : List (BitVec 8)} (h : Item w u q) : Slice w u q := by
  obtain ⟨A, c, rfl, h2, h3⟩ := h
  exact h2
theorem Hand.below {w w' : World} {B : Nat} {v : Value} {ps : List (List (BitVec 8))} (h : Hand w v ps) (hb : Below B w w') (hB : w.heap.size ≤ B) : Hand w' v ps := by
  obtain ⟨A, c, h1, h3⟩ := h
  refine ⟨A, c, h1, fun hne => ?_⟩
  obtain ⟨b, o, h4, h5, h6⟩ := h3 hne
  refine ⟨b, o, h4, Nat.lt_of_lt_of_le h5 hb.size, fun k q hq => ?_⟩
  obtain ⟨u, h7, h8⟩ := h6 k q hq
  exact ⟨u, (hb.cell (p := ⟨b, o + k, none⟩) (Nat.lt_of_lt_of_le h5 hB)).trans h7, h8.below hb hB⟩
theorem flat_len (ps : List (List (BitVec 8))) (k : Nat) (hk : k < ps.length) : (ps.take (k + 1)).flatten.length = (ps.take k).flatten.length + ps[k].length := by
  rw [flat_succ ps k hk, List.length_append]
theorem info_sl : (Tryd.prog.info? 32).map (fun i => (i.zero, i.size, i.bytes)) = some (some (.slice none 0 0), 1, 24) := by kernel_rfl
theorem own_mono {w : World} {base base' e size n : Nat} {v : Value} {xs : List Value} (h : w.ownsRow base e size v n xs) (hb : base' ≤ base) : w.ownsRow base' e size v n xs := by
  refine ⟨h.1, ?_⟩
  rcases h.2 with hn | ⟨g, cap, cur, h1, h2, h3⟩
  · exact .inl hn
  · exact .inr ⟨g, cap, cur, h1, Nat.le_trans hb h2, h3⟩
theorem own_ne {w : World} {b b' n m : Nat} {v u : Value} {xs ys : List Value} (h : w.ownsRow b 32 1 v n xs) (h' : w.ownsRow b' 5 1 u m ys) : u.ownBlock = none ∨ u.ownBlock ≠ v.ownBlock := by
  rcases h'.2 with ⟨rfl, _⟩ | ⟨g', cap', cur', rfl, _, h3', _⟩
  · exact .inl rfl
  · refine .inr fun e => ?_
    rcases h.2 with ⟨rfl, _⟩ | ⟨g, cap, cur, rfl, _, h3, _⟩
    · cases e
    · injection e with e
      change g' = g at e
      subst e
      rw [h3] at h3'
      injection h3' with h3'
      injection h3' with _ h3'
      cases h3'
theorem own_form {w : World} {b e n : Nat} {v : Value} {xs : List Value} (h : w.ownsRow b e 1 v n xs) : ∃ A c, v = .slice A n c := by
  rcases h.2 with ⟨rfl, rfl⟩ | ⟨g, cap, cur, rfl, _⟩
  · exact ⟨none, 0, rfl⟩
  · exact ⟨_, cap, rfl⟩
theorem own_slice {w : World} {base : Nat} {v : Value} {q : List (BitVec 8)} (h : w.ownsRow base 5 1 v q.length (bytesV q)) : Slice w v q := by
  by_cases hq : q = []
  · subst hq
    rcases h.2 with ⟨rfl, _⟩ | ⟨g, cap, cur, rfl, _⟩
    · exact ⟨none, 0, rfl, by simp, fun h => absurd rfl h⟩
    · exact ⟨_, cap, rfl, by simp, fun h => absurd rfl h⟩
  · obtain ⟨g, cap, rfl, _, h3, h4, h5⟩ := owns_form h (List.length_pos_iff.2 hq)
    exact ⟨_, cap, rfl, h4, fun _ => ⟨g, 0, rfl, h3, fun j x hx => by rw [Nat.zero_add]; exact h5 j x hx⟩⟩
/- slices of the call's own, in a slice of the call's own -/
def Owns (w wr : World) (v : Value) (ps : List (List (BitVec 8))) : Prop :=
  ∃ vs : List Value, wr.ownsRow w.heap.size 32 1 v ps.length vs ∧ Below w.heap.size w wr ∧ ∀ (j : Nat) (q : List (BitVec 8)), ps[j]? = some q → ∃ u, vs[j]? = some u ∧ wr.ownsRow w.heap.size 5 1 u q.length (bytesV q)
theorem Owns.parts {w wr : World} {v : Value} {ps : List (List (BitVec 8))} (h : Owns w wr v ps) : Parts wr v ps := by
  obtain ⟨vs, h1, _, h3⟩ := h
  rcases h1.2 with ⟨rfl, h0⟩ | ⟨g, cap, cur, rfl, hg, hh, hc, _⟩
  · obtain rfl : ps = [] := List.length_eq_zero_iff.1 h0
    exact ⟨none, 0, rfl, fun h => absurd rfl h⟩
  · refine ⟨_, cap, rfl, fun _ => ⟨g, 0, rfl, (h1.lt g rfl).2, fun k q hq => ?_⟩⟩
    obtain ⟨u, hu, ho⟩ := h3 k q hq
    have hk := (List.getElem?_eq_some_iff.1 hq).1
    exact ⟨u, by rw [Nat.zero_add, h1.cellAt k (by omega), hu], own_slice ho⟩
theorem Owns.step {w wr w4 w6 : World} {v v1 v2 : Value} {ps : List (List (BitVec 8))} {k : Nat} {vs : List Value} (hk : k < ps.length)
    (h1 : wr.ownsRow w.heap.size 32 1 v k vs) (hb : Below w.heap.size w wr) (h3 : ∀ (j : Nat) (q : List (BitVec 8)), (ps.take k)[j]? = some q → ∃ u, vs[j]? = some u ∧ wr.ownsRow w.heap.size 5 1 u q.length (bytesV q))
    (own1 : w4.ownsRow wr.heap.size 5 1 v1 ps[k].length (bytesV ps[k])) (hb4 : Below wr.heap.size (wr.alloc (.cells #[] 5)) w4)
    (own2 : w6.ownsRow w.heap.size 32 1 v2 (k + 1) (vs ++ [v1])) (hg : (w4.alloc (.cells #[v1] 32)).grownBy w6 v.ownBlock) : Owns w w6 v2 (ps.take (k + 1)) := by
  have hb5 : Below wr.heap.size wr (w4.alloc (.cells #[v1] 32)) := (((Below.refl wr.heap.size wr).alloc (Nat.le_refl _) _).trans hb4).alloc (Nat.le_trans (by simp) hb4.size) _
  have o5 := owns_call h1 hb5
  have hl : vs.length = k := by simpa using h1.1
  refine ⟨vs ++ [v1], by rw [List.length_take, Nat.min_eq_left (by omega)]; exact own2, ?_, fun j q hq => ?_⟩
  · refine (hb.trans (hb5.mono hb.size)).trans (below_of_grown hg (fun g e => (o5.lt g e).1) (Nat.le_trans hb.size hb5.size))
  · have hj := (List.getElem?_eq_some_iff.1 hq).1
    rw [List.length_take] at hj
    by_cases hjk : j < k
    · obtain ⟨u, hu, ho⟩ := h3 j q (by rw [List.getElem?_take, if_pos (by omega)] at hq; rw [List.getElem?_take, if_pos hjk]; exact hq)
      have ho5 := owns_call ho hb5
      exact ⟨u, by rw [List.getElem?_append_left (by omega)]; exact hu, ho5.kept hg (own_ne o5 ho5)⟩
    · obtain rfl : j = k := by omega
      obtain rfl : ps[j] = q := by rw [List.getElem?_take, if_pos (by omega), List.getElem?_eq_getElem hk] at hq; injection hq
      have ho5 := (own_mono own1 hb.size).alloc (.cells #[v1] 32)
      exact ⟨v1, by rw [List.getElem?_append_right (by omega), hl]; simp, ho5.kept hg (own_ne o5 ho5)⟩
/- the slices of a slice of slices, as a list -/
theorem Parts.list {w : World} {v : Value} {ps : List (List (BitVec 8))} (h : Parts w v ps) : ∃ A c, ∃ us : List Value, v = .slice A ps.length c ∧ us.length = ps.length ∧ (∀ ad, A = some ad → ∀ (j : Nat) (u : Value), us[j]? = some u → w.cell? (ad.add j) = some u) ∧ (A = none → ps = []) ∧
    (∀ u ∈ us, Value.oneCell' u = true) ∧ ∀ (k : Nat) (q : List (BitVec 8)), ps[k]? = some q → ∃ u, us[k]? = some u ∧ Slice w u q := by
  obtain ⟨A, c, rfl, h3⟩ := h
  by_cases hne : ps = []
  · subst hne
    exact ⟨A, c, [], rfl, rfl, fun _ _ j u hu => (by simp at hu), fun _ => rfl, fun u hu => (by cases hu), fun k q hq => (by simp at hq)⟩
  · obtain ⟨b, o, rfl, _, hc⟩ := h3 hne
    have hk : ∀ k, k < ps.length → ∃ u, w.cell? ⟨b, o + k, none⟩ = some u ∧ Slice w u (ps.getD k []) := fun k hk => hc k _ (by rw [List.getD_eq_getElem?_getD, List.getElem?_eq_getElem hk]; rfl)
    refine ⟨some ⟨b, o, none⟩, c, (List.range ps.length).map fun k => (w.cell? ⟨b, o + k, none⟩).getD undef, rfl, by simp, ?_, fun h => (by cases h), ?_, ?_⟩
    · rintro ad e j u hu
      injection e with e
      subst e
      simp only [List.getElem?_map, Option.map_eq_some_iff] at hu
      obtain ⟨k, hk1, rfl⟩ := hu
      have hlt : j < ps.length := by have := (List.getElem?_eq_some_iff.1 hk1).1; simpa using this
      obtain rfl : j = k := by simpa [hlt] using hk1
      obtain ⟨u, hu, _⟩ := hk _ hlt
      rw [Addr.add_mid, hu]; rfl
    · intro u hu
      simp only [List.mem_map, List.mem_range] at hu
      obtain ⟨k, hlt, rfl⟩ := hu
      obtain ⟨u, hu, A', c', rfl, _⟩ := hk k hlt
      rw [hu]; rfl
    · intro k q hq
      have hlt := (List.getElem?_eq_some_iff.1 hq).1
      obtain ⟨u, hu, hs⟩ := hk k hlt
      rw [List.getD_eq_getElem?_getD, hq] at hs
      exact ⟨u, by simp [hlt, hu], hs⟩
theorem parts_own {w : World} {base g N cap : Nat} {bv : Value} {us : List Value} {l : List (BitVec 8)} {ps : List (List (BitVec 8))} (h : w.ownsRow base 32 1 (.slice (some ⟨g, 0, none⟩) N cap) N ([bv] ++ us)) (hN : N = ps.length + 1)
    (hb : Slice w bv l) (hu : ∀ (k : Nat) (q : List (BitVec 8)), ps[k]? = some q → ∃ u, us[k]? = some u ∧ Slice w u q) : Parts w (.slice (some ⟨g, 0, none⟩) N cap) (l :: ps) := by
  subst hN
  refine ⟨_, cap, rfl, fun _ => ⟨g, 0, rfl, (h.lt g rfl).2, fun k q hq => ?_⟩⟩
  have hk := (List.getElem?_eq_some_iff.1 hq).1
  rw [Nat.zero_add, h.cellAt k (by simp at hk; omega)]
  cases k with
  | zero => obtain rfl : l = q := by simpa using hq
            exact ⟨bv, rfl, hb⟩
  | succ k => obtain ⟨u, hu1, hu2⟩ := hu k q (by simpa using hq)
              exact ⟨u, by simpa using hu1, hu2⟩
theorem below_only {w w' : World} {g B : Nat} (h : w.grownBy w' (some g)) (hg : B ≤ g) (hs : B ≤ w.heap.size) : Below B w w' := below_of_grown h (fun k e => by injection e with e; omega) hs
theorem conv3 (w : World) (o o' : Obj) (C : Array Value) (n c : Nat) : (convert 32 32 (.slice (some ⟨w.heap.size + 1 + 1, 0, none⟩) n c)).run Tryd.prog (((w.alloc o).alloc o').alloc (.cells C 5)) = .ok (.slice (some ⟨w.heap.size + 1 + 1, 0, none⟩) n c) (((w.alloc o).alloc o').alloc (.cells C 5 (C.size, C.size + 1))) := by
  have h := Lib.run_convert_bytes_const (P := Tryd.prog) ((w.alloc o).alloc o') 32 5 C n c Tryd.underlying32 Tryd.underlying5
  rw [show ((w.alloc o).alloc o').heap.size = w.heap.size + 1 + 1 by simp] at h
  exact h
theorem parts2 {w : World} {a b : Value} {p q : List (BitVec 8)} (ha : Slice w a p) (hb : Slice w b q) : Parts (w.alloc (.cells #[a, b] 32)) (.slice (some ⟨w.heap.size, 0, none⟩) 2 2) [p, q] := by
  have t := Row.fresh w 32 #[a, b]
  have hx := (Below.refl w.heap.size w).alloc (Nat.le_refl _) (.cells #[a, b] 32)
  refine ⟨_, 2, rfl, fun _ => ⟨w.heap.size, 0, rfl, t.lt, fun k s hs => ?_⟩⟩
  match k, hs with
  | 0, hs => obtain rfl : p = s := by simpa using hs
             exact ⟨a, t.get rfl, ha.below hx (Nat.le_refl _)⟩
  | 1, hs => obtain rfl : q = s := by simpa using hs
             exact ⟨b, t.get rfl, hb.below hx (Nat.le_refl _)⟩
theorem consts3 (w : World) (p q r : List (BitVec 8)) (f g h : Nat × Nat) :
    Slice (((w.alloc (.cells (bs p) 5 f)).alloc (.cells (bs q) 5 g)).alloc (.cells (bs r) 5 h)) (.slice (some ⟨w.heap.size, 0, none⟩) p.length p.length) p ∧
    Slice (((w.alloc (.cells (bs p) 5 f)).alloc (.cells (bs q) 5 g)).alloc (.cells (bs r) 5 h)) (.slice (some ⟨w.heap.size + 1, 0, none⟩) q.length q.length) q ∧
    Slice (((w.alloc (.cells (bs p) 5 f)).alloc (.cells (bs q) 5 g)).alloc (.cells (bs r) 5 h)) (.slice (some ⟨w.heap.size + 1 + 1, 0, none⟩) r.length r.length) r := by
  refine ⟨bytes_slice (t := 5) (fr := f) ?_ (Nat.le_refl _), bytes_slice (t := 5) (fr := g) ?_ (Nat.le_refl _), bytes_slice (t := 5) (fr := h) ?_ (Nat.le_refl _)⟩
  · rw [Below.heap_alloc _ _ _ (by simp; omega), Below.heap_alloc _ _ _ (by simp), heap_alloc_new]
  · rw [Below.heap_alloc _ _ _ (by simp), heap_alloc2_new]
  · have e : w.heap.size + 1 + 1 = ((w.alloc (.cells (bs p) 5 f)).alloc (.cells (bs q) 5 g)).heap.size := by simp
    rw [e, heap_alloc_new]
theorem hand1 {w : World} {v : Value} {q : List (BitVec 8)} (h : Item w v q) : Hand (w.alloc (.cells #[v] 32)) (.slice (some ⟨w.heap.size, 0, none⟩) 1 1) [q] := by
  have r := Row.fresh w 32 #[v]
  refine ⟨_, 1, rfl, fun _ => ⟨w.heap.size, 0, rfl, r.lt, fun k p hp => ?_⟩⟩
  match k, hp with
  | 0, hp => obtain rfl : q = p := by simpa using hp
             exact ⟨v, r.get rfl, h.below ((Below.refl _ _).alloc (Nat.le_refl _) _) (Nat.le_refl _)⟩
/- the slices of a slice of slices that was handed in, as a list -/
theorem Hand.list {w : World} {v : Value} {ps : List (List (BitVec 8))} (h : Hand w v ps) : ∃ A c, ∃ us : List Value, v = .slice A ps.length c ∧ us.length = ps.length ∧ (∀ ad, A = some ad → ∀ (j : Nat) (u : Value), us[j]? = some u → w.cell? (ad.add j) = some u) ∧ (A = none → ps = []) ∧
    (∀ u ∈ us, Value.oneCell' u = true) ∧ ∀ (k : Nat) (q : List (BitVec 8)), ps[k]? = some q → ∃ u, us[k]? = some u ∧ Item w u q := by
  obtain ⟨A, c, rfl, h3⟩ := h
  by_cases hne : ps = []
  · subst hne
    exact ⟨A, c, [], rfl, rfl, fun _ _ j u hu => (by simp at hu), fun _ => rfl, fun u hu => (by cases hu), fun k q hq => (by simp at hq)⟩
  · obtain ⟨b, o, rfl, _, hc⟩ := h3 hne
    have hk : ∀ k, k < ps.length → ∃ u, w.cell? ⟨b, o + k, none⟩ = some u ∧ Item w u (ps.getD k []) := fun k hk => hc k _ (by rw [List.getD_eq_getElem?_getD, List.getElem?_eq_getElem hk]; rfl)
    refine ⟨some ⟨b, o, none⟩, c, (List.range ps.length).map fun k => (w.cell? ⟨b, o + k, none⟩).getD undef, rfl, by simp, ?_, fun h => (by cases h), ?_, ?_⟩
    · rintro ad e j u hu
      injection e with e
      subst e
      simp only [List.getElem?_map, Option.map_eq_some_iff] at hu
      obtain ⟨k, hk1, rfl⟩ := hu
      have hlt : j < ps.length := by have := (List.getElem?_eq_some_iff.1 hk1).1; simpa using this
      obtain rfl : j = k := by simpa [hlt] using hk1
      obtain ⟨u, hu, _⟩ := hk _ hlt
      rw [Addr.add_mid, hu]; rfl
    · intro u hu
      simp only [List.mem_map, List.mem_range] at hu
      obtain ⟨k, hlt, rfl⟩ := hu
      obtain ⟨u, hu, A', c', rfl, _⟩ := hk k hlt
      rw [hu]; rfl
    · intro k q hq
      have hlt := (List.getElem?_eq_some_iff.1 hq).1
      obtain ⟨u, hu, hs⟩ := hk k hlt
      rw [List.getD_eq_getElem?_getD, hq] at hs
      exact ⟨u, by simp [hlt, hu], hs⟩
theorem hand_own {w : World} {base g N cap : Nat} {bv : Value} {us : List Value} {l : List (BitVec 8)} {ps : List (List (BitVec 8))} (h : w.ownsRow base 32 1 (.slice (some ⟨g, 0, none⟩) N cap) N ([bv] ++ us)) (hN : N = ps.length + 1)
    (hb : Item w bv l) (hu : ∀ (k : Nat) (q : List (BitVec 8)), ps[k]? = some q → ∃ u, us[k]? = some u ∧ Item w u q) : Hand w (.slice (some ⟨g, 0, none⟩) N cap) (l :: ps) := by
  subst hN
  refine ⟨_, cap, rfl, fun _ => ⟨g, 0, rfl, (h.lt g rfl).2, fun k q hq => ?_⟩⟩
  have hk := (List.getElem?_eq_some_iff.1 hq).1
  rw [Nat.zero_add, h.cellAt k (by simp at hk; omega)]
  cases k with
  | zero => obtain rfl : l = q := by simpa using hq
            exact ⟨bv, rfl, hb⟩
  | succ k => obtain ⟨u, hu1, hu2⟩ := hu k q (by simpa using hq)
              exact ⟨u, by simpa using hu1, hu2⟩
theorem wpList_append_parts {w : World} {ops : Array Oper} {rest : List Oper} {o : Oper} {a : Act} {Q : Exit → Act → World → Prop} (hgd : o.guard = none) (s x : Operand)
    (ho : o.op = .call { callee := .builtin .append, args := #[s, x], argTypes := #[67, 67] }) (base : Nat)
    (v : Value) (n : Nat) (xs : List Value) (hs : a.eval s = v) (hown : w.ownsRow base 32 1 v n xs)
    (A : Option Addr) (m c : Nat) (us : List Value) (hx : a.eval x = .slice A m c) (hul : us.length = m) (huc : ∀ ad, A = some ad → ∀ (j : Nat) (u : Value), us[j]? = some u → w.cell? (ad.add j) = some u) (hun : A = none → m = 0 ∧ c = 0) (huo : ∀ u ∈ us, Value.oneCell' u = true)
    (hnm : n + m ≤ 1000000000) (hbase : base ≤ w.heap.size)
    (h : ∀ v' w', w'.ownsRow base 32 1 v' (n + m) (xs ++ us) → Below base w w' → wpList Tryd.prog ops Q rest (a.put o.dst v') w') : wpList Tryd.prog ops Q (o :: rest) a w := by
  obtain ⟨i1, hi1, hz10, hz11, hz12⟩ := info_parts info_sl
  have hblk : ∀ g, v.ownBlock = some g → base ≤ g := fun g hg => (hown.lt g hg).1
  cases A with
  | none =>
    obtain ⟨rfl, rfl⟩ := hun rfl
    obtain rfl : us = [] := List.length_eq_zero_iff.1 hul
    refine wpList_append_own_none hgd s x 67 ho base 32 i1 1 Tryd.underlying67 hi1 v n xs hs hown hx ?_
    exact h v w (by simpa using hown) (Below.refl _ _)
  | some ad =>
    refine wpList_append_own w hgd s x 67 ho base 32 i1 (.slice none 0 0) 1 24 Tryd.underlying67 hi1 hz10 hz11 hz12 rfl (by omega) v n xs hs hown ad m c us hx (by omega) (huc ad rfl) huo (by unfold maxLen; omega) (by omega) hbase ?_
    intro v' w' h1 h2 _
    exact h v' w' h1 (below_of_grown h2 hblk hbase)
theorem item_row {w : World} {g c : Nat} {q : List (BitVec 8)} {t : TypeId} (hg : Row w g t (bs q)) (hc : q.length ≤ c) (hm : q.length ≤ maxLen) : Item w (.slice (some ⟨g, 0, none⟩) q.length c) q :=
  ⟨_, c, rfl, row_slice hg hc, fun h => (by cases h), hm⟩
theorem hand2 {w : World} {a b : Value} {p q : List (BitVec 8)} (ha : Item w a p) (hb : Item w b q) : Hand (w.alloc (.cells #[a, b] 32)) (.slice (some ⟨w.heap.size, 0, none⟩) 2 2) [p, q] := by
  have t := Row.fresh w 32 #[a, b]
  have hx := (Below.refl w.heap.size w).alloc (Nat.le_refl _) (.cells #[a, b] 32)
  refine ⟨_, 2, rfl, fun _ => ⟨w.heap.size, 0, rfl, t.lt, fun k s hs => ?_⟩⟩
  match k, hs with
  | 0, hs => obtain rfl : p = s := by simpa using hs
             exact ⟨a, t.get rfl, ha.below hx (Nat.le_refl _)⟩
  | 1, hs => obtain rfl : q = s := by simpa using hs
             exact ⟨b, t.get rfl, hb.below hx (Nat.le_refl _)⟩
theorem own_lit1 (w : World) (u : Value) : (w.alloc (.cells #[u] 32)).ownsRow w.heap.size 32 1 (.slice (some ⟨w.heap.size, 0, none⟩) 1 1) 1 [u] :=
  World.ownsRow_lit w #[u] 1 (Nat.le_refl _) (by unfold maxLen; omega) rfl
theorem own_nil {w : World} {base e n : Nat} {v : Value} {xs : List Value} (h : w.ownsRow base e 1 v n xs) : ∀ m c, v = .slice none m c → c = 0 := by
  intro m c e
  rcases h.2 with ⟨rfl, _⟩ | ⟨g, cap, cur, rfl, _⟩
  · injection e with _ _ e; exact e.symm
  · injection e with e _ _; cases e
theorem row_range {w W : World} {B g : Nat} {t : TypeId} {l : List (BitVec 8)} (h : Row w g t (bs l)) (hb : Below B w W) (hg : g < B) : W.rangeAt g 0 (bs l).toList := fun j v hv => by
  rw [Nat.zero_add, (h.below hb hg).cell]; simpa using hv
theorem tmod_nat (x : Int) (hx : 0 ≤ x) (n : Nat) : x.tmod (n : Int) = ((x.toNat % n : Nat) : Int) := by
  obtain ⟨m, rfl⟩ := Int.eq_ofNat_of_zero_le hx
  rw [Int.tmod_eq_emod_of_nonneg hx]; simp
theorem bs_toList (l : List (BitVec 8)) : (bs l).toList = bytesV l := by simp [bs, bytesV]
theorem wp_append_slice {w : World} {o : Oper} {a : Act} {K : Act → World → Prop} {Q : Exit → Act → World → Prop} (s x : Operand)
    (ho : o.op = .call { callee := .builtin .append, args := #[s, x], argTypes := #[32, 32] }) (base : Nat)
    (v : Value) (n : Nat) (xs : List Value) (hs : a.eval s = v) (hown : w.ownsRow base 5 1 v n xs)
    (A : Option Addr) (m c : Nat) (q : List (BitVec 8)) (hx : a.eval x = .slice A m c) (hq : Slice w (.slice A m c) q) (hA : A = none → c = 0)
    (hnm : n + m ≤ 1000000000) (hbase : base ≤ w.heap.size)
    (h : ∀ v' w', w'.ownsRow base 5 1 v' (n + m) (xs ++ bytesV q) → Below base w w' → K (a.put o.dst v') w') : o.wp Tryd.prog a w K Q := by
  obtain ⟨i0, hi, hz0, hz1, hz2⟩ := info_parts info_u8
  have hblk : ∀ g, v.ownBlock = some g → base ≤ g := fun g hg => (hown.lt g hg).1
  obtain ⟨A', c', e1, _, h3⟩ := hq
  injection e1 with e1 e2 e3
  subst e1 e2 e3
  cases A with
  | none =>
    have hq0 : q = [] := by
      apply Decidable.byContradiction
      intro hne
      obtain ⟨_, _, h4, _⟩ := h3 hne
      cases h4
    subst hq0
    obtain rfl := hA rfl
    have hrun := run_append_owned_none (P := Tryd.prog) (w := w) base 32 o.type 5 i0 1 Tryd.underlying32 hi v n xs hown
    unfold Oper.wp
    simp only [List.length_nil] at hx
    simp [execOp, ho, resolve, invoke, builtin, hs, hx, hrun, Result.andThen]
    exact h v w (by simpa [bytesV] using hown) (Below.refl _ _)
  | some ad =>
    refine wp_append_own w s x 32 ho base 5 i0 (.int .u8 0) 1 1 Tryd.underlying32 hi hz0 hz1 hz2 rfl (by omega) v n xs hs hown ad q.length c (bytesV q) hx (by simp [bytesV]) ?_ (one_bytesV q) (by unfold maxLen; omega) (by omega) hbase ?_
    · intro j u hu
      have hne : q ≠ [] := by rintro rfl; simp [bytesV] at hu
      obtain ⟨b, o, h4, _, h6⟩ := h3 hne
      have h4 := Option.some.inj h4
      subst h4
      rw [Addr.add_mid]
      simp only [bytesV, List.getElem?_map, Option.map_eq_some_iff] at hu
      obtain ⟨y, hy, rfl⟩ := hu
      exact h6 j y hy
    · intro v' w' h1 h2 _
      exact h v' w' h1 (below_of_grown h2 hblk hbase)
theorem grown_setRow (w : World) (g : Nat) (cs : Array Value) : w.grownBy (w.setRow g cs) (some g) :=
  ⟨rfl, rfl, rfl, by rw [size_setRow]; exact Nat.le_refl _, fun k _ hk => setRow_other w g k cs (fun e => hk (by rw [e]))⟩
theorem copied (cur q : List (BitVec 8)) : ((bs cur).toList.take 0 ++ (bytesV q ++ (bs cur).toList.drop (0 + (bytesV q).length))).toArray = bs (q ++ cur.drop q.length) := by
  simp [bs, bytesV]
theorem wpList_copy_bytes {w : World} {ops : Array Oper} {rest : List Oper} {o : Oper} {a : Act} {Q : Exit → Act → World → Prop} (hgd : o.guard = none) (d s : Operand)
    (ho : o.op = .call { callee := .builtin .copy, args := #[d, s], argTypes := #[32, 32] })
    (g n m : Nat) (hd : a.eval d = .slice (some ⟨g, 0, none⟩) n m) (v : Value) (hs : a.eval s = v) (q cur : List (BitVec 8)) (hq : Slice w v q) (t : TypeId) (hg : Row w g t (bs cur)) (hn : cur.length = n) (hle : q.length ≤ n)
    (h : ∀ w', Row w' g t (bs (q ++ cur.drop q.length)) → w.grownBy w' (some g) → wpList Tryd.prog ops Q rest (a.put o.dst (goInt q.length)) w') : wpList Tryd.prog ops Q (o :: rest) a w := by
  obtain ⟨A, c, rfl, _, h3⟩ := hq
  by_cases hne : q = []
  · subst hne
    refine wpList_copy_nothing hgd d s 32 32 ho 5 Tryd.underlying32 size_u8 _ _ n m 0 c hd hs (Nat.zero_min _) ?_
    exact h w (by simpa using hg) (owns_refl w _)
  · obtain ⟨b, o', rfl, hbl, hc⟩ := h3 hne
    refine wpList_copy_own hgd d s 32 32 ho 5 Tryd.underlying32 size_u8 g 0 n m ⟨b, o', none⟩ q.length c hd hs (bs cur) t hg (bytesV q) (by rw [show (bytesV q).length = q.length by simp [bytesV]]; exact (Nat.min_eq_left hle).symm) ?_ (by rw [size_bs]; simp [bytesV]; omega) (one_bytesV q) ?_
    · intro j u hu
      rw [Addr.add_mid]
      simp only [bytesV, List.getElem?_map, Option.map_eq_some_iff] at hu
      obtain ⟨y, hy, rfl⟩ := hu
      exact hc j y hy
    · rw [copied, show (bytesV q).length = q.length by simp [bytesV]]
      exact h _ (hg.setRow _) (grown_setRow _ _ _)
def modK (k : Int) (n : Nat) : Nat := ((k.tmod n + n) % n).toNat
theorem modK_lt (k : Int) (n : Nat) (h : 0 < n) : modK k n < n := by
  unfold modK
  have h1 := Int.emod_nonneg (k.tmod n + n) (show (n : Int) ≠ 0 by omega)
  have h2 := Int.emod_lt_of_pos (k.tmod n + n) (show (0 : Int) < n by omega)
  omega
theorem wpList_guarded {P : Program} {ops : Array Oper} {Q : Exit → Act → World → Prop} {a : Act} {w : World} {rest : List Oper} {o : Oper} (hw : Region.wanted o (yielded ops a.tmps) = true)
    (h : ∀ K : Act → World → Prop, (∀ a w, wpList P ops Q rest a w → K a w) → o.wp P a w K Q) : wpList P ops Q (o :: rest) a w :=
  wpList_step fun K hK => by rw [if_pos hw]; exact h K hK
theorem Hand.parts {w : World} {v : Value} {ps : List (List (BitVec 8))} (h : Hand w v ps) : Parts w v ps := by
  obtain ⟨A, c, h1, h3⟩ := h
  refine ⟨A, c, h1, fun hne => ?_⟩
  obtain ⟨b, o, h4, h5, h6⟩ := h3 hne
  refine ⟨b, o, h4, h5, fun k q hq => ?_⟩
  obtain ⟨u, h7, h8⟩ := h6 k q hq
  exact ⟨u, h7, h8.slice⟩
theorem slice_set {w : World} {g cap m : Nat} {q : List (BitVec 8)} {cur : Array Value} {t : TypeId} (hg : Row w g t cur) (ht : cur.toList.take q.length = bytesV q) (hc : q.length ≤ cap) (hm : m < q.length) (y : BitVec 8) :
    Slice (w.setCell ⟨g, m, none⟩ (.int .u8 (bd y))) (.slice (some ⟨g, 0, none⟩) q.length cap) (q.set m y) := by
  have hr := hg.put m (.int .u8 (bd y))
  refine ⟨_, cap, by rw [List.length_set], by rw [List.length_set]; exact hc, fun _ => ⟨g, 0, rfl, hr.lt, fun j x hx => ?_⟩⟩
  rw [Nat.zero_add, hr.cell, Array.getElem?_setIfInBounds]
  have hcj : ∀ j, j < q.length → cur[j]? = (bytesV q)[j]? := fun j hj => by
    rw [← ht, List.getElem?_take, if_pos hj]; simp
  have hj : j < q.length := by have := (List.getElem?_eq_some_iff.1 hx).1; rwa [List.length_set] at this
  have hcur : j < cur.size := by
    have := hcj j hj
    have h2 : (bytesV q)[j]? = some (.int .u8 (bd q[j])) := by simp [bytesV, hj]
    rw [h2] at this
    exact (Array.getElem?_eq_some_iff.1 this).1
  by_cases hmj : m = j
  · subst hmj
    rw [if_pos rfl, if_pos hcur]
    rw [List.getElem?_set_self hm] at hx
    injection hx with hx
    rw [hx]
  · rw [if_neg hmj, hcj j hj]
    rw [List.getElem?_set_ne hmj] at hx
    simp [bytesV, hx]
/- a row of which the first cells are bytes: one of them is stored -/
theorem row_put {w : World} {g m : Nat} {q : List (BitVec 8)} {cur : Array Value} {t : TypeId} (hg : Row w g t cur) (ht : cur.toList.take q.length = bytesV q) (y : BitVec 8) :
    ∃ cur' : Array Value, Row (w.setCell ⟨g, m, none⟩ (.int .u8 (bd y))) g t cur' ∧ cur'.toList.take (q.set m y).length = bytesV (q.set m y) := by
  refine ⟨_, hg.put m (.int .u8 (bd y)), ?_⟩
  have hl : q.length ≤ cur.size := by
    have h := congrArg List.length ht
    simp [bytesV] at h
    omega
  rw [List.length_set, Array.toList_setIfInBounds, List.take_set, ht]
  simp [bytesV, List.map_set]
theorem row_pre {w : World} {g cap : Nat} {q : List (BitVec 8)} {cur : Array Value} {t : TypeId} (hg : Row w g t cur) (ht : cur.toList.take q.length = bytesV q) (hc : q.length ≤ cap) : Slice w (.slice (some ⟨g, 0, none⟩) q.length cap) q := by
  refine ⟨_, cap, rfl, hc, fun _ => ⟨g, 0, rfl, hg.lt, fun j x hx => ?_⟩⟩
  have hj := (List.getElem?_eq_some_iff.1 hx).1
  have h1 : (cur.toList.take q.length)[j]? = (bytesV q)[j]? := by rw [ht]
  rw [List.getElem?_take, if_pos hj] at h1
  rw [Nat.zero_add, hg.cell]
  have h2 : cur[j]? = (bytesV q)[j]? := by rw [← h1]; simp
  rw [h2]; simp [bytesV, hx]
theorem row_at {w : World} {g m : Nat} {q : List (BitVec 8)} {cur : Array Value} {t : TypeId} (hg : Row w g t cur) (ht : cur.toList.take q.length = bytesV q) (hm : m < q.length) : w.cell? ⟨g, m, none⟩ = some (.int .u8 (bd (q.getD m 0))) := by
  have h1 : (cur.toList.take q.length)[m]? = (bytesV q)[m]? := by rw [ht]
  rw [List.getElem?_take, if_pos hm] at h1
  rw [hg.cell]
  have h2 : cur[m]? = (bytesV q)[m]? := by rw [← h1]; simp
  rw [h2]; simp [bytesV, List.getD_eq_getElem?_getD, hm]
theorem own_row {w : World} {base : Nat} {v : Value} {q : List (BitVec 8)} (h : w.ownsRow base 5 1 v q.length (bytesV q)) (hq : 0 < q.length) :
    ∃ g cap cur, v = .slice (some ⟨g, 0, none⟩) q.length cap ∧ base ≤ g ∧ Row w g 5 cur ∧ q.length ≤ cap ∧ cur.toList.take q.length = bytesV q := by
  rcases h.2 with ⟨_, h0⟩ | ⟨g, cap, cur, h1, h2, h3, h4, _, _, h7⟩
  · omega
  · exact ⟨g, cap, cur, h1, h2, h3, h4, by simpa using h7⟩
end Go.Proofs.YtobklbfcnbmnmaaDoor

/- Arguments opened: a slice of bytes, a list of them, an array of integers. -/
set_option maxRecDepth 4000
namespace Go.Proofs.YtobklbfcnbmnmaaDoor
open Go Go.ChangeShapes Go.WideShapes Go.ChangeAt Go.RowKit
theorem ownK : ownKnob Tryd.prog.godebug = none := by kernel_rfl
theorem laidOutT : laidOutB Tryd.prog = true := by kernel_rfl
theorem cellsB : Tryd.prog.cellsOf 5 = 1 := by kernel_rfl
theorem open_bytes {H : Type} {enc : TypeId × Value → H} {W : World} {r : Reach} {base : Nat} {v : Value} {d : DataW H} {ps : List MemPlace} (hval : Value.okWide Tryd.prog W r base 32 v)
    (h : DataW.Trod enc Tryd.prog W 0 (fun _ => true) true 32 v d ps) (hlt : ∀ x ∈ ps, x.block < W.heap.size) :
    ∃ A c q, v = .slice A q.length c ∧ Slice W (.slice A q.length c) q ∧ (A = none → c = 0) ∧ q.length ≤ maxLen := by
  obtain ⟨a0, len, cap, rfl⟩ := okWide_slice Tryd.underlying32 hval
  obtain ⟨fuel, hf⟩ := h
  rcases open_ints Tryd.underlying32 Tryd.underlying5 cellsB hf with ⟨hcs, hx⟩ | ⟨a, len', cap', zs, hcs, _, hl, hm, hz, hx, hcell, hwz⟩
  · simp [Value.cells] at hcs
    obtain ⟨rfl, rfl, rfl⟩ := hcs
    exact ⟨none, 0, [], rfl, ⟨none, 0, rfl, by simp, fun h => absurd rfl h⟩, fun _ => rfl, by simp⟩
  · simp [Value.cells] at hcs
    obtain ⟨rfl, rfl, rfl⟩ := hcs
    simp only [Prod.mk.injEq] at hx
    obtain ⟨_, rfl⟩ := hx
    simp only [if_true] at hz
    have hq : ((zs.take len).map (BitVec.ofInt 8)).length = len := by rw [List.length_map, List.length_take]; omega
    refine ⟨some a, cap, (zs.take len).map (BitVec.ofInt 8), by rw [hq], ?_, fun h => (by cases h), by rw [hq]; omega⟩
    refine ⟨some a, cap, rfl, by rw [hq]; exact hl, fun hne => ?_⟩
    have hpos : 0 < len := by rw [← hq]; exact List.length_pos_iff.2 hne
    obtain ⟨b, off, spot⟩ := a
    have hspot : spot = none := by simpa [Addr.add] using World.cell?_spot (hcell 0 (by omega))
    subst hspot
    refine ⟨b, off, rfl, hlt (.cell b off) (MemPlace.mem_row.2 ⟨0, by omega, by simp⟩), fun j x hxj => ?_⟩
    have hj : j < len := by have := (List.getElem?_eq_some_iff.1 hxj).1; omega
    have hc := hcell j (by omega)
    rw [Addr.add_mid] at hc
    rw [hc]
    have hjz : j < zs.length := by omega
    have e : x = BitVec.ofInt 8 zs[j] := by
      simp only [List.getElem?_map, List.getElem?_take, if_pos hj, List.getElem?_eq_getElem hjz, Option.map_some, Option.some.injEq] at hxj
      exact hxj.symm
    have hb := bounds_u8 (hwz zs[j] (List.getElem_mem hjz))
    rw [e, ← bd_of zs[j] hb.1 (by omega)]
    simp [hjz]
theorem okWide_arr {P : Program} {w : World} {r : Reach} {base n : Nat} {t e : TypeId} {v : Value} (ht : P.underlying t = some (.array n e)) (h : Value.okWide P w r base t v) : ∃ cs, v = .agg cs := by
  simp only [Value.okWide, ht] at h
  cases v <;> simp_all
def intIn : Value → Int
  | .int _ z => z
  | _ => 0
theorem open_row {H : Type} {enc : TypeId × Value → H} {P : Program} {W : World} {t e : TypeId} {n : Nat} {k : IntKind} {cs : Array Value} {d : DataW H} {ps : List MemPlace} (ht : P.underlying t = some (.array n e)) (he : P.underlying e = some (.int k)) (hce : P.cellsOf e = 1) (hct : P.cellsOf t = n)
    (h : DataW.Trod enc P W 0 (fun _ => true) true t (.agg cs) d ps) : cs.size = n ∧ ∀ i, i < n → ∃ z, cs[i]? = some (.int k z) ∧ (Lit.int k z).wf = true := by
  obtain ⟨fuel, hf⟩ := h
  obtain ⟨xs, m, _, _, hl, hx, hi⟩ := DataW.trod_array ht hf
  have hs : cs.size = n := by simpa [Value.cells, hct] using hl
  refine ⟨hs, fun i hin => ?_⟩
  have h1 := hi i hin
  rw [List.getElem?_eq_getElem (by omega)] at h1
  obtain ⟨z, hz, _, hw⟩ := DataW.trod_int he h1
  refine ⟨z, ?_, hw⟩
  have hin' : i < cs.size := by omega
  simp only [hce, Nat.mul_one, Value.cells] at hz
  rw [List.take_one, List.head?_drop] at hz
  rw [Array.getElem?_eq_getElem hin']
  have e1 : cs.toList[i]? = some cs[i] := by simp [hin']
  rw [e1] at hz
  simpa using hz
theorem cellsSl : Tryd.prog.cellsOf 32 = 1 := by kernel_rfl
theorem open_item {H : Type} {enc : TypeId × Value → H} {W : World} {fuel : Nat} {u : Value} {x : DataW H × List MemPlace}
    (hf : DataW.trod enc Tryd.prog W 0 (fun _ => true) true fuel 32 [u] = some x) (hlt : ∀ y ∈ x.2, y.block < W.heap.size) : ∃ q, Item W u q := by
  rcases open_ints Tryd.underlying32 Tryd.underlying5 cellsB hf with ⟨hcs, hx⟩ | ⟨a, len, cap, zs, hcs, _, hl, hm, hz, hx, hcell, hwz⟩
  · simp at hcs
    subst hcs
    exact ⟨[], none, 0, rfl, ⟨none, 0, rfl, by simp, fun h => absurd rfl h⟩, fun _ => rfl, by simp⟩
  · simp at hcs
    subst hcs hx
    simp only [if_true] at hz
    have hq : ((zs.take len).map (BitVec.ofInt 8)).length = len := by rw [List.length_map, List.length_take]; omega
    refine ⟨(zs.take len).map (BitVec.ofInt 8), some a, cap, by rw [hq], ?_, fun h => (by cases h), by rw [hq]; omega⟩
    refine ⟨some a, cap, rfl, by rw [hq]; exact hl, fun hne => ?_⟩
    have hpos : 0 < len := by rw [← hq]; exact List.length_pos_iff.2 hne
    obtain ⟨b, off, spot⟩ := a
    have hspot : spot = none := by simpa [Addr.add] using World.cell?_spot (hcell 0 (by omega))
    subst hspot
    refine ⟨b, off, rfl, hlt (.cell b off) (MemPlace.mem_row.2 ⟨0, by omega, by simp⟩), fun j x hxj => ?_⟩
    have hj : j < len := by have := (List.getElem?_eq_some_iff.1 hxj).1; omega
    have hc := hcell j (by omega)
    rw [Addr.add_mid] at hc
    rw [hc]
    have hjz : j < zs.length := by omega
    have e : x = BitVec.ofInt 8 zs[j] := by
      simp only [List.getElem?_map, List.getElem?_take, if_pos hj, List.getElem?_eq_getElem hjz, Option.map_some, Option.some.injEq] at hxj
      exact hxj.symm
    have hb := bounds_u8 (hwz zs[j] (List.getElem_mem hjz))
    rw [e, ← bd_of zs[j] hb.1 (by omega)]
    simp [hjz]
theorem open_parts {H : Type} {enc : TypeId × Value → H} {W : World} {r : Reach} {base : Nat} {v : Value} {d : DataW H} {ps : List MemPlace} (hval : Value.okWide Tryd.prog W r base 67 v)
    (h : DataW.Trod enc Tryd.prog W 0 (fun _ => true) true 67 v d ps) (hlt : ∀ x ∈ ps, x.block < W.heap.size) :
    ∃ qs, Hand W v qs ∧ qs.length ≤ maxLen ∧ ∀ n c, v = .slice none n c → c = 0 := by
  obtain ⟨a0, len, cap, rfl⟩ := okWide_slice Tryd.underlying67 hval
  obtain ⟨fuel, hf⟩ := h
  rcases Deep.open_slice1 Tryd.underlying67 cellsSl hf with ⟨hcs, hx⟩ | ⟨a, len', cap', m, n, V, D, Pl, hcs, _, hl, hm, hmm, hx, hcell⟩
  · simp [Value.cells] at hcs
    obtain ⟨rfl, rfl, rfl⟩ := hcs
    exact ⟨[], ⟨none, 0, rfl, fun h => absurd rfl h⟩, by simp, fun n c e => by injection e with _ _ e; exact e.symm⟩
  · simp [Value.cells] at hcs
    obtain ⟨rfl, rfl, rfl⟩ := hcs
    simp only [Prod.mk.injEq] at hx
    obtain ⟨_, rfl⟩ := hx
    simp only [if_true] at hmm
    subst hmm
    obtain ⟨Q, hQ⟩ := Deep.choose_lt (α := List (BitVec 8)) (n := len) (p := fun i q => Item W (V i) q) (fun i hi => open_item (hcell i (by omega)).2 (fun y hy => hlt y (List.mem_append_right _ (List.mem_flatMap.2 ⟨i, List.mem_range.2 (by omega), hy⟩))))
    have hql : ((List.range len).map Q).length = len := by simp
    refine ⟨(List.range len).map Q, ⟨some a, _, by rw [hql], fun hne => ?_⟩, by rw [hql]; omega, fun n c e => by injection e with e _ _; cases e⟩
    have hpos : 0 < len := by rw [← hql]; exact List.length_pos_iff.2 hne
    obtain ⟨b, off, spot⟩ := a
    have hspot : spot = none := by simpa [Addr.add] using World.cell?_spot (hcell 0 (by omega)).1
    subst hspot
    refine ⟨b, off, rfl, hlt (.cell b off) (List.mem_append_left _ (MemPlace.mem_row.2 ⟨0, by omega, by simp⟩)), fun k q hq => ?_⟩
    have hk : k < len := by have := (List.getElem?_eq_some_iff.1 hq).1; omega
    have hc := (hcell k (by omega)).1
    rw [Addr.add_mid] at hc
    refine ⟨V k, hc, ?_⟩
    obtain rfl : Q k = q := by simpa [hk] using hq
    exact hQ k hk
end Go.Proofs.YtobklbfcnbmnmaaDoor

/- What a call changes when it works on things that were there: a footprint; rows of elements of several cells. No function of the program is named here. -/
set_option maxRecDepth 4000
namespace Go.Proofs.YtobklbfcnbmnmaaDoor
open Go Go.RowKit
/- all blocks but those of F are as they were -/
structure Chg (F : Nat → Prop) (w w' : World) : Prop where
  os : w'.os = w.os
  tape : w'.tape = w.tape
  output : w'.output = w.output
  size : w.heap.size ≤ w'.heap.size
  block : ∀ k, k < w.heap.size → ¬ F k → w'.heap[k]? = w.heap[k]?
section
variable {F F' : Nat → Prop} {a b c w w' : World}
theorem Chg.refl (F : Nat → Prop) (w : World) : Chg F w w := ⟨rfl, rfl, rfl, Nat.le_refl _, fun _ _ _ => rfl⟩
theorem Chg.trans (h : Chg F a b) (k : Chg F' b c) (hF : ∀ i, F' i → F i ∨ a.heap.size ≤ i) : Chg F a c :=
  ⟨k.os.trans h.os, k.tape.trans h.tape, k.output.trans h.output, Nat.le_trans h.size k.size, fun i hi hn => (k.block i (Nat.lt_of_lt_of_le hi h.size) fun hf => by rcases hF i hf with h1 | h1; exact hn h1; omega).trans (h.block i hi hn)⟩
theorem Chg.mono (h : Chg F a b) (hF : ∀ i, F i → F' i ∨ a.heap.size ≤ i) : Chg F' a b := (Chg.refl F' a).trans h hF
theorem Chg.of_below (h : Below w.heap.size w w') : Chg F w w' := ⟨h.os, h.tape, h.output, h.size, fun k hk _ => h.block k hk⟩
theorem Chg.drew (h : Chg F a w) : Chg F a w.drew := ⟨h.os, h.tape, h.output, h.size, h.block⟩
theorem Chg.alloc (h : Chg F a w) (o : Obj) : Chg F a (w.alloc o) := h.trans (F' := fun _ => False) (Chg.of_below ((Below.refl _ _).alloc (Nat.le_refl _) o)) (fun _ h => h.elim)
theorem Chg.setCell (h : Chg F a w) {p : Addr} (hp : F p.block ∨ a.heap.size ≤ p.block) (v : Value) : Chg F a (w.setCell p v) :=
  ⟨h.os, h.tape, h.output, by rw [World.size_setCell]; exact h.size, fun k hk hn => (Below.heap_setCell _ _ _ _ (fun e => by subst e; rcases hp with h1 | h1; exact hn h1; omega)).trans (h.block k hk hn)⟩
theorem Chg.setCells {g : Nat} (hp : F g ∨ a.heap.size ≤ g) : ∀ (vs : List Value) (o : Nat) {w : World}, Chg F a w → Chg F a (w.setCells g o vs)
  | [], _, _, h => h
  | v :: vs, o, _, h => Chg.setCells hp vs (o + 1) (h.setCell (p := ⟨g, o, none⟩) hp v)
theorem Chg.one (w : World) (g o : Nat) (v : Value) : Chg (fun k => k = g) w (w.setCell ⟨g, o, none⟩ v) := (Chg.refl (fun k => k = g) w).setCell (p := ⟨g, o, none⟩) (.inl rfl) v
theorem Chg.below (h : Chg F w w') {B : Nat} (hF : ∀ i, F i → B ≤ i) (hB : B ≤ w.heap.size) : Below B w w' := ⟨h.os, h.tape, h.output, h.size, fun k hk => h.block k (by omega) fun hf => by have := hF k hf; omega⟩
theorem Chg.grown (h : Chg F a w) {row : Option Nat} (hg : w.grownBy w' row) (hr : ∀ k, row = some k → F k ∨ a.heap.size ≤ k) : Chg F a w' :=
  h.trans (F' := fun k => row = some k) ⟨hg.os, hg.tape, hg.output, hg.size, fun k hk hn => hg.block k hk fun e => hn e.symm⟩ hr
theorem Row.chg {g : Nat} {t : TypeId} {cs : Array Value} (h : Row w g t cs) (k : Chg F w w') (hg : ¬ F g) : Row w' g t cs := (k.block g h.lt hg).trans h
theorem own_chg {base e size n : Nat} {v : Value} {xs : List Value} (h : w.ownsRow base e size v n xs) (k : Chg F w w') (hg : ∀ g, v.ownBlock = some g → ¬ F g) : w'.ownsRow base e size v n xs := by
  refine ⟨h.1, ?_⟩
  rcases h.2 with hn | ⟨g, cap, cur, rfl, h2, h3, h4⟩
  · exact .inl hn
  · refine .inr ⟨g, cap, cur, rfl, h2, ?_, h4⟩
    have hlt : g < w.heap.size := (Array.getElem?_eq_some_iff.1 h3).1
    rw [k.block g hlt (hg g rfl)]; exact h3
end
/- rows of elements of several cells -/
def spl {α : Type} (L : List α) (o : Nat) (vs : List α) : List α := L.take o ++ vs ++ L.drop (o + vs.length)
theorem length_spl {α : Type} (L : List α) (o : Nat) (vs : List α) (h : o + vs.length ≤ L.length) : (spl L o vs).length = L.length := by simp [spl]; omega
theorem set_eq_spl {α : Type} (L : List α) (o : Nat) (v : α) (h : o < L.length) : L.set o v = spl L o [v] := by
  rw [spl, List.set_eq_take_append_cons_drop, if_pos h]; simp
theorem spl_cons {α : Type} (L : List α) (o : Nat) (v : α) (vs : List α) (h : o + (vs.length + 1) ≤ L.length) : spl (L.set o v) (o + 1) vs = spl L o (v :: vs) := by
  unfold spl
  rw [List.take_set, List.drop_set_of_lt (by omega), List.length_cons, show o + 1 + vs.length = o + (vs.length + 1) by omega]
  congr 1
  rw [List.take_succ_eq_append_getElem (by omega), List.set_append_right _ _ (by rw [List.length_take]; exact Nat.min_le_left _ _), List.length_take, Nat.min_eq_left (by omega), Nat.sub_self]
  simp
theorem row_setCells {g : Nat} {t : TypeId} : ∀ (vs : List Value) (o : Nat) (w : World) (cs : Array Value), Row w g t cs → o + vs.length ≤ cs.size → Row (w.setCells g o vs) g t (spl cs.toList o vs).toArray
  | [], o, w, cs, h, _ => by
    have e : (spl cs.toList o []).toArray = cs := by simp [spl]
    rw [e]; exact h
  | v :: vs, o, w, cs, h, hl => by
    simp only [List.length_cons] at hl
    have h2 := row_setCells vs (o + 1) _ _ (h.put o v) (by simp; omega)
    rw [Array.toList_setIfInBounds, spl_cons cs.toList o v vs (by simpa using hl)] at h2
    exact h2
theorem flat_get {α : Type} {sz : Nat} : ∀ (l : List (List α)), (∀ c ∈ l, c.length = sz) → ∀ (k j : Nat) (c : List α), l[k]? = some c → j < sz → l.flatten[k * sz + j]? = c[j]?
  | [], _, k, j, c, hk, _ => by simp at hk
  | d :: l, h, 0, j, c, hk, hj => by
    obtain rfl : d = c := by simpa using hk
    have hd := h d (by simp)
    rw [List.flatten_cons, Nat.zero_mul, Nat.zero_add, List.getElem?_append_left (by omega)]
  | d :: l, h, k + 1, j, c, hk, hj => by
    have hd := h d (by simp)
    have ih := flat_get l (fun c hc => h c (by simp [hc])) k j c (by simpa using hk) hj
    have e : (k + 1) * sz + j = d.length + (k * sz + j) := by rw [hd, Nat.succ_mul]; omega
    rw [List.flatten_cons, e, List.getElem?_append_right (by omega), Nat.add_sub_cancel_left]
    exact ih
theorem flat_length {α : Type} {sz : Nat} : ∀ (l : List (List α)), (∀ c ∈ l, c.length = sz) → l.flatten.length = l.length * sz
  | [], _ => by simp
  | d :: l, h => by
    rw [List.flatten_cons, List.length_append, flat_length l (fun c hc => h c (by simp [hc])), h d (by simp), List.length_cons, Nat.succ_mul]; omega
theorem flat_spl {α : Type} {sz : Nat} : ∀ (l : List (List α)), (∀ c ∈ l, c.length = sz) → ∀ (k : Nat) (c : List α), k < l.length → c.length = sz → spl l.flatten (k * sz) c = (l.set k c).flatten
  | [], _, k, c, hk, _ => by simp at hk
  | d :: l, h, 0, c, hk, hc => by
    have hd := h d (by simp)
    simp only [spl, Nat.zero_mul, List.take_zero, List.nil_append, Nat.zero_add, List.flatten_cons, List.set_cons_zero]
    rw [List.drop_append_of_le_length (by omega), hc, ← hd, List.drop_length, List.nil_append]
  | d :: l, h, k + 1, c, hk, hc => by
    have hd := h d (by simp)
    have ih := flat_spl l (fun c hc => h c (by simp [hc])) k c (by simpa using hk) hc
    rw [List.set_cons_succ, List.flatten_cons, List.flatten_cons, ← ih]
    have e : (k + 1) * sz = d.length + k * sz := by rw [hd, Nat.succ_mul]; omega
    unfold spl
    rw [e, List.take_length_add_append, show d.length + k * sz + c.length = d.length + (k * sz + c.length) by omega, List.drop_length_add_append]
    simp
theorem flat_snoc {α : Type} (l : List (List α)) (c : List α) : (l ++ [c]).flatten = l.flatten ++ c := by simp
/- an element of an owned row of elements: read and written -/
section
variable {w : World} {base e sz n cap g : Nat} {l : List (List Value)}
theorem own_elem (h : w.ownsRow base e sz (.slice (some ⟨g, 0, none⟩) n cap) n l.flatten) (hl : ∀ c ∈ l, c.length = sz) {k : Nat} {c : List Value} (hk : l[k]? = some c) : w.rangeAt g (k * sz) c := fun j v hv => by
  have hkl := (List.getElem?_eq_some_iff.1 hk).1
  have hc : c.length = sz := hl c (List.mem_of_getElem? hk)
  have hj : j < sz := by have := (List.getElem?_eq_some_iff.1 hv).1; omega
  have hn : l.length * sz = n * sz := by rw [← flat_length l hl]; exact h.1
  have hb : k * sz + j < n * sz := by
    rw [← hn]
    have := Nat.mul_le_mul_right sz (Nat.succ_le_of_lt hkl)
    rw [Nat.succ_mul] at this
    omega
  rw [h.cellAt _ hb, flat_get l hl k j c hk hj]
  exact hv
theorem own_there (h : w.ownsRow base e sz (.slice (some ⟨g, 0, none⟩) n cap) n l.flatten) (hl : ∀ c ∈ l, c.length = sz) {k : Nat} (hk : k < l.length) : w.there g (k * sz) sz := fun j hj => by
  have hr := own_elem h hl (List.getElem?_eq_getElem hk)
  have hc : l[k].length = sz := hl _ (List.getElem_mem hk)
  exact ⟨by rw [hr j _ (List.getElem?_eq_getElem (show j < l[k].length by omega))]; rfl, h.frozenAt _⟩
theorem own_store (h : w.ownsRow base e sz (.slice (some ⟨g, 0, none⟩) n cap) n l.flatten) (hl : ∀ c ∈ l, c.length = sz) {k : Nat} (hk : k < l.length) {c : List Value} (hc : c.length = sz) :
    (w.setCells g (k * sz) c).ownsRow base e sz (.slice (some ⟨g, 0, none⟩) n cap) n (l.set k c).flatten := by
  obtain ⟨h1, h2⟩ := h
  rcases h2 with ⟨h3, _⟩ | ⟨g', cap', cur, h3, h4, h5, h6, h7, h8, h9⟩
  · cases h3
  · injection h3 with h3 _ h3'
    injection h3 with h3
    injection h3 with h3
    subst h3 h3'
    have hll : l.flatten.length = l.length * sz := flat_length l hl
    have hkk : k * sz + sz ≤ l.length * sz := by
      have := Nat.mul_le_mul_right sz (Nat.succ_le_of_lt hk)
      rw [Nat.succ_mul] at this
      omega
    have hnc : n * sz ≤ cur.size := by rw [h8]; exact Nat.mul_le_mul_right sz h6
    have hr := row_setCells c (k * sz) w cur h5 (by omega)
    have hL : cur.toList.length = cur.size := Array.length_toList
    refine ⟨?_, .inr ⟨g, cap, _, rfl, h4, hr, h6, h7, ?_, ?_⟩⟩
    · rw [flat_length (l.set k c) (fun d hd => by rcases List.mem_or_eq_of_mem_set hd with h | h; exact hl d h; rw [h]; exact hc), List.length_set, ← hll]; exact h1
    · rw [List.size_toArray, length_spl cur.toList (k * sz) c (by omega), hL]; exact h8
    · rw [← flat_spl l hl k c hk hc, ← h9]
      unfold spl
      rw [List.take_append, List.take_append, List.take_take, List.length_append, List.length_take, List.take_of_length_le (l := c) (by simp; omega), Nat.min_eq_right (by omega), List.take_take, Nat.min_eq_left (by omega), Nat.min_eq_left (by omega)]
      congr 1
      rw [List.drop_take]
end
/- append: where the slice then lies: where it lay, or in a new block -/
def Where (w : World) (v v' : Value) : Prop := v'.ownBlock = v.ownBlock ∨ ∀ k, v'.ownBlock = some k → w.heap.size ≤ k
theorem Where.cases {w : World} {v v' : Value} (h : Where w v v') {k : Nat} (hk : v'.ownBlock = some k) : v.ownBlock = some k ∨ w.heap.size ≤ k := by
  rcases h with h | h
  · exact .inl (by rw [← h]; exact hk)
  · exact .inr (h k hk)
theorem run_append_where {P : Program} (w : World) (base : Nat) (t ty e : TypeId) (i : TypeInfo) (z : Value) (size bytes : Nat) (ht : P.underlying t = some (.slice e)) (hi : P.info? e = some i) (hz : i.zero = some z)
    (hsize : i.size = size) (hby : i.bytes = bytes) (hzs : z.cells.size = size) (hsz : 0 < size)
    (v : Value) (n : Nat) (xs : List Value) (hown : w.ownsRow base e size v n xs)
    (a : Addr) (m c : Nat) (news : List Value) (hl : news.length = m * size) (hnews : ∀ j u, news[j]? = some u → w.cell? (a.add j) = some u) (h1 : ∀ u ∈ news, u.oneCell' = true)
    (h63 : n + m ≤ maxLen) (hbytes : (n + m) * bytes ≤ 140737488355328) (hbase : base ≤ w.heap.size) :
    ∃ v' w', (Builtin.append_ #[t, t] ty #[v, .slice (some a) m c]).run P w = .ok v' w' ∧ w'.ownsRow base e size v' (n + m) (xs ++ news) ∧ w.grownBy w' v.ownBlock ∧ Where w v v' := by
  obtain ⟨v', w', hr, h2, h3, _⟩ := run_append_own (P := P) w base t ty e i z size bytes ht hi hz hsize hby hzs hsz v n xs hown a m c news hl hnews h1 h63 hbytes hbase
  refine ⟨v', w', hr, h2, h3, ?_⟩
  rcases hown.2 with ⟨rfl, rfl⟩ | ⟨g, cap, cur, rfl, _, _, _, _, _, _⟩
  · obtain rfl : xs = [] := List.eq_nil_of_length_eq_zero (by simpa using hown.1)
    obtain ⟨v2, w2, hr2, h4, _, _⟩ := run_append_own (P := P) w w.heap.size t ty e i z size bytes ht hi hz hsize hby hzs hsz (.slice none 0 0) 0 [] (World.ownsRow_nil _ _ _ _) a m c news hl hnews h1 h63 hbytes (Nat.le_refl _)
    rw [hr] at hr2
    injection hr2 with hr2 _
    subst hr2
    exact .inr fun k hk => (h4.lt k hk).1
  · by_cases hroom : n + m ≤ cap
    · obtain ⟨w2, hr2, _⟩ := run_append_fits (P := P) w base t ty e i size ht hi hsize g n cap xs hown a m c news hl hnews h1 hroom
      rw [hr] at hr2
      injection hr2 with hr2 _
      subst hr2
      exact .inl rfl
    · have hr2 := run_append_grow (P := P) w t ty e i z ht hi hz ⟨g, 0, none⟩ n cap xs (by rw [hsize]; exact hown.1) (hown.cells (g := g) rfl) a m c news (by rw [hsize]; exact hl) hnews (by omega) (by have := h63; simp only [maxLen] at this; omega) (growslice_fits (by omega) (by rw [hby]; exact hbytes))
      rw [hr] at hr2
      injection hr2 with hr2 _
      subst hr2
      refine .inr fun k hk => ?_
      injection hk with hk
      exact Nat.le_of_eq hk
theorem wp_append_where {P : Program} {w : World} {o : Oper} {a : Act} {K : Act → World → Prop} {Q : Exit → Act → World → Prop} (s x : Operand) (t : TypeId)
    (ho : o.op = .call { callee := .builtin .append, args := #[s, x], argTypes := #[t, t] })
    (base : Nat) (e : TypeId) (size bytes : Nat) (z : Value) (ht : P.underlying t = some (.slice e)) (hi : (P.info? e).map (fun i => (i.zero, i.size, i.bytes)) = some (some z, size, bytes)) (hzs : z.cells.size = size) (hsz : 0 < size)
    (v : Value) (n : Nat) (xs : List Value) (hs : a.eval s = v) (hown : w.ownsRow base e size v n xs)
    (ad : Addr) (m c : Nat) (news : List Value) (hx : a.eval x = .slice (some ad) m c) (hl : news.length = m * size) (hnews : ∀ j u, news[j]? = some u → w.cell? (ad.add j) = some u) (h1 : ∀ u ∈ news, u.oneCell' = true)
    (h63 : n + m ≤ maxLen) (hbytes : (n + m) * bytes ≤ 140737488355328) (hbase : base ≤ w.heap.size)
    (h : ∀ v' w', w'.ownsRow base e size v' (n + m) (xs ++ news) → w.grownBy w' v.ownBlock → Where w v v' → K (a.put o.dst v') w') : o.wp P a w K Q := by
  obtain ⟨i, hi1, hz1, hz2, hz3⟩ := info_parts hi
  obtain ⟨v', w', hr, h2, h3, h4⟩ := run_append_where (P := P) w base t o.type e i z size bytes ht hi1 hz1 hz2 hz3 hzs hsz v n xs hown ad m c news hl hnews h1 h63 hbytes hbase
  unfold Oper.wp execOp
  simp only [ho, resolve, invoke, builtin, Sem.run_bind, Sem.run_pure, Result.andThen_ok, List.map_toArray, List.map_cons, List.map_nil, hs, hx, hr]
  exact h v' w' h2 h3 h4
theorem results_cell_tmp {P : Program} {fn : Func} {p u : Tmp} {ty : TypeId} (h : fn.results = #[.cell p ty, .tmp u]) (tmps : Array Value) (w : World) (g : Nat) (t : TypeId) (cs : Array Value) (fr : Nat × Nat) (d : TypeDesc)
    (hp : tmps.getD p undef = .pointer (some ⟨g, 0, none⟩)) (hg : w.heap[g]? = some (.cells cs t fr))
    (hu : P.underlying ty = some d) (hd : (match d with | .struct _ | .array _ _ => true | _ => false) = true) (hi : (P.info? ty).map (·.size) = some cs.size) :
    (results fn tmps).run P w = .ok (.tuple #[.agg cs, tmps.getD u undef]) w := by
  have hp' : tmps[p]?.getD undef = .pointer (some ⟨g, 0, none⟩) := by simpa using hp
  simp [results, h, hp', asAddr, run_loadVar_row w g t ty cs fr d hg hu hd hi]
theorem own_apart {w : World} {base e size n g : Nat} {t : TypeId} {v : Value} {xs : List Value} {cs : Array Value} (h : w.ownsRow base e size v n xs) (r : Row w g t cs) (hne : e ≠ t) : ∀ k, v.ownBlock = some k → k ≠ g := by
  intro k hk e0
  subst e0
  rcases h.2 with ⟨rfl, _⟩ | ⟨g', cap, cur, rfl, _, h3, _⟩
  · cases hk
  · injection hk with hk
    change g' = k at hk
    subst hk
    unfold Row at r
    rw [h3] at r
    injection r with r
    injection r with _ r _
    exact hne r
theorem own_apart2 {w : World} {base base' e e' size size' n n' : Nat} {v v' : Value} {xs xs' : List Value} (h : w.ownsRow base e size v n xs) (h' : w.ownsRow base' e' size' v' n' xs') (hne : e ≠ e') : ∀ k, v.ownBlock = some k → v'.ownBlock ≠ some k := by
  intro k hk hk'
  rcases h'.2 with ⟨rfl, _⟩ | ⟨g', cap, cur, rfl, _, h3, _⟩
  · cases hk'
  · injection hk' with hk'
    change g' = k at hk'
    subst hk'
    exact own_apart h (show Row w g' e' cur from h3) hne g' hk rfl
theorem own_slice_form {w : World} {base e size n : Nat} {v : Value} {xs : List Value} (h : w.ownsRow base e size v n xs) : ∃ A c, v = .slice A n c ∧ n ≤ c := by
  rcases h.2 with ⟨rfl, rfl⟩ | ⟨g, cap, cur, rfl, _, _, h4, _⟩
  · exact ⟨none, 0, rfl, Nat.le_refl _⟩
  · exact ⟨_, cap, rfl, h4⟩
theorem len_bytesV (b : List (BitVec 8)) : (bytesV b).length = b.length := by simp [bytesV]
theorem own_n {w : World} {base e size n m c : Nat} {A : Option Addr} {xs : List Value} (h : w.ownsRow base e size (.slice A n c) m xs) : m = n := by
  rcases h.2 with ⟨e, hn⟩ | ⟨_, _, _, e, _⟩
  · injection e with _ e _; rw [e]; exact hn
  · injection e with _ e _; exact e.symm
end Go.Proofs.YtobklbfcnbmnmaaDoor

/- What an argument holds, read by its type: integers, bools, texts, rows of bytes, slices, structs, put together as the type is. No function of the program is named here. -/
set_option maxRecDepth 4000
namespace Go.Proofs.YtobklbfcnbmnmaaDoor
open Go Go.ChangeShapes Go.WideShapes Go.ChangeAt Go.RowKit
/- the cells cs hold a, in the world w -/
def Rd (α : Type) := World → List Value → α → Prop
def Rd.Stays {α : Type} (R : Rd α) : Prop := ∀ (B : Nat) (w w' : World) (cs : List Value) (a : α), R w cs a → Below B w w' → w.heap.size ≤ B → R w' cs a
def Opens (P : Program) {α : Type} (t : TypeId) (R : Rd α) : Prop :=
  ∀ {H : Type} (enc : TypeId × Value → H) (W : World) (fuel : Nat) (cs : List Value) (x : DataW H × List MemPlace), DataW.trod enc P W 0 (fun _ => true) true fuel t cs = some x → (∀ y ∈ x.2, y.block < W.heap.size) → ∃ a, R W cs a
def rdInt (k : IntKind) : Rd Int := fun _ cs n => cs = [.int k n] ∧ (Lit.int k n).wf = true
def rdU8 : Rd (BitVec 8) := fun _ cs x => cs = [.int .u8 (bd x)]
def rdBool : Rd Bool := fun _ cs b => cs = [.bool b]
def rdStr : Rd ByteArray := fun _ cs s => cs = [.string s] ∧ s.size ≤ maxLen
def rdRow (n : Nat) : Rd (List (BitVec 8)) := fun _ cs b => cs = bytesV b ∧ b.length = n
def rdNil : Rd Unit := fun _ cs _ => cs = []
def rdCons {α β : Type} (s : Nat) (R : Rd α) (T : Rd β) : Rd (α × β) := fun w cs ab => ∃ c d, cs = c ++ d ∧ c.length = s ∧ R w c ab.1 ∧ T w d ab.2
def rdSl {α : Type} (s : Nat) (R : Rd α) : Rd (List α) := fun w cs l => ∃ A c, cs = [.slice A l.length c] ∧ l.length ≤ c ∧ (A = none → c = 0) ∧ l.length ≤ maxLen ∧
  (l ≠ [] → ∃ b o, A = some ⟨b, o, none⟩ ∧ b < w.heap.size ∧ ∀ k x, l[k]? = some x → ∃ ds, ds.length = s ∧ w.rangeAt b (o + k * s) ds ∧ R w ds x)
def rdMap {α β : Type} (f : α → β) (R : Rd α) : Rd β := fun w cs b => ∃ a, R w cs a ∧ b = f a
theorem stays_int (k : IntKind) : (rdInt k).Stays := fun _ _ _ _ _ h _ _ => h
theorem stays_u8 : rdU8.Stays := fun _ _ _ _ _ h _ _ => h
theorem stays_bool : rdBool.Stays := fun _ _ _ _ _ h _ _ => h
theorem stays_str : rdStr.Stays := fun _ _ _ _ _ h _ _ => h
theorem stays_row (n : Nat) : (rdRow n).Stays := fun _ _ _ _ _ h _ _ => h
theorem stays_rnil : rdNil.Stays := fun _ _ _ _ _ h _ _ => h
theorem stays_cons' {α β : Type} {s : Nat} {R : Rd α} {T : Rd β} (h : R.Stays) (t : T.Stays) : (rdCons s R T).Stays := fun B w w' _ _ ⟨c, d, e, hl, h1, h2⟩ hb hB => ⟨c, d, e, hl, h B w w' _ _ h1 hb hB, t B w w' _ _ h2 hb hB⟩
theorem stays_map {α β : Type} {f : α → β} {R : Rd α} (h : R.Stays) : (rdMap f R).Stays := fun B w w' _ _ ⟨a, h1, e⟩ hb hB => ⟨a, h B w w' _ _ h1 hb hB, e⟩
theorem stays_sl {α : Type} {s : Nat} {R : Rd α} (h : R.Stays) : (rdSl s R).Stays := fun B w w' cs l ⟨A, c, h1, h2, h3, h4, h5⟩ hb hB => by
  refine ⟨A, c, h1, h2, h3, h4, fun hne => ?_⟩
  obtain ⟨b, o, h6, h7, h8⟩ := h5 hne
  refine ⟨b, o, h6, Nat.lt_of_lt_of_le h7 hb.size, fun k x hx => ?_⟩
  obtain ⟨ds, h9, h10, h11⟩ := h8 k x hx
  exact ⟨ds, h9, fun j v hv => (hb.cell (p := ⟨b, o + k * s + j, none⟩) (Nat.lt_of_lt_of_le h7 hB)).trans (h10 j v hv), h B w w' _ _ h11 hb hB⟩
section
variable {P : Program}
theorem opens_int {t : TypeId} {k : IntKind} (ht : P.underlying t = some (.int k)) : Opens P t (rdInt k) := fun _ _ _ _ _ h _ => by
  obtain ⟨n, h1, _, h2⟩ := DataW.trod_int ht h
  exact ⟨n, h1, h2⟩
theorem opens_u8 {t : TypeId} (ht : P.underlying t = some (.int .u8)) : Opens P t rdU8 := fun _ _ _ _ _ h _ => by
  obtain ⟨n, h1, _, h2⟩ := DataW.trod_int ht h
  have hb := bounds_u8 h2
  exact ⟨BitVec.ofInt 8 n, by unfold rdU8; rw [h1, ← bd_of n hb.1 (by omega)]⟩
theorem opens_bool {t : TypeId} (ht : P.underlying t = some .bool) : Opens P t rdBool := fun _ _ _ _ _ h _ => by
  obtain ⟨b, h1, _⟩ := DataW.trod_bool ht h
  exact ⟨b, h1⟩
theorem opens_str {t : TypeId} (ht : P.underlying t = some .string) : Opens P t rdStr := fun _ _ _ _ _ h _ => by
  obtain ⟨s, h1, _, h2⟩ := DataW.trod_string ht h
  exact ⟨s, h1, h2⟩
theorem opens_map {α β : Type} {t : TypeId} {f : α → β} {R : Rd α} (h : Opens P t R) : Opens P t (rdMap f R) := fun enc W fuel cs x hx hlt => by
  obtain ⟨a, ha⟩ := h enc W fuel cs x hx hlt
  exact ⟨f a, a, ha, rfl⟩
theorem opens_row {t e : TypeId} {n : Nat} (ht : P.underlying t = some (.array n e)) (he : P.underlying e = some (.int .u8)) (hce : P.cellsOf e = 1) (hct : P.cellsOf t = n) : Opens P t (rdRow n) := fun enc W fuel cs x h _ => by
  obtain ⟨xs, m, _, _, hl, hx, hi⟩ := DataW.trod_array ht h
  have hs : cs.length = n := by rw [hl, hct]
  have hint : ∀ i, i < n → ∃ z, cs[i]? = some (.int .u8 z) ∧ (Lit.int .u8 z).wf = true := fun i hin => by
    have h1 := hi i hin
    rw [List.getElem?_eq_getElem (by omega)] at h1
    obtain ⟨z, hz, _, hw⟩ := DataW.trod_int he h1
    refine ⟨z, ?_, hw⟩
    simp only [hce, Nat.mul_one] at hz
    rw [List.take_one, List.head?_drop] at hz
    cases hc : cs[i]? with
    | none => rw [hc] at hz; cases hz
    | some v => rw [hc] at hz; simpa using hz
  refine ⟨cs.map fun v => BitVec.ofInt 8 (intIn v), ?_, by simp [hs]⟩
  apply List.ext_getElem?
  intro i
  by_cases hin : i < n
  · obtain ⟨z, hz, hw⟩ := hint i hin
    have hb := bounds_u8 hw
    simp [bytesV, hz, intIn, ← bd_of z hb.1 (by omega)]
  · rw [List.getElem?_eq_none (by omega), List.getElem?_eq_none (by simp [bytesV]; omega)]
theorem opens_sl {α : Type} {t e : TypeId} {s : Nat} {R : Rd α} (ht : P.underlying t = some (.slice e)) (hs : P.cellsOf e = s) (hpos : 0 < s) (he : Opens P e R) : Opens P t (rdSl s R) := fun {H} enc W fuel cs x h hlt => by
  rcases Deep.open_slice ht h with ⟨h0, _⟩ | ⟨a, len, cap, m, n, D, Pl, hcs, _, hl, hm, hmm, hx, hi⟩
  · exact ⟨[], none, 0, h0, by simp, fun _ => rfl, by simp, fun h => absurd rfl h⟩
  · simp only [if_true] at hmm
    subst hmm
    have hlt' : ∀ y ∈ MemPlace.row a (m * P.cellsOf e) ++ (List.range m).flatMap Pl, y.block < W.heap.size := by rw [hx] at hlt; exact hlt
    have hR : ∀ i, i < len → ∃ b, ∃ ds, W.cells? 0 (a.add (i * s)) s = some ds ∧ R W ds b := fun i hil => by
      obtain ⟨ds, h1, h2⟩ := hi i (by omega)
      rw [hs] at h1
      obtain ⟨b, hb⟩ := he enc W n ds _ h2 fun y hy => hlt' y (List.mem_append_right _ (List.mem_flatMap.2 ⟨i, List.mem_range.2 (by omega), hy⟩))
      exact ⟨b, ds, h1, hb⟩
    by_cases h0 : len = 0
    · subst h0
      refine ⟨[], some a, m, hcs, by simp, fun h => (by cases h), by simp, fun h => absurd rfl h⟩
    · obtain ⟨b0, _⟩ := hR 0 (by omega)
      have hinh : Inhabited α := ⟨b0⟩
      obtain ⟨Q, hQ⟩ := Deep.choose_lt (α := α) (n := len) (p := fun i q => ∃ ds, W.cells? 0 (a.add (i * s)) s = some ds ∧ R W ds q) hR
      have hql : ((List.range len).map Q).length = len := by simp
      refine ⟨(List.range len).map Q, some a, m, by rw [hql]; exact hcs, by rw [hql]; exact hl, fun h => (by cases h), by rw [hql]; omega, fun _ => ?_⟩
      obtain ⟨b, off, spot⟩ := a
      have hspot : spot = none := by
        obtain ⟨ds, h1, _⟩ := hQ 0 (by omega)
        obtain ⟨_, h3, h4⟩ := World.cells?_some h1
        have h5 := h4 0 hpos
        rw [List.getElem?_eq_getElem (by omega)] at h5
        simpa [Addr.add] using World.cell?_spot h5
      subst hspot
      refine ⟨b, off, rfl, hlt' (.cell b off) (List.mem_append_left _ (MemPlace.mem_row.2 ⟨0, by rw [hs]; exact Nat.mul_pos (by omega) hpos, by simp⟩)), fun k x hk => ?_⟩
      have hkl : k < len := by have := (List.getElem?_eq_some_iff.1 hk).1; omega
      obtain ⟨ds, h1, h2⟩ := hQ k hkl
      obtain ⟨_, h3, h4⟩ := World.cells?_some h1
      obtain rfl : Q k = x := by simpa [hkl] using hk
      refine ⟨ds, h3, fun j v hv => ?_, h2⟩
      have hj : j < s := by have := (List.getElem?_eq_some_iff.1 hv).1; omega
      have h5 := h4 j hj
      rw [hv, Addr.add_mid, Addr.add_mid] at h5
      exact h5
/- the fields of a struct from offset o on -/
def OpensF (P : Program) {β : Type} (fs : List Field) (o : Nat) (T : Rd β) : Prop :=
  ∀ {H : Type} (enc : TypeId × Value → H) (W : World) (n : Nat) (cs : List Value) (xs : List (DataW H × List MemPlace)), xs.length = fs.length →
    (∀ (i : Nat) (f : Field), fs[i]? = some f → DataW.trod enc P W 0 (fun _ => true) true n f.type ((cs.drop f.offset).take (P.cellsOf f.type)) = xs[i]?) → (∀ y ∈ xs.flatMap (·.2), y.block < W.heap.size) → cs.length = o + (fs.map fun f => P.cellsOf f.type).sum → ∃ b, T W (cs.drop o) b
theorem opensF_nil {o : Nat} : OpensF P [] o rdNil := fun _ _ _ _ _ _ _ _ hl => ⟨(), by
  unfold rdNil
  simp only [List.map_nil, List.sum_nil, Nat.add_zero] at hl
  rw [← hl, List.drop_length]⟩
theorem opensF_cons {α β : Type} {f : Field} {fs : List Field} {o s : Nat} {R : Rd α} {T : Rd β} (ho : f.offset = o) (hs : P.cellsOf f.type = s) (h : Opens P f.type R) (t : OpensF P fs (o + s) T) : OpensF P (f :: fs) o (rdCons s R T) := fun {H} enc W n cs xs hxl hf hlt hl => by
  cases xs with
  | nil => simp at hxl
  | cons x xs =>
    simp only [List.length_cons, Nat.add_right_cancel_iff] at hxl
    have h0 := hf 0 f rfl
    simp only [List.getElem?_cons_zero] at h0
    rw [ho, hs] at h0
    obtain ⟨a, ha⟩ := h enc W n _ x h0 fun y hy => hlt y (by simp [hy])
    simp only [List.map_cons, List.sum_cons, hs] at hl
    obtain ⟨b, hb⟩ := t enc W n cs xs hxl (fun i g hg => by have := hf (i + 1) g (by simpa using hg); simpa using this) (fun y hy => hlt y (by simp only [List.flatMap_cons, List.mem_append]; exact .inr hy)) (by omega)
    refine ⟨(a, b), (cs.drop o).take s, cs.drop (o + s), ?_, by rw [List.length_take, List.length_drop]; omega, ha, hb⟩
    rw [← List.drop_drop, List.take_append_drop]
theorem opens_struct {β : Type} {t : TypeId} {fs : Array Field} {T : Rd β} (ht : P.underlying t = some (.struct fs)) (hc : P.cellsOf t = (fs.toList.map fun f => P.cellsOf f.type).sum) (h : OpensF P fs.toList 0 T) : Opens P t T := fun {H} enc W fuel cs x hx hlt => by
  obtain ⟨xs, n, _, hy, hlen, hyl, hf⟩ := DataW.trod_struct ht hx
  subst hy
  obtain ⟨b, hb⟩ := h enc W n cs xs (by rw [hyl]; exact Array.length_toList.symm) (fun i f hi => hf i f (by rw [← Array.getElem?_toList]; exact hi)) hlt (by rw [hlen, hc, Nat.zero_add])
  exact ⟨b, by simpa using hb⟩
end
/- an argument of a card -/
theorem open_arg {P : Program} {α : Type} {t : TypeId} {R : Rd α} (h : Opens P t R) {H : Type} {enc : TypeId × Value → H} {W : World} {v : Value} {d : DataW H} {ps : List MemPlace} (hT : DataW.Trod enc P W 0 (fun _ => true) true t v d ps) (hlt : ∀ y ∈ ps, y.block < W.heap.size) : ∃ a, R W v.cells.toList a := by
  obtain ⟨fuel, hf⟩ := hT
  exact h enc W fuel _ _ hf hlt
theorem okWide_rec {P : Program} {w : World} {r : Reach} {base : Nat} {t : TypeId} {fs : Array Field} {v : Value} (ht : P.underlying t = some (.struct fs)) (h : Value.okWide P w r base t v) : ∃ cs, v = .agg cs := by
  simp only [Value.okWide, ht] at h
  cases v <;> simp_all
/- an argument that is a slice -/
theorem open_argSl {P : Program} {α : Type} {t e : TypeId} {s : Nat} {R : Rd α} (ht : P.underlying t = some (.slice e)) (ho : Opens P t (rdSl s R)) {H : Type} {enc : TypeId × Value → H} {W : World} {r : Reach} {base : Nat} {v : Value} {d : DataW H} {ps : List MemPlace} (hval : Value.okWide P W r base t v) (hT : DataW.Trod enc P W 0 (fun _ => true) true t v d ps) (hlt : ∀ y ∈ ps, y.block < W.heap.size) : ∃ A c l, v = .slice A l.length c ∧ rdSl s R W [.slice A l.length c] l := by
  obtain ⟨a0, len, cap, rfl⟩ := okWide_slice ht hval
  obtain ⟨l, hl⟩ := open_arg ho hT hlt
  have h0 := hl
  obtain ⟨A, c, e, _⟩ := hl
  have e : Value.slice a0 len cap = .slice A l.length c := by simpa [Value.cells] using e
  rw [e] at h0
  exact ⟨A, c, l, e, by simpa [Value.cells] using h0⟩
/- an argument that is a struct -/
theorem open_argRec {P : Program} {α : Type} {t : TypeId} {fs : Array Field} {R : Rd α} (ht : P.underlying t = some (.struct fs)) (ho : Opens P t R) {H : Type} {enc : TypeId × Value → H} {W : World} {r : Reach} {base : Nat} {v : Value} {d : DataW H} {ps : List MemPlace} (hval : Value.okWide P W r base t v) (hT : DataW.Trod enc P W 0 (fun _ => true) true t v d ps) (hlt : ∀ y ∈ ps, y.block < W.heap.size) : ∃ cs x, v = .agg cs.toArray ∧ R W cs x := by
  obtain ⟨cs, rfl⟩ := okWide_rec ht hval
  obtain ⟨x, hx⟩ := open_arg ho hT hlt
  exact ⟨cs.toList, x, by simp, by simpa [Value.cells] using hx⟩
/- an argument that is a byte; one that is an array of bytes -/
theorem open_argU8 {P : Program} {t : TypeId} (ht : P.underlying t = some (.int .u8)) {H : Type} {enc : TypeId × Value → H} {W : World} {r : Reach} {base : Nat} {v : Value} {d : DataW H} {ps : List MemPlace} (hval : Value.okWide P W r base t v) (hT : DataW.Trod enc P W 0 (fun _ => true) true t v d ps) (hlt : ∀ y ∈ ps, y.block < W.heap.size) : ∃ x : BitVec 8, v = .int .u8 (bd x) := by
  obtain ⟨n, rfl⟩ := okWide_int ht hval
  obtain ⟨x, hx⟩ := open_arg (opens_u8 ht) hT hlt
  exact ⟨x, by simpa [rdU8, Value.cells] using hx⟩
theorem open_argBytes {P : Program} {t e : TypeId} {n : Nat} (ht : P.underlying t = some (.array n e)) (he : P.underlying e = some (.int .u8)) (hce : P.cellsOf e = 1) (hct : P.cellsOf t = n) {H : Type} {enc : TypeId × Value → H} {W : World} {r : Reach} {base : Nat} {v : Value} {d : DataW H} {ps : List MemPlace} (hval : Value.okWide P W r base t v) (hT : DataW.Trod enc P W 0 (fun _ => true) true t v d ps) (hlt : ∀ y ∈ ps, y.block < W.heap.size) : ∃ q : List (BitVec 8), q.length = n ∧ v = .agg (bs q) := by
  obtain ⟨cs, rfl⟩ := okWide_arr ht hval
  obtain ⟨q, h1, h2⟩ := open_arg (opens_row ht he hce hct) hT hlt
  exact ⟨q, h2, congrArg Value.agg (by apply Array.toList_inj.1; rw [bs_toList]; simpa [Value.cells] using h1)⟩
/- slices of bytes as these readers have them -/
theorem rdSl_item {w : World} {u : Value} {q : List (BitVec 8)} (h : rdSl 1 rdU8 w [u] q) : Item w u q := by
  obtain ⟨A, c, h1, h2, h3, h4, h5⟩ := h
  injection h1 with h1 _
  refine ⟨A, c, h1, ⟨A, c, rfl, h2, fun hne => ?_⟩, h3, h4⟩
  obtain ⟨b, o, h6, h7, h8⟩ := h5 hne
  refine ⟨b, o, h6, h7, fun j x hx => ?_⟩
  obtain ⟨ds, _, h9, h10⟩ := h8 j x hx
  have := h9 0 (.int .u8 (bd x)) (by rw [h10]; rfl)
  simpa using this
end Go.Proofs.YtobklbfcnbmnmaaDoor

/- Words of 16 bits, kept shut: what the operations of Go on uint16 come to. No condition. -/
set_option maxRecDepth 4000
namespace Go.Proofs.YtobklbfcnbmnmaaDoor
open Go Go.RowKit
def hd (x : BitVec 16) : Int := (x.toNat : Int)
theorem hd_lo (x : BitVec 16) : 0 ≤ hd x := by unfold hd; omega
theorem hd_hi (x : BitVec 16) : hd x < 65536 := by unfold hd; have := x.isLt; omega
theorem hd_inj {x y : BitVec 16} (h : hd x = hd y) : x = y := by unfold hd at h; exact BitVec.eq_of_toNat_eq (by omega)
theorem hd_of (n : Int) (h0 : 0 ≤ n) (h1 : n < 65536) : n = hd (BitVec.ofInt 16 n) := by
  unfold hd; obtain ⟨m, rfl⟩ := Int.eq_ofNat_of_zero_le h0
  rw [ofInt_u16 m (by omega)]
theorem ofInt_hd (x : BitVec 16) : BitVec.ofInt 16 (hd x) = x := by
  apply BitVec.eq_of_toNat_eq; unfold hd; rw [ofInt_u16 _ x.isLt]
theorem wrap_hd (x : BitVec 16) : IntKind.u16.wrap (hd x) = hd x := by
  rw [IntKind.wrap_u16]; have := hd_lo x; have := hd_hi x; omega
theorem xor_hd (x y : BitVec 16) : bits .xor .u16 (hd x) (hd y) = hd (x ^^^ y) := by
  show IntKind.u16.wrap ((BitVec.ofInt 16 (hd x) ^^^ BitVec.ofInt 16 (hd y)).toNat : Int) = _
  rw [ofInt_hd, ofInt_hd]; exact wrap_hd _
theorem and_hd (x y : BitVec 16) : bits .and .u16 (hd x) (hd y) = hd (x &&& y) := by
  show IntKind.u16.wrap ((BitVec.ofInt 16 (hd x) &&& BitVec.ofInt 16 (hd y)).toNat : Int) = _
  rw [ofInt_hd, ofInt_hd]; exact wrap_hd _
theorem xorP_hd (x : BitVec 16) : bits .xor .u16 (hd x) 33800 = hd (x ^^^ 0x8408#16) := xor_hd x 0x8408#16
theorem not_hd (x : BitVec 16) : bits .xor .u16 IntKind.u16.max (hd x) = hd (~~~x) := by
  have e : IntKind.u16.max = hd (BitVec.allOnes 16) := by decide +kernel
  rw [e, xor_hd, BitVec.allOnes_xor]
theorem signed_u16 : (IntKind.u16.signed = true) = False := by simp [IntKind.signed]
def lowI (x : BitVec 16) : Int := if x.getLsbD 0 then 1 else 0
theorem low_hd (x : BitVec 16) : bits .and .u16 (hd x) 1 = lowI x := by
  rw [show (1 : Int) = hd 1#16 from rfl, and_hd]
  have e : x &&& 1#16 = if x.getLsbD 0 then 1#16 else 0#16 := by
    apply BitVec.eq_of_getLsbD_eq; intro i hi
    cases i with
    | zero => rw [BitVec.getLsbD_and]; cases h : x.getLsbD 0 <;> rfl
    | succ i => cases h : x.getLsbD 0 <;> simp
  rw [e]; unfold lowI; cases h : x.getLsbD 0 <;> rfl
theorem lowI_eq (x : BitVec 16) : (x.getLsbD 0 = true ∧ lowI x = 1) ∨ (x.getLsbD 0 = false ∧ lowI x = 0) := by
  unfold lowI; cases h : x.getLsbD 0 <;> simp
theorem shr1_hd (x : BitVec 16) : hd x / (2 : Int) = hd (x >>> 1) := by
  unfold hd; rw [BitVec.toNat_ushiftRight, Nat.shiftRight_eq_div_pow]; norm_cast
theorem convb_hd (x : BitVec 8) : IntKind.u16.wrap (bd x) = hd (x.setWidth 16) := by
  rw [IntKind.wrap_u16]; unfold bd hd; have := x.isLt; rw [BitVec.toNat_setWidth]; omega
theorem lowb_hd (x : BitVec 16) : IntKind.u8.wrap (hd x) = bd (x.setWidth 8) := by
  rw [IntKind.wrap_u8']; unfold bd hd; rw [BitVec.toNat_setWidth]; omega
theorem lowb8_hd (x : BitVec 16) : IntKind.u8.wrap (hd x / (256 : Int)) = bd ((x >>> 8).setWidth 8) := by
  rw [IntKind.wrap_u8']; unfold bd hd; rw [BitVec.toNat_setWidth, BitVec.toNat_ushiftRight, Nat.shiftRight_eq_div_pow]; omega
theorem or_hd (x y : BitVec 16) : bits .or .u16 (hd x) (hd y) = hd (x ||| y) := by
  show IntKind.u16.wrap ((BitVec.ofInt 16 (hd x) ||| BitVec.ofInt 16 (hd y)).toNat : Int) = _
  rw [ofInt_hd, ofInt_hd]; exact wrap_hd _
end Go.Proofs.YtobklbfcnbmnmaaDoor

/- Copying bytes into a part of a row; a slice of bytes that was just built. No function of the program is named here. -/
set_option maxRecDepth 4000
namespace Go.Proofs.YtobklbfcnbmnmaaDoor
open Go Go.RowKit
theorem wp_copy_any {w : World} {o : Oper} {a : Act} {K : Act → World → Prop} {Q : Exit → Act → World → Prop} (d s : Operand)
    (ho : o.op = .call { callee := .builtin .copy, args := #[d, s], argTypes := #[32, 32] })
    (g off n m : Nat) (hd : a.eval d = .slice (some ⟨g, off, none⟩) n m) (v : Value) (hs : a.eval s = v) (q : List (BitVec 8)) (hq : Slice w v q) (t : TypeId) (cur : Array Value) (hg : Row w g t cur) (hfit : off + q.length ≤ cur.size) (hle : q.length ≤ n)
    (h : ∀ w', Row w' g t (spl cur.toList off (bytesV q)).toArray → w.grownBy w' (some g) → K (a.put o.dst (goInt q.length)) w') : o.wp Tryd.prog a w K Q := by
  obtain ⟨A, c, rfl, _, h3⟩ := hq
  by_cases hne : q = []
  · subst hne
    have hrun := run_copy_none (P := Tryd.prog) w 32 32 o.type 5 (some ⟨g, off, none⟩) A n m 0 c Tryd.underlying32 size_u8 (Nat.zero_min _)
    have e : spl cur.toList off (bytesV []) = cur.toList := by
      show cur.toList.take off ++ [] ++ cur.toList.drop (off + 0) = _
      rw [List.append_nil, Nat.add_zero, List.take_append_drop]
    have := h w (by rw [e]; simpa using hg) (owns_refl w _)
    unfold Oper.wp
    simp [execOp, ho, resolve, invoke, builtin, hd, hs, hrun, Result.andThen]
    exact this
  · obtain ⟨b, o', rfl, hbl, hc⟩ := h3 hne
    have hrun := run_copy_row (P := Tryd.prog) w 32 32 o.type 5 g off n m ⟨b, o', none⟩ q.length c cur t (bytesV q) Tryd.underlying32 size_u8 hg (by rw [len_bytesV]; exact (Nat.min_eq_left hle).symm) (by
      intro j u hu
      rw [Addr.add_mid]
      simp only [bytesV, List.getElem?_map, Option.map_eq_some_iff] at hu
      obtain ⟨y, hy, rfl⟩ := hu
      exact hc j y hy) (by rw [len_bytesV]; exact hfit) (one_bytesV q)
    have := h _ (hg.setRow _) (grown_setRow w g (spl cur.toList off (bytesV q)).toArray)
    rw [← len_bytesV q] at this
    unfold Oper.wp
    simp [execOp, ho, resolve, invoke, builtin, hd, hs, hrun, Result.andThen]
    unfold spl at this
    rw [List.append_assoc] at this
    exact this
theorem wpList_copy_any {w : World} {ops : Array Oper} {rest : List Oper} {o : Oper} {a : Act} {Q : Exit → Act → World → Prop} (hgd : o.guard = none) (d s : Operand)
    (ho : o.op = .call { callee := .builtin .copy, args := #[d, s], argTypes := #[32, 32] })
    (g off n m : Nat) (hd : a.eval d = .slice (some ⟨g, off, none⟩) n m) (v : Value) (hs : a.eval s = v) (q : List (BitVec 8)) (hq : Slice w v q) (t : TypeId) (cur : Array Value) (hg : Row w g t cur) (hfit : off + q.length ≤ cur.size) (hle : q.length ≤ n)
    (h : ∀ w', Row w' g t (spl cur.toList off (bytesV q)).toArray → w.grownBy w' (some g) → wpList Tryd.prog ops Q rest (a.put o.dst (goInt q.length)) w') : wpList Tryd.prog ops Q (o :: rest) a w :=
  wpList_plain hgd fun _ hK => wp_copy_any d s ho g off n m hd v hs q hq t cur hg hfit hle fun w' h1 h2 => hK _ _ (h w' h1 h2)
/- bytes behind bytes -/
theorem spl_bs (p q : List (BitVec 8)) (off : Nat) : (spl (bs p).toList off (bytesV q)).toArray = bs (spl p off q) := by
  simp [spl, bs, bytesV]
theorem own_built (w : World) (q : List (BitVec 8)) (hq : q.length ≤ maxLen) : (w.alloc (.cells (bs q) 5)).ownsRow w.heap.size 5 1 (.slice (some ⟨w.heap.size, 0, none⟩) q.length q.length) q.length (bytesV q) :=
  ⟨by simp [bytesV], .inr ⟨w.heap.size, q.length, bs q, rfl, Nat.le_refl _, heap_alloc_new w _, Nat.le_refl _, hq, by rw [size_bs, Nat.mul_one], by rw [Nat.mul_one, bs_toList]; exact List.take_of_length_le (by rw [len_bytesV]; exact Nat.le_refl _)⟩⟩
/- a piece of a row of bytes -/
theorem row_piece {w : World} {g c off n : Nat} {t : TypeId} {p : List (BitVec 8)} (h : Row w g t (bs p)) (hn : off + n ≤ p.length) (hc : n ≤ c) : Slice w (.slice (some ⟨g, off, none⟩) n c) ((p.drop off).take n) := by
  have hl : ((p.drop off).take n).length = n := by rw [List.length_take, List.length_drop]; omega
  refine ⟨some ⟨g, off, none⟩, c, by rw [hl], by rw [hl]; exact hc, fun _ => ⟨g, off, rfl, h.lt, fun j x hx => ?_⟩⟩
  have hj : j < n := by have := (List.getElem?_eq_some_iff.1 hx).1; omega
  rw [List.getElem?_take_of_lt hj, List.getElem?_drop] at hx
  exact h.get (by simp [bs, hx])
end Go.Proofs.YtobklbfcnbmnmaaDoor

/- Texts: a byte of one, a part of one, two joined, compared, turned into bytes, copied. No function of the program is named here. -/
set_option maxRecDepth 4000
namespace Go.Proofs.YtobklbfcnbmnmaaDoor
open Go Go.RowKit
def strB (q : List (BitVec 8)) : ByteArray := strOfNums (q.map bd)
theorem strB_size (q : List (BitVec 8)) : (strB q).size = q.length := by unfold strB; rw [strOfNums_size, List.length_map]
theorem ofNat_bd (x : BitVec 8) : UInt8.ofNat (bd x).toNat = UInt8.ofBitVec x := by
  apply UInt8.toBitVec_inj.1
  apply BitVec.eq_of_toNat_eq
  simp [bd]
theorem strB_data (q : List (BitVec 8)) : (strB q).data = (q.map UInt8.ofBitVec).toArray := by
  apply Array.ext'
  rw [strB, strOfNums_data, List.map_map]
  have e : ((fun n : Int => UInt8.ofNat n.toNat) ∘ bd) = UInt8.ofBitVec := funext ofNat_bd
  rw [e]
theorem strB_eq (q : List (BitVec 8)) : strB q = ⟨(q.map UInt8.ofBitVec).toArray⟩ := by
  apply ByteArray.ext; rw [strB_data]
theorem ofb_inj : Function.Injective UInt8.ofBitVec := fun a b h => by simpa using congrArg UInt8.toBitVec h
theorem strB_inj {p q : List (BitVec 8)} (h : strB p = strB q) : p = q := by
  have h1 := congrArg (fun s : ByteArray => s.data.toList) h
  simp only [strB_data] at h1
  have h2 := congrArg (List.map UInt8.toBitVec) h1
  simpa [List.map_map, Function.comp_def] using h2
/- every text is some bytes' -/
theorem strB_all (s : ByteArray) : ∃ q, s = strB q := by
  refine ⟨s.data.toList.map UInt8.toBitVec, ?_⟩
  apply ByteArray.ext
  rw [strB_data, List.map_map]
  have e : UInt8.ofBitVec ∘ UInt8.toBitVec = id := by funext x; rfl
  rw [e, List.map_id]
theorem str_beq (p q : List (BitVec 8)) : ((strB p).toList == (strB q).toList) = decide (p = q) := by
  rw [ByteArray.toList_eq, ByteArray.toList_eq]
  by_cases h : p = q
  · subst h; rw [decide_eq_true rfl]; exact beq_self_eq_true _
  · rw [decide_eq_false h]
    refine beq_eq_false_iff_ne.2 fun e => h (strB_inj ?_)
    apply ByteArray.ext
    exact Array.toList_inj.1 e
theorem str_lit0 : (⟨#[]⟩ : ByteArray) = strB [] := by rw [strB_eq]; rfl
theorem str_beq0 (p : List (BitVec 8)) : ((strB p).toList == (⟨#[]⟩ : ByteArray).toList) = decide (p = []) := by rw [str_lit0]; exact str_beq p []
theorem str_emp (p : List (BitVec 8)) : (strB p).toList.isEmpty = decide (p = []) := by
  rw [ByteArray.toList_eq, strB_data]; cases p <;> simp
theorem str_nil (p : List (BitVec 8)) : ((strB p).toList = []) ↔ p = [] := by
  rw [← List.isEmpty_iff, str_emp, decide_eq_true_iff]
theorem str_get (q : List (BitVec 8)) (j : Nat) (h : j < (strB q).size) : (((strB q)[j]'h).toNat : Int) = bd (q.getD j 0#8) := by
  have hj : j < q.length := by rw [strB_size] at h; exact h
  have e : (strB q)[j]'h = UInt8.ofBitVec q[j] := by
    show (strB q).data[j] = _
    simp [strB_data]
  rw [e, List.getD_eq_getElem?_getD, List.getElem?_eq_getElem hj]
  rfl
theorem run_ix (w : World) (t : TypeId) (q : List (BitVec 8)) (k : IntKind) (j : Nat) (h : Tryd.prog.underlying t = some .string) (hj : j < q.length) :
    (Instr.index t (.string (strB q)) (.int k (j : Int))).run Tryd.prog w = .ok (.int .u8 (bd (q.getD j 0#8))) w := by
  rw [run_index_string w t (strB q) k j h, dif_pos ⟨by omega, by rw [strB_size]; omega⟩]
  congr 2
  exact str_get q j (by rw [strB_size]; exact hj)
theorem str_extract (q : List (BitVec 8)) (a b : Nat) : (strB q).extract a b = strB ((q.drop a).take (b - a)) := by
  rw [strB_eq, strB_eq, ByteArray.extract_mk, List.map_take, List.map_drop]
theorem str_append (p q : List (BitVec 8)) : strB p ++ strB q = strB (p ++ q) := by
  rw [strB_eq, strB_eq, strB_eq, ByteArray.mk_append_mk, List.map_append]
theorem run_add (w : World) (p q : List (BitVec 8)) (h : p.length + q.length ≤ 9223372036854775807) : (Op.stringOp .add (strB p) (strB q)).run Tryd.prog w = .ok (.string (strB (p ++ q))) w := by
  rw [run_string_add_sum w _ _ (by rw [strB_size, strB_size]; exact h), str_append]
/- string(b) -/
theorem conv_bytes {w : World} {v : Value} {q : List (BitVec 8)} (h : Slice w v q) (dst : TypeId) (hd : Tryd.prog.underlying dst = some .string) : (convert 32 dst v).run Tryd.prog w = .ok (.string (strB q)) w := by
  obtain ⟨A, c, rfl, _, h3⟩ := h
  by_cases hq : q = []
  · subst hq
    have := run_convert_bytes_zero (P := Tryd.prog) w 32 5 Tryd.underlying32 Tryd.underlying5 A c dst hd
    exact this
  · obtain ⟨b, o, rfl, _, h6⟩ := h3 hq
    refine run_convert_bytes_arg (P := Tryd.prog) w 32 5 Tryd.underlying32 Tryd.underlying5 b o q.length c (q.map bd) (by simp) (fun i hi => ?_) dst hd
    rw [h6 i q[i] (List.getElem?_eq_getElem hi)]
    simp [List.getD_eq_getElem?_getD, hi]
/- []byte(s): a new block -/
theorem conv_str (w : World) (q : List (BitVec 8)) (src : TypeId) (hs : Tryd.prog.underlying src = some .string) :
    ∃ cap W, (convert src 32 (.string (strB q))).run Tryd.prog w = .ok (.slice (some ⟨w.heap.size, 0, none⟩) q.length cap) W ∧ Below w.heap.size w W ∧ w.heap.size < W.heap.size ∧ ∀ (j : Nat), j < q.length → W.cell? ⟨w.heap.size, j, none⟩ = some (.int .u8 (bd (q.getD j 0#8))) := by
  have h := run_bytes_of_string (P := Tryd.prog) w src 32 5 (strB q) hs Tryd.underlying32 Tryd.underlying5
  rw [strB_size] at h
  refine ⟨_, _, h, (Below.refl w.heap.size w).drew.alloc (Nat.le_refl _) _, by simp, fun j hj => ?_⟩
  have hs : j < (strB q).data.size := by rw [strB_data]; simpa using hj
  have e : w.drew.heap.size = w.heap.size := rfl
  rw [← e, World.cell?_alloc_mark, bytesRow_at _ _ _ hs]
  have := str_get q j (by rw [strB_size]; exact hj)
  rw [← this]
  rfl
/- copy(b[:], s) -/
theorem str_cells (q : List (BitVec 8)) (n : Nat) : (((strB q).extract 0 n).data.map fun b => Value.int .u8 b.toNat) = bs (q.take n) := by
  rw [str_extract, strB_data, List.drop_zero, Nat.sub_zero]
  apply Array.ext'
  simp only [bs, List.map_toArray, List.map_map]
  rfl
theorem run_copy_str (w : World) (dT sT ty : TypeId) (g o dLen dCap : Nat) (q : List (BitVec 8)) (cur : Array Value) (t : TypeId)
    (hu : Tryd.prog.underlying dT = some (.slice 5)) (hg : w.heap[g]? = some (.cells cur t (0, 0))) (hfit : o + min q.length dLen ≤ cur.size) :
    (Builtin.copy_ #[dT, sT] ty #[.slice (some ⟨g, o, none⟩) dLen dCap, .string (strB q)]).run Tryd.prog w =
      .ok (goInt ((min q.length dLen : Nat) : Int)) (w.setRow g (spl cur.toList o (bytesV (q.take dLen))).toArray) := by
  have hl : (bytesV (q.take dLen)).length = min q.length dLen := by rw [len_bytesV, List.length_take, Nat.min_comm]
  have hst := run_storeCells_at Tryd.prog g o t (bytesV (q.take dLen)) 0 cur w hg (by rw [hl]; simpa using hfit) (one_bytesV _)
  have hm : (strB q).data.toList.map (fun b => Value.int .u8 (b.toNat : Int)) = bytesV q := by
    rw [strB_data]
    simp only [bytesV, List.map_map]
    rfl
  have ht : (bytesV q).take (q.length.min dLen) = bytesV (q.take dLen) := by
    show (bytesV q).take (min q.length dLen) = _
    unfold bytesV
    rw [← List.map_take]
    rcases Nat.le_total q.length dLen with h | h
    · rw [Nat.min_eq_left h, List.take_of_length_le (Nat.le_refl _), List.take_of_length_le h]
    · rw [Nat.min_eq_right h]
  obtain ⟨i, hq, hi⟩ : ∃ i, Tryd.prog.info? 5 = some i ∧ i.size = 1 := by
    have := size_u8
    cases h : Tryd.prog.info? 5 with
    | none => rw [h] at this; cases this
    | some i => exact ⟨i, rfl, by rw [h] at this; simpa using this⟩
  simp only [Nat.add_zero] at hst
  simp [Builtin.copy_, run_underlying hu, Builtin.lenOf, Builtin.firstCells, sizeOf, typeInfo, hq, strB_size, hm, ht, hst]
  unfold spl
  rw [List.append_assoc]
theorem wp_copy_str {w : World} {o : Oper} {a : Act} {K : Act → World → Prop} {Q : Exit → Act → World → Prop} (d s : Operand) (sT : TypeId)
    (ho : o.op = .call { callee := .builtin .copy, args := #[d, s], argTypes := #[32, sT] })
    (g off n m : Nat) (hd : a.eval d = .slice (some ⟨g, off, none⟩) n m) (q : List (BitVec 8)) (hs : a.eval s = .string (strB q)) (t : TypeId) (cur : Array Value) (hg : Row w g t cur) (hfit : off + min q.length n ≤ cur.size)
    (h : ∀ w', Row w' g t (spl cur.toList off (bytesV (q.take n))).toArray → w.grownBy w' (some g) → K (a.put o.dst (goInt ((min q.length n : Nat) : Int))) w') : o.wp Tryd.prog a w K Q := by
  have hrun := run_copy_str w 32 sT o.type g off n m q cur t Tryd.underlying32 hg hfit
  have := h _ (hg.setRow _) (grown_setRow w g (spl cur.toList off (bytesV (q.take n))).toArray)
  unfold Oper.wp
  simp [execOp, ho, resolve, invoke, builtin, hd, hs, hrun, Result.andThen]
  exact this
theorem wpList_copy_str {w : World} {ops : Array Oper} {rest : List Oper} {o : Oper} {a : Act} {Q : Exit → Act → World → Prop} (hgd : o.guard = none) (d s : Operand) (sT : TypeId)
    (ho : o.op = .call { callee := .builtin .copy, args := #[d, s], argTypes := #[32, sT] })
    (g off n m : Nat) (hd : a.eval d = .slice (some ⟨g, off, none⟩) n m) (q : List (BitVec 8)) (hs : a.eval s = .string (strB q)) (t : TypeId) (cur : Array Value) (hg : Row w g t cur) (hfit : off + min q.length n ≤ cur.size)
    (h : ∀ w', Row w' g t (spl cur.toList off (bytesV (q.take n))).toArray → w.grownBy w' (some g) → wpList Tryd.prog ops Q rest (a.put o.dst (goInt ((min q.length n : Nat) : Int))) w') : wpList Tryd.prog ops Q (o :: rest) a w :=
  wpList_plain hgd fun _ hK => wp_copy_str d s sT ho g off n m hd q hs t cur hg hfit fun w' h1 h2 => hK _ _ (h w' h1 h2)
/- a slice of texts -/
def Strs (w : World) (v : Value) (l : List (List (BitVec 8))) : Prop :=
  ∃ A c, v = .slice A l.length c ∧ l.length ≤ c ∧ (A = none → c = 0) ∧ (∀ q ∈ l, q.length ≤ maxLen) ∧ (l ≠ [] → ∃ b o, A = some ⟨b, o, none⟩ ∧ b < w.heap.size ∧ ∀ k q, l[k]? = some q → w.cell? ⟨b, o + k, none⟩ = some (.string (strB q)))
theorem Strs.below {w w' : World} {B : Nat} {v : Value} {l : List (List (BitVec 8))} (h : Strs w v l) (hb : Below B w w') (hB : w.heap.size ≤ B) : Strs w' v l := by
  obtain ⟨A, c, h1, h2, hn, hm, h3⟩ := h
  refine ⟨A, c, h1, h2, hn, hm, fun hne => ?_⟩
  obtain ⟨b, o, h4, h5, h6⟩ := h3 hne
  exact ⟨b, o, h4, Nat.lt_of_lt_of_le h5 hb.size, fun k q hx => (hb.cell (p := ⟨b, o + k, none⟩) (Nat.lt_of_lt_of_le h5 hB)).trans (h6 k q hx)⟩
theorem strs_at {w : World} {A : Option Addr} {n c : Nat} {l : List (List (BitVec 8))} (h : Strs w (.slice A n c) l) {k : Nat} {q : List (BitVec 8)} (hx : l[k]? = some q) :
    ∃ b o, A = some ⟨b, o, none⟩ ∧ b < w.heap.size ∧ w.cell? ⟨b, o + k, none⟩ = some (.string (strB q)) := by
  obtain ⟨A', c', e1, _, _, _, h4⟩ := h
  injection e1 with e1 _ _
  subst e1
  obtain ⟨b, o, e2, h5, h6⟩ := h4 (by intro e; rw [e] at hx; simp at hx)
  exact ⟨b, o, e2, h5, h6 k _ hx⟩
theorem strs1 (w : World) (q : List (BitVec 8)) (hm : q.length ≤ maxLen) (t : TypeId) : Strs (w.alloc (.cells #[.string (strB q)] t)) (.slice (some ⟨w.heap.size, 0, none⟩) 1 1) [q] := by
  have r := Row.fresh w t #[.string (strB q)]
  refine ⟨_, 1, rfl, by simp, (fun h => by cases h), by simpa using hm, fun _ => ⟨w.heap.size, 0, rfl, r.lt, fun k p hp => ?_⟩⟩
  match k, hp with
  | 0, hp => obtain rfl : q = p := by simpa using hp
             exact r.get rfl
theorem strs2 (w : World) (p q : List (BitVec 8)) (hp : p.length ≤ maxLen) (hq : q.length ≤ maxLen) (t : TypeId) : Strs (w.alloc (.cells #[.string (strB p), .string (strB q)] t)) (.slice (some ⟨w.heap.size, 0, none⟩) 2 2) [p, q] := by
  have r := Row.fresh w t #[.string (strB p), .string (strB q)]
  refine ⟨_, 2, rfl, by simp, (fun h => by cases h), by simp [hp, hq], fun _ => ⟨w.heap.size, 0, rfl, r.lt, fun k s hs => ?_⟩⟩
  match k, hs with
  | 0, hs => obtain rfl : p = s := by simpa using hs
             exact r.get rfl
  | 1, hs => obtain rfl : q = s := by simpa using hs
             exact r.get rfl
def strsV (l : List (List (BitVec 8))) : List Value := l.map fun q => Value.string (strB q)
theorem len_strsV (l : List (List (BitVec 8))) : (strsV l).length = l.length := by simp [strsV]
theorem info_str : (Tryd.prog.info? 9).map (fun i => (i.zero, i.size, i.bytes)) = some (some (.string ⟨#[]⟩), 1, 16) := by kernel_rfl
theorem own_strs {w : World} {base : Nat} {v : Value} {l : List (List (BitVec 8))} (h : w.ownsRow base 9 1 v l.length (strsV l)) (hm : ∀ q ∈ l, q.length ≤ maxLen) : Strs w v l := by
  rcases h.2 with ⟨rfl, h0⟩ | ⟨g, cap, cur, rfl, hg, hh, hc, _⟩
  · obtain rfl : l = [] := List.length_eq_zero_iff.1 h0
    exact ⟨none, 0, rfl, by simp, fun _ => rfl, hm, fun h => absurd rfl h⟩
  · refine ⟨_, cap, rfl, hc, (fun h => by cases h), hm, fun _ => ⟨g, 0, rfl, (h.lt g rfl).2, fun k q hk => ?_⟩⟩
    have hj : k < l.length := (List.getElem?_eq_some_iff.1 hk).1
    have := h.cellAt k (by omega)
    rw [Nat.zero_add, this]
    simp [strsV, hk]
theorem wpList_append_strs {w : World} {ops : Array Oper} {rest : List Oper} {o : Oper} {a : Act} {Q : Exit → Act → World → Prop} (hgd : o.guard = none) (s x : Operand)
    (ho : o.op = .call { callee := .builtin .append, args := #[s, x], argTypes := #[58, 58] }) (base : Nat)
    (v : Value) (p : List (List (BitVec 8))) (hs : a.eval s = v) (hown : w.ownsRow base 9 1 v p.length (strsV p))
    (u : Value) (l : List (List (BitVec 8))) (hx : a.eval x = u) (hl : Strs w u l) (hn : p.length + l.length ≤ 1000000) (hbase : base ≤ w.heap.size)
    (h : ∀ v' w', w'.ownsRow base 9 1 v' (p ++ l).length (strsV (p ++ l)) → Below base w w' → wpList Tryd.prog ops Q rest (a.put o.dst v') w') : wpList Tryd.prog ops Q (o :: rest) a w := by
  obtain ⟨i0, hi, hz0, hz1, hz2⟩ := info_parts info_str
  have hblk : ∀ g, v.ownBlock = some g → base ≤ g := fun g hg => (hown.lt g hg).1
  obtain ⟨A, c, rfl, hc, hA, _, h3⟩ := hl
  cases A with
  | none =>
    have hl0 : l = [] := by
      apply Decidable.byContradiction
      intro hne
      obtain ⟨_, _, h4, _⟩ := h3 hne
      cases h4
    subst hl0
    obtain rfl := hA rfl
    refine wpList_append_own_none hgd s x 58 ho base 9 i0 1 Tryd.underlying58 hi v p.length (strsV p) hs hown hx ?_
    exact h v w (by rw [List.append_nil]; exact hown) (Below.refl _ _)
  | some ad =>
    refine wpList_append_own w hgd s x 58 ho base 9 i0 (.string ⟨#[]⟩) 1 16 Tryd.underlying58 hi hz0 hz1 hz2 rfl (by omega) v p.length (strsV p) hs hown ad l.length c (strsV l) hx (by rw [len_strsV, Nat.mul_one]) ?_ (by intro u hu; simp only [strsV, List.mem_map] at hu; obtain ⟨q, _, rfl⟩ := hu; rfl) (by unfold maxLen; omega) (by omega) hbase ?_
    · intro j u hu
      have hne : l ≠ [] := by rintro rfl; simp [strsV] at hu
      obtain ⟨b, o, h4, _, h6⟩ := h3 hne
      have h4 := Option.some.inj h4
      subst h4
      rw [Addr.add_mid]
      simp only [strsV, List.getElem?_map, Option.map_eq_some_iff] at hu
      obtain ⟨y, hy, rfl⟩ := hu
      exact h6 j y hy
    · intro v' w' h1 h2 _
      exact h v' w' (by rw [List.length_append]; unfold strsV at h1 ⊢; rw [List.map_append]; exact h1) (below_of_grown h2 hblk hbase)
theorem own_strs0 (w : World) : (w.alloc (.cells #[] 9)).ownsRow w.heap.size 9 1 (.slice (some ⟨w.heap.size, 0, none⟩) 0 0) ([] : List (List (BitVec 8))).length (strsV []) :=
  ⟨rfl, .inr ⟨w.heap.size, 0, #[], rfl, Nat.le_refl _, heap_alloc_new w _, Nat.le_refl _, by unfold maxLen; simp, rfl, rfl⟩⟩
end Go.Proofs.YtobklbfcnbmnmaaDoor

/- A region that draws its order, walked once: what each operation yields holds by what those that it waits for yielded, whichever comes up. The conditions: the theorems' own. -/
set_option maxRecDepth 4000
namespace Go.Proofs.YtobklbfcnbmnmaaDoor
open Go Go.RowKit
/- what an operation yields -/
def Does (P : Program) (o : Oper) (a : Act) (w : World) (R : Value → World → Prop) : Prop :=
  ∀ (K : Act → World → Prop) (Q : Exit → Act → World → Prop), (∀ v w', R v w' → K (a.put o.dst v) w') → o.wp P a w K Q
def dstAt (ops : Array Oper) (i : Nat) : Option Tmp := (ops[i]?).bind (·.dst)
def waitsFor (o : Oper) (j : Nat) : Bool := o.after.any fun e => Region.binds .any e && e.on == j
def anc (ops : Array Oper) : List Nat → Array Bool → Array Bool
  | [], m => m
  | k :: ks, m => anc ops ks (if m.getD k false then ((ops[k]?).map fun o => o.after.foldl (fun m e => if Region.binds .any e then m.setIfInBounds e.on true else m) m).getD m else m)
def chk (ops : Array Oper) (n size : Nat) : Bool :=
  decide (n ≤ ops.size) &&
  (List.range ops.size).all (fun i => ((ops[i]?).map fun o => o.after.all fun e => !Region.binds .any e || decide (e.on < i)).getD false) &&
  (List.range n).all (fun i => match dstAt ops i with | some d => decide (d < size) && (List.range i).all (fun j => dstAt ops j != some d) | none => true) &&
  (List.range n).all (fun i => ((ops[i]?).map fun o => (match o.guard with | some (j, _) => decide (j < n) && waitsFor o j && (dstAt ops j).isSome | none => true)).getD false) &&
  (List.range ops.size).all (fun j => decide (j < n) || (List.range n).all fun i => (anc ops (List.range (j + 1)).reverse ((Array.replicate ops.size false).setIfInBounds j true)).getD i false)
def noDst (ops : Array Oper) (n k : Nat) : Bool := (List.range n).all fun i => dstAt ops i != some k
def puts (ops : Array Oper) (x : Nat → Value) : Nat → Act → Act
  | 0, a => a
  | n + 1, a => (puts ops x n a).put (dstAt ops n) (x n)
def listedTo (n size : Nat) : Array Bool := Array.replicate n true ++ Array.replicate (size - n) false
section
variable {P : Program} {Q : Exit → Act → World → Prop} {ops : Array Oper} {n : Nat} {R : World → World → Prop} {V : Nat → Value → World → Prop} {G : Nat → Bool} {a0 : Act} {w1 : World}
def Known (ops : Array Oper) (n : Nat) (V : Nat → Value → World → Prop) (a : Act) (x : Nat → Value) (w : World) (o : Oper) : Prop :=
  ∀ j, waitsFor o j = true → j < n → V j (x j) w ∧ ∀ d, dstAt ops j = some d → a.tmps[d]? = some (x j)
def StepAt (P : Program) (ops : Array Oper) (n : Nat) (R : World → World → Prop) (V : Nat → Value → World → Prop) (G : Nat → Bool) (a0 : Act) (w1 : World) (i : Nat) (o : Oper) : Prop :=
  ∀ (a : Act) (x : Nat → Value) (w : World), R w1 w → (∀ t, noDst ops n t = true → a.tmps[t]? = a0.tmps[t]?) → Known ops n V a x w o →
    if G i then Does P o a w (fun v w' => R w w' ∧ V i v w') else V i undef w
def GuardAt (R : World → World → Prop) (V : Nat → Value → World → Prop) (G : Nat → Bool) (w1 : World) (i : Nat) (o : Oper) : Prop :=
  match o.guard with
  | none => G i = true
  | some (j, want) => ∀ v w, R w1 w → V j v w → v = .bool (want == G i)
def All (p : Nat → Oper → Prop) (n : Nat) : List Oper → Nat → Prop
  | [], _ => True
  | o :: l, i => (i < n → p i o) ∧ All p n l (i + 1)
theorem all_cons {p : Nat → Oper → Prop} {o : Oper} {l : List Oper} {i : Nat} (h : p i o) (t : All p n l (i + 1)) : All p n (o :: l) i := ⟨fun _ => h, t⟩
theorem all_end {p : Nat → Oper → Prop} : ∀ {l : List Oper} {i : Nat}, n ≤ i → All p n l i
  | [], _, _ => trivial
  | _ :: _, i, h => ⟨fun h' => absurd h' (by omega), all_end (l := _) (i := i + 1) (by omega)⟩
theorem all_get {p : Nat → Oper → Prop} : ∀ {l : List Oper} {i : Nat}, All p n l i → ∀ j o, l[j]? = some o → i + j < n → p (i + j) o
  | [], _, _, j, o, ho, _ => by simp at ho
  | o' :: l, i, h, 0, o, ho, hj => by obtain rfl : o' = o := by simpa using ho
                                      exact h.1 hj
  | o' :: l, i, h, j + 1, o, ho, hj => by
    have := all_get h.2 j o (by simpa using ho) (by omega)
    rwa [show i + 1 + j = i + (j + 1) by omega] at this
structure Inv (ops : Array Oper) (n : Nat) (R : World → World → Prop) (V : Nat → Value → World → Prop) (a0 : Act) (w1 : World) (listed : Array Bool) (a : Act) (x : Nat → Value) (w : World) : Prop where
  size : listed.size = ops.size
  closed : ∀ k o, ops[k]? = some o → listed.getD k false = true → ∀ e ∈ o.after, Region.binds .any e = true → listed.getD e.on false = true
  tail : ∀ k, n ≤ k → listed.getD k false = false
  rel : R w1 w
  defers : a.defers = a0.defers
  tsize : a.tmps.size = a0.tmps.size
  at_ : ∀ i, i < n → listed.getD i false = true → V i (x i) w ∧ ∀ d, dstAt ops i = some d → a.tmps[d]? = some (x i)
  out : ∀ k, (∀ i, i < n → listed.getD i false = true → dstAt ops i ≠ some k) → a.tmps[k]? = a0.tmps[k]?
theorem getD_set (l : Array Bool) (i k : Nat) (hi : i < l.size) : (l.setIfInBounds i true).getD k false = (if i = k then true else l.getD k false) := by
  by_cases h : i = k
  · subst h; simp [Array.getD, hi]
  · rw [if_neg h]
    simp only [Array.getD_eq_getD_getElem?]
    rw [Array.getElem?_setIfInBounds_ne h]
theorem anc_foldl {L : Nat → Prop} (es : List Edge) (m : Array Bool) (h : ∀ e ∈ es, Region.binds .any e = true → L e.on) (hm : ∀ k, m.getD k false = true → L k) :
    ∀ k, (es.foldl (fun m e => if Region.binds .any e then m.setIfInBounds e.on true else m) m).getD k false = true → L k := by
  induction es generalizing m with
  | nil => exact hm
  | cons e es ih =>
    rw [List.foldl_cons]
    refine ih _ (fun e' he' => h e' (by simp [he'])) fun k hk => ?_
    by_cases hb : Region.binds .any e = true
    · rw [if_pos hb] at hk
      by_cases hi : e.on < m.size
      · rw [getD_set _ _ _ hi] at hk
        by_cases hek : e.on = k
        · subst hek; exact h e (by simp) hb
        · rw [if_neg hek] at hk; exact hm k hk
      · rw [Array.setIfInBounds_eq_of_size_le (by omega)] at hk; exact hm k hk
    · rw [if_neg hb] at hk; exact hm k hk
theorem anc_sound {L : Nat → Prop} (hc : ∀ k o, ops[k]? = some o → L k → ∀ e ∈ o.after, Region.binds .any e = true → L e.on) : ∀ (ks : List Nat) (m : Array Bool), (∀ k, m.getD k false = true → L k) → ∀ k, (anc ops ks m).getD k false = true → L k
  | [], m, hm => hm
  | k :: ks, m, hm => by
    refine anc_sound hc ks _ fun i hi => ?_
    by_cases hk : m.getD k false = true
    · rw [if_pos hk] at hi
      cases ho : ops[k]? with
      | none => rw [ho] at hi; exact hm i hi
      | some o =>
        rw [ho] at hi
        simp only [Option.map_some, Option.getD_some] at hi
        rw [← Array.foldl_toList] at hi
        exact anc_foldl o.after.toList m (fun e he hb => hc k o ho (hm k hk) e (by simpa using he) hb) hm i hi
    · rw [if_neg hk] at hi; exact hm i hi
theorem puts_get (x : Nat → Value) (a : Act) : ∀ m, (∀ i, i < m → ∀ j, j < i → ∀ d, dstAt ops i = some d → dstAt ops j ≠ some d) → (∀ i, i < m → ∀ d, dstAt ops i = some d → d < a.tmps.size) →
    (puts ops x m a).defers = a.defers ∧ (puts ops x m a).tmps.size = a.tmps.size ∧ (∀ i, i < m → ∀ d, dstAt ops i = some d → (puts ops x m a).tmps[d]? = some (x i)) ∧ ∀ k, (∀ i, i < m → dstAt ops i ≠ some k) → (puts ops x m a).tmps[k]? = a.tmps[k]?
  | 0, _, _ => ⟨rfl, rfl, fun i hi => by omega, fun k _ => rfl⟩
  | m + 1, hd, hb => by
    obtain ⟨h1, h2, h3, h4⟩ := puts_get x a m (fun i hi => hd i (by omega)) (fun i hi => hb i (by omega))
    unfold puts
    cases hm : dstAt ops m with
    | none =>
      refine ⟨h1, h2, fun i hi d hid => ?_, fun k hk => h4 k fun i hi => hk i (by omega)⟩
      by_cases him : i = m
      · subst him; rw [hm] at hid; cases hid
      · exact h3 i (by omega) d hid
    | some dm =>
      have hlt : dm < (puts ops x m a).tmps.size := by rw [h2]; exact hb m (by omega) dm hm
      refine ⟨h1, by simp [Act.put, h2], fun i hi d hid => ?_, fun k hk => ?_⟩
      · by_cases him : i = m
        · subst him; rw [hm] at hid; injection hid with hid; subst hid
          simp [Act.put, hlt]
        · have hne : dm ≠ d := fun e => hd m (by omega) i (by omega) dm hm (e ▸ hid)
          simp only [Act.put]
          rw [Array.getElem?_setIfInBounds_ne hne]
          exact h3 i (by omega) d hid
      · have hne : dm ≠ k := fun e => hk m (by omega) (e ▸ hm)
        simp only [Act.put]
        rw [Array.getElem?_setIfInBounds_ne hne]
        exact h4 k fun i hi => hk i (by omega)
def count (listed : Array Bool) (n : Nat) : Nat := ((List.range n).filter fun i => !listed.getD i false).length
theorem count_set (listed : Array Bool) (i : Nat) (hi : i < listed.size) (h : listed.getD i false = false) : ∀ n, i < n → count listed n = count (listed.setIfInBounds i true) n + 1
  | 0, h' => by omega
  | n + 1, h' => by
    unfold count
    rw [List.range_succ, List.filter_append, List.filter_append, List.length_append, List.length_append]
    by_cases hin : i = n
    · subst hin
      have e : (List.range i).filter (fun k => !listed.getD k false) = (List.range i).filter fun k => !(listed.setIfInBounds i true).getD k false := by
        refine List.filter_congr fun k hk => ?_
        rw [getD_set _ _ _ hi, if_neg (by have := List.mem_range.1 hk; omega)]
      rw [e]
      have e1 : (listed.setIfInBounds i true).getD i false = true := by rw [getD_set _ _ _ hi, if_pos rfl]
      simp only [List.filter_cons, List.filter_nil, h, e1]
      simp
    · have ih := count_set listed i hi h n (by omega)
      unfold count at ih
      have e : (listed.setIfInBounds i true).getD n false = listed.getD n false := by rw [getD_set _ _ _ hi, if_neg hin]
      simp only [List.filter_cons, List.filter_nil, e]
      omega
theorem count_zero (listed : Array Bool) (n : Nat) (h : count listed n = 0) (i : Nat) (hi : i < n) : listed.getD i false = true := by
  unfold count at h
  have := List.filter_eq_nil_iff.1 (List.length_eq_zero_iff.1 h) i (List.mem_range.2 hi)
  simpa using this
theorem count_pos (listed : Array Bool) (n m : Nat) (h : count listed n = m + 1) : ∃ i, i < n ∧ listed.getD i false = false ∧ ∀ j, j < i → listed.getD j false = true := by
  have hne : ∃ i, i < n ∧ listed.getD i false = false := by
    apply Decidable.byContradiction
    intro hno
    have : (List.range n).filter (fun i => !listed.getD i false) = [] := by
      refine List.filter_eq_nil_iff.2 fun i hi => ?_
      have hi' := List.mem_range.1 hi
      cases hv : listed.getD i false with
      | true => simp
      | false => exact absurd ⟨i, hi', hv⟩ hno
    unfold count at h
    rw [this] at h
    simp at h
  obtain ⟨i, hi, hv⟩ := hne
  induction i using Nat.strongRecOn with
  | _ i ih =>
    by_cases hall : ∀ j, j < i → listed.getD j false = true
    · exact ⟨i, hi, hv, hall⟩
    · have : ∃ j, j < i ∧ listed.getD j false = false := by
        apply Decidable.byContradiction
        intro hno
        refine hall fun j hj => ?_
        cases hv : listed.getD j false with
        | true => rfl
        | false => exact absurd ⟨j, hj, hv⟩ hno
      obtain ⟨j, hj, hjv⟩ := this
      exact ih j hj (by omega) hjv
theorem eval_of_get {a : Act} {d : Nat} {v : Value} (h : a.tmps[d]? = some v) : a.eval (.tmp d) = v := by simp [Act.eval, Array.getD_eq_getD_getElem?, h]
theorem wp_region_inv {id : Nat} {l : List Oper} {w0 : World} (n : Nat) (V : Nat → Value → World → Prop) (G : Nat → Bool) (R : World → World → Prop) (hm : P.follows .mixedOrders = true) (hchk : chk l.toArray n a0.tmps.size = true)
    (hrefl : ∀ w, R w w) (htrans : ∀ a b c, R a b → R b c → R a c) (hstay : ∀ i, i < n → ∀ v w w', V i v w → R w w' → V i v w')
    (hguard : All (GuardAt R V G w0.drew) n l 0) (hstep : All (StepAt P l.toArray n R V G a0 w0.drew) n l 0)
    (hrest : ∀ (x : Nat → Value) (w : World), R w0.drew w → (∀ i, i < n → V i (x i) w) → wpAnyH P .any l.toArray Q (fun _ => True) (l.length - n) (listedTo n l.length) (puts l.toArray x n a0) w) :
    (Code.region id l.toArray true).wp P Q a0 w0 := by
  refine wp_region_any hm ?_
  change wpAny P .any l.toArray Q l.toArray.size (Array.replicate l.toArray.size false) a0 w0.drew
  have hg0 := fun j o ho hj => all_get hguard j o ho (by simpa using hj)
  have hs0 := fun j o ho hj => all_get hstep j o ho (by simpa using hj)
  clear hguard hstep
  generalize w0.drew = w1 at *
  have hsz : l.toArray.size = l.length := by simp
  have hget : ∀ j o, l.toArray[j]? = some o → l[j]? = some o := fun j o h => (List.getElem?_toArray (xs := l)).symm.trans h
  simp only [Nat.zero_add] at hg0 hs0
  have hg : ∀ j o, l.toArray[j]? = some o → j < n → GuardAt R V G w1 j o := fun j o ho hj => hg0 j o (hget j o ho) hj
  have hs : ∀ j o, l.toArray[j]? = some o → j < n → StepAt P l.toArray n R V G a0 w1 j o := fun j o ho hj => hs0 j o (hget j o ho) hj
  clear hg0 hs0 hget
  rw [hsz]
  rw [← hsz] at hrest ⊢
  generalize l.toArray = ops at *
  clear hsz
  unfold chk at hchk
  simp only [Bool.and_eq_true, List.all_eq_true, List.mem_range] at hchk
  obtain ⟨⟨⟨⟨c0, c1⟩, c2⟩, c3⟩, c4⟩ := hchk
  have hn : n ≤ ops.size := of_decide_eq_true c0
  have back : ∀ i o, ops[i]? = some o → ∀ e ∈ o.after, Region.binds .any e = true → e.on < i := fun i o ho e he hb => by
    have hi := (Array.getElem?_eq_some_iff.1 ho).1
    have h := c1 i hi
    rw [ho] at h
    simp only [Option.map_some, Option.getD_some, Array.all_eq_true_iff_forall_mem] at h
    have := h e he
    simpa [hb] using this
  have dlt : ∀ i, i < n → ∀ d, dstAt ops i = some d → d < a0.tmps.size := fun i hi d hd => by
    have h := c2 i hi
    rw [hd] at h
    simp only [Bool.and_eq_true, decide_eq_true_eq] at h
    exact h.1
  have dne : ∀ i, i < n → ∀ j, j < i → ∀ d, dstAt ops i = some d → dstAt ops j ≠ some d := fun i hi j hj d hd => by
    have h := c2 i hi
    rw [hd] at h
    simp only [Bool.and_eq_true, List.all_eq_true, List.mem_range] at h
    have := h.2 j hj
    simpa using this
  have dinj : ∀ i j d, i < n → j < n → dstAt ops i = some d → dstAt ops j = some d → i = j := fun i j d hi hj h1 h2 => by
    rcases Nat.lt_trichotomy i j with h | h | h
    · exact absurd h1 (dne j hj i h d h2)
    · exact h
    · exact absurd h2 (dne i hi j h d h1)
  have look : ∀ i o, i < n → ops[i]? = some o → ∀ j want, o.guard = some (j, want) → j < n ∧ waitsFor o j = true ∧ ∃ d, dstAt ops j = some d := fun i o hi ho j want hgd => by
    have h := c3 i hi
    rw [ho] at h
    simp only [Option.map_some, Option.getD_some, hgd, Bool.and_eq_true, decide_eq_true_eq] at h
    exact ⟨h.1.1, h.1.2, Option.isSome_iff_exists.1 h.2⟩
  have tails : ∀ j, j < ops.size → n ≤ j → ∀ i, i < n → (anc ops (List.range (j + 1)).reverse ((Array.replicate ops.size false).setIfInBounds j true)).getD i false = true := fun j hj hnj i hi => by
    have h := c4 j hj
    simp only [Bool.or_eq_true, decide_eq_true_eq, List.all_eq_true, List.mem_range] at h
    exact (h.resolve_left (by omega)) i hi
  clear c0 c1 c2 c3 c4
  have main : ∀ m listed a x w, count listed n = m → Inv ops n R V a0 w1 listed a x w → wpAny P .any ops Q (m + (ops.size - n)) listed a w := by
    intro m
    induction m with
    | zero =>
      intro listed a x w hm0 I
      have hl : listed = listedTo n ops.size := by
        apply Array.ext_getElem?
        intro k
        by_cases hk : k < ops.size
        · have hks : k < listed.size := by rw [I.size]; exact hk
          rw [Array.getElem?_eq_getElem hks]
          have e : listed.getD k false = listed[k] := by simp [Array.getD, hks]
          by_cases hkn : k < n
          · have h1 := count_zero listed n hm0 k hkn
            rw [e] at h1
            rw [h1, listedTo, Array.getElem?_append_left (by simpa using hkn)]
            simp [hkn]
          · have h1 := I.tail k (by omega)
            rw [e] at h1
            rw [h1, listedTo, Array.getElem?_append_right (by simp; omega), Array.getElem?_replicate, if_pos (by simp; omega)]
        · rw [Array.getElem?_eq_none (by rw [I.size]; omega), Array.getElem?_eq_none (by simp [listedTo]; omega)]
      have ha : a = puts ops x n a0 := by
        obtain ⟨p1, p2, p3, p4⟩ := puts_get x a0 n dne dlt
        have ht : a.tmps = (puts ops x n a0).tmps := by
          apply Array.ext_getElem?
          intro k
          by_cases hk : ∃ i, i < n ∧ dstAt ops i = some k
          · obtain ⟨i, hi, hd⟩ := hk
            rw [(I.at_ i hi (count_zero listed n hm0 i hi)).2 k hd, p3 i hi k hd]
          · rw [I.out k fun i hi _ hd => hk ⟨i, hi, hd⟩, p4 k fun i hi hd => hk ⟨i, hi, hd⟩]
        have hd : a.defers = (puts ops x n a0).defers := I.defers.trans p1.symm
        generalize puts ops x n a0 = b at *
        cases a; cases b; simp only at ht hd; subst ht hd; rfl
      rw [Nat.zero_add, hl, ha]
      refine wpAny_of_held _ _ _ _ (S := fun _ => True) ?_
      exact hrest x w I.rel fun i hi => (I.at_ i hi (count_zero listed n hm0 i hi)).1
    | succ m ih =>
      intro listed a x w hm1 I
      rw [show m + 1 + (ops.size - n) = (m + (ops.size - n)) + 1 by omega]
      have hgd : ∀ k, k < ops.size → listed.getD k true = listed.getD k false := fun k hk => by simp [Array.getD, show k < listed.size by rw [I.size]; exact hk]
      refine ⟨fun hr => ?_, fun i hi => ?_⟩
      · exfalso
        obtain ⟨i, hin, hif, hbelow⟩ := count_pos listed n m hm1
        have hio : i < ops.size := by omega
        have : i ∈ Region.ready .any ops listed := mem_ready.2 ⟨by rw [hgd i hio]; exact hif, ops[i], Array.getElem?_eq_getElem hio, fun e he hb => hbelow e.on (back i _ (Array.getElem?_eq_getElem hio) e he hb)⟩
        rw [hr] at this
        cases this
      · obtain ⟨hun, o, ho, hall⟩ := mem_ready.1 hi
        have hio : i < ops.size := (Array.getElem?_eq_some_iff.1 ho).1
        have hif : listed.getD i false = false := by rw [← hgd i hio]; exact hun
        have hin : i < n := by
          apply Decidable.byContradiction
          intro hge
          have hL : ∀ k, ((Array.replicate ops.size false).setIfInBounds i true).getD k false = true → k = i ∨ listed.getD k false = true := fun k hk => by
            rw [getD_set _ _ _ (by simpa using hio)] at hk
            by_cases hik : i = k
            · exact .inl hik.symm
            · rw [if_neg hik] at hk
              simp [Array.getD] at hk
          have hcl : ∀ k o', ops[k]? = some o' → (k = i ∨ listed.getD k false = true) → ∀ e ∈ o'.after, Region.binds .any e = true → (e.on = i ∨ listed.getD e.on false = true) := fun k o' ho' hk e he hb => by
            rcases hk with rfl | hk
            · rw [ho] at ho'; injection ho' with ho'; subst ho'
              exact .inr (hall e he hb)
            · exact .inr (I.closed k o' ho' hk e he hb)
          obtain ⟨k, hkn, hkf, _⟩ := count_pos listed n m hm1
          have := anc_sound (L := fun k => k = i ∨ listed.getD k false = true) hcl _ _ hL k (tails i hio (by omega) k hkn)
          rcases this with h | h
          · omega
          · rw [hkf] at h; cases h
        have hun0 : ∀ j, j < n → dstAt ops j = dstAt ops i → listed.getD j false = true → dstAt ops i = none := fun j hj hd hl => by
          cases hdi : dstAt ops i with
          | none => rfl
          | some d =>
            rw [hdi] at hd
            obtain rfl := dinj j i d hj hin hd hdi
            rw [hif] at hl; cases hl
        have hilt : i < listed.size := by rw [I.size]; exact hio
        have next : ∀ v w', R w w' → V i v w' → Inv ops n R V a0 w1 (listed.setIfInBounds i true) (a.put o.dst v) (fun k => if k = i then v else x k) w' := fun v w' hR hV => by
          have hdo : dstAt ops i = o.dst := by simp [dstAt, ho]
          refine ⟨by simp [I.size], fun k o' ho' hk e he hb => ?_, fun k hk => ?_, htrans _ _ _ I.rel hR, ?_, ?_, fun k hk hkl => ?_, fun k hk => ?_⟩
          · rw [getD_set _ _ _ hilt] at hk ⊢
            by_cases hei : i = e.on
            · rw [if_pos hei]
            · rw [if_neg hei]
              by_cases hik : i = k
              · subst hik
                rw [ho] at ho'; injection ho' with ho'; subst ho'
                exact hall e he hb
              · rw [if_neg hik] at hk
                exact I.closed k o' ho' hk e he hb
          · rw [getD_set _ _ _ hilt, if_neg (by omega)]; exact I.tail k hk
          · cases hd : o.dst <;> simp [Act.put, I.defers]
          · cases hd : o.dst <;> simp [Act.put, I.tsize]
          · rw [getD_set _ _ _ hilt] at hkl
            by_cases hki : k = i
            · subst hki
              refine ⟨by rw [if_pos rfl]; exact hV, fun d hd => ?_⟩
              rw [if_pos rfl]
              have hlt := dlt k hin d hd
              rw [hdo] at hd
              simp [Act.put, hd, I.tsize, hlt]
            · rw [if_neg (fun e => hki e.symm)] at hkl
              obtain ⟨h1, h2⟩ := I.at_ k hk hkl
              rw [if_neg hki]
              refine ⟨hstay k hk _ _ _ h1 hR, fun d hd => ?_⟩
              cases hd2 : o.dst with
              | none => simp only [Act.put]; exact h2 d hd
              | some di =>
                have hne : di ≠ d := fun e => hki (dinj k i d hk hin hd (by rw [hdo, hd2, e]))
                simp only [Act.put]
                rw [Array.getElem?_setIfInBounds_ne hne]
                exact h2 d hd
          · have hki := hk i hin (by rw [getD_set _ _ _ hilt, if_pos rfl])
            have hout := I.out k fun j hj hl => hk j hj (by rw [getD_set _ _ _ hilt]; split <;> simp_all)
            cases hd2 : o.dst with
            | none => simp only [Act.put]; exact hout
            | some di =>
              have hne : di ≠ k := fun e => hki (by rw [hdo, hd2, e])
              simp only [Act.put]
              rw [Array.getElem?_setIfInBounds_ne hne]
              exact hout
        have hcount : count (listed.setIfInBounds i true) n = m := by have := count_set listed i hilt hif n hin; omega
        have known : Known ops n V a x w o := fun j hwj hj => by
          unfold waitsFor at hwj
          rw [Array.any_eq_true] at hwj
          obtain ⟨k, hk, he⟩ := hwj
          simp only [Bool.and_eq_true, beq_iff_eq] at he
          have hl := hall o.after[k] (Array.getElem_mem hk) he.1
          rw [he.2] at hl
          obtain ⟨h1, h2⟩ := I.at_ j hj hl
          exact ⟨h1, h2⟩
        have outer : ∀ t, noDst ops n t = true → a.tmps[t]? = a0.tmps[t]? := fun t ht => by
          unfold noDst at ht
          simp only [List.all_eq_true, List.mem_range] at ht
          exact I.out t fun j hj _ hd => by have := ht j hj; rw [hd] at this; simp at this
        have step := hs i o ho hin a x w I.rel outer known
        have hwant : Region.wanted o (yielded ops a.tmps) = G i := by
          have hgi := hg i o ho hin
          unfold GuardAt at hgi
          unfold Region.wanted
          cases hgd2 : o.guard with
          | none => rw [hgd2] at hgi; exact hgi.symm
          | some jw =>
            obtain ⟨j, want⟩ := jw
            rw [hgd2] at hgi
            simp only at hgi ⊢
            obtain ⟨hj, hwj, d, hd⟩ := look i o hin ho j want hgd2
            unfold waitsFor at hwj
            rw [Array.any_eq_true] at hwj
            obtain ⟨k, hk, he⟩ := hwj
            simp only [Bool.and_eq_true, beq_iff_eq] at he
            have hl := hall o.after[k] (Array.getElem_mem hk) he.1
            rw [he.2] at hl
            obtain ⟨h1, h2⟩ := I.at_ j hj hl
            have hv := hgi _ _ I.rel h1
            have ht := h2 d hd
            rw [hv] at ht
            unfold dstAt at hd
            simp only [yielded, hd, Option.bind_some, ht]
            cases want <;> cases G i <;> rfl
        unfold wpOp
        simp only [ho, hwant]
        by_cases hGi : G i = true
        · rw [if_pos hGi] at step ⊢
          exact .inl (step _ _ fun v w' ⟨hR, hV⟩ => ih _ _ _ w' hcount (next v w' hR hV))
        · rw [if_neg hGi] at step ⊢
          exact ih _ _ _ w hcount (next undef w (hrefl w) step)
  have hcount : count (Array.replicate ops.size false) n = n := by
    unfold count
    have e : (List.range n).filter (fun i => !(Array.replicate ops.size false).getD i false) = List.range n := by
      refine List.filter_eq_self.2 fun i hi => ?_
      simp [Array.getD]
    rw [e, List.length_range]
  have := main n (Array.replicate ops.size false) a0 (fun _ => undef) w1 hcount ⟨by simp, fun k o _ hk => by simp [Array.getD] at hk, fun k _ => by simp [Array.getD], hrefl _, rfl, rfl, fun i _ hl => by simp [Array.getD] at hl, fun k _ => rfl⟩
  rwa [show n + (ops.size - n) = ops.size by omega] at this
end
theorem anyH_one {P : Program} {md : Region.Mode} {ops : Array Oper} {Q : Exit → Act → World → Prop} {S : World → Prop} {i : Nat} {o : Oper} {fuel : Nat} {listed : Array Bool} {a : Act} {w : World} (hr : Region.ready md ops listed = [i]) (ho : ops[i]? = some o)
    (h : ∀ K' : Act → World → Prop, (∀ a w, S w → wpAnyH P md ops Q S fuel (listed.setIfInBounds i true) a w → K' a w) → if Region.wanted o (yielded ops a.tmps) = true then Oper.wp P o a w K' Q else K' (a.put o.dst undef) w) : wpAnyH P md ops Q S (fuel + 1) listed a w :=
  wpAnyH_all hr (by simp) fun j hj => by
    obtain rfl : j = i := by simpa using hj
    exact wpOp_step ho (fun K hK => h K fun a w h1 h2 => hK a w ⟨h1, h2⟩)
end Go.Proofs.YtobklbfcnbmnmaaDoor

/- The steps of a region that is walked by what each operation yields: the plain operations; what stays of a world while blocks are made and calls come and go. -/
set_option maxRecDepth 4000
namespace Go.Proofs.YtobklbfcnbmnmaaDoor
open Go Go.RowKit
/- below B all is as it was; every block keeps its cells -/
structure Keeps (B : Nat) (w w' : World) : Prop where
  below : Below B w w'
  rows : ∀ (g : Nat) (cs : Array Value) (t : TypeId) (fr : Nat × Nat), w.heap[g]? = some (.cells cs t fr) → ∃ fr' : Nat × Nat, w'.heap[g]? = some (.cells cs t fr')
theorem Keeps.refl (B : Nat) (w : World) : Keeps B w w := ⟨Below.refl _ _, fun _ _ _ fr h => ⟨fr, h⟩⟩
theorem Keeps.trans {B : Nat} {a b c : World} (h : Keeps B a b) (k : Keeps B b c) : Keeps B a c :=
  ⟨h.below.trans k.below, fun g cs t fr hg => by obtain ⟨fr', h'⟩ := h.rows g cs t fr hg; exact k.rows g cs t fr' h'⟩
theorem lt_of_heap {w : World} {g : Nat} {o : Obj} (h : w.heap[g]? = some o) : g < w.heap.size := (Array.getElem?_eq_some_iff.1 h).1
theorem Keeps.call {B : Nat} {w w' : World} (h : Below w.heap.size w w') (hB : B ≤ w.heap.size) : Keeps B w w' :=
  ⟨h.mono hB, fun g _ _ fr hg => ⟨fr, (h.block g (lt_of_heap hg)).trans hg⟩⟩
theorem Keeps.alloc {B : Nat} (w : World) (o : Obj) (hB : B ≤ w.heap.size) : Keeps B w (w.alloc o) := Keeps.call ((Below.refl _ _).alloc (Nat.le_refl _) o) hB
theorem Keeps.cell {B : Nat} {w w' : World} (h : Keeps B w w') {a : Addr} {v : Value} (hc : w.cell? a = some v) : w'.cell? a = some v := by
  unfold World.cell? at *
  cases hg : w.heap[a.block]? with
  | none => rw [hg] at hc; cases hc
  | some o =>
    rw [hg] at hc
    cases o with
    | cells cs t fr => obtain ⟨fr', h'⟩ := h.rows _ _ _ _ hg
                       rw [h']; exact hc
    | _ => cases hc
theorem Keeps.slice {B : Nat} {w w' : World} {v : Value} {q : List (BitVec 8)} (h : Keeps B w w') (hs : Slice w v q) : Slice w' v q := by
  obtain ⟨A, c, h1, h2, h3⟩ := hs
  refine ⟨A, c, h1, h2, fun hne => ?_⟩
  obtain ⟨b, o, h4, h5, h6⟩ := h3 hne
  exact ⟨b, o, h4, Nat.lt_of_lt_of_le h5 h.below.size, fun j x hx => h.cell (h6 j x hx)⟩
theorem Keeps.parts {B : Nat} {w w' : World} {v : Value} {ps : List (List (BitVec 8))} (h : Keeps B w w') (hs : Parts w v ps) : Parts w' v ps := by
  obtain ⟨A, c, h1, h3⟩ := hs
  refine ⟨A, c, h1, fun hne => ?_⟩
  obtain ⟨b, o, h4, h5, h6⟩ := h3 hne
  refine ⟨b, o, h4, Nat.lt_of_lt_of_le h5 h.below.size, fun k q hq => ?_⟩
  obtain ⟨u, h7, h8⟩ := h6 k q hq
  exact ⟨u, h.cell h7, h.slice h8⟩
theorem Keeps.item {B : Nat} {w w' : World} {v : Value} {q : List (BitVec 8)} (h : Keeps B w w') (hs : Item w v q) : Item w' v q := by
  obtain ⟨A, c, h1, h2, h3⟩ := hs
  exact ⟨A, c, h1, h.slice h2, h3⟩
theorem Keeps.hand {B : Nat} {w w' : World} {v : Value} {ps : List (List (BitVec 8))} (h : Keeps B w w') (hs : Hand w v ps) : Hand w' v ps := by
  obtain ⟨A, c, h1, h3⟩ := hs
  refine ⟨A, c, h1, fun hne => ?_⟩
  obtain ⟨b, o, h4, h5, h6⟩ := h3 hne
  refine ⟨b, o, h4, Nat.lt_of_lt_of_le h5 h.below.size, fun k q hq => ?_⟩
  obtain ⟨u, h7, h8⟩ := h6 k q hq
  exact ⟨u, h.cell h7, h.item h8⟩
/- what a value is known by -/
def is (c : Value) : Value → World → Prop := fun v _ => v = c
def anyV : Value → World → Prop := fun _ _ => True
def sl (q : List (BitVec 8)) : Value → World → Prop := fun v w => Slice w v q
def pts (ps : List (List (BitVec 8))) : Value → World → Prop := fun v w => Parts w v ps
def hnd (ps : List (List (BitVec 8))) : Value → World → Prop := fun v w => Hand w v ps
/- a literal's row, frozen or not -/
def lit (B : Nat) (q : List (BitVec 8)) : Value → World → Prop := fun v w => ∃ (g : Nat) (fr : Nat × Nat), v = .slice (some ⟨g, 0, none⟩) q.length q.length ∧ B ≤ g ∧ w.heap[g]? = some (.cells (bs q) 5 fr)
theorem lit_sl {B : Nat} {q : List (BitVec 8)} {v : Value} {w : World} (h : lit B q v w) : Slice w v q := by
  obtain ⟨g, fr, rfl, _, hg⟩ := h
  refine ⟨_, q.length, rfl, Nat.le_refl _, fun _ => ⟨g, 0, rfl, lt_of_heap hg, fun j x hx => ?_⟩⟩
  have hj := (List.getElem?_eq_some_iff.1 hx).1
  rw [Nat.zero_add, cell_of_row w g j _ _ _ hg, get_bs q j hj, List.getD_eq_getElem?_getD, hx]; rfl
def Stays (B : Nat) (V : Value → World → Prop) : Prop := ∀ v w w', V v w → Keeps B w w' → V v w'
theorem is_stays (B : Nat) (c : Value) : Stays B (is c) := fun _ _ _ h _ => h
theorem any_stays (B : Nat) : Stays B anyV := fun _ _ _ _ _ => trivial
theorem sl_stays (B : Nat) (q : List (BitVec 8)) : Stays B (sl q) := fun _ _ _ h k => k.slice h
theorem pts_stays (B : Nat) (q : List (List (BitVec 8))) : Stays B (pts q) := fun _ _ _ h k => k.parts h
theorem hnd_stays (B : Nat) (q : List (List (BitVec 8))) : Stays B (hnd q) := fun _ _ _ h k => k.hand h
theorem lit_stays (B : Nat) (q : List (BitVec 8)) : Stays B (lit B q) := fun v w w' h k => by
  obtain ⟨g, fr, rfl, hB, hg⟩ := h
  obtain ⟨fr', h'⟩ := k.rows _ _ _ _ hg
  exact ⟨g, fr', rfl, hB, h'⟩
def Vs (l : List (Value → World → Prop)) (i : Nat) : Value → World → Prop := l.getD i anyV
def StaysAll (B : Nat) : List (Value → World → Prop) → Prop
  | [] => True
  | V :: l => Stays B V ∧ StaysAll B l
theorem stays_all {B : Nat} : ∀ {l : List (Value → World → Prop)}, StaysAll B l → ∀ i v w w', Vs l i v w → Keeps B w w' → Vs l i v w'
  | [], _, i, v, w, w', _, _ => by unfold Vs; simp [anyV]
  | V :: l, h, 0, v, w, w', hv, k => h.1 v w w' hv k
  | V :: l, h, i + 1, v, w, w', hv, k => by
    have := stays_all h.2 i v w w'
    unfold Vs at *
    simp only [List.getD_cons_succ] at *
    exact this hv k
theorem stays_nil (B : Nat) : StaysAll B [] := trivial
theorem stays_cons {B : Nat} {V : Value → World → Prop} {l : List (Value → World → Prop)} (h : Stays B V) (t : StaysAll B l) : StaysAll B (V :: l) := ⟨h, t⟩
section
variable {P : Program} {ops : Array Oper} {n : Nat} {R : World → World → Prop} {V : Nat → Value → World → Prop} {G : Nat → Bool} {a0 a : Act} {w1 w : World} {x : Nat → Value} {o : Oper} {l : List Oper} {i : Nat}
theorem Known.get (hk : Known ops n V a x w o) (j d : Nat) (hw : waitsFor o j = true) (hj : j < n) (hd : dstAt ops j = some d) : ∃ v, a.tmps[d]? = some v ∧ V j v w := ⟨x j, (hk j hw hj).2 d hd, (hk j hw hj).1⟩
theorem Known.is (hk : Known ops n V a x w o) (j d : Nat) (hw : waitsFor o j = true) (hj : j < n) (hd : dstAt ops j = some d) (c : Value) (hV : V j = is c) : a.tmps[d]? = some c := by
  obtain ⟨h1, h2⟩ := hk j hw hj
  rw [hV] at h1
  rw [h2 d hd]; exact congrArg some h1
theorem all_step (hG : G i = true) (h : ∀ (a : Act) (x : Nat → Value) (w : World), R w1 w → (∀ t, noDst ops n t = true → a.tmps[t]? = a0.tmps[t]?) → Known ops n V a x w o → Does P o a w (fun v w' => R w w' ∧ V i v w'))
    (t : All (StepAt P ops n R V G a0 w1) n l (i + 1)) : All (StepAt P ops n R V G a0 w1) n (o :: l) i :=
  all_cons (fun a x w h1 h2 h3 => by rw [if_pos hG]; exact h a x w h1 h2 h3) t
theorem all_skip (hG : G i = false) (h : ∀ w, R w1 w → V i undef w)
    (t : All (StepAt P ops n R V G a0 w1) n l (i + 1)) : All (StepAt P ops n R V G a0 w1) n (o :: l) i :=
  all_cons (fun a x w h1 _ _ => by rw [if_neg (by rw [hG]; decide)]; exact h w h1) t
end
def putL : List (Option Tmp) → (Nat → Value) → Nat → Act → Act
  | [], _, _, a => a
  | d :: ds, x, i, a => putL ds x (i + 1) (a.put d (x i))
theorem putL_snoc (x : Nat → Value) (d : Option Tmp) : ∀ (ds : List (Option Tmp)) (i : Nat) (a : Act), putL (ds ++ [d]) x i a = (putL ds x i a).put d (x (i + ds.length))
  | [], i, a => rfl
  | e :: ds, i, a => by
    rw [List.cons_append, putL, putL, putL_snoc x d ds (i + 1) _, List.length_cons, show i + 1 + ds.length = i + (ds.length + 1) by omega]
theorem puts_eq (l : List Oper) (x : Nat → Value) (a : Act) : ∀ n, n ≤ l.length → puts l.toArray x n a = putL ((l.map (·.dst)).take n) x 0 a
  | 0, _ => rfl
  | n + 1, h => by
    have hl : n < (l.map (·.dst)).length := by rw [List.length_map]; exact h
    have e : dstAt l.toArray n = (l.map (·.dst))[n] := by
      have : l.toArray[n]? = some l[n] := (List.getElem?_toArray (xs := l)).trans (List.getElem?_eq_getElem h)
      simp [dstAt, this]
    rw [puts, puts_eq l x a n (by omega), List.take_succ_eq_append_getElem hl, putL_snoc, e, List.length_take, Nat.min_eq_left (by omega), Nat.zero_add]
theorem wp_region_vs {P : Program} {Q : Exit → Act → World → Prop} {id : Nat} {l : List Oper} {a0 : Act} {w0 : World} (B : Nat) (Vl : List (Value → World → Prop)) (ds : List (Option Tmp)) (n N : Nat) (G : Nat → Bool) (hn : Vl.length = n) (hN : l.length = N) (hds : (l.map (·.dst)).take n = ds) (hm : P.follows .mixedOrders = true) (hchk : chk l.toArray n a0.tmps.size = true) (hst : StaysAll B Vl)
    (hguard : All (GuardAt (Keeps B) (Vs Vl) G w0.drew) n l 0) (hstep : All (StepAt P l.toArray n (Keeps B) (Vs Vl) G a0 w0.drew) n l 0)
    (hrest : ∀ (x : Nat → Value) (w : World), Keeps B w0.drew w → (∀ i, i < n → Vs Vl i (x i) w) → wpAnyH P .any l.toArray Q (fun _ => True) (N - n) (listedTo n N) (putL ds x 0 a0) w) :
    (Code.region id l.toArray true).wp P Q a0 w0 := by
  subst hn hN hds
  have hle : Vl.length ≤ l.length := by
    unfold chk at hchk
    simp only [Bool.and_eq_true] at hchk
    have := of_decide_eq_true hchk.1.1.1.1
    simpa using this
  exact wp_region_inv Vl.length (Vs Vl) G (Keeps B) hm hchk (Keeps.refl _) (fun _ _ _ => Keeps.trans) (fun i _ v w w' => stays_all hst i v w w') hguard hstep fun x w h1 h2 => by rw [puts_eq l x a0 _ hle]; exact hrest x w h1 h2
section
variable {P : Program} {o : Oper} {a : Act} {w : World} {R : Value → World → Prop}
theorem does_run {v : Value} {w' : World} (h : (execOp a.eval o).run P w = .ok (.value v) w') (hR : R v w') : Does P o a w R := fun K Q hK => by
  unfold Oper.wp; rw [h]; exact hK v w' hR
theorem does_move {t : Nat} {v : Value} (ho : o.op = .move (.tmp t)) (ht : a.tmps[t]? = some v) (h : R v w) : Does P o a w R :=
  does_run (by simp only [execOp, ho, eval_of_get ht, Sem.run_pure]) h
theorem does_assign {t : Nat} {v : Value} (ho : o.op = .assign (.tmp t)) (ht : a.tmps[t]? = some v) (h : R v w) : Does P o a w R :=
  does_run (by simp only [execOp, ho, eval_of_get ht, Sem.run_pure]) h
theorem does_pick {t : Nat} {x y : Operand} {b : Bool} (ho : o.op = .pick (.tmp t) x y) (ht : a.tmps[t]? = some (.bool b)) (h : R (a.eval (if b then x else y)) w) : Does P o a w R :=
  does_run (v := a.eval (if b then x else y)) (by cases b <;> simp [execOp, ho, eval_of_get ht, asBool]) h
theorem does_not {t : Nat} {ty : TypeId} {b : Bool} (ho : o.op = .unOp .not ty (.tmp t)) (ht : a.tmps[t]? = some (.bool b)) (h : R (.bool !b) w) : Does P o a w R :=
  does_run (v := .bool !b) (by simp [execOp, ho, eval_of_get ht, Op.unary]) h
end
end Go.Proofs.YtobklbfcnbmnmaaDoor

/- A region that draws its order and in which some operations change what was there (calls of methods, appends, stores), one behind the other: each of them begins a new phase; what is known of the world hangs on the phase. -/
set_option maxRecDepth 4000
namespace Go.Proofs.YtobklbfcnbmnmaaDoor
open Go Go.RowKit
def wildCount (U : Nat → Bool) (n : Nat) (m : Nat → Bool) : Nat := ((List.range n).filter fun i => U i && m i).length
def ancOf (ops : Array Oper) (j : Nat) : Array Bool := anc ops (List.range (j + 1)).reverse ((Array.replicate ops.size false).setIfInBounds j true)
def phChk (ops : Array Oper) (n : Nat) (U : Nat → Bool) (ph : Nat → Option Nat) (rig : Nat → Bool) : Bool :=
  (List.range n).all fun j => match ph j with
    | none => !U j && rig j
    | some p => (wildCount U n (fun i => i != j && (ancOf ops j).getD i false) == p) && (List.range n).all fun u => !U u || (ancOf ops j).getD u false || u == j || (ancOf ops u).getD j false
/- no operation that may come up ahead of operation i stores to slot t -/
def noDstF (ops : Array Oper) (n i t : Nat) : Bool := (List.range n).all fun j => dstAt ops j != some t || (j != i && (ancOf ops j).getD i false)
def phAfter (U : Nat → Bool) (ph : Nat → Option Nat) (i : Nat) : Option Nat := (ph i).map fun p => if U i then p + 1 else p
section
variable {P : Program} {Q : Exit → Act → World → Prop} {ops : Array Oper} {n : Nat} {K : World → World → Prop} {Φ : Nat → World → Prop} {V : Nat → Value → World → Prop} {G U rig : Nat → Bool} {ph : Nat → Option Nat} {a0 : Act} {w1 : World}
def KnownP (ops : Array Oper) (n : Nat) (V : Nat → Value → World → Prop) (U rig : Nat → Bool) (ph : Nat → Option Nat) (q : Option Nat) (a : Act) (x : Nat → Value) (w : World) (o : Oper) : Prop :=
  ∀ j, waitsFor o j = true → j < n → (rig j = true ∨ (q.isSome = true ∧ phAfter U ph j = q) → V j (x j) w) ∧ ∀ d, dstAt ops j = some d → a.tmps[d]? = some (x j)
def StepP (P : Program) (ops : Array Oper) (n : Nat) (K : World → World → Prop) (Φ : Nat → World → Prop) (V : Nat → Value → World → Prop) (G U rig : Nat → Bool) (ph : Nat → Option Nat) (a0 : Act) (i : Nat) (o : Oper) : Prop :=
  ∀ (a : Act) (x : Nat → Value) (w : World), (∀ t, noDstF ops n i t = true → a.tmps[t]? = a0.tmps[t]?) → KnownP ops n V U rig ph (ph i) a x w o →
    match ph i with
    | none => (∃ p, Φ p w) → if G i then Does P o a w (fun v w' => w' = w ∧ V i v w') else V i undef w
    | some p => Φ p w → if G i then Does P o a w (fun v w' => (if U i then Φ (p + 1) w' else K w w') ∧ V i v w') else U i = false ∧ V i undef w
def GuardP (V : Nat → Value → World → Prop) (G : Nat → Bool) (rig : Nat → Bool) (i : Nat) (o : Oper) : Prop :=
  match o.guard with
  | none => G i = true
  | some (j, want) => rig j = true ∧ ∀ v w, V j v w → v = .bool (want == G i) ∨ (v = undef ∧ G i = false)
structure InvP (ops : Array Oper) (n : Nat) (Φ : Nat → World → Prop) (V : Nat → Value → World → Prop) (U rig : Nat → Bool) (ph : Nat → Option Nat) (a0 : Act) (listed : Array Bool) (a : Act) (x : Nat → Value) (w : World) : Prop where
  size : listed.size = ops.size
  closed : ∀ k o, ops[k]? = some o → listed.getD k false = true → ∀ e ∈ o.after, Region.binds .any e = true → listed.getD e.on false = true
  rel : Φ (wildCount U n fun i => listed.getD i false) w
  le : ∀ i, i < n → listed.getD i false = true → ∀ q, phAfter U ph i = some q → q ≤ wildCount U n fun i => listed.getD i false
  defers : a.defers = a0.defers
  tsize : a.tmps.size = a0.tmps.size
  at_ : ∀ i, i < n → listed.getD i false = true → ((rig i = true ∨ phAfter U ph i = some (wildCount U n fun i => listed.getD i false)) → V i (x i) w) ∧ ∀ d, dstAt ops i = some d → a.tmps[d]? = some (x i)
  out : ∀ k, (∀ i, i < n → listed.getD i false = true → dstAt ops i ≠ some k) → a.tmps[k]? = a0.tmps[k]?
theorem wildCount_congr {n : Nat} {m m' : Nat → Bool} (h : ∀ i, i < n → U i = true → m i = m' i) : wildCount U n m = wildCount U n m' := by
  unfold wildCount
  congr 1
  refine List.filter_congr fun i hi => ?_
  have hi' := List.mem_range.1 hi
  cases hu : U i with
  | false => rfl
  | true => rw [h i hi' hu]
theorem wildCount_step {j : Nat} {m m' : Nat → Bool} (hj : m j = false) (hj' : m' j = true) (hu : U j = true) (h : ∀ i, i ≠ j → m' i = m i) : ∀ n, j < n → wildCount U n m' = wildCount U n m + 1
  | 0, hn => by omega
  | n + 1, hn => by
    unfold wildCount
    rw [List.range_succ, List.filter_append, List.filter_append, List.length_append, List.length_append]
    by_cases hjn : j = n
    · subst hjn
      have e : (List.range j).filter (fun i => U i && m' i) = (List.range j).filter fun i => U i && m i :=
        List.filter_congr fun i hi => by rw [h i (by have := List.mem_range.1 hi; omega)]
      rw [e]
      simp [hu, hj, hj']
    · have ih := wildCount_step hj hj' hu h n (by omega)
      unfold wildCount at ih
      have e : m' n = m n := h n (fun e => hjn e.symm)
      simp only [List.filter_cons, List.filter_nil, e]
      omega
theorem wildCount_same {m m' : Nat → Bool} {j : Nat} (hu : U j = false) (h : ∀ i, i ≠ j → m' i = m i) (n : Nat) : wildCount U n m' = wildCount U n m :=
  wildCount_congr fun i _ hui => h i fun e => by rw [e, hu] at hui; cases hui
theorem wp_region_ph {id : Nat} {l : List Oper} {w0 : World} (n : Nat) (hn : n = l.length) (hm : P.follows .mixedOrders = true) (hchk : chk l.toArray n a0.tmps.size = true) (hph : phChk l.toArray n U ph rig = true)
    (hKΦ : ∀ p w w', Φ p w → K w w' → Φ p w') (hKV : ∀ i, i < n → ∀ v w w', V i v w → K w w' → V i v w') (hrig : ∀ i, i < n → rig i = true → ∀ v w w', V i v w → V i v w')
    (h0 : Φ 0 w0.drew) (hguard : All (GuardP V G rig) n l 0) (hstep : All (StepP P l.toArray n K Φ V G U rig ph a0) n l 0)
    (hrest : ∀ (x : Nat → Value) (w : World), Φ (wildCount U n fun _ => true) w → (∀ i, i < n → rig i = true ∨ phAfter U ph i = some (wildCount U n fun _ => true) → V i (x i) w) → wpAnyH P .any l.toArray Q (fun _ => True) 0 (Array.replicate l.length true) (puts l.toArray x n a0) w) :
    (Code.region id l.toArray true).wp P Q a0 w0 := by
  refine wp_region_any hm ?_
  change wpAny P .any l.toArray Q l.toArray.size (Array.replicate l.toArray.size false) a0 w0.drew
  have hg0 := fun j o ho hj => all_get hguard j o ho (by simpa using hj)
  have hs0 := fun j o ho hj => all_get hstep j o ho (by simpa using hj)
  clear hguard hstep
  generalize w0.drew = w1 at *
  have hsz : l.toArray.size = l.length := by simp
  have hget : ∀ j o, l.toArray[j]? = some o → l[j]? = some o := fun j o h => (List.getElem?_toArray (xs := l)).symm.trans h
  simp only [Nat.zero_add] at hg0 hs0
  have hg : ∀ j o, l.toArray[j]? = some o → j < n → GuardP V G rig j o := fun j o ho hj => hg0 j o (hget j o ho) hj
  have hs : ∀ j o, l.toArray[j]? = some o → j < n → StepP P l.toArray n K Φ V G U rig ph a0 j o := fun j o ho hj => hs0 j o (hget j o ho) hj
  clear hg0 hs0 hget
  rw [← hsz] at hn hrest
  generalize l.toArray = ops at *
  clear hsz
  subst hn
  unfold chk at hchk
  simp only [Bool.and_eq_true, List.all_eq_true, List.mem_range] at hchk
  obtain ⟨⟨⟨⟨_, c1⟩, c2⟩, c3⟩, _⟩ := hchk
  unfold phChk at hph
  simp only [List.all_eq_true, List.mem_range] at hph
  have back : ∀ i o, ops[i]? = some o → ∀ e ∈ o.after, Region.binds .any e = true → e.on < i := fun i o ho e he hb => by
    have hi := (Array.getElem?_eq_some_iff.1 ho).1
    have h := c1 i hi
    rw [ho] at h
    simp only [Option.map_some, Option.getD_some, Array.all_eq_true_iff_forall_mem] at h
    have := h e he
    simpa [hb] using this
  have dlt : ∀ i, i < ops.size → ∀ d, dstAt ops i = some d → d < a0.tmps.size := fun i hi d hd => by
    have h := c2 i hi
    rw [hd] at h
    simp only [Bool.and_eq_true, decide_eq_true_eq] at h
    exact h.1
  have dne : ∀ i, i < ops.size → ∀ j, j < i → ∀ d, dstAt ops i = some d → dstAt ops j ≠ some d := fun i hi j hj d hd => by
    have h := c2 i hi
    rw [hd] at h
    simp only [Bool.and_eq_true, List.all_eq_true, List.mem_range] at h
    have := h.2 j hj
    simpa using this
  have dinj : ∀ i j d, i < ops.size → j < ops.size → dstAt ops i = some d → dstAt ops j = some d → i = j := fun i j d hi hj h1 h2 => by
    rcases Nat.lt_trichotomy i j with h | h | h
    · exact absurd h1 (dne j hj i h d h2)
    · exact h
    · exact absurd h2 (dne i hi j h d h1)
  have look : ∀ i o, i < ops.size → ops[i]? = some o → ∀ j want, o.guard = some (j, want) → j < ops.size ∧ waitsFor o j = true ∧ ∃ d, dstAt ops j = some d := fun i o hi ho j want hgd => by
    have h := c3 i hi
    rw [ho] at h
    simp only [Option.map_some, Option.getD_some, hgd, Bool.and_eq_true, decide_eq_true_eq] at h
    exact ⟨h.1.1, h.1.2, Option.isSome_iff_exists.1 h.2⟩
  clear c1 c2 c3
  have main : ∀ m listed a x w, count listed ops.size = m → InvP ops ops.size Φ V U rig ph a0 listed a x w → wpAny P .any ops Q m listed a w := by
    intro m
    induction m with
    | zero =>
      intro listed a x w hm0 I
      have hl : listed = Array.replicate ops.size true := by
        apply Array.ext_getElem?
        intro k
        by_cases hk : k < ops.size
        · have hks : k < listed.size := by rw [I.size]; exact hk
          rw [Array.getElem?_eq_getElem hks, Array.getElem?_replicate, if_pos hk]
          have e : listed.getD k false = listed[k] := by simp [Array.getD, hks]
          rw [← e, count_zero listed _ hm0 k hk]
        · rw [Array.getElem?_eq_none (by rw [I.size]; omega), Array.getElem?_replicate, if_neg hk]
      have hwc : (wildCount U ops.size fun i => listed.getD i false) = wildCount U ops.size fun _ => true := wildCount_congr fun i hi _ => count_zero listed _ hm0 i hi
      have ha : a = puts ops x ops.size a0 := by
        obtain ⟨p1, p2, p3, p4⟩ := puts_get x a0 ops.size dne dlt
        have ht : a.tmps = (puts ops x ops.size a0).tmps := by
          apply Array.ext_getElem?
          intro k
          by_cases hk : ∃ i, i < ops.size ∧ dstAt ops i = some k
          · obtain ⟨i, hi, hd⟩ := hk
            rw [(I.at_ i hi (count_zero listed _ hm0 i hi)).2 k hd, p3 i hi k hd]
          · rw [I.out k fun i hi _ hd => hk ⟨i, hi, hd⟩, p4 k fun i hi hd => hk ⟨i, hi, hd⟩]
        have hd : a.defers = (puts ops x ops.size a0).defers := I.defers.trans p1.symm
        generalize puts ops x ops.size a0 = b at *
        cases a; cases b; simp only at ht hd; subst ht hd; rfl
      have hat := fun i hi => (I.at_ i hi (count_zero listed _ hm0 i hi)).1
      have hrel := I.rel
      rw [hwc] at hat hrel
      rw [hl, ha]
      refine wpAny_of_held _ _ _ _ (S := fun _ => True) ?_
      exact hrest x w hrel hat
    | succ m ih =>
      intro listed a x w hm1 I
      have hgd : ∀ k, k < ops.size → listed.getD k true = listed.getD k false := fun k hk => by simp [Array.getD, show k < listed.size by rw [I.size]; exact hk]
      refine ⟨fun hr => ?_, fun i hi => ?_⟩
      · exfalso
        obtain ⟨i, hio, hif, hbelow⟩ := count_pos listed _ m hm1
        have : i ∈ Region.ready .any ops listed := mem_ready.2 ⟨by rw [hgd i hio]; exact hif, ops[i], Array.getElem?_eq_getElem hio, fun e he hb => hbelow e.on (back i _ (Array.getElem?_eq_getElem hio) e he hb)⟩
        rw [hr] at this
        cases this
      · obtain ⟨hun, o, ho, hall⟩ := mem_ready.1 hi
        have hio : i < ops.size := (Array.getElem?_eq_some_iff.1 ho).1
        have hif : listed.getD i false = false := by rw [← hgd i hio]; exact hun
        have hilt : i < listed.size := by rw [I.size]; exact hio
        have hdo : dstAt ops i = o.dst := by simp [dstAt, ho]
        -- the phase
        have hphase : ∀ p, ph i = some p → (wildCount U ops.size fun k => listed.getD k false) = p := fun p hp => by
          have h := hph i hio
          rw [hp] at h
          simp only [Bool.and_eq_true, beq_iff_eq, List.all_eq_true, List.mem_range, Bool.or_eq_true, Bool.not_eq_true'] at h
          obtain ⟨hc, hu⟩ := h
          rw [← hc]
          refine wildCount_congr fun u hul hwild => ?_
          have h2 := hu u hul
          by_cases hui : u = i
          · subst hui; rw [hif]; simp
          · have hne : (u != i) = true := bne_iff_ne.2 hui
            rw [hne, Bool.true_and]
            cases hanc : (ancOf ops i).getD u false with
            | true =>
              have hL : ∀ k, ((Array.replicate ops.size false).setIfInBounds i true).getD k false = true → k = i ∨ listed.getD k false = true := fun k hk => by
                rw [getD_set _ _ _ (by simpa using hio)] at hk
                by_cases hik : i = k
                · exact .inl hik.symm
                · rw [if_neg hik] at hk
                  simp [Array.getD] at hk
              have hcl : ∀ k o', ops[k]? = some o' → (k = i ∨ listed.getD k false = true) → ∀ e ∈ o'.after, Region.binds .any e = true → (e.on = i ∨ listed.getD e.on false = true) := fun k o' ho' hk e he hb => by
                rcases hk with rfl | hk
                · rw [ho] at ho'; injection ho' with ho'; subst ho'
                  exact .inr (hall e he hb)
                · exact .inr (I.closed k o' ho' hk e he hb)
              have := anc_sound (L := fun k => k = i ∨ listed.getD k false = true) hcl _ _ hL u hanc
              rcases this with h | h
              · exact absurd h hui
              · exact h
            | false =>
              rw [hwild, hanc] at h2
              have hju : (ancOf ops u).getD i false = true := by
                rcases h2 with ((h | h) | h) | h
                · cases h
                · cases h
                · exact absurd h hui
                · exact h
              cases hlu : listed.getD u false with
              | false => rfl
              | true =>
                have hL : ∀ k, ((Array.replicate ops.size false).setIfInBounds u true).getD k false = true → listed.getD k false = true := fun k hk => by
                  rw [getD_set _ _ _ (by simpa using hul)] at hk
                  by_cases hik : u = k
                  · subst hik; exact hlu
                  · rw [if_neg hik] at hk
                    simp [Array.getD] at hk
                have := anc_sound (L := fun k => listed.getD k false = true) I.closed _ _ hL i hju
                rw [hif] at this; cases this
        have next : ∀ v w', (match ph i with | none => w' = w | some p => if U i && G i then Φ (p + 1) w' else K w w' ∨ w' = w) → (U i = true → G i = true ∧ (ph i).isSome = true) → V i v w' → InvP ops ops.size Φ V U rig ph a0 (listed.setIfInBounds i true) (a.put o.dst v) (fun k => if k = i then v else x k) w' := by
          intro v w' hR hUG hV
          have hcnt : (wildCount U ops.size fun k => (listed.setIfInBounds i true).getD k false) = (wildCount U ops.size fun k => listed.getD k false) + if U i then 1 else 0 := by
            cases hu : U i with
            | true =>
              rw [if_pos rfl]
              exact wildCount_step (j := i) hif (by rw [getD_set _ _ _ hilt, if_pos rfl]) hu (fun k hk => by rw [getD_set _ _ _ hilt, if_neg (fun e => hk e.symm)]) _ hio
            | false =>
              rw [if_neg (by decide), Nat.add_zero]
              exact wildCount_same hu (fun k hk => by rw [getD_set _ _ _ hilt, if_neg (fun e => hk e.symm)]) _
          have hmild : U i = false → K w w' ∨ w' = w := fun hu => by
            revert hR
            cases hp : ph i with
            | none => exact fun h => .inr h
            | some p => intro h; simp only [hu, Bool.false_and] at h; simpa using h
          have hsoft : ∀ k, k < ops.size → listed.getD k false = true → k ≠ i → (rig k = true ∨ phAfter U ph k = some (wildCount U ops.size fun k => (listed.setIfInBounds i true).getD k false)) → V k (x k) w' := fun k hk hkl hki hor => by
            have hle := I.le k hk hkl
            rcases hor with h | h
            · exact hrig k hk h _ _ _ ((I.at_ k hk hkl).1 (.inl h))
            · cases hu : U i with
              | true =>
                rw [hcnt, hu, if_pos rfl] at h
                have := hle _ h
                omega
              | false =>
                rw [hcnt, hu, if_neg (by decide), Nat.add_zero] at h
                have h1 := (I.at_ k hk hkl).1 (.inr h)
                rcases hmild hu with h2 | h2
                · exact hKV k hk _ _ _ h1 h2
                · rw [h2]; exact h1
          refine ⟨by simp [I.size], fun k o' ho' hk e he hb => ?_, ?_, fun k hk hkl q hq => ?_, ?_, ?_, fun k hk hkl => ?_, fun k hk => ?_⟩
          · rw [getD_set _ _ _ hilt] at hk ⊢
            by_cases hei : i = e.on
            · rw [if_pos hei]
            · rw [if_neg hei]
              by_cases hik : i = k
              · subst hik
                rw [ho] at ho'; injection ho' with ho'; subst ho'
                exact hall e he hb
              · rw [if_neg hik] at hk
                exact I.closed k o' ho' hk e he hb
          · rw [hcnt]
            cases hu : U i with
            | true =>
              obtain ⟨hGi, hps⟩ := hUG hu
              obtain ⟨p, hp⟩ := Option.isSome_iff_exists.1 hps
              rw [hp] at hR
              simp only [hu, hGi, Bool.and_self, if_true] at hR
              rw [hphase p hp]
              exact hR
            | false =>
              rw [if_neg (by decide), Nat.add_zero]
              rcases hmild hu with h | h
              · exact hKΦ _ _ _ I.rel h
              · rw [h]; exact I.rel
          · rw [hcnt]
            rw [getD_set _ _ _ hilt] at hkl
            by_cases hki : k = i
            · subst hki
              unfold phAfter at hq
              obtain ⟨p, hp, hq⟩ := Option.map_eq_some_iff.1 hq
              rw [hphase p hp, ← hq]
              cases U k <;> simp
            · rw [if_neg (fun e => hki e.symm)] at hkl
              have := I.le k hk hkl q hq
              omega
          · cases hd : o.dst <;> simp [Act.put, I.defers]
          · cases hd : o.dst <;> simp [Act.put, I.tsize]
          · rw [getD_set _ _ _ hilt] at hkl
            by_cases hki : k = i
            · subst hki
              refine ⟨fun _ => by rw [if_pos rfl]; exact hV, fun d hd => ?_⟩
              rw [if_pos rfl]
              have hlt := dlt k hio d hd
              rw [hdo] at hd
              simp [Act.put, hd, I.tsize, hlt]
            · rw [if_neg (fun e => hki e.symm)] at hkl
              refine ⟨fun hor => by rw [if_neg hki]; exact hsoft k hk hkl hki hor, fun d hd => ?_⟩
              rw [if_neg hki]
              have h2 := (I.at_ k hk hkl).2
              cases hd2 : o.dst with
              | none => simp only [Act.put]; exact h2 d hd
              | some di =>
                have hne : di ≠ d := fun e => hki (dinj k i d hk hio hd (by rw [hdo, hd2, e]))
                simp only [Act.put]
                rw [Array.getElem?_setIfInBounds_ne hne]
                exact h2 d hd
          · have hki := hk i hio (by rw [getD_set _ _ _ hilt, if_pos rfl])
            have hout := I.out k fun j hj hl => hk j hj (by rw [getD_set _ _ _ hilt]; split <;> simp_all)
            cases hd2 : o.dst with
            | none => simp only [Act.put]; exact hout
            | some di =>
              have hne : di ≠ k := fun e => hki (by rw [hdo, hd2, e])
              simp only [Act.put]
              rw [Array.getElem?_setIfInBounds_ne hne]
              exact hout
        have hcount : count (listed.setIfInBounds i true) ops.size = m := by have := count_set listed i hilt hif ops.size hio; omega
        have waits : ∀ j, waitsFor o j = true → listed.getD j false = true := fun j hwj => by
          unfold waitsFor at hwj
          rw [Array.any_eq_true] at hwj
          obtain ⟨k, hk, he⟩ := hwj
          simp only [Bool.and_eq_true, beq_iff_eq] at he
          have hl := hall o.after[k] (Array.getElem_mem hk) he.1
          rw [he.2] at hl
          exact hl
        have known : KnownP ops ops.size V U rig ph (ph i) a x w o := fun j hwj hj => by
          obtain ⟨h1, h2⟩ := I.at_ j hj (waits j hwj)
          refine ⟨fun hor => h1 ?_, h2⟩
          rcases hor with h | ⟨hs1, h⟩
          · exact .inl h
          · obtain ⟨p, hp⟩ := Option.isSome_iff_exists.1 hs1
            rw [hphase p hp, ← hp]
            exact .inr h
        have outer : ∀ t, noDstF ops ops.size i t = true → a.tmps[t]? = a0.tmps[t]? := fun t ht => by
          unfold noDstF at ht
          simp only [List.all_eq_true, List.mem_range] at ht
          refine I.out t fun j hj hlj hd => ?_
          have h2 := ht j hj
          rw [hd] at h2
          simp only [bne_self_eq_false, Bool.false_or, Bool.and_eq_true] at h2
          have hL : ∀ k, ((Array.replicate ops.size false).setIfInBounds j true).getD k false = true → listed.getD k false = true := fun k hk => by
            rw [getD_set _ _ _ (by simpa using hj)] at hk
            by_cases hjk : j = k
            · subst hjk; exact hlj
            · rw [if_neg hjk] at hk
              simp [Array.getD] at hk
          have h3 := anc_sound (L := fun k => listed.getD k false = true) I.closed _ _ hL i h2.2
          rw [hif] at h3; cases h3
        have step := hs i o ho hio a x w outer known
        have hwant : Region.wanted o (yielded ops a.tmps) = G i := by
          have hgi := hg i o ho hio
          unfold GuardP at hgi
          unfold Region.wanted
          cases hgd2 : o.guard with
          | none => rw [hgd2] at hgi; exact hgi.symm
          | some jw =>
            obtain ⟨j, want⟩ := jw
            rw [hgd2] at hgi
            simp only at hgi ⊢
            obtain ⟨hj, hwj, d, hd⟩ := look i o hio ho j want hgd2
            obtain ⟨h1, h2⟩ := I.at_ j hj (waits j hwj)
            have hv := hgi.2 _ _ (h1 (.inl hgi.1))
            have ht := h2 d hd
            rcases hv with hv | ⟨hv, hG0⟩
            · rw [hv] at ht
              unfold dstAt at hd
              simp only [yielded, hd, Option.bind_some, ht]
              cases want <;> cases G i <;> rfl
            · rw [hv] at ht
              unfold dstAt at hd
              simp only [yielded, hd, Option.bind_some, ht]
              rw [hG0]; rfl
        unfold wpOp
        simp only [ho, hwant]
        cases hp : ph i with
        | none =>
          rw [hp] at step
          simp only at step
          have step := step ⟨_, I.rel⟩
          have hU : U i = false := by
            have h := hph i hio
            rw [hp] at h
            simp only [Bool.and_eq_true, Bool.not_eq_true'] at h
            exact h.1
          by_cases hGi : G i = true
          · rw [if_pos hGi] at step ⊢
            exact .inl (step _ _ fun v w' ⟨hR, hV⟩ => ih _ _ _ w' hcount (next v w' (by rw [hp]; exact hR) (fun h => by rw [hU] at h; cases h) hV))
          · rw [if_neg hGi] at step ⊢
            exact ih _ _ _ w hcount (next undef w (by rw [hp]) (fun h => by rw [hU] at h; cases h) step)
        | some p =>
          rw [hp] at step
          simp only at step
          have hΦ : Φ p w := by rw [← hphase p hp]; exact I.rel
          have step := step hΦ
          by_cases hGi : G i = true
          · rw [if_pos hGi] at step ⊢
            refine .inl (step _ _ fun v w' ⟨hR, hV⟩ => ih _ _ _ w' hcount (next v w' ?_ (fun _ => ⟨hGi, by rw [hp]; rfl⟩) hV))
            rw [hp, hGi, Bool.and_true]
            cases hu : U i with
            | true => rw [hu] at hR; simpa using hR
            | false => rw [hu] at hR; simp only [Bool.false_eq_true, if_false] at hR ⊢; exact .inl hR
          · rw [if_neg hGi] at step ⊢
            obtain ⟨hU, hV⟩ := step
            exact ih _ _ _ w hcount (next undef w (by rw [hp, hU]; exact .inr rfl) (fun h => by rw [hU] at h; cases h) hV)
  have hcount : count (Array.replicate ops.size false) ops.size = ops.size := by
    unfold count
    have e : (List.range ops.size).filter (fun i => !(Array.replicate ops.size false).getD i false) = List.range ops.size := by
      refine List.filter_eq_self.2 fun i hi => ?_
      simp [Array.getD]
    rw [e, List.length_range]
  have hz : (wildCount U ops.size fun i => (Array.replicate ops.size false).getD i false) = 0 := by
    unfold wildCount
    have e : (List.range ops.size).filter (fun i => U i && (Array.replicate ops.size false).getD i false) = [] := by
      refine List.filter_eq_nil_iff.2 fun i hi => ?_
      simp [Array.getD]
    rw [e]; rfl
  exact main ops.size (Array.replicate ops.size false) a0 (fun _ => undef) w1 hcount ⟨by simp, fun k o _ hk => by simp [Array.getD] at hk, by rw [hz]; exact h0, fun i _ hl => by simp [Array.getD] at hl, rfl, rfl, fun i _ hl => by simp [Array.getD] at hl, fun k _ => rfl⟩
end
end Go.Proofs.YtobklbfcnbmnmaaDoor

/- The region whose operations change things, with lists of what is known: of the values, of the phases. -/
set_option maxRecDepth 4000
namespace Go.Proofs.YtobklbfcnbmnmaaDoor
open Go Go.RowKit
/- all that there was is as it was -/
def Same (w w' : World) : Prop := Below w.heap.size w w'
theorem Same.refl (w : World) : Same w w := Below.refl _ _
theorem Same.alloc (w : World) (o : Obj) : Same w (w.alloc o) := (Below.refl _ _).alloc (Nat.le_refl _) o
def VOk : List (Value → World → Prop) → List Bool → Prop
  | V :: Vl, true :: rl => (∀ v w w', V v w → V v w') ∧ VOk Vl rl
  | V :: Vl, false :: rl => (∀ v w w', V v w → Same w w' → V v w') ∧ VOk Vl rl
  | [], [] => True
  | _, _ => False
theorem vok_nil : VOk [] [] := trivial
theorem vok_rig {V : Value → World → Prop} {Vl : List (Value → World → Prop)} {rl : List Bool} (h : ∀ v w w', V v w → V v w') (t : VOk Vl rl) : VOk (V :: Vl) (true :: rl) := ⟨h, t⟩
theorem vok_soft {V : Value → World → Prop} {Vl : List (Value → World → Prop)} {rl : List Bool} (h : ∀ v w w', V v w → Same w w' → V v w') (t : VOk Vl rl) : VOk (V :: Vl) (false :: rl) := ⟨h, t⟩
theorem vok_at : ∀ {Vl : List (Value → World → Prop)} {rl : List Bool}, VOk Vl rl → ∀ i, (rl.getD i false = true → ∀ v w w', Vs Vl i v w → Vs Vl i v w') ∧ ∀ v w w', Vs Vl i v w → Same w w' → Vs Vl i v w'
  | [], [], _, i => ⟨fun h => by simp at h, fun _ _ _ _ _ => by unfold Vs; simp [anyV]⟩
  | V :: Vl, true :: rl, h, 0 => ⟨fun _ => h.1, fun v w w' hv _ => h.1 v w w' hv⟩
  | V :: Vl, false :: rl, h, 0 => ⟨fun h => by simp at h, h.1⟩
  | V :: Vl, true :: rl, h, i + 1 => by have := vok_at h.2 i; unfold Vs at *; simpa using this
  | V :: Vl, false :: rl, h, i + 1 => by have := vok_at h.2 i; unfold Vs at *; simpa using this
  | [], _ :: _, h, _ => h.elim
  | _ :: _, [], h, _ => by cases h
def Wl (l : List (World → Prop)) (p : Nat) : World → Prop := l.getD p fun _ => False
def WOk : List (World → Prop) → Prop
  | [] => True
  | F :: l => (∀ w w', F w → Same w w' → F w') ∧ WOk l
theorem wok_nil : WOk [] := trivial
theorem wok_cons {F : World → Prop} {l : List (World → Prop)} (h : ∀ w w', F w → Same w w' → F w') (t : WOk l) : WOk (F :: l) := ⟨h, t⟩
theorem wok_at : ∀ {l : List (World → Prop)}, WOk l → ∀ p w w', Wl l p w → Same w w' → Wl l p w'
  | [], _, p, w, w', h, _ => by unfold Wl at h; simp at h
  | F :: l, h, 0, w, w', hw, k => h.1 w w' hw k
  | F :: l, h, p + 1, w, w', hw, k => by have := wok_at h.2 p w w'; unfold Wl at *; simp only [List.getD_cons_succ] at *; exact this hw k
section
variable {P : Program} {ops : Array Oper} {n : Nat} {K : World → World → Prop} {Φ : Nat → World → Prop} {V : Nat → Value → World → Prop} {G U rig : Nat → Bool} {ph : Nat → Option Nat} {a0 a : Act} {w : World} {x : Nat → Value} {o : Oper} {l : List Oper} {i : Nat} {q : Option Nat}
theorem KnownP.get (hk : KnownP ops n V U rig ph q a x w o) (j d : Nat) (hw : waitsFor o j = true) (hj : j < n) (hd : dstAt ops j = some d) (hor : rig j = true ∨ (q.isSome = true ∧ phAfter U ph j = q)) : ∃ v, a.tmps[d]? = some v ∧ V j v w :=
  ⟨x j, (hk j hw hj).2 d hd, (hk j hw hj).1 hor⟩
theorem KnownP.is (hk : KnownP ops n V U rig ph q a x w o) (j d : Nat) (hw : waitsFor o j = true) (hj : j < n) (hd : dstAt ops j = some d) (hor : rig j = true) (c : Value) (hV : V j = is c) : a.tmps[d]? = some c := by
  obtain ⟨h1, h2⟩ := hk j hw hj
  have h1 := h1 (.inl hor)
  rw [hV] at h1
  rw [h2 d hd]; exact congrArg some h1
theorem allp_pure (hp : ph i = none) (hG : G i = true) (h : ∀ (a : Act) (x : Nat → Value) (w : World), (∀ t, noDstF ops n i t = true → a.tmps[t]? = a0.tmps[t]?) → KnownP ops n V U rig ph none a x w o → Does P o a w (fun v w' => w' = w ∧ V i v w'))
    (t : All (StepP P ops n K Φ V G U rig ph a0) n l (i + 1)) : All (StepP P ops n K Φ V G U rig ph a0) n (o :: l) i :=
  all_cons (fun a x w h1 h2 => by rw [hp] at h2 ⊢; simp only; intro _; rw [if_pos hG]; exact h a x w h1 h2) t
/- an operation that may come up in any phase and only reads: what it reads must hold in each -/
theorem allp_any (hp : ph i = none) (hG : G i = true) (h : ∀ (a : Act) (x : Nat → Value) (w : World), (∀ t, noDstF ops n i t = true → a.tmps[t]? = a0.tmps[t]?) → KnownP ops n V U rig ph none a x w o → (∃ p, Φ p w) → Does P o a w (fun v w' => w' = w ∧ V i v w'))
    (t : All (StepP P ops n K Φ V G U rig ph a0) n l (i + 1)) : All (StepP P ops n K Φ V G U rig ph a0) n (o :: l) i :=
  all_cons (fun a x w h1 h2 => by rw [hp] at h2 ⊢; simp only; intro hΦ; rw [if_pos hG]; exact h a x w h1 h2 hΦ) t
theorem wl_any {l : List (World → Prop)} {S : World → Prop} (h : ∀ F ∈ l, ∀ w, F w → S w) {w : World} (hp : ∃ p, Wl l p w) : S w := by
  obtain ⟨p, hp⟩ := hp
  unfold Wl at hp
  rw [List.getD_eq_getElem?_getD] at hp
  cases hl : l[p]? with
  | none => rw [hl] at hp; exact hp.elim
  | some F => rw [hl] at hp; exact h F (List.mem_of_getElem? hl) w hp
theorem allp_mild (p : Nat) (hp : ph i = some p) (hU : U i = false) (hG : G i = true) (h : ∀ (a : Act) (x : Nat → Value) (w : World), (∀ t, noDstF ops n i t = true → a.tmps[t]? = a0.tmps[t]?) → KnownP ops n V U rig ph (some p) a x w o → Φ p w → Does P o a w (fun v w' => K w w' ∧ V i v w'))
    (t : All (StepP P ops n K Φ V G U rig ph a0) n l (i + 1)) : All (StepP P ops n K Φ V G U rig ph a0) n (o :: l) i :=
  all_cons (fun a x w h1 h2 => by
    rw [hp] at h2 ⊢; simp only; intro hΦ
    rw [if_pos hG, hU]
    intro k q hk
    exact h a x w h1 h2 hΦ k q fun v w' hv => hk v w' ⟨by rw [if_neg (by decide)]; exact hv.1, hv.2⟩) t
theorem allp_wild (p : Nat) (hp : ph i = some p) (hU : U i = true) (hG : G i = true) (h : ∀ (a : Act) (x : Nat → Value) (w : World), (∀ t, noDstF ops n i t = true → a.tmps[t]? = a0.tmps[t]?) → KnownP ops n V U rig ph (some p) a x w o → Φ p w → Does P o a w (fun v w' => Φ (p + 1) w' ∧ V i v w'))
    (t : All (StepP P ops n K Φ V G U rig ph a0) n l (i + 1)) : All (StepP P ops n K Φ V G U rig ph a0) n (o :: l) i :=
  all_cons (fun a x w h1 h2 => by
    rw [hp] at h2 ⊢; simp only; intro hΦ
    rw [if_pos hG, hU]
    intro k q hk
    exact h a x w h1 h2 hΦ k q fun v w' hv => hk v w' ⟨by rw [if_pos rfl]; exact hv.1, hv.2⟩) t
theorem allp_skip (hG : G i = false) (hU : U i = false) (h : ∀ w, V i undef w)
    (t : All (StepP P ops n K Φ V G U rig ph a0) n l (i + 1)) : All (StepP P ops n K Φ V G U rig ph a0) n (o :: l) i :=
  all_cons (fun a x w h1 _ => by
    cases hp : ph i with
    | none => simp only; intro _; rw [if_neg (by rw [hG]; decide)]; exact h w
    | some p => simp only; intro _; rw [if_neg (by rw [hG]; decide)]; exact ⟨hU, h w⟩) t
end
theorem wp_region_phs {P : Program} {Q : Exit → Act → World → Prop} {id : Nat} {l : List Oper} {a0 : Act} {w0 : World} (Vl : List (Value → World → Prop)) (rl : List Bool) (Fl : List (World → Prop)) (Ul : List Bool) (pl : List (Option Nat)) (ds : List (Option Tmp)) (n m : Nat) (G : Nat → Bool)
    (hN : l.length = n) (hds : l.map (·.dst) = ds) (hm : P.follows .mixedOrders = true) (hchk : chk l.toArray n a0.tmps.size = true) (hph : phChk l.toArray n (fun i => Ul.getD i false) (fun i => pl.getD i none) (fun i => rl.getD i false) = true) (hmm : wildCount (fun i => Ul.getD i false) n (fun _ => true) = m)
    (hF : WOk Fl) (hV : VOk Vl rl) (h0 : Wl Fl 0 w0.drew)
    (hguard : All (GuardP (Vs Vl) G (fun i => rl.getD i false)) n l 0) (hstep : All (StepP P l.toArray n Same (Wl Fl) (Vs Vl) G (fun i => Ul.getD i false) (fun i => rl.getD i false) (fun i => pl.getD i none) a0) n l 0)
    (hrest : ∀ (x : Nat → Value) (w : World), Wl Fl m w → (∀ i, i < n → rl.getD i false = true ∨ phAfter (fun i => Ul.getD i false) (fun i => pl.getD i none) i = some m → Vs Vl i (x i) w) → wpAnyH P .any l.toArray Q (fun _ => True) 0 (Array.replicate n true) (putL ds x 0 a0) w) :
    (Code.region id l.toArray true).wp P Q a0 w0 := by
  subst hN hds hmm
  refine wp_region_ph l.length rfl hm hchk hph (fun p w w' => wok_at hF p w w') (fun i _ => (vok_at hV i).2) (fun i _ => (vok_at hV i).1) h0 hguard hstep fun x w h1 h2 => ?_
  have e : puts l.toArray x l.length a0 = putL (l.map (·.dst)) x 0 a0 := by
    have := puts_eq l x a0 l.length (Nat.le_refl _)
    rwa [List.take_of_length_le (by simp)] at this
  rw [e]
  exact hrest x w h1 h2
end Go.Proofs.YtobklbfcnbmnmaaDoor

/- What a walk knows of the memory, as one list of blocks: the operations on memory as steps from list to list, each with a new world. No function of the program is named here. -/
set_option maxRecDepth 4000
namespace Go.Proofs.YtobklbfcnbmnmaaDoor
open Go Go.RowKit
structure Blk where
  g : Nat
  t : TypeId
  cs : Array Value
/- the blocks of R are as said, apart from each other, and may be written; all else that was there at w0, but for F, is as it was -/
structure St (w0 : World) (F : Nat → Prop) (R : List Blk) (w : World) : Prop where
  chg : Chg F w0 w
  rows : ∀ (k : Nat) (r : Blk), R[k]? = some r → Row w r.g r.t r.cs
  apart : ∀ (j k : Nat) (r s : Blk), j ≠ k → R[j]? = some r → R[k]? = some s → r.g ≠ s.g
  own : ∀ (k : Nat) (r : Blk), R[k]? = some r → F r.g ∨ w0.heap.size ≤ r.g
def noF : Nat → Prop := fun _ => False
section
variable {P : Program} {w0 w w' : World} {F : Nat → Prop} {R : List Blk}
theorem St.nil (w0 : World) (F : Nat → Prop) : St w0 F [] w0 := ⟨Chg.refl _ _, fun _ _ h => by simp at h, fun _ _ _ _ _ h => by simp at h, fun _ _ h => by simp at h⟩
theorem St.row (h : St w0 F R w) (k : Nat) {r : Blk} (hk : R[k]? = some r) : Row w r.g r.t r.cs := h.rows k r hk
theorem St.below (h : St w0 noF R w) : Below w0.heap.size w0 w := ⟨h.chg.os, h.chg.tape, h.chg.output, h.chg.size, fun k hk => h.chg.block k hk (fun h => h)⟩
theorem St.same (h : St w0 F R w) (k : Below w.heap.size w w') : St w0 F R w' :=
  ⟨h.chg.trans (F' := fun _ => False) (Chg.of_below k) (fun _ h => h.elim), fun j r hj => (h.rows j r hj).call k, h.apart, h.own⟩
theorem St.drew (h : St w0 F R w) : St w0 F R w.drew := h.same (Below.refl _ _).drew
theorem St.upd (h : St w0 F R w) (k : Nat) {r : Blk} (hk : R[k]? = some r) {cs : Array Value} (hr : Row w' r.g r.t cs) (hg : w.grownBy w' (some r.g)) : St w0 F (R.set k ⟨r.g, r.t, cs⟩) w' := by
  have hlt : k < R.length := (List.getElem?_eq_some_iff.1 hk).1
  have at_ : ∀ (j : Nat) (s : Blk), (R.set k ⟨r.g, r.t, cs⟩)[j]? = some s → (j = k ∧ s = ⟨r.g, r.t, cs⟩) ∨ (j ≠ k ∧ R[j]? = some s) := fun j s hj => by
    by_cases e : j = k
    · subst e
      rw [List.getElem?_set_self hlt] at hj
      exact .inl ⟨rfl, (Option.some.inj hj).symm⟩
    · rw [List.getElem?_set_ne (fun h => e h.symm)] at hj
      exact .inr ⟨e, hj⟩
  refine ⟨h.chg.grown hg (fun g e => by injection e with e; subst e; exact h.own k r hk), fun j s hj => ?_, fun i j s u hij hi hj => ?_, fun j s hj => ?_⟩
  · rcases at_ j s hj with ⟨_, rfl⟩ | ⟨hne, hs⟩
    · exact hr
    · exact (h.rows j s hs).only hg (h.apart j k s r hne hs hk)
  · rcases at_ i s hi with ⟨rfl, rfl⟩ | ⟨hne, hs⟩ <;> rcases at_ j u hj with ⟨rfl, rfl⟩ | ⟨hne', hu⟩
    · exact (hij rfl).elim
    · exact h.apart _ _ r u (fun e => hne' e.symm) hk hu
    · exact h.apart _ _ s r hne hs hk
    · exact h.apart _ _ s u hij hs hu
  · rcases at_ j s hj with ⟨rfl, rfl⟩ | ⟨_, hs⟩
    · exact h.own _ r hk
    · exact h.own j s hs
theorem St.snoc (h : St w0 F R w) (t : TypeId) (cs : Array Value) : St w0 F (R ++ [⟨w.heap.size, t, cs⟩]) (w.alloc (.cells cs t)) := by
  have at_ : ∀ (j : Nat) (s : Blk), (R ++ [(⟨w.heap.size, t, cs⟩ : Blk)])[j]? = some s → (j < R.length ∧ R[j]? = some s) ∨ (j = R.length ∧ s = ⟨w.heap.size, t, cs⟩) := fun j s hj => by
    by_cases e : j < R.length
    · rw [List.getElem?_append_left e] at hj; exact .inl ⟨e, hj⟩
    · rw [List.getElem?_append_right (by omega)] at hj
      have e2 : j - R.length = 0 := by
        rcases Nat.eq_zero_or_pos (j - R.length) with h0 | h0
        · exact h0
        · rw [List.getElem?_eq_none (by simp; omega)] at hj; cases hj
      rw [e2] at hj
      exact .inr ⟨by omega, (Option.some.inj hj).symm⟩
  refine ⟨h.chg.alloc _, fun j s hj => ?_, fun i j s u hij hi hj => ?_, fun j s hj => ?_⟩
  · rcases at_ j s hj with ⟨_, hs⟩ | ⟨_, rfl⟩
    · exact (h.rows j s hs).alloc _
    · exact Row.fresh _ _ _
  · rcases at_ i s hi with ⟨_, hs⟩ | ⟨e1, rfl⟩ <;> rcases at_ j u hj with ⟨_, hu⟩ | ⟨e2, rfl⟩
    · exact h.apart _ _ _ _ hij hs hu
    · have := (h.rows i s hs).lt; show s.g ≠ w.heap.size; omega
    · have := (h.rows j u hu).lt; show w.heap.size ≠ u.g; omega
    · omega
  · rcases at_ j s hj with ⟨_, hs⟩ | ⟨_, rfl⟩
    · exact h.own j s hs
    · exact .inr h.chg.size
/- cells of a row -/
theorem Row.slab {g : Nat} {t : TypeId} {cs : Array Value} (h : Row w g t cs) (o : Nat) (L : List Value) (hL : (cs.toList.drop o).take L.length = L) : w.rangeAt g o L := fun j v hv => by
  have hj := (List.getElem?_eq_some_iff.1 hv).1
  rw [h.cell, ← Array.getElem?_toList]
  rw [← hL, List.getElem?_take_of_lt hj, List.getElem?_drop] at hv
  exact hv
theorem run_storeVar_at (w : World) (g o : Nat) (t ty : TypeId) (cur : Array Value) (v : Value) (hg : Row w g t cur) (hi : (P.info? ty).map (·.size) = some v.cells.size) (ho : o + v.cells.size ≤ cur.size) (h1 : v.cells.all (·.oneCell') = true) :
    (storeVar ty ⟨g, o, none⟩ v).run P w = .ok () (w.setRow g (spl cur.toList o v.cells.toList).toArray) := by
  have := run_storeCells_at P g o t v.cells.toList 0 cur w hg (by simpa using ho) (fun x hx => (Array.all_eq_true_iff_forall_mem.1 h1) x (by simpa using hx))
  cases hq : P.info? ty with
  | none => simp [hq] at hi
  | some i =>
    have hs : v.cells.size = i.size := by simp [hq] at hi; omega
    simp [storeVar, sizeOf, typeInfo, hq, hs, this, spl]
section
variable {o : Oper} {a : Act} {K : Act → World → Prop} {Q : Exit → Act → World → Prop}
theorem wp_st_alloc (hS : St w0 F R w) (e : TypeId) (cs : Array Value) (ho : o.op = .alloc e) (z : Value) (hz : (P.info? e).bind (·.zero) = some z) (hc : z.cells = cs)
    (h : ∀ g w', St w0 F (R ++ [⟨g, e, cs⟩]) w' → K (a.put o.dst (.pointer (some ⟨g, 0, none⟩))) w') : o.wp P a w K Q := by
  cases hq : P.info? e with
  | none => simp [hq] at hz
  | some i =>
    have hi : i.zero = some z := by simpa [hq] using hz
    have hrun : (Instr.alloc e true (.tuple #[])).run P w = .ok (.pointer (some ⟨w.heap.size, 0, none⟩)) (w.alloc (.cells cs e)) := by
      simp [Instr.alloc, zeroValue, typeInfo, hq, hi, newVar, newRow, hc]
    unfold Oper.wp execOp
    simp [ho, hrun]
    exact h _ _ (hS.snoc e cs)
theorem wp_st_box (hS : St w0 F R w) (e : TypeId) (x : Operand) (ho : o.op = .box e x) (v : Value) (hx : a.eval x = v) (cs : Array Value) (hc : v.cells = cs)
    (h : ∀ g w', St w0 F (R ++ [⟨g, e, cs⟩]) w' → K (a.put o.dst (.pointer (some ⟨g, 0, none⟩))) w') : o.wp P a w K Q := by
  have hrun : (Instr.box e v).run P w = .ok (.pointer (some ⟨w.heap.size, 0, none⟩)) (w.alloc (.cells cs e)) := by
    simp [Instr.box, newVar, newRow, hc]
  unfold Oper.wp execOp
  simp [ho, hx, hrun]
  exact h _ _ (hS.snoc e cs)
/- one cell -/
theorem wp_st_get (hS : St w0 F R w) (k i : Nat) (ty : TypeId) (x : Operand) (ho : o.op = .load ty x) {r : Blk} (hk : R[k]? = some r) (hx : a.eval x = .pointer (some ⟨r.g, i, none⟩)) (v : Value) (hv : r.cs[i]? = some v) (d : TypeDesc) (hu : P.underlying ty = some d) (hd : d.isRow = false)
    (h : K (a.put o.dst v) w) : o.wp P a w K Q := by
  have hc : w.cell? ⟨r.g, i, none⟩ = some v := (hS.row k hk).get hv
  have hagg : (isAgg ty).run P w = .ok false w := by
    unfold isAgg
    rw [Sem.run_bind, run_underlying hu w]
    cases d <;> simp_all
  have hrun : (Instr.loadAt ty (.pointer (some ⟨r.g, i, none⟩))).run P w = .ok v w := by
    simp [Instr.loadAt, Instr.sureAddr, loadVar, Sem.run_bind, hagg, hc]
  unfold Oper.wp execOp
  simp [ho, hx, hrun]
  exact h
/- several cells -/
theorem wp_st_load (hS : St w0 F R w) (k i : Nat) (ty : TypeId) (x : Operand) (ho : o.op = .load ty x) {r : Blk} (hk : R[k]? = some r) (hx : a.eval x = .pointer (some ⟨r.g, i, none⟩)) (cs : Array Value) (hv : (r.cs.toList.drop i).take cs.size = cs.toList) (d : TypeDesc) (hu : P.underlying ty = some d) (hd : d.isRow = true) (hi : (P.info? ty).map (·.size) = some cs.size)
    (h : K (a.put o.dst (.agg cs)) w) : o.wp P a w K Q :=
  wp_load_mid ty x ho r.g i hx cs.toList d ((hS.row k hk).slab i cs.toList (by simpa using hv)) hu hd (by simpa using hi) (by simpa using h)
theorem wp_st_store (hS : St w0 F R w) (k i : Nat) (ty : TypeId) (x y : Operand) (ho : o.op = .store ty x y) {r : Blk} (hk : R[k]? = some r) (hx : a.eval x = .pointer (some ⟨r.g, i, none⟩)) (v : Value) (hy : a.eval y = v) (hi : (P.info? ty).map (·.size) = some v.cells.size) (hfit : i + v.cells.size ≤ r.cs.size) (h1 : v.cells.all (·.oneCell') = true)
    (cs : Array Value) (hcs : (spl r.cs.toList i v.cells.toList).toArray = cs)
    (h : ∀ w', St w0 F (R.set k ⟨r.g, r.t, cs⟩) w' → K (a.put o.dst undef) w') : o.wp P a w K Q := by
  have hrun := run_storeVar_at (P := P) w r.g i r.t ty r.cs v (hS.row k hk) hi hfit h1
  unfold Oper.wp execOp
  simp [ho, hx, hy, Instr.storeAt, Instr.sureAddr, hrun]
  rw [hcs]
  exact h _ (hS.upd k hk ((hS.row k hk).setRow cs) (grown_setRow w r.g cs))
end
/- at the list of a plain region's operations -/
section
variable {ops : Array Oper} {rest : List Oper} {o : Oper} {a : Act} {Q : Exit → Act → World → Prop}
theorem wpl_st_alloc (hS : St w0 F R w) (e : TypeId) (cs : Array Value) (hgd : o.guard = none) (ho : o.op = .alloc e) (z : Value) (hz : (P.info? e).bind (·.zero) = some z) (hc : z.cells = cs)
    (h : ∀ g w', St w0 F (R ++ [⟨g, e, cs⟩]) w' → wpList P ops Q rest (a.put o.dst (.pointer (some ⟨g, 0, none⟩))) w') : wpList P ops Q (o :: rest) a w :=
  wpList_plain hgd fun _ hK => wp_st_alloc hS e cs ho z hz hc fun g w' h1 => hK _ _ (h g w' h1)
theorem wpl_st_box (hS : St w0 F R w) (e : TypeId) (x : Operand) (hgd : o.guard = none) (ho : o.op = .box e x) (v : Value) (hx : a.eval x = v) (cs : Array Value) (hc : v.cells = cs)
    (h : ∀ g w', St w0 F (R ++ [⟨g, e, cs⟩]) w' → wpList P ops Q rest (a.put o.dst (.pointer (some ⟨g, 0, none⟩))) w') : wpList P ops Q (o :: rest) a w :=
  wpList_plain hgd fun _ hK => wp_st_box hS e x ho v hx cs hc fun g w' h1 => hK _ _ (h g w' h1)
theorem wpl_st_get (hS : St w0 F R w) (k i : Nat) (ty : TypeId) (x : Operand) (hgd : o.guard = none) (ho : o.op = .load ty x) {r : Blk} (hk : R[k]? = some r) (hx : a.eval x = .pointer (some ⟨r.g, i, none⟩)) (v : Value) (hv : r.cs[i]? = some v) (d : TypeDesc) (hu : P.underlying ty = some d) (hd : d.isRow = false)
    (h : wpList P ops Q rest (a.put o.dst v) w) : wpList P ops Q (o :: rest) a w :=
  wpList_plain hgd fun _ hK => wp_st_get hS k i ty x ho hk hx v hv d hu hd (hK _ _ h)
theorem wpl_st_load (hS : St w0 F R w) (k i : Nat) (ty : TypeId) (x : Operand) (hgd : o.guard = none) (ho : o.op = .load ty x) {r : Blk} (hk : R[k]? = some r) (hx : a.eval x = .pointer (some ⟨r.g, i, none⟩)) (cs : Array Value) (hv : (r.cs.toList.drop i).take cs.size = cs.toList) (d : TypeDesc) (hu : P.underlying ty = some d) (hd : d.isRow = true) (hi : (P.info? ty).map (·.size) = some cs.size)
    (h : wpList P ops Q rest (a.put o.dst (.agg cs)) w) : wpList P ops Q (o :: rest) a w :=
  wpList_plain hgd fun _ hK => wp_st_load hS k i ty x ho hk hx cs hv d hu hd hi (hK _ _ h)
theorem wpl_st_store (hS : St w0 F R w) (k i : Nat) (ty : TypeId) (x y : Operand) (hgd : o.guard = none) (ho : o.op = .store ty x y) {r : Blk} (hk : R[k]? = some r) (hx : a.eval x = .pointer (some ⟨r.g, i, none⟩)) (v : Value) (hy : a.eval y = v) (hi : (P.info? ty).map (·.size) = some v.cells.size) (hfit : i + v.cells.size ≤ r.cs.size) (h1 : v.cells.all (·.oneCell') = true)
    (cs : Array Value) (hcs : (spl r.cs.toList i v.cells.toList).toArray = cs)
    (h : ∀ w', St w0 F (R.set k ⟨r.g, r.t, cs⟩) w' → wpList P ops Q rest (a.put o.dst undef) w') : wpList P ops Q (o :: rest) a w :=
  wpList_plain hgd fun _ hK => wp_st_store hS k i ty x y ho hk hx v hy hi hfit h1 cs hcs fun w' h1 => hK _ _ (h w' h1)
end
/- the whole of a row, or a part -/
theorem slab_whole (cs : Array Value) : (cs.toList.drop 0).take cs.size = cs.toList := by rw [List.drop_zero]; exact List.take_of_length_le (by simp)
theorem spl_whole (cur cs : Array Value) (h : cur.size = cs.size) : (spl cur.toList 0 cs.toList).toArray = cs := by
  unfold spl
  rw [List.take_zero, List.nil_append, Nat.zero_add, List.drop_of_length_le (by simp [h]), List.append_nil]
theorem spl_agg (cur cs cs' : Array Value) (e : cs = cs') (h : cur.size = cs.size) : (spl cur.toList 0 (Value.agg cs).cells.toList).toArray = cs' := by
  rw [← e]; exact spl_whole cur cs h
theorem spl_at (cur : Array Value) (i : Nat) (v : Value) (h : i < cur.size) : (spl cur.toList i [v]).toArray = cur.setIfInBounds i v := by
  rw [← set_eq_spl _ _ _ (by simpa using h)]
  apply Array.ext'
  simp
theorem wp_st_put {o : Oper} {a : Act} {K : Act → World → Prop} {Q : Exit → Act → World → Prop} (hS : St w0 F R w) (k i : Nat) (ty : TypeId) (x y : Operand) (ho : o.op = .store ty x y) {r : Blk} (hk : R[k]? = some r) (hx : a.eval x = .pointer (some ⟨r.g, i, none⟩)) (v : Value) (hy : a.eval y = v) (hi : (P.info? ty).map (·.size) = some 1) (hv : v.cells = #[v]) (h1 : v.oneCell' = true) (hfit : i < r.cs.size)
    (cs : Array Value) (hcs : r.cs.setIfInBounds i v = cs)
    (h : ∀ w', St w0 F (R.set k ⟨r.g, r.t, cs⟩) w' → K (a.put o.dst undef) w') : o.wp P a w K Q :=
  wp_st_store hS k i ty x y ho hk hx v hy (by rw [hv]; exact hi) (by rw [hv]; exact hfit) (by rw [hv]; simp [h1]) cs (by rw [hv, ← hcs]; exact spl_at r.cs i v hfit) h
theorem wpl_st_put {ops : Array Oper} {rest : List Oper} {o : Oper} {a : Act} {Q : Exit → Act → World → Prop} (hS : St w0 F R w) (k i : Nat) (ty : TypeId) (x y : Operand) (hgd : o.guard = none) (ho : o.op = .store ty x y) {r : Blk} (hk : R[k]? = some r) (hx : a.eval x = .pointer (some ⟨r.g, i, none⟩)) (v : Value) (hy : a.eval y = v) (hi : (P.info? ty).map (·.size) = some 1) (hv : v.cells = #[v]) (h1 : v.oneCell' = true) (hfit : i < r.cs.size)
    (cs : Array Value) (hcs : r.cs.setIfInBounds i v = cs)
    (h : ∀ w', St w0 F (R.set k ⟨r.g, r.t, cs⟩) w' → wpList P ops Q rest (a.put o.dst undef) w') : wpList P ops Q (o :: rest) a w :=
  wpList_plain hgd fun _ hK => wp_st_put hS k i ty x y ho hk hx v hy hi hv h1 hfit cs hcs fun w' h1 => hK _ _ (h w' h1)
end
end Go.Proofs.YtobklbfcnbmnmaaDoor

/- Blocks that come to a list of blocks. No function of the program is named here. -/
set_option maxRecDepth 4000
namespace Go.Proofs.YtobklbfcnbmnmaaDoor
open Go Go.RowKit
section
variable {w0 W W' : World} {F : Nat → Prop} {R : List Blk}
theorem St.join (h : St w0 F R W) {g : Nat} {t : TypeId} {cs : Array Value} (hr : Row W g t cs) (hg : w0.heap.size ≤ g) (hne : ∀ b ∈ R, b.g ≠ g) : St w0 F (R ++ [⟨g, t, cs⟩]) W := by
  have at_ : ∀ (j : Nat) (s : Blk), (R ++ [(⟨g, t, cs⟩ : Blk)])[j]? = some s → (j < R.length ∧ R[j]? = some s) ∨ (j = R.length ∧ s = ⟨g, t, cs⟩) := fun j s hj => by
    by_cases e : j < R.length
    · rw [List.getElem?_append_left e] at hj; exact .inl ⟨e, hj⟩
    · rw [List.getElem?_append_right (by omega)] at hj
      have e2 : j - R.length = 0 := by
        rcases Nat.eq_zero_or_pos (j - R.length) with h0 | h0
        · exact h0
        · rw [List.getElem?_eq_none (by simp; omega)] at hj; cases hj
      rw [e2] at hj
      exact .inr ⟨by omega, (Option.some.inj hj).symm⟩
  refine ⟨h.chg, fun j s hj => ?_, fun i j s u hij hi hj => ?_, fun j s hj => ?_⟩
  · rcases at_ j s hj with ⟨_, hk⟩ | ⟨_, rfl⟩
    · exact h.rows j s hk
    · exact hr
  · rcases at_ i s hi with ⟨_, hk⟩ | ⟨e1, rfl⟩ <;> rcases at_ j u hj with ⟨_, hu⟩ | ⟨e2, rfl⟩
    · exact h.apart _ _ _ _ hij hk hu
    · exact hne s (List.mem_of_getElem? hk)
    · exact fun e => hne u (List.mem_of_getElem? hu) e.symm
    · omega
  · rcases at_ j s hj with ⟨_, hk⟩ | ⟨_, rfl⟩
    · exact h.own j s hk
    · exact .inr hg
/- a block that is none of the list's changes -/
theorem St.far (h : St w0 F R W) {g : Nat} (k : W.grownBy W' (some g)) (hg : w0.heap.size ≤ g) (hne : ∀ b ∈ R, b.g ≠ g) : St w0 F R W' :=
  ⟨h.chg.grown k (fun j e => by cases e; exact .inr hg), fun j r hj => (h.rows j r hj).only k (hne r (List.mem_of_getElem? hj)), h.apart, h.own⟩
theorem St.lt (h : St w0 F R W) {b : Blk} (hb : b ∈ R) : b.g < W.heap.size := by
  obtain ⟨k, hk⟩ := List.getElem?_of_mem hb
  exact (h.rows k b hk).lt
end
theorem row_ne {w : World} {g k : Nat} {t u : TypeId} {cs ds : Array Value} (h : Row w g t cs) (h' : Row w k u ds) (hne : t ≠ u) : g ≠ k := by
  rintro rfl
  have := h.symm.trans h'
  injection this with this
  injection this with _ this _
  exact hne this
/- a guarded load of a whole row, said so that other operations fall at once -/
theorem wplG_row {P : Program} {ops : Array Oper} {rest : List Oper} {dst : Option Tmp} {type : TypeId} {pos : String} {after : Array Edge} {gd : Option (Nat × Bool)} {a : Act} {w : World} {Q : Exit → Act → World → Prop} (ty : TypeId) (x : Nat) (g : Nat) (t : TypeId) (cs : Array Value) (fr : Nat × Nat) (d : TypeDesc)
    (hw : Region.wanted { dst := dst, op := .load ty (.tmp x), type := type, pos := pos, after := after, guard := gd } (yielded ops a.tmps) = true) (hx : a.eval (.tmp x) = .pointer (some ⟨g, 0, none⟩)) (hg : w.heap[g]? = some (.cells cs t fr))
    (hu : P.underlying ty = some d) (hd : (match d with | .struct _ | .array _ _ => true | _ => false) = true) (hi : (P.info? ty).map (·.size) = some cs.size)
    (h : wpList P ops Q rest (a.put dst (.agg cs)) w) : wpList P ops Q ({ dst := dst, op := .load ty (.tmp x), type := type, pos := pos, after := after, guard := gd } :: rest) a w :=
  wpList_guarded hw fun _ hK => wp_load_row ty (.tmp x) rfl g hx t cs fr d hg hu hd hi (hK _ _ h)
theorem own_litq (w : World) (q : List (BitVec 8)) (h : q.length ≤ maxLen) : (w.alloc (.cells (bs q) 5)).ownsRow w.heap.size 5 1 (.slice (some ⟨w.heap.size, 0, none⟩) q.length q.length) q.length (bytesV q) :=
  ⟨by rw [len_bytesV, Nat.mul_one], .inr ⟨w.heap.size, q.length, bs q, rfl, Nat.le_refl _, heap_alloc_new w _, Nat.le_refl _, h, by rw [size_bs, Nat.mul_one], by rw [bs_toList]; exact List.take_of_length_le (by rw [len_bytesV]; omega)⟩⟩
theorem own_base {w : World} {b b' e size n : Nat} {v : Value} {xs : List Value} (h : w.ownsRow b e size v n xs) (hb : b' ≤ b) : w.ownsRow b' e size v n xs := by
  refine ⟨h.1, ?_⟩
  rcases h.2 with h | ⟨g, cap, cur, h1, h2, h3⟩
  · exact .inl h
  · exact .inr ⟨g, cap, cur, h1, Nat.le_trans hb h2, h3⟩
theorem wp_new_row {P : Program} {o : Oper} {a : Act} {w : World} {K : Act → World → Prop} {Q : Exit → Act → World → Prop} (e : TypeId) (cs : Array Value) (ho : o.op = .alloc e) (hz : (P.info? e).bind (·.zero) = some (.agg cs))
    (h : K (a.put o.dst (.pointer (some ⟨w.heap.size, 0, none⟩))) (w.alloc (.cells cs e))) : o.wp P a w K Q := by
  cases hq : P.info? e with
  | none => simp [hq] at hz
  | some i =>
    have hi : i.zero = some (.agg cs) := by simpa [hq] using hz
    have hrun : (Instr.alloc e true (.tuple #[])).run P w = .ok (.pointer (some ⟨w.heap.size, 0, none⟩)) (w.alloc (.cells cs e)) := by
      simp [Instr.alloc, zeroValue, typeInfo, hq, hi, newVar, newRow, Value.cells]
    unfold Oper.wp execOp
    simp [ho, hrun]
    exact h
end Go.Proofs.YtobklbfcnbmnmaaDoor

/- The same region, with one thing more: an operation may say that its value is an earlier one's (a store names the block that it went to). -/
set_option maxRecDepth 4000
namespace Go.Proofs.YtobklbfcnbmnmaaDoor
open Go Go.RowKit
section
variable {P : Program} {Q : Exit → Act → World → Prop} {ops : Array Oper} {n : Nat} {K : World → World → Prop} {Φ : Nat → World → Prop} {V : Nat → Value → World → Prop} {G U rig : Nat → Bool} {ph : Nat → Option Nat} {a0 : Act} {w1 : World} {al : Nat → Option Nat}
def Al (al : Nat → Option Nat) (i : Nat) (x : Nat → Value) (v : Value) : Prop := ∀ j, al i = some j → v = x j
def alChk (ops : Array Oper) (n : Nat) (al : Nat → Option Nat) : Bool := (List.range n).all fun i => match al i, ops[i]? with
  | some j, some o => decide (j < n) && waitsFor o j
  | some _, none => false
  | none, _ => true
def StepPA (P : Program) (ops : Array Oper) (n : Nat) (K : World → World → Prop) (Φ : Nat → World → Prop) (V : Nat → Value → World → Prop) (G U rig : Nat → Bool) (ph : Nat → Option Nat) (al : Nat → Option Nat) (a0 : Act) (i : Nat) (o : Oper) : Prop :=
  ∀ (a : Act) (x : Nat → Value) (w : World), (∀ t, noDstF ops n i t = true → a.tmps[t]? = a0.tmps[t]?) → KnownP ops n V U rig ph (ph i) a x w o →
    match ph i with
    | none => (∃ p, Φ p w) → if G i then Does P o a w (fun v w' => w' = w ∧ V i v w' ∧ Al al i x v) else V i undef w ∧ Al al i x undef
    | some p => Φ p w → if G i then Does P o a w (fun v w' => (if U i then Φ (p + 1) w' else K w w') ∧ V i v w' ∧ Al al i x v) else U i = false ∧ V i undef w ∧ Al al i x undef
structure InvPA (ops : Array Oper) (n : Nat) (Φ : Nat → World → Prop) (V : Nat → Value → World → Prop) (U rig : Nat → Bool) (ph : Nat → Option Nat) (al : Nat → Option Nat) (a0 : Act) (listed : Array Bool) (a : Act) (x : Nat → Value) (w : World) : Prop where
  size : listed.size = ops.size
  closed : ∀ k o, ops[k]? = some o → listed.getD k false = true → ∀ e ∈ o.after, Region.binds .any e = true → listed.getD e.on false = true
  rel : Φ (wildCount U n fun i => listed.getD i false) w
  le : ∀ i, i < n → listed.getD i false = true → ∀ q, phAfter U ph i = some q → q ≤ wildCount U n fun i => listed.getD i false
  defers : a.defers = a0.defers
  tsize : a.tmps.size = a0.tmps.size
  at_ : ∀ i, i < n → listed.getD i false = true → ((rig i = true ∨ phAfter U ph i = some (wildCount U n fun i => listed.getD i false)) → V i (x i) w) ∧ ∀ d, dstAt ops i = some d → a.tmps[d]? = some (x i)
  out : ∀ k, (∀ i, i < n → listed.getD i false = true → dstAt ops i ≠ some k) → a.tmps[k]? = a0.tmps[k]?
  ali : ∀ i, i < n → listed.getD i false = true → ∀ j, al i = some j → x i = x j
theorem wp_region_pha {id : Nat} {l : List Oper} {w0 : World} (n : Nat) (hn : n = l.length) (hm : P.follows .mixedOrders = true) (hchk : chk l.toArray n a0.tmps.size = true) (hph : phChk l.toArray n U ph rig = true) (hal : alChk l.toArray n al = true)
    (hKΦ : ∀ p w w', Φ p w → K w w' → Φ p w') (hKV : ∀ i, i < n → ∀ v w w', V i v w → K w w' → V i v w') (hrig : ∀ i, i < n → rig i = true → ∀ v w w', V i v w → V i v w')
    (h0 : Φ 0 w0.drew) (hguard : All (GuardP V G rig) n l 0) (hstep : All (StepPA P l.toArray n K Φ V G U rig ph al a0) n l 0)
    (hrest : ∀ (x : Nat → Value) (w : World), Φ (wildCount U n fun _ => true) w → (∀ i, i < n → rig i = true ∨ phAfter U ph i = some (wildCount U n fun _ => true) → V i (x i) w) → (∀ i, i < n → ∀ j, al i = some j → x i = x j) → wpAnyH P .any l.toArray Q (fun _ => True) 0 (Array.replicate l.length true) (puts l.toArray x n a0) w) :
    (Code.region id l.toArray true).wp P Q a0 w0 := by
  refine wp_region_any hm ?_
  change wpAny P .any l.toArray Q l.toArray.size (Array.replicate l.toArray.size false) a0 w0.drew
  have hg0 := fun j o ho hj => all_get hguard j o ho (by simpa using hj)
  have hs0 := fun j o ho hj => all_get hstep j o ho (by simpa using hj)
  clear hguard hstep
  generalize w0.drew = w1 at *
  have hsz : l.toArray.size = l.length := by simp
  have hget : ∀ j o, l.toArray[j]? = some o → l[j]? = some o := fun j o h => (List.getElem?_toArray (xs := l)).symm.trans h
  simp only [Nat.zero_add] at hg0 hs0
  have hg : ∀ j o, l.toArray[j]? = some o → j < n → GuardP V G rig j o := fun j o ho hj => hg0 j o (hget j o ho) hj
  have hs : ∀ j o, l.toArray[j]? = some o → j < n → StepPA P l.toArray n K Φ V G U rig ph al a0 j o := fun j o ho hj => hs0 j o (hget j o ho) hj
  clear hg0 hs0 hget
  rw [← hsz] at hn hrest
  generalize l.toArray = ops at *
  clear hsz
  subst hn
  unfold chk at hchk
  simp only [Bool.and_eq_true, List.all_eq_true, List.mem_range] at hchk
  obtain ⟨⟨⟨⟨_, c1⟩, c2⟩, c3⟩, _⟩ := hchk
  have hal2 : ∀ i o, ops[i]? = some o → ∀ j, al i = some j → j < ops.size ∧ waitsFor o j = true := fun i o ho j hj => by
    have hi := (Array.getElem?_eq_some_iff.1 ho).1
    unfold alChk at hal
    have h := (List.all_eq_true.1 hal) i (List.mem_range.2 hi)
    rw [hj, ho] at h
    simp only [Bool.and_eq_true, decide_eq_true_eq] at h
    exact h
  clear hal
  unfold phChk at hph
  simp only [List.all_eq_true, List.mem_range] at hph
  have back : ∀ i o, ops[i]? = some o → ∀ e ∈ o.after, Region.binds .any e = true → e.on < i := fun i o ho e he hb => by
    have hi := (Array.getElem?_eq_some_iff.1 ho).1
    have h := c1 i hi
    rw [ho] at h
    simp only [Option.map_some, Option.getD_some, Array.all_eq_true_iff_forall_mem] at h
    have := h e he
    simpa [hb] using this
  have dlt : ∀ i, i < ops.size → ∀ d, dstAt ops i = some d → d < a0.tmps.size := fun i hi d hd => by
    have h := c2 i hi
    rw [hd] at h
    simp only [Bool.and_eq_true, decide_eq_true_eq] at h
    exact h.1
  have dne : ∀ i, i < ops.size → ∀ j, j < i → ∀ d, dstAt ops i = some d → dstAt ops j ≠ some d := fun i hi j hj d hd => by
    have h := c2 i hi
    rw [hd] at h
    simp only [Bool.and_eq_true, List.all_eq_true, List.mem_range] at h
    have := h.2 j hj
    simpa using this
  have dinj : ∀ i j d, i < ops.size → j < ops.size → dstAt ops i = some d → dstAt ops j = some d → i = j := fun i j d hi hj h1 h2 => by
    rcases Nat.lt_trichotomy i j with h | h | h
    · exact absurd h1 (dne j hj i h d h2)
    · exact h
    · exact absurd h2 (dne i hi j h d h1)
  have look : ∀ i o, i < ops.size → ops[i]? = some o → ∀ j want, o.guard = some (j, want) → j < ops.size ∧ waitsFor o j = true ∧ ∃ d, dstAt ops j = some d := fun i o hi ho j want hgd => by
    have h := c3 i hi
    rw [ho] at h
    simp only [Option.map_some, Option.getD_some, hgd, Bool.and_eq_true, decide_eq_true_eq] at h
    exact ⟨h.1.1, h.1.2, Option.isSome_iff_exists.1 h.2⟩
  clear c1 c2 c3
  have main : ∀ m listed a x w, count listed ops.size = m → InvPA ops ops.size Φ V U rig ph al a0 listed a x w → wpAny P .any ops Q m listed a w := by
    intro m
    induction m with
    | zero =>
      intro listed a x w hm0 I
      have hl : listed = Array.replicate ops.size true := by
        apply Array.ext_getElem?
        intro k
        by_cases hk : k < ops.size
        · have hks : k < listed.size := by rw [I.size]; exact hk
          rw [Array.getElem?_eq_getElem hks, Array.getElem?_replicate, if_pos hk]
          have e : listed.getD k false = listed[k] := by simp [Array.getD, hks]
          rw [← e, count_zero listed _ hm0 k hk]
        · rw [Array.getElem?_eq_none (by rw [I.size]; omega), Array.getElem?_replicate, if_neg hk]
      have hwc : (wildCount U ops.size fun i => listed.getD i false) = wildCount U ops.size fun _ => true := wildCount_congr fun i hi _ => count_zero listed _ hm0 i hi
      have ha : a = puts ops x ops.size a0 := by
        obtain ⟨p1, p2, p3, p4⟩ := puts_get x a0 ops.size dne dlt
        have ht : a.tmps = (puts ops x ops.size a0).tmps := by
          apply Array.ext_getElem?
          intro k
          by_cases hk : ∃ i, i < ops.size ∧ dstAt ops i = some k
          · obtain ⟨i, hi, hd⟩ := hk
            rw [(I.at_ i hi (count_zero listed _ hm0 i hi)).2 k hd, p3 i hi k hd]
          · rw [I.out k fun i hi _ hd => hk ⟨i, hi, hd⟩, p4 k fun i hi hd => hk ⟨i, hi, hd⟩]
        have hd : a.defers = (puts ops x ops.size a0).defers := I.defers.trans p1.symm
        generalize puts ops x ops.size a0 = b at *
        cases a; cases b; simp only at ht hd; subst ht hd; rfl
      have hat := fun i hi => (I.at_ i hi (count_zero listed _ hm0 i hi)).1
      have hrel := I.rel
      rw [hwc] at hat hrel
      rw [hl, ha]
      refine wpAny_of_held _ _ _ _ (S := fun _ => True) ?_
      exact hrest x w hrel hat fun i hi => I.ali i hi (count_zero listed _ hm0 i hi)
    | succ m ih =>
      intro listed a x w hm1 I
      have hgd : ∀ k, k < ops.size → listed.getD k true = listed.getD k false := fun k hk => by simp [Array.getD, show k < listed.size by rw [I.size]; exact hk]
      refine ⟨fun hr => ?_, fun i hi => ?_⟩
      · exfalso
        obtain ⟨i, hio, hif, hbelow⟩ := count_pos listed _ m hm1
        have : i ∈ Region.ready .any ops listed := mem_ready.2 ⟨by rw [hgd i hio]; exact hif, ops[i], Array.getElem?_eq_getElem hio, fun e he hb => hbelow e.on (back i _ (Array.getElem?_eq_getElem hio) e he hb)⟩
        rw [hr] at this
        cases this
      · obtain ⟨hun, o, ho, hall⟩ := mem_ready.1 hi
        have hio : i < ops.size := (Array.getElem?_eq_some_iff.1 ho).1
        have hif : listed.getD i false = false := by rw [← hgd i hio]; exact hun
        have hilt : i < listed.size := by rw [I.size]; exact hio
        have hdo : dstAt ops i = o.dst := by simp [dstAt, ho]
        -- the phase
        have hphase : ∀ p, ph i = some p → (wildCount U ops.size fun k => listed.getD k false) = p := fun p hp => by
          have h := hph i hio
          rw [hp] at h
          simp only [Bool.and_eq_true, beq_iff_eq, List.all_eq_true, List.mem_range, Bool.or_eq_true, Bool.not_eq_true'] at h
          obtain ⟨hc, hu⟩ := h
          rw [← hc]
          refine wildCount_congr fun u hul hwild => ?_
          have h2 := hu u hul
          by_cases hui : u = i
          · subst hui; rw [hif]; simp
          · have hne : (u != i) = true := bne_iff_ne.2 hui
            rw [hne, Bool.true_and]
            cases hanc : (ancOf ops i).getD u false with
            | true =>
              have hL : ∀ k, ((Array.replicate ops.size false).setIfInBounds i true).getD k false = true → k = i ∨ listed.getD k false = true := fun k hk => by
                rw [getD_set _ _ _ (by simpa using hio)] at hk
                by_cases hik : i = k
                · exact .inl hik.symm
                · rw [if_neg hik] at hk
                  simp [Array.getD] at hk
              have hcl : ∀ k o', ops[k]? = some o' → (k = i ∨ listed.getD k false = true) → ∀ e ∈ o'.after, Region.binds .any e = true → (e.on = i ∨ listed.getD e.on false = true) := fun k o' ho' hk e he hb => by
                rcases hk with rfl | hk
                · rw [ho] at ho'; injection ho' with ho'; subst ho'
                  exact .inr (hall e he hb)
                · exact .inr (I.closed k o' ho' hk e he hb)
              have := anc_sound (L := fun k => k = i ∨ listed.getD k false = true) hcl _ _ hL u hanc
              rcases this with h | h
              · exact absurd h hui
              · exact h
            | false =>
              rw [hwild, hanc] at h2
              have hju : (ancOf ops u).getD i false = true := by
                rcases h2 with ((h | h) | h) | h
                · cases h
                · cases h
                · exact absurd h hui
                · exact h
              cases hlu : listed.getD u false with
              | false => rfl
              | true =>
                have hL : ∀ k, ((Array.replicate ops.size false).setIfInBounds u true).getD k false = true → listed.getD k false = true := fun k hk => by
                  rw [getD_set _ _ _ (by simpa using hul)] at hk
                  by_cases hik : u = k
                  · subst hik; exact hlu
                  · rw [if_neg hik] at hk
                    simp [Array.getD] at hk
                have := anc_sound (L := fun k => listed.getD k false = true) I.closed _ _ hL i hju
                rw [hif] at this; cases this
        have next : ∀ v w', (match ph i with | none => w' = w | some p => if U i && G i then Φ (p + 1) w' else K w w' ∨ w' = w) → (U i = true → G i = true ∧ (ph i).isSome = true) → V i v w' → Al al i x v → InvPA ops ops.size Φ V U rig ph al a0 (listed.setIfInBounds i true) (a.put o.dst v) (fun k => if k = i then v else x k) w' := by
          intro v w' hR hUG hV hA
          have hcnt : (wildCount U ops.size fun k => (listed.setIfInBounds i true).getD k false) = (wildCount U ops.size fun k => listed.getD k false) + if U i then 1 else 0 := by
            cases hu : U i with
            | true =>
              rw [if_pos rfl]
              exact wildCount_step (j := i) hif (by rw [getD_set _ _ _ hilt, if_pos rfl]) hu (fun k hk => by rw [getD_set _ _ _ hilt, if_neg (fun e => hk e.symm)]) _ hio
            | false =>
              rw [if_neg (by decide), Nat.add_zero]
              exact wildCount_same hu (fun k hk => by rw [getD_set _ _ _ hilt, if_neg (fun e => hk e.symm)]) _
          have hmild : U i = false → K w w' ∨ w' = w := fun hu => by
            revert hR
            cases hp : ph i with
            | none => exact fun h => .inr h
            | some p => intro h; simp only [hu, Bool.false_and] at h; simpa using h
          have hsoft : ∀ k, k < ops.size → listed.getD k false = true → k ≠ i → (rig k = true ∨ phAfter U ph k = some (wildCount U ops.size fun k => (listed.setIfInBounds i true).getD k false)) → V k (x k) w' := fun k hk hkl hki hor => by
            have hle := I.le k hk hkl
            rcases hor with h | h
            · exact hrig k hk h _ _ _ ((I.at_ k hk hkl).1 (.inl h))
            · cases hu : U i with
              | true =>
                rw [hcnt, hu, if_pos rfl] at h
                have := hle _ h
                omega
              | false =>
                rw [hcnt, hu, if_neg (by decide), Nat.add_zero] at h
                have h1 := (I.at_ k hk hkl).1 (.inr h)
                rcases hmild hu with h2 | h2
                · exact hKV k hk _ _ _ h1 h2
                · rw [h2]; exact h1
          refine ⟨by simp [I.size], fun k o' ho' hk e he hb => ?_, ?_, fun k hk hkl q hq => ?_, ?_, ?_, fun k hk hkl => ?_, fun k hk => ?_, fun k hk hkl j hj => ?_⟩
          · rw [getD_set _ _ _ hilt] at hk ⊢
            by_cases hei : i = e.on
            · rw [if_pos hei]
            · rw [if_neg hei]
              by_cases hik : i = k
              · subst hik
                rw [ho] at ho'; injection ho' with ho'; subst ho'
                exact hall e he hb
              · rw [if_neg hik] at hk
                exact I.closed k o' ho' hk e he hb
          · rw [hcnt]
            cases hu : U i with
            | true =>
              obtain ⟨hGi, hps⟩ := hUG hu
              obtain ⟨p, hp⟩ := Option.isSome_iff_exists.1 hps
              rw [hp] at hR
              simp only [hu, hGi, Bool.and_self, if_true] at hR
              rw [hphase p hp]
              exact hR
            | false =>
              rw [if_neg (by decide), Nat.add_zero]
              rcases hmild hu with h | h
              · exact hKΦ _ _ _ I.rel h
              · rw [h]; exact I.rel
          · rw [hcnt]
            rw [getD_set _ _ _ hilt] at hkl
            by_cases hki : k = i
            · subst hki
              unfold phAfter at hq
              obtain ⟨p, hp, hq⟩ := Option.map_eq_some_iff.1 hq
              rw [hphase p hp, ← hq]
              cases U k <;> simp
            · rw [if_neg (fun e => hki e.symm)] at hkl
              have := I.le k hk hkl q hq
              omega
          · cases hd : o.dst <;> simp [Act.put, I.defers]
          · cases hd : o.dst <;> simp [Act.put, I.tsize]
          · rw [getD_set _ _ _ hilt] at hkl
            by_cases hki : k = i
            · subst hki
              refine ⟨fun _ => by rw [if_pos rfl]; exact hV, fun d hd => ?_⟩
              rw [if_pos rfl]
              have hlt := dlt k hio d hd
              rw [hdo] at hd
              simp [Act.put, hd, I.tsize, hlt]
            · rw [if_neg (fun e => hki e.symm)] at hkl
              refine ⟨fun hor => by rw [if_neg hki]; exact hsoft k hk hkl hki hor, fun d hd => ?_⟩
              rw [if_neg hki]
              have h2 := (I.at_ k hk hkl).2
              cases hd2 : o.dst with
              | none => simp only [Act.put]; exact h2 d hd
              | some di =>
                have hne : di ≠ d := fun e => hki (dinj k i d hk hio hd (by rw [hdo, hd2, e]))
                simp only [Act.put]
                rw [Array.getElem?_setIfInBounds_ne hne]
                exact h2 d hd
          · have hki := hk i hio (by rw [getD_set _ _ _ hilt, if_pos rfl])
            have hout := I.out k fun j hj hl => hk j hj (by rw [getD_set _ _ _ hilt]; split <;> simp_all)
            cases hd2 : o.dst with
            | none => simp only [Act.put]; exact hout
            | some di =>
              have hne : di ≠ k := fun e => hki (by rw [hdo, hd2, e])
              simp only [Act.put]
              rw [Array.getElem?_setIfInBounds_ne hne]
              exact hout
          · rw [getD_set _ _ _ hilt] at hkl
            have hjl : ∀ o', ops[k]? = some o' → (∀ e ∈ o'.after, Region.binds .any e = true → listed.getD e.on false = true) → listed.getD j false = true := fun o' ho' hcl => by
              have hw := (hal2 k o' ho' j hj).2
              unfold waitsFor at hw
              rw [Array.any_eq_true] at hw
              obtain ⟨t, ht, he⟩ := hw
              simp only [Bool.and_eq_true, beq_iff_eq] at he
              have hl := hcl o'.after[t] (Array.getElem_mem ht) he.1
              rw [he.2] at hl
              exact hl
            by_cases hki : k = i
            · subst hki
              have hji : j ≠ k := fun e => by have := hjl o ho hall; rw [e, hif] at this; cases this
              rw [if_pos rfl, if_neg hji]
              exact hA j hj
            · rw [if_neg (fun e => hki e.symm)] at hkl
              obtain ⟨o', ho'⟩ : ∃ o', ops[k]? = some o' := ⟨_, Array.getElem?_eq_getElem hk⟩
              have hji : j ≠ i := fun e => by have := hjl o' ho' (I.closed k o' ho' hkl); rw [e, hif] at this; cases this
              rw [if_neg hki, if_neg hji]
              exact I.ali k hk hkl j hj
        have hcount : count (listed.setIfInBounds i true) ops.size = m := by have := count_set listed i hilt hif ops.size hio; omega
        have waits : ∀ j, waitsFor o j = true → listed.getD j false = true := fun j hwj => by
          unfold waitsFor at hwj
          rw [Array.any_eq_true] at hwj
          obtain ⟨k, hk, he⟩ := hwj
          simp only [Bool.and_eq_true, beq_iff_eq] at he
          have hl := hall o.after[k] (Array.getElem_mem hk) he.1
          rw [he.2] at hl
          exact hl
        have known : KnownP ops ops.size V U rig ph (ph i) a x w o := fun j hwj hj => by
          obtain ⟨h1, h2⟩ := I.at_ j hj (waits j hwj)
          refine ⟨fun hor => h1 ?_, h2⟩
          rcases hor with h | ⟨hs1, h⟩
          · exact .inl h
          · obtain ⟨p, hp⟩ := Option.isSome_iff_exists.1 hs1
            rw [hphase p hp, ← hp]
            exact .inr h
        have outer : ∀ t, noDstF ops ops.size i t = true → a.tmps[t]? = a0.tmps[t]? := fun t ht => by
          unfold noDstF at ht
          simp only [List.all_eq_true, List.mem_range] at ht
          refine I.out t fun j hj hlj hd => ?_
          have h2 := ht j hj
          rw [hd] at h2
          simp only [bne_self_eq_false, Bool.false_or, Bool.and_eq_true] at h2
          have hL : ∀ k, ((Array.replicate ops.size false).setIfInBounds j true).getD k false = true → listed.getD k false = true := fun k hk => by
            rw [getD_set _ _ _ (by simpa using hj)] at hk
            by_cases hjk : j = k
            · subst hjk; exact hlj
            · rw [if_neg hjk] at hk
              simp [Array.getD] at hk
          have h3 := anc_sound (L := fun k => listed.getD k false = true) I.closed _ _ hL i h2.2
          rw [hif] at h3; cases h3
        have step := hs i o ho hio a x w outer known
        have hwant : Region.wanted o (yielded ops a.tmps) = G i := by
          have hgi := hg i o ho hio
          unfold GuardP at hgi
          unfold Region.wanted
          cases hgd2 : o.guard with
          | none => rw [hgd2] at hgi; exact hgi.symm
          | some jw =>
            obtain ⟨j, want⟩ := jw
            rw [hgd2] at hgi
            simp only at hgi ⊢
            obtain ⟨hj, hwj, d, hd⟩ := look i o hio ho j want hgd2
            obtain ⟨h1, h2⟩ := I.at_ j hj (waits j hwj)
            have hv := hgi.2 _ _ (h1 (.inl hgi.1))
            have ht := h2 d hd
            rcases hv with hv | ⟨hv, hG0⟩
            · rw [hv] at ht
              unfold dstAt at hd
              simp only [yielded, hd, Option.bind_some, ht]
              cases want <;> cases G i <;> rfl
            · rw [hv] at ht
              unfold dstAt at hd
              simp only [yielded, hd, Option.bind_some, ht]
              rw [hG0]; rfl
        unfold wpOp
        simp only [ho, hwant]
        cases hp : ph i with
        | none =>
          rw [hp] at step
          simp only at step
          have step := step ⟨_, I.rel⟩
          have hU : U i = false := by
            have h := hph i hio
            rw [hp] at h
            simp only [Bool.and_eq_true, Bool.not_eq_true'] at h
            exact h.1
          by_cases hGi : G i = true
          · rw [if_pos hGi] at step ⊢
            exact .inl (step _ _ fun v w' ⟨hR, hV, hA⟩ => ih _ _ _ w' hcount (next v w' (by rw [hp]; exact hR) (fun h => by rw [hU] at h; cases h) hV hA))
          · rw [if_neg hGi] at step ⊢
            exact ih _ _ _ w hcount (next undef w (by rw [hp]) (fun h => by rw [hU] at h; cases h) step.1 step.2)
        | some p =>
          rw [hp] at step
          simp only at step
          have hΦ : Φ p w := by rw [← hphase p hp]; exact I.rel
          have step := step hΦ
          by_cases hGi : G i = true
          · rw [if_pos hGi] at step ⊢
            refine .inl (step _ _ fun v w' ⟨hR, hV, hA⟩ => ih _ _ _ w' hcount (next v w' ?_ (fun _ => ⟨hGi, by rw [hp]; rfl⟩) hV hA))
            rw [hp, hGi, Bool.and_true]
            cases hu : U i with
            | true => rw [hu] at hR; simpa using hR
            | false => rw [hu] at hR; simp only [Bool.false_eq_true, if_false] at hR ⊢; exact .inl hR
          · rw [if_neg hGi] at step ⊢
            obtain ⟨hU, hV, hA⟩ := step
            exact ih _ _ _ w hcount (next undef w (by rw [hp, hU]; exact .inr rfl) (fun h => by rw [hU] at h; cases h) hV hA)
  have hcount : count (Array.replicate ops.size false) ops.size = ops.size := by
    unfold count
    have e : (List.range ops.size).filter (fun i => !(Array.replicate ops.size false).getD i false) = List.range ops.size := by
      refine List.filter_eq_self.2 fun i hi => ?_
      simp [Array.getD]
    rw [e, List.length_range]
  have hz : (wildCount U ops.size fun i => (Array.replicate ops.size false).getD i false) = 0 := by
    unfold wildCount
    have e : (List.range ops.size).filter (fun i => U i && (Array.replicate ops.size false).getD i false) = [] := by
      refine List.filter_eq_nil_iff.2 fun i hi => ?_
      simp [Array.getD]
    rw [e]; rfl
  exact main ops.size (Array.replicate ops.size false) a0 (fun _ => undef) w1 hcount ⟨by simp, fun k o _ hk => by simp [Array.getD] at hk, by rw [hz]; exact h0, fun i _ hl => by simp [Array.getD] at hl, rfl, rfl, fun i _ hl => by simp [Array.getD] at hl, fun k _ => rfl, fun i _ hl => by simp [Array.getD] at hl⟩
end
section
variable {P : Program} {ops : Array Oper} {n : Nat} {K : World → World → Prop} {Φ : Nat → World → Prop} {V : Nat → Value → World → Prop} {G U rig : Nat → Bool} {ph : Nat → Option Nat} {a0 a : Act} {w : World} {x : Nat → Value} {o : Oper} {l : List Oper} {i : Nat} {al : Nat → Option Nat}
theorem alla_old (ha : al i = none) (h : StepP P ops n K Φ V G U rig ph a0 i o) (t : All (StepPA P ops n K Φ V G U rig ph al a0) n l (i + 1)) : All (StepPA P ops n K Φ V G U rig ph al a0) n (o :: l) i :=
  all_cons (fun a x w h1 h2 => by
    have hA : ∀ v, Al al i x v := fun v j hj => by rw [ha] at hj; cases hj
    have h3 := h a x w h1 h2
    cases hp : ph i with
    | none =>
      rw [hp] at h3
      simp only at h3 ⊢
      intro hΦ
      have h4 := h3 hΦ
      by_cases hG : G i = true
      · rw [if_pos hG] at h4 ⊢
        intro k q hk
        exact h4 k q fun v w' hv => hk v w' ⟨hv.1, hv.2, hA v⟩
      · rw [if_neg hG] at h4 ⊢
        exact ⟨h4, hA _⟩
    | some p =>
      rw [hp] at h3
      simp only at h3 ⊢
      intro hΦ
      have h4 := h3 hΦ
      by_cases hG : G i = true
      · rw [if_pos hG] at h4 ⊢
        intro k q hk
        exact h4 k q fun v w' hv => hk v w' ⟨hv.1, hv.2, hA v⟩
      · rw [if_neg hG] at h4 ⊢
        exact ⟨h4.1, h4.2, hA _⟩) t
theorem step_pure (hp : ph i = none) (hG : G i = true) (h : ∀ (a : Act) (x : Nat → Value) (w : World), (∀ t, noDstF ops n i t = true → a.tmps[t]? = a0.tmps[t]?) → KnownP ops n V U rig ph none a x w o → Does P o a w (fun v w' => w' = w ∧ V i v w')) : StepP P ops n K Φ V G U rig ph a0 i o :=
  fun a x w h1 h2 => by rw [hp] at h2 ⊢; simp only; intro _; rw [if_pos hG]; exact h a x w h1 h2
theorem step_any (hp : ph i = none) (hG : G i = true) (h : ∀ (a : Act) (x : Nat → Value) (w : World), (∀ t, noDstF ops n i t = true → a.tmps[t]? = a0.tmps[t]?) → KnownP ops n V U rig ph none a x w o → (∃ p, Φ p w) → Does P o a w (fun v w' => w' = w ∧ V i v w')) : StepP P ops n K Φ V G U rig ph a0 i o :=
  fun a x w h1 h2 => by rw [hp] at h2 ⊢; simp only; intro hΦ; rw [if_pos hG]; exact h a x w h1 h2 hΦ
theorem step_mild (p : Nat) (hp : ph i = some p) (hU : U i = false) (hG : G i = true) (h : ∀ (a : Act) (x : Nat → Value) (w : World), (∀ t, noDstF ops n i t = true → a.tmps[t]? = a0.tmps[t]?) → KnownP ops n V U rig ph (some p) a x w o → Φ p w → Does P o a w (fun v w' => K w w' ∧ V i v w')) : StepP P ops n K Φ V G U rig ph a0 i o :=
  fun a x w h1 h2 => by
    rw [hp] at h2 ⊢; simp only; intro hΦ
    rw [if_pos hG, hU]
    intro k q hk
    exact h a x w h1 h2 hΦ k q fun v w' hv => hk v w' ⟨by rw [if_neg (by decide)]; exact hv.1, hv.2⟩
theorem step_wild (p : Nat) (hp : ph i = some p) (hU : U i = true) (hG : G i = true) (h : ∀ (a : Act) (x : Nat → Value) (w : World), (∀ t, noDstF ops n i t = true → a.tmps[t]? = a0.tmps[t]?) → KnownP ops n V U rig ph (some p) a x w o → Φ p w → Does P o a w (fun v w' => Φ (p + 1) w' ∧ V i v w')) : StepP P ops n K Φ V G U rig ph a0 i o :=
  fun a x w h1 h2 => by
    rw [hp] at h2 ⊢; simp only; intro hΦ
    rw [if_pos hG, hU]
    intro k q hk
    exact h a x w h1 h2 hΦ k q fun v w' hv => hk v w' ⟨by rw [if_pos rfl]; exact hv.1, hv.2⟩
theorem step_skip (hG : G i = false) (hU : U i = false) (h : ∀ w, V i undef w) : StepP P ops n K Φ V G U rig ph a0 i o :=
  fun a x w h1 _ => by
    cases hp : ph i with
    | none => simp only; intro _; rw [if_neg (by rw [hG]; decide)]; exact h w
    | some p => simp only; intro _; rw [if_neg (by rw [hG]; decide)]; exact ⟨hU, h w⟩
theorem alla_wild (p : Nat) (hp : ph i = some p) (hU : U i = true) (hG : G i = true) (h : ∀ (a : Act) (x : Nat → Value) (w : World), (∀ t, noDstF ops n i t = true → a.tmps[t]? = a0.tmps[t]?) → KnownP ops n V U rig ph (some p) a x w o → Φ p w → Does P o a w (fun v w' => Φ (p + 1) w' ∧ V i v w' ∧ Al al i x v))
    (t : All (StepPA P ops n K Φ V G U rig ph al a0) n l (i + 1)) : All (StepPA P ops n K Φ V G U rig ph al a0) n (o :: l) i :=
  all_cons (fun a x w h1 h2 => by
    rw [hp] at h2 ⊢; simp only; intro hΦ
    rw [if_pos hG, hU]
    intro k q hk
    exact h a x w h1 h2 hΦ k q fun v w' hv => hk v w' ⟨by rw [if_pos rfl]; exact hv.1, hv.2⟩) t
theorem al_one {j : Nat} (ha : al i = some j) {v : Value} (h : v = x j) : Al al i x v := fun k hk => by rw [ha] at hk; injection hk with hk; rw [← hk]; exact h
end
theorem wp_region_phas {P : Program} {Q : Exit → Act → World → Prop} {id : Nat} {l : List Oper} {a0 : Act} {w0 : World} (Vl : List (Value → World → Prop)) (rl : List Bool) (Fl : List (World → Prop)) (Ul : List Bool) (pl : List (Option Nat)) (al : List (Option Nat)) (ds : List (Option Tmp)) (n m : Nat) (G : Nat → Bool)
    (hN : l.length = n) (hds : l.map (·.dst) = ds) (hm : P.follows .mixedOrders = true) (hchk : chk l.toArray n a0.tmps.size = true) (hph : phChk l.toArray n (fun i => Ul.getD i false) (fun i => pl.getD i none) (fun i => rl.getD i false) = true) (hal : alChk l.toArray n (fun i => al.getD i none) = true) (hmm : wildCount (fun i => Ul.getD i false) n (fun _ => true) = m)
    (hF : WOk Fl) (hV : VOk Vl rl) (h0 : Wl Fl 0 w0.drew)
    (hguard : All (GuardP (Vs Vl) G (fun i => rl.getD i false)) n l 0) (hstep : All (StepPA P l.toArray n Same (Wl Fl) (Vs Vl) G (fun i => Ul.getD i false) (fun i => rl.getD i false) (fun i => pl.getD i none) (fun i => al.getD i none) a0) n l 0)
    (hrest : ∀ (x : Nat → Value) (w : World), Wl Fl m w → (∀ i, i < n → rl.getD i false = true ∨ phAfter (fun i => Ul.getD i false) (fun i => pl.getD i none) i = some m → Vs Vl i (x i) w) → (∀ i, i < n → ∀ j, al.getD i none = some j → x i = x j) → wpAnyH P .any l.toArray Q (fun _ => True) 0 (Array.replicate n true) (putL ds x 0 a0) w) :
    (Code.region id l.toArray true).wp P Q a0 w0 := by
  subst hN hds hmm
  refine wp_region_pha l.length rfl hm hchk hph hal (fun p w w' => wok_at hF p w w') (fun i _ => (vok_at hV i).2) (fun i _ => (vok_at hV i).1) h0 hguard hstep fun x w h1 h2 h3 => ?_
  have e : puts l.toArray x l.length a0 = putL (l.map (·.dst)) x 0 a0 := by
    have := puts_eq l x a0 l.length (Nat.le_refl _)
    rwa [List.take_of_length_le (by simp)] at this
  rw [e]
  exact hrest x w h1 h2 h3
end Go.Proofs.YtobklbfcnbmnmaaDoor

/- Literals of structs and of slices of structs: their cells, side by side. No function of the program is named here. -/
set_option maxRecDepth 4000
namespace Go.Proofs.YtobklbfcnbmnmaaDoor
open Go Go.RowKit
theorem spl_spl {α : Type} (L : List α) (o : Nat) (a b : List α) (h : o + a.length + b.length ≤ L.length) : spl (spl L o a) (o + a.length) b = spl L o (a ++ b) := by
  unfold spl
  have e1 : (L.take o).length = o := by rw [List.length_take]; omega
  have e2 : (L.take o ++ a).length = o + a.length := by rw [List.length_append, e1]
  rw [← e2, List.take_left, e2, List.length_append, ← List.append_assoc, ← Nat.add_assoc]
  congr 1
  rw [show o + a.length + b.length = (L.take o ++ a).length + b.length by rw [e2], List.drop_length_add_append, List.drop_drop, e2]
theorem fill_set (off : Nat) (v : Array Value) (cells : Array Value) (h : off + v.size ≤ cells.size) : v.zipIdx.foldl (fun cs (x : Value × Nat) => cs.setIfInBounds (off + x.2) x.1) cells = (spl cells.toList off v.toList).toArray := by
  rw [← Array.foldl_toList, Array.toList_zipIdx]
  obtain ⟨h1, h2⟩ := Great.foldl_set off v.toList 0 cells
  apply Array.ext_getElem?
  intro k
  rw [h2 k, Nat.add_zero]
  have hL : cells.toList.length = cells.size := Array.length_toList
  have hv : v.toList.length = v.size := Array.length_toList
  have e1 : (cells.toList.take off).length = off := by rw [List.length_take]; omega
  rw [show (spl cells.toList off v.toList).toArray[k]? = (spl cells.toList off v.toList)[k]? from List.getElem?_toArray]
  unfold spl
  by_cases hk : off ≤ k
  · by_cases hk2 : k < off + v.size
    · rw [if_pos ⟨hk, by omega, by omega⟩, List.getElem?_append_left (by rw [List.length_append, e1]; omega), List.getElem?_append_right (by omega), e1]
    · rw [if_neg (by omega), List.getElem?_append_right (by rw [List.length_append, e1]; omega), List.getElem?_drop, List.length_append, e1, hv]
      rw [show off + v.size + (k - (off + v.size)) = k by omega]; simp
  · rw [if_neg (by omega), List.append_assoc, List.getElem?_append_left (by omega), List.getElem?_take, if_pos (by omega)]; simp
theorem fill_parts (place : Nat → Option (Nat × Nat)) : ∀ (vs : List Value) (i0 off : Nat) (cells : Array Value),
    (∀ k v, vs[k]? = some v → place (i0 + k) = some (off + ((vs.take k).map (·.cells.size)).sum, v.cells.size)) → off + (vs.map (·.cells.size)).sum ≤ cells.size →
    Instr.fill place cells ((vs.zipIdx i0).map fun x => (x.2, x.1)) = some (spl cells.toList off (vs.flatMap fun v => v.cells.toList)).toArray
  | [], _, off, cells, _, _ => by simp [Instr.fill, spl]
  | v :: vs, i0, off, cells, hp, hs => by
    simp only [List.map_cons, List.sum_cons] at hs
    have h0 := hp 0 v rfl
    simp only [List.take_zero, List.map_nil, List.sum_nil, Nat.add_zero] at h0
    have hL : cells.toList.length = cells.size := Array.length_toList
    have hv : v.cells.toList.length = v.cells.size := Array.length_toList
    have e := fill_set off v.cells cells (by omega)
    have h9 := length_spl cells.toList off v.cells.toList (by omega)
    have h8 : (spl cells.toList off v.cells.toList).toArray.size = (spl cells.toList off v.cells.toList).length := List.size_toArray
    have ih := fill_parts place vs (i0 + 1) (off + v.cells.size) (spl cells.toList off v.cells.toList).toArray (fun k u hu => by
      have := hp (k + 1) u (by simpa using hu)
      rw [show i0 + 1 + k = i0 + (k + 1) by omega, this]
      simp [Nat.add_assoc]) (by rw [h8, h9]; omega)
    simp only [List.zipIdx_cons, List.map_cons, Instr.fill, h0]
    have hno : (decide (v.cells.size ≠ v.cells.size) || decide (off + v.cells.size > cells.size)) = false := by
      rw [decide_eq_false (by simp), decide_eq_false (by omega)]; rfl
    rw [if_neg (by simp; omega), e, ih]
    congr 2
    simp only [List.flatMap_cons]
    have hfl : (vs.flatMap fun v => v.cells.toList).length = (vs.map (·.cells.size)).sum := by simp [List.length_flatMap]
    rw [← hv, spl_spl _ _ _ _ (by omega)]
/- a slice literal of one element of several cells -/
theorem wp_buildOne {P : Program} {o : Oper} {a : Act} {w : World} {K : Act → World → Prop} {Q : Exit → Act → World → Prop} (t e : TypeId) (x : Operand) (ho : o.op = .buildSlice t 1 #[(0, x)]) (cells : Array Value) (z : Value) (sz : Nat) (hx : a.eval x = .agg cells)
    (hu : P.underlying t = some (.slice e)) (hie : (P.info? e).map (fun i => (i.zero, i.size)) = some (some z, sz)) (hc : cells.size = sz) (hpos : 0 < sz) (hsmall : sz ≤ 2 ^ 24)
    (h : K (a.put o.dst (.slice (some ⟨w.heap.size, 0, none⟩) 1 1)) (w.alloc (.cells cells e))) : o.wp P a w K Q := by
  obtain ⟨ie, hi, he⟩ := Option.map_eq_some_iff.1 hie
  injection he with hz hsz
  refine wp_buildSlice t e 1 _ ho cells ie z hu hi hz (by rw [hsz]; omega) (by rw [hsz]; omega) ?_ h
  have hf := fill_parts (fun i => some (i * ie.size, ie.size)) [.agg cells] 0 0 ((Array.range (1 * ie.size)).map (z.cells[· % z.cells.size]!)) (fun k v hk => by
    match k, hk with
    | 0, hk => obtain rfl : Value.agg cells = v := by simpa using hk
               simp [Value.cells, hsz, hc]) (by simp [Value.cells, hsz, hc])
  have e1 : (#[(0, x)].map fun (i, x) => (i, a.eval x)).toList = (([Value.agg cells].zipIdx 0).map fun x => (x.2, x.1)) := by simp [hx]
  rw [e1, hf]
  congr 1
  have e2 : ([Value.agg cells].flatMap fun v => v.cells.toList) = cells.toList := by simp [Value.cells]
  rw [e2]
  apply Array.ext'
  unfold spl
  simp [hsz, hc]
/- of two -/
theorem wp_buildTwo {P : Program} {o : Oper} {a : Act} {w : World} {K : Act → World → Prop} {Q : Exit → Act → World → Prop} (t e : TypeId) (x y : Operand) (ho : o.op = .buildSlice t 2 #[(0, x), (1, y)]) (c1 c2 : Array Value) (z : Value) (sz : Nat) (hx : a.eval x = .agg c1) (hy : a.eval y = .agg c2)
    (hu : P.underlying t = some (.slice e)) (hie : (P.info? e).map (fun i => (i.zero, i.size)) = some (some z, sz)) (hc1 : c1.size = sz) (hc2 : c2.size = sz) (hpos : 0 < sz) (hsmall : sz ≤ 2 ^ 20)
    (h : K (a.put o.dst (.slice (some ⟨w.heap.size, 0, none⟩) 2 2)) (w.alloc (.cells (c1.toList ++ c2.toList).toArray e))) : o.wp P a w K Q := by
  obtain ⟨ie, hi, he⟩ := Option.map_eq_some_iff.1 hie
  injection he with hz hsz
  refine wp_buildSlice t e 2 _ ho (c1.toList ++ c2.toList).toArray ie z hu hi hz (by rw [hsz]; omega) (by rw [hsz]; omega) ?_ h
  have hf := fill_parts (fun i => some (i * ie.size, ie.size)) [.agg c1, .agg c2] 0 0 ((Array.range (2 * ie.size)).map (z.cells[· % z.cells.size]!)) (fun k v hk => by
    match k, hk with
    | 0, hk => obtain rfl : Value.agg c1 = v := by simpa using hk
               simp [Value.cells, hsz, hc1]
    | 1, hk => obtain rfl : Value.agg c2 = v := by simpa using hk
               simp [Value.cells, hsz, hc1, hc2]) (by simp [Value.cells, hsz, hc1, hc2]; omega)
  have e1 : (#[(0, x), (1, y)].map fun (i, x) => (i, a.eval x)).toList = (([Value.agg c1, Value.agg c2].zipIdx 0).map fun x => (x.2, x.1)) := by simp [hx, hy]
  rw [e1, hf]
  congr 1
  have e2 : ([Value.agg c1, Value.agg c2].flatMap fun v => v.cells.toList) = c1.toList ++ c2.toList := by simp [Value.cells]
  rw [e2]
  apply Array.ext'
  unfold spl
  have h4 : (c1.toList ++ c2.toList).length = 2 * ie.size := by rw [List.length_append, Array.length_toList, Array.length_toList, hc1, hc2, hsz]; omega
  rw [List.take_zero, List.nil_append, List.drop_of_length_le (by rw [h4]; simp), List.append_nil]
/- a struct literal of which every field is given, in order -/
def placesOf (P : Program) (t : TypeId) : Option (Nat × List (Nat × Nat)) :=
  match P.info? t, P.underlying t with
  | some it, some (.struct fields) =>
    match it.zero, fields.toList.mapM (fun f => (P.info? f.type).map fun i => (f.offset, i.size)) with
    | some z, some places => some (z.cells.size, places)
    | _, _ => none
  | _, _ => none
def fits : Nat → List Nat → List (Nat × Nat) → Bool
  | _, [], [] => true
  | o, s :: ss, (o', s') :: ps => o == o' && s == s' && fits (o + s) ss ps
  | _, _, _ => false
theorem fits_at : ∀ (ss : List Nat) (o : Nat) (ps : List (Nat × Nat)), fits o ss ps = true → ∀ (k s : Nat), ss[k]? = some s → ps[k]? = some (o + (ss.take k).sum, s)
  | [], _, _, _, k, s, h => by simp at h
  | s0 :: ss, o, [], h, _, _, _ => by simp [fits] at h
  | s0 :: ss, o, (o', s') :: ps, h, 0, s, hk => by
    simp only [fits, Bool.and_eq_true, beq_iff_eq] at h
    obtain ⟨⟨rfl, rfl⟩, _⟩ := h
    obtain rfl : s0 = s := by simpa using hk
    simp
  | s0 :: ss, o, (o', s') :: ps, h, k + 1, s, hk => by
    simp only [fits, Bool.and_eq_true, beq_iff_eq] at h
    obtain ⟨⟨rfl, rfl⟩, h⟩ := h
    have := fits_at ss (o + s0) ps h k s (by simpa using hk)
    rw [List.getElem?_cons_succ, this]
    simp [Nat.add_assoc]
theorem built_struct {P : Program} {t : TypeId} {n : Nat} {places : List (Nat × Nat)} (hp : placesOf P t = some (n, places)) (vs : List Value) (hf : fits 0 (vs.map (·.cells.size)) places = true) (hn : (vs.map (·.cells.size)).sum = n) :
    P.built t ((vs.zipIdx 0).map fun x => (x.2, x.1)) = some (vs.flatMap fun v => v.cells.toList).toArray := by
  unfold placesOf at hp
  unfold Program.built
  cases hit : P.info? t with
  | none => simp [hit] at hp
  | some it =>
    cases hu : P.underlying t with
    | none => simp [hit, hu] at hp
    | some d =>
      cases d <;> try (simp [hit, hu] at hp; done)
      case struct fields =>
        simp only [hit, hu] at hp ⊢
        cases hz : it.zero with
        | none => simp [hz] at hp
        | some z =>
          cases hm : fields.toList.mapM (fun f => (P.info? f.type).map fun i => (f.offset, i.size)) with
          | none => simp [hz, hm] at hp
          | some pl =>
            simp only [hz, hm, Option.some.injEq, Prod.mk.injEq] at hp ⊢
            obtain ⟨hzn, rfl⟩ := hp
            have h := fill_parts (fun i => pl.toArray[i]?) vs 0 0 z.cells (fun k v hk => by
              rw [Nat.zero_add]
              have := fits_at _ 0 pl hf k v.cells.size (by simp [hk])
              rw [List.getElem?_toArray, this, List.map_take]) (by omega)
            rw [h]
            congr 1
            apply Array.ext'
            have hl : (vs.flatMap fun v => v.cells.toList).length = z.cells.toList.length := by
              have hL : z.cells.toList.length = z.cells.size := Array.length_toList
              rw [hL, hzn, ← hn]; simp [List.length_flatMap]
            unfold spl
            rw [List.take_zero, List.nil_append, Nat.zero_add, hl, List.drop_length, List.append_nil]
theorem wp_buildStruct {P : Program} {o : Oper} {a : Act} {w : World} {K : Act → World → Prop} {Q : Exit → Act → World → Prop} (t : TypeId) (parts : Array (Nat × Operand)) (ho : o.op = .build t parts) {n : Nat} {places : List (Nat × Nat)} (hp : placesOf P t = some (n, places))
    (vs : List Value) (hv : (parts.map fun (i, x) => (i, a.eval x)).toList = (vs.zipIdx 0).map fun x => (x.2, x.1)) (hf : fits 0 (vs.map (·.cells.size)) places = true) (hn : (vs.map (·.cells.size)).sum = n)
    (h : K (a.put o.dst (.agg (vs.flatMap fun v => v.cells.toList).toArray)) w) : o.wp P a w K Q := by
  have hb := built_struct hp vs hf hn
  rw [← hv] at hb
  exact wp_build t parts ho (by rw [hb]; rfl) (by rw [hb]; exact h)
end Go.Proofs.YtobklbfcnbmnmaaDoor

/- Walks whose every step is one lemma: the frame as a list of slots that are known; regions in order, and regions that draw. No function of the program is named here. -/
set_option maxRecDepth 4000
namespace Go.Proofs.YtobklbfcnbmnmaaDoor
open Go Go.RowKit
/- the frame, as far as it is known -/
structure Env (N : Nat) (L : List (Nat × Value)) (a : Act) : Prop where
  size : a.tmps.size = N
  defers : a.defers = []
  at_ : ∀ (i k : Nat) (v : Value), L[i]? = some (k, v) → a.tmps[k]? = some v
def kp (L : List (Nat × Value)) : List Nat → List (Nat × Value)
  | [] => []
  | i :: is => match L[i]? with
    | some p => p :: kp L is
    | none => kp L is
def setd : Option Tmp → Value → List (Nat × Value) → List (Nat × Value)
  | some d, v, L => (d, v) :: L
  | none, _, L => L
def okd : Option Tmp → Nat → List (Nat × Value) → Bool
  | some d, N, L => Nat.blt d N && L.all fun p => !Nat.beq p.1 d
  | none, _, _ => true
theorem kp_at (L : List (Nat × Value)) : ∀ (is : List Nat) (i : Nat) (p : Nat × Value), (kp L is)[i]? = some p → ∃ j : Nat, L[j]? = some p
  | [], i, p, h => by simp [kp] at h
  | j :: is, i, p, h => by
    unfold kp at h
    cases hj : L[j]? with
    | none => rw [hj] at h; exact kp_at L is i p h
    | some q =>
      rw [hj] at h
      cases i with
      | zero => exact ⟨j, by rw [hj]; simpa using h⟩
      | succ i => exact kp_at L is i p (by simpa using h)
section
variable {P : Program} {N : Nat} {L : List (Nat × Value)} {a : Act}
theorem Env.ev (h : Env N L a) (i : Nat) {k : Nat} {v : Value} (hi : L[i]? = some (k, v)) : a.eval (.tmp k) = v := eval_of_get (h.at_ i k v hi)
theorem Env.get (h : Env N L a) (i : Nat) {k : Nat} {v : Value} (hi : L[i]? = some (k, v)) : a.tmps[k]? = some v := h.at_ i k v hi
theorem Env.keep (h : Env N L a) (is : List Nat) : Env N (kp L is) a := ⟨h.size, h.defers, fun i k v hi => by obtain ⟨j, hj⟩ := kp_at L is i (k, v) hi; exact h.at_ j k v hj⟩
theorem Env.put (h : Env N L a) (is : List Nat) (d : Option Tmp) (v : Value) (hk : okd d N (kp L is) = true) : Env N (setd d v (kp L is)) (a.put d v) := by
  cases d with
  | none => exact h.keep is
  | some d =>
    simp only [okd, Bool.and_eq_true, List.all_eq_true] at hk
    have hd : d < N := by have := hk.1; unfold Nat.blt at this; exact Nat.le_of_ble_eq_true this
    refine ⟨by simp [Act.put, h.size], h.defers, fun i k u hi => ?_⟩
    cases i with
    | zero =>
      have hi : (d, v) = (k, u) := by simpa [setd] using hi
      injection hi with h1 h2
      subst h1 h2
      simp [Act.put, h.size, hd]
    | succ i =>
      have hi : (kp L is)[i]? = some (k, u) := by simpa [setd] using hi
      have h1 := hk.2 _ (List.mem_of_getElem? hi)
      have hne : d ≠ k := fun e => by subst e; simp at h1
      obtain ⟨j, hj⟩ := kp_at L is i (k, u) hi
      simp only [Act.put]
      rw [Array.getElem?_setIfInBounds_ne hne]
      exact h.at_ j k u hj
theorem env_nil (hs : a.tmps.size = N) (hd : a.defers = []) : Env N [] a := ⟨hs, hd, fun i k v h => by simp at h⟩
theorem env_cons {k : Nat} {v : Value} (h : Env N L a) (hk : a.tmps[k]? = some v) : Env N ((k, v) :: L) a := ⟨h.size, h.defers, fun i j u hi => by
  cases i with
  | zero => have hi : (k, v) = (j, u) := by simpa using hi
            injection hi with h1 h2; subst h1 h2; exact hk
  | succ i => exact h.at_ i j u (by simpa using hi)⟩
def argL : List Value → Nat → List (Nat × Value)
  | [], _ => []
  | v :: vs, i => (i, v) :: argL vs (i + 1)
theorem argL_at : ∀ (vs : List Value) (i j k : Nat) (v : Value), (argL vs i)[j]? = some (k, v) → k = i + j ∧ vs[j]? = some v
  | [], i, j, k, v, h => by simp [argL] at h
  | u :: vs, i, 0, k, v, h => by
    have h : (i, u) = (k, v) := by simpa [argL] using h
    injection h with h1 h2; subst h1 h2; exact ⟨rfl, rfl⟩
  | u :: vs, i, j + 1, k, v, h => by
    obtain ⟨h1, h2⟩ := argL_at vs (i + 1) j k v (by simpa [argL] using h)
    exact ⟨by omega, by simpa using h2⟩
theorem enter_env {f : FuncId} {fn : Func} {c : Code} {l : List Value} {w : World} {R : Ending → World → Prop} (hf : P.funcs[f]? = some fn) (hb : fn.body = some c) (hN : fn.ntmps = N) (hl : l.length ≤ N)
    (h : ∀ a, Env N (argL l 0) a → c.wp P (bodyPost P fn R) a w) : Calls P f l.toArray w R := by
  refine calls_of_wp hf hb (h _ ⟨by simp [hN]; omega, rfl, fun i k v hi => ?_⟩)
  obtain ⟨h1, h2⟩ := argL_at l 0 i k v hi
  have hlt := (List.getElem?_eq_some_iff.1 h2).1
  have h1 : k = i := by omega
  subst h1
  simp only
  rw [Array.getElem?_append_left (by simpa using hlt)]
  simpa using h2
end
/- code -/
section
variable {P : Program} {Q Q' : Exit → Act → World → Prop} {K : Act → World → Prop} {a : Act} {w : World} {id j : Nat} {x y : Code}
theorem nx (h : K a w) : Exit.then K Q .normal a w := h
theorem tx (h : Q (.exit id) a w) : Exit.then K Q (.exit id) a w := h
theorem tr (h : Q .ret a w) : Exit.then K Q .ret a w := h
theorem bn (h : Q .normal a w) : Exit.inBlock id Q .normal a w := h
theorem br_ (h : Q .ret a w) : Exit.inBlock id Q .ret a w := h
theorem bx (h : Q .normal a w) : Exit.inBlock id Q (.exit id) a w := by simpa [Exit.inBlock] using h
theorem by_ (hne : Nat.beq j id = false) (h : Q (.exit j) a w) : Exit.inBlock id Q (.exit j) a w := by
  have : j ≠ id := fun e => by subst e; simp at hne
  simpa [Exit.inBlock, this] using h
/- a loop with what counts it down standing in no slot -/
theorem wp_loopG {ι : Type} {c : Code} (I : ι → Act → World → Prop) (μ : ι → Nat) (i0 : ι) (h0 : I i0 a w)
    (round : ∀ i a w, I i a w → c.wp P (Exit.then (fun a' w' => ∃ i', I i' a' w' ∧ μ i' < μ i) Q) a w) : (Code.loop c).wp P Q a w := by
  classical
  have key : ∀ n, ∀ i a w, μ i = n → I i a w → ∃ m, (∃ i, I i a w ∧ μ i = m) ∧ ∀ k, (∃ i, I i a w ∧ μ i = k) → m ≤ k := by
    intro n
    induction n using Nat.strongRecOn with
    | _ n ih =>
      intro i a w hn hi
      by_cases h : ∃ i', I i' a w ∧ μ i' < n
      · obtain ⟨i', h1, h2⟩ := h
        exact ih (μ i') h2 i' a w rfl h1
      · exact ⟨n, ⟨i, hi, hn⟩, fun k ⟨i', h1, h2⟩ => by
          apply Decidable.byContradiction
          intro hk
          exact h ⟨i', h1, by omega⟩⟩
  refine wp_loop (fun a w => ∃ i, I i a w) (fun a w => if h : ∃ m, (∃ i, I i a w ∧ μ i = m) ∧ ∀ k, (∃ i, I i a w ∧ μ i = k) → m ≤ k then h.choose else 0) ⟨i0, h0⟩ fun a w hI => ?_
  obtain ⟨i1, h1⟩ := hI
  have hex := key _ i1 a w rfl h1
  obtain ⟨⟨i, hi, him⟩, hmin⟩ := hex.choose_spec
  refine wp_mono (round i a w hi) fun e a' w' hq => ?_
  cases e with
  | normal =>
    obtain ⟨i', h2, h3⟩ := hq
    refine ⟨⟨i', h2⟩, ?_⟩
    have hex' := key _ i' a' w' rfl h2
    have := hex'.choose_spec.2 (μ i') ⟨i', h2, rfl⟩
    rw [dif_pos hex, dif_pos hex']
    omega
  | _ => exact hq
end
/- what a call tells when it returns -/
section
variable {P : Program} {fn : Func} {R : Ending → World → Prop} {N : Nat} {L : List (Nat × Value)} {a : Act} {w : World}
theorem ret_run (HA : Env N L a) {v : Value} (hv : (results fn a.tmps).run P w = .ok v w) (h : R (.returned v) w) : bodyPost P fn R .ret a w := ⟨HA.defers, v, hv, h⟩
theorem end_run (HA : Env N L a) {v : Value} (hv : (results fn a.tmps).run P w = .ok v w) (h : R (.returned v) w) : bodyPost P fn R .normal a w := ⟨HA.defers, v, hv, h⟩
theorem getD_get {t : Array Value} {k : Nat} {v : Value} (h : t[k]? = some v) : t.getD k undef = v := by simp [Array.getD_eq_getD_getElem?, h]
theorem getD_get2 {t : Array Value} {k : Nat} {v : Value} (h : t[k]? = some v) : (t[k]?).getD undef = v := by rw [h]; rfl
theorem res_0 {t : Array Value} (hr : fn.results = #[]) : (results fn t).run P w = .ok (.tuple #[]) w := by
  unfold results; simp [hr]
theorem res_t {t : Array Value} {i : Nat} {v : Value} (hr : fn.results = #[.tmp i]) (h1 : t[i]? = some v) : (results fn t).run P w = .ok v w := by
  unfold results; simp [hr, getD_get2 h1]
theorem res_tt {t : Array Value} {i j : Nat} {v u : Value} (hr : fn.results = #[.tmp i, .tmp j]) (h1 : t[i]? = some v) (h2 : t[j]? = some u) : (results fn t).run P w = .ok (.tuple #[v, u]) w := by
  unfold results; simp [hr, getD_get2 h1, getD_get2 h2]
theorem res_ttt {t : Array Value} {i j k : Nat} {v u x : Value} (hr : fn.results = #[.tmp i, .tmp j, .tmp k]) (h1 : t[i]? = some v) (h2 : t[j]? = some u) (h3 : t[k]? = some x) : (results fn t).run P w = .ok (.tuple #[v, u, x]) w := by
  unfold results; simp [hr, getD_get2 h1, getD_get2 h2, getD_get2 h3]
theorem load_cell {g : Nat} {ty t : TypeId} {cs : Array Value} {d : TypeDesc} (hg : Row w g t cs) (hu : P.underlying ty = some d) (hd : (match d with | .struct _ | .array _ _ => true | _ => false) = true) (hi : (P.info? ty).map (·.size) = some cs.size) : (loadVar ty ⟨g, 0, none⟩).run P w = .ok (.agg cs) w := run_loadVar_row w g t ty cs (0, 0) d hg hu hd hi
theorem res_c {t : Array Value} {i g : Nat} {ty ty' : TypeId} {cs : Array Value} {d : TypeDesc} (hr : fn.results = #[.cell i ty]) (h1 : t[i]? = some (.pointer (some ⟨g, 0, none⟩))) (hg : Row w g ty' cs) (hu : P.underlying ty = some d) (hd : (match d with | .struct _ | .array _ _ => true | _ => false) = true) (hi : (P.info? ty).map (·.size) = some cs.size) : (results fn t).run P w = .ok (.agg cs) w := by
  unfold results; simp [hr, getD_get2 h1, asAddr, load_cell hg hu hd hi]
theorem res_ct {t : Array Value} {i g j : Nat} {u : Value} {ty ty' : TypeId} {cs : Array Value} {d : TypeDesc} (hr : fn.results = #[.cell i ty, .tmp j]) (h1 : t[i]? = some (.pointer (some ⟨g, 0, none⟩))) (hg : Row w g ty' cs) (hu : P.underlying ty = some d) (hd : (match d with | .struct _ | .array _ _ => true | _ => false) = true) (hi : (P.info? ty).map (·.size) = some cs.size) (h2 : t[j]? = some u) : (results fn t).run P w = .ok (.tuple #[.agg cs, u]) w := by
  unfold results; simp [hr, getD_get2 h1, getD_get2 h2, asAddr, load_cell hg hu hd hi]
end
end Go.Proofs.YtobklbfcnbmnmaaDoor
