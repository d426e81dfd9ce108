/- Merged: Words Mem Sl Spec Sig Round Sched Turn OpenB Laid ByteI NamesSpec Half Obj CopyR Inv Does Ph Phs St ZerosB Blk PhA EqI BlkE StMore Fill Spec2 Spec3 MacSpec Fair Copy Keep Msg Add Pad Dig Sum Arr Eq App By PadG PartsG RefT RefTurn RefPad RefH RefSum PartL Behind CopyB Block Turned Mac MacEval MacWakes Makes TagSpec Same Lit KeepB RefBlock RefMac MarkB Read ReadW OpenN. -/
import Derived.WalkKit
import Derived.Laws.BitsAllLaws
import Derived.Laws.BitsLemmas
import Derived.Laws.Rows
import Derived.Laws.OwnMore
import Derived.Below
import Derived.Deep.Draws
import Derived.Laws.CopyOwn
import Derived.Laws.AppendOwn
import Derived.Deep.MidRow
import Derived.Deep.WholeRow
import Derived.Test.YtcheflcfoiclgaaDoorProg
import Derived.Still
import Derived.Laws.AppendOwnNone
import Derived.Laws.MakeOwn
import Derived.OwnWalk
import Derived.Maps.AppendAt
import Derived.Maps.RangeWalk
import Derived.Lib.SlBytesConst
import Derived.Lib.Hide
import Derived.WalkSpells
import Derived.WalkLawsBesides
import Derived.Deep.QuietTactic
import Derived.BigQuiet
import Derived.WalkSmall
import Derived.BigRegion
import Derived.LoopTactic
import Derived.RegionTactic
import Derived.Deep.RegionWith
import Derived.Deep.RegionHeld3
import Derived.StillTailTactics
import Derived.ProofKit
import Derived.OpenShut
import Derived.Carry
import Derived.Deep.DeepHandedRow
import Derived.Deep.Slices
import Derived.Test.YtcheflcfoiclgaaDoorCards
import Derived.Test.YtcheflcfoiclgaaDoorTie
import Derived.Lib.LaidTab
import Derived.OrdersHeld
import Derived.Laws.StructEq
import Derived.Great.BuildSlice
import Derived.Laws.BytesArg
import Derived.KernelRfl
import Derived.Deep.DeepCutAuto
import Derived.Laws.IdiomStrings
import Derived.ChangeShapes
/- Plain facts on machine words as bit vectors, in the walk's own spelling: what the operations of Go on uint8, uint32 and uint64 come to. No condition. -/
set_option maxRecDepth 4000
namespace Go.Proofs.YtcheflcfoiclgaaDoor
open Go Go.RowKit

/- a word's number, kept shut: the walk does not look into it -/
def wd (x : BitVec 32) : Int := (x.toNat : Int)
def bd (x : BitVec 8) : Int := (x.toNat : Int)

theorem wd_lo (x : BitVec 32) : 0 ≤ wd x := by unfold wd; omega
theorem wd_hi (x : BitVec 32) : wd x < 4294967296 := by unfold wd; have := x.isLt; omega
theorem bd_lo (x : BitVec 8) : 0 ≤ bd x := by unfold bd; omega
theorem bd_hi (x : BitVec 8) : bd x < 256 := by unfold bd; have := x.isLt; omega
theorem wd_inj {x y : BitVec 32} (h : wd x = wd y) : x = y := by unfold wd at h; exact BitVec.eq_of_toNat_eq (by omega)
theorem bd_inj {x y : BitVec 8} (h : bd x = bd y) : x = y := by unfold bd at h; exact BitVec.eq_of_toNat_eq (by omega)
theorem wd_of (n : Int) (h0 : 0 ≤ n) (h1 : n < 4294967296) : n = wd (BitVec.ofInt 32 n) := by
  unfold wd; obtain ⟨m, rfl⟩ := Int.eq_ofNat_of_zero_le h0
  rw [ofInt_u32 m (by omega)]
theorem bd_of (n : Int) (h0 : 0 ≤ n) (h1 : n < 256) : n = bd (BitVec.ofInt 8 n) := by
  unfold bd; obtain ⟨m, rfl⟩ := Int.eq_ofNat_of_zero_le h0
  rw [ofInt_u8 m (by omega)]

theorem ofInt_wd (x : BitVec 32) : BitVec.ofInt 32 (wd x) = x := by
  apply BitVec.eq_of_toNat_eq; unfold wd; rw [ofInt_u32 _ x.isLt]
theorem wrap_wd (x : BitVec 32) : IntKind.u32.wrap (wd x) = wd x := by
  rw [IntKind.wrap_u32']; have := wd_lo x; have := wd_hi x; omega
theorem wrap_bd (x : BitVec 8) : IntKind.u8.wrap (bd x) = bd x := by
  rw [IntKind.wrap_u8']; have := bd_lo x; have := bd_hi x; omega

theorem xor_wd (x y : BitVec 32) : bits .xor .u32 (wd x) (wd y) = wd (x ^^^ y) := by
  show IntKind.u32.wrap ((BitVec.ofInt 32 (wd x) ^^^ BitVec.ofInt 32 (wd y)).toNat : Int) = _
  rw [ofInt_wd, ofInt_wd]; exact wrap_wd _
theorem and_wd (x y : BitVec 32) : bits .and .u32 (wd x) (wd y) = wd (x &&& y) := by
  show IntKind.u32.wrap ((BitVec.ofInt 32 (wd x) &&& BitVec.ofInt 32 (wd y)).toNat : Int) = _
  rw [ofInt_wd, ofInt_wd]; exact wrap_wd _
theorem or_wd (x y : BitVec 32) : bits .or .u32 (wd x) (wd y) = wd (x ||| y) := by
  show IntKind.u32.wrap ((BitVec.ofInt 32 (wd x) ||| BitVec.ofInt 32 (wd y)).toNat : Int) = _
  rw [ofInt_wd, ofInt_wd]; exact wrap_wd _
theorem add_wd (x y : BitVec 32) : IntKind.u32.wrap (wd x + wd y) = wd (x + y) := by
  rw [IntKind.wrap_u32']; unfold wd; rw [BitVec.toNat_add]; omega
theorem signed_u32 : (IntKind.u32.signed = true) = False := by simp [IntKind.signed]
theorem not_wd (x : BitVec 32) : bits .xor .u32 IntKind.u32.max (wd x) = wd (~~~x) := by
  have e : IntKind.u32.max = wd (BitVec.allOnes 32) := by decide +kernel
  rw [e, xor_wd, BitVec.allOnes_xor]
theorem shr_wd (x : BitVec 32) (n : Nat) : wd x / 2 ^ n = wd (x >>> n) := by
  unfold wd; rw [BitVec.toNat_ushiftRight, Nat.shiftRight_eq_div_pow]; norm_cast
theorem shl_wd (x : BitVec 32) (n : Nat) : IntKind.u32.wrap (wd x * 2 ^ n) = wd (x <<< n) := by
  rw [IntKind.wrap_u32']; unfold wd; rw [BitVec.toNat_shiftLeft, Nat.shiftLeft_eq]
  have e : (2 : Int) ^ n = ((2 ^ n : Nat) : Int) := by norm_cast
  rw [e, ← Int.natCast_mul]
  generalize x.toNat * 2 ^ n = m
  show (m : Int) % 4294967296 = ((m % 4294967296 : Nat) : Int)
  omega
theorem conv_bd (x : BitVec 8) : IntKind.u32.wrap (bd x) = wd (x.setWidth 32) := by
  rw [IntKind.wrap_u32']; unfold bd wd; have := x.isLt; rw [BitVec.toNat_setWidth]; omega
theorem shl24_wd (x : BitVec 32) : IntKind.u32.wrap (wd x * (16777216 : Int)) = wd (x <<< 24) := shl_wd x 24
theorem shl16_wd (x : BitVec 32) : IntKind.u32.wrap (wd x * (65536 : Int)) = wd (x <<< 16) := shl_wd x 16
theorem shl8_wd (x : BitVec 32) : IntKind.u32.wrap (wd x * (256 : Int)) = wd (x <<< 8) := shl_wd x 8
theorem low_wd (x : BitVec 32) : IntKind.u8.wrap (wd x) = bd (x.setWidth 8) := by
  rw [IntKind.wrap_u8']; unfold bd wd; rw [BitVec.toNat_setWidth]; omega
theorem low24_wd (x : BitVec 32) : IntKind.u8.wrap (wd x / (16777216 : Int)) = bd ((x >>> 24).setWidth 8) := by rw [show wd x / (16777216 : Int) = wd (x >>> 24) from shr_wd x 24, low_wd]
theorem low16_wd (x : BitVec 32) : IntKind.u8.wrap (wd x / (65536 : Int)) = bd ((x >>> 16).setWidth 8) := by rw [show wd x / (65536 : Int) = wd (x >>> 16) from shr_wd x 16, low_wd]
theorem low8_wd (x : BitVec 32) : IntKind.u8.wrap (wd x / (256 : Int)) = bd ((x >>> 8).setWidth 8) := by rw [show wd x / (256 : Int) = wd (x >>> 8) from shr_wd x 8, low_wd]
theorem wrap_u8_bd (z : Int) : IntKind.u8.wrap z = bd (BitVec.ofInt 8 z) := by
  rw [IntKind.wrap_u8']; unfold bd; rw [BitVec.toNat_ofInt]; omega
theorem xor_bd (x y : BitVec 8) : bits .xor .u8 (bd x) (bd y) = bd (x ^^^ y) := by
  have e : ∀ z : BitVec 8, BitVec.ofInt 8 (bd z) = z := fun z => by
    apply BitVec.eq_of_toNat_eq; unfold bd; rw [ofInt_u8 _ z.isLt]
  show IntKind.u8.wrap ((BitVec.ofInt 8 (bd x) ^^^ BitVec.ofInt 8 (bd y)).toNat : Int) = _
  rw [e, e]; exact wrap_bd _
def zer (n : Nat) : List (BitVec 8) := List.replicate n 0
theorem length_zer (n : Nat) : (zer n).length = n := by simp [zer]
end Go.Proofs.YtcheflcfoiclgaaDoor

/- A block of memory that is known whole, and how it lasts through draws, new blocks, stores elsewhere and calls. No condition beyond the theorems' own. -/
set_option maxRecDepth 4000
namespace Go.Proofs.YtcheflcfoiclgaaDoor
open Go Go.RowKit

def Row (w : World) (g : Nat) (t : TypeId) (cs : Array Value) : Prop := w.heap[g]? = some (.cells cs t (0, 0))

section
variable {w w' : World} {g : Nat} {t : TypeId} {cs : Array Value}
theorem Row.lt (h : Row w g t cs) : g < w.heap.size := by
  by_cases hl : g < w.heap.size
  · exact hl
  · unfold Row at h; rw [Array.getElem?_eq_none (by omega)] at h; cases h
theorem Row.cell (h : Row w g t cs) (i : Nat) : w.cell? ⟨g, i, none⟩ = cs[i]? := cell_of_row w g i cs t (0, 0) h
theorem Row.free (h : Row w g t cs) (i : Nat) : w.frozen? ⟨g, i, none⟩ = false := frozen_of_row w g i cs t h
theorem Row.fresh (w : World) (t : TypeId) (cs : Array Value) : Row (w.alloc (.cells cs t)) w.heap.size t cs := heap_alloc_new w _
theorem Row.drew (h : Row w g t cs) : Row w.drew g t cs := h
theorem Row.alloc (h : Row w g t cs) (o : Obj) : Row (w.alloc o) g t cs := (Below.heap_alloc w o g h.lt).trans h
theorem Row.put (h : Row w g t cs) (i : Nat) (v : Value) : Row (w.setCell ⟨g, i, none⟩ v) g t (cs.setIfInBounds i v) := heap_setCell_same w g i cs t v h
theorem Row.far (h : Row w g t cs) {p : Addr} (hp : g ≠ p.block) (v : Value) : Row (w.setCell p v) g t cs := (heap_setCell_other w p g v hp).trans h
theorem Row.setRow (h : Row w g t cs) (ds : Array Value) : Row (w.setRow g ds) g t ds := setRow_heap w g cs ds t (0, 0) h
theorem Row.setRow_far (h : Row w g t cs) {k : Nat} (hk : g ≠ k) (ds : Array Value) : Row (w.setRow k ds) g t cs := (setRow_other w k g ds hk).trans h
theorem Row.below {B : Nat} (h : Row w g t cs) (hb : Below B w w') (hg : g < B) : Row w' g t cs := (hb.block g hg).trans h
theorem Row.call (h : Row w g t cs) (hb : Below w.heap.size w w') : Row w' g t cs := h.below hb h.lt
theorem Row.get (h : Row w g t cs) {i : Nat} {v : Value} (hi : cs[i]? = some v) : w.cell? ⟨g, i, none⟩ = some v := (h.cell i).trans hi
end

theorem row3a (w : World) (t : TypeId) (cs : Array Value) (o2 o3 : Obj) : Row (((w.alloc (.cells cs t)).alloc o2).alloc o3) w.heap.size t cs := ((Row.fresh _ _ _).alloc _).alloc _
theorem row2b (w : World) (t : TypeId) (cs : Array Value) (o1 : Obj) : Row ((w.alloc o1).alloc (.cells cs t)) (w.heap.size + 1) t cs := by
  have e : w.heap.size + 1 = (w.alloc o1).heap.size := by simp
  rw [e]; exact Row.fresh _ _ _
theorem row3b (w : World) (t : TypeId) (cs : Array Value) (o1 o3 : Obj) : Row (((w.alloc o1).alloc (.cells cs t)).alloc o3) (w.heap.size + 1) t cs := (row2b _ _ _ _).alloc _
theorem row3c (w : World) (t : TypeId) (cs : Array Value) (o1 o2 : Obj) : Row (((w.alloc o1).alloc o2).alloc (.cells cs t)) (w.heap.size + 1 + 1) t cs := by
  have e : w.heap.size + 1 + 1 = ((w.alloc o1).alloc o2).heap.size := by simp
  rw [e]; exact Row.fresh _ _ _
theorem below3 (w : World) (o1 o2 o3 : Obj) : Below w.heap.size w (((w.alloc o1).alloc o2).alloc o3) := ((((Below.refl _ _).alloc (Nat.le_refl _) _).alloc (by simp) _)).alloc (by simp; omega) _

theorem setRow_alloc2 (w : World) (o1 : Obj) (c c' : Array Value) (t : TypeId) : ((w.alloc o1).alloc (.cells c t)).setRow (w.heap.size + 1) c' = (w.alloc o1).alloc (.cells c' t) := by
  have e : w.heap.size + 1 = (w.alloc o1).heap.size := by simp
  rw [e]; exact World.setRow_alloc_new _ _ _ _

/- arrays of words, as values -/
def ws (l : List (BitVec 32)) : Array Value := (l.map fun x => Value.int .u32 (wd x)).toArray
def bs (l : List (BitVec 8)) : Array Value := (l.map fun x => Value.int .u8 (bd x)).toArray
theorem size_ws (l : List (BitVec 32)) : (ws l).size = l.length := by simp [ws]
theorem size_bs (l : List (BitVec 8)) : (bs l).size = l.length := by simp [bs]
theorem get_ws (l : List (BitVec 32)) (i : Nat) (h : i < l.length) : (ws l)[i]? = some (.int .u32 (wd (l.getD i 0))) := by simp [ws, h]
theorem get_bs (l : List (BitVec 8)) (i : Nat) (h : i < l.length) : (bs l)[i]? = some (.int .u8 (bd (l.getD i 0))) := by simp [bs, h]
theorem set_ws (l : List (BitVec 32)) (i : Nat) (x : BitVec 32) : (ws l).setIfInBounds i (.int .u32 (wd x)) = ws (l.set i x) := by
  simp [ws, List.map_set]
theorem set_bs (l : List (BitVec 8)) (i : Nat) (x : BitVec 8) : (bs l).setIfInBounds i (.int .u8 (bd x)) = bs (l.set i x) := by
  simp [bs, List.map_set]
theorem one_ws (l : List (BitVec 32)) : (ws l).all (·.oneCell') = true := by simp [ws, Value.oneCell']
theorem one_bs (l : List (BitVec 8)) : (bs l).all (·.oneCell') = true := by simp [bs, Value.oneCell']
theorem len_bs (b : List (BitVec 8)) : (bs b).toList.length = b.length := by simp [bs]
theorem only_refl (w : World) (g : Nat) : w.grownBy w (some g) := ⟨rfl, rfl, rfl, Nat.le_refl _, fun _ _ _ => rfl⟩
theorem only_drew {a w : World} {g : Nat} (h : a.grownBy w (some g)) : a.grownBy w.drew (some g) := ⟨h.os, h.tape, h.output, h.size, h.block⟩
theorem only_call {a w w' : World} {g : Nat} (h : a.grownBy w (some g)) (hb : Below w.heap.size w w') : a.grownBy w' (some g) :=
  ⟨hb.os.trans h.os, hb.tape.trans h.tape, hb.output.trans h.output, Nat.le_trans h.size hb.size, fun k hk hne => (hb.block k (Nat.lt_of_lt_of_le hk h.size)).trans (h.block k hk hne)⟩
theorem only_setCell {a w : World} {g i : Nat} (h : a.grownBy w (some g)) (v : Value) : a.grownBy (w.setCell ⟨g, i, none⟩ v) (some g) :=
  ⟨h.os, h.tape, h.output, by simpa [World.setCell] using h.size, fun k hk hne => (heap_setCell_other w ⟨g, i, none⟩ k v (fun e => hne (by rw [e]))).trans (h.block k hk hne)⟩
theorem only_setRow {a w : World} {g : Nat} (h : a.grownBy w (some g)) (cs : Array Value) : a.grownBy (w.setRow g cs) (some g) :=
  ⟨h.os, h.tape, h.output, by simpa using h.size, fun k hk hne => (setRow_other w g k cs (fun e => hne (by rw [e]))).trans (h.block k hk hne)⟩
theorem only_setCells {a : World} {g : Nat} : ∀ (vs : List Value) (o : Nat) {w : World}, a.grownBy w (some g) → a.grownBy (w.setCells g o vs) (some g)
  | [], _, _, h => h
  | v :: vs, o, _, h => only_setCells vs (o + 1) (only_setCell h v)
theorem only_below {a w : World} {g B : Nat} (h : a.grownBy w (some g)) (hB : B ≤ g) (hs : B ≤ a.heap.size) : Below B a w :=
  ⟨h.os, h.tape, h.output, h.size, fun k hk => h.block k (by omega) (fun e => by injection e with e; omega)⟩
theorem Row.only {w w' : World} {g k : Nat} {t : TypeId} {cs : Array Value} (h : Row w k t cs) (hw : w.grownBy w' (some g)) (hne : k ≠ g) : Row w' k t cs :=
  (hw.block k h.lt (fun e => hne (by injection e))).trans h

end Go.Proofs.YtcheflcfoiclgaaDoor

/- Slices of bytes and lists of them: what they read as, how they are appended, taken apart and handed on. No function of the program is named here. -/
set_option maxRecDepth 4000
namespace Go.Proofs.YtcheflcfoiclgaaDoor
open Go Go.RowKit
theorem i64_id (n : Int) (h0 : 0 ≤ n) (h1 : n < 9223372036854775808) : IntKind.i64.wrap n = n := by
  rw [IntKind.wrap_i64]; omega
theorem ret_int {k : IntKind} {a b : Int} (h : a = b) : Ending.returned (.int k a) = .returned (.int k b) := by rw [h]
def bytesV (q : List (BitVec 8)) : List Value := q.map fun x => Value.int .u8 (bd x)
theorem size_u8 : (Tryd.prog.info? 5).map (·.size) = some 1 := by kernel_rfl
theorem one_bytesV (q : List (BitVec 8)) : ∀ v ∈ bytesV q, v.oneCell' = true := by
  intro v hv; simp only [bytesV, List.mem_map] at hv; obtain ⟨x, _, rfl⟩ := hv; rfl
theorem info_u8 : (Tryd.prog.info? 5).map (fun i => (i.zero, i.size, i.bytes)) = some (some (.int .u8 0), 1, 1) := by kernel_rfl
/- a slice value that reads as the bytes q -/
def Slice (w : World) (v : Value) (q : List (BitVec 8)) : Prop :=
  ∃ A c, v = .slice A q.length c ∧ q.length ≤ c ∧ (q ≠ [] → ∃ b o, A = some ⟨b, o, none⟩ ∧ b < w.heap.size ∧ ∀ j x, q[j]? = some x → w.cell? ⟨b, o + j, none⟩ = some (.int .u8 (bd x)))
/- a slice value that reads as these slices of bytes -/
def Parts (w : World) (v : Value) (ps : List (List (BitVec 8))) : Prop :=
  ∃ A c, v = .slice A ps.length c ∧ (ps ≠ [] → ∃ b o, A = some ⟨b, o, none⟩ ∧ b < w.heap.size ∧ ∀ k q, ps[k]? = some q → ∃ u, w.cell? ⟨b, o + k, none⟩ = some u ∧ Slice w u q)
theorem Slice.below {w w' : World} {B : Nat} {v : Value} {q : List (BitVec 8)} (h : Slice w v q) (hb : Below B w w') (hB : w.heap.size ≤ B) : Slice w' v q := by
  obtain ⟨A, c, h1, h2, h3⟩ := h
  refine ⟨A, c, h1, h2, fun hne => ?_⟩
  obtain ⟨b, o, h4, h5, h6⟩ := h3 hne
  exact ⟨b, o, h4, Nat.lt_of_lt_of_le h5 hb.size, fun j x hx => (hb.cell (p := ⟨b, o + j, none⟩) (Nat.lt_of_lt_of_le h5 hB)).trans (h6 j x hx)⟩
theorem flat_succ (ps : List (List (BitVec 8))) (k : Nat) (hk : k < ps.length) : (ps.take (k + 1)).flatten = (ps.take k).flatten ++ ps[k] := by
  rw [List.take_succ_eq_append_getElem hk, List.flatten_append]; simp
theorem flat_le (ps : List (List (BitVec 8))) (k : Nat) (hk : k < ps.length) : ((ps.take k).flatten ++ ps[k]).length ≤ ps.flatten.length := by
  rw [← flat_succ ps k hk]
  have : ps.flatten = (ps.take (k + 1)).flatten ++ (ps.drop (k + 1)).flatten := by rw [← List.flatten_append, List.take_append_drop]
  rw [this, List.length_append]; omega
theorem bytes_slice {w : World} {g c : Nat} {q : List (BitVec 8)} {t : TypeId} {fr : Nat × Nat} (hg : w.heap[g]? = some (.cells (bs q) t fr)) (hc : q.length ≤ c) : Slice w (.slice (some ⟨g, 0, none⟩) q.length c) q := by
  refine ⟨_, c, rfl, hc, fun _ => ⟨g, 0, rfl, ?_, fun j x hx => ?_⟩⟩
  · by_cases hl : g < w.heap.size
    · exact hl
    · rw [Array.getElem?_eq_none (by omega)] at hg; cases hg
  · have hj := (List.getElem?_eq_some_iff.1 hx).1
    rw [Nat.zero_add, cell_of_row w g j _ _ _ hg, get_bs q j hj, List.getD_eq_getElem?_getD, hx]; rfl
theorem row_slice {w : World} {g c : Nat} {q : List (BitVec 8)} {t : TypeId} (hg : Row w g t (bs q)) (hc : q.length ≤ c) : Slice w (.slice (some ⟨g, 0, none⟩) q.length c) q := bytes_slice hg hc
theorem owns_refl (w : World) (row : Option Nat) : w.grownBy w row := ⟨rfl, rfl, rfl, Nat.le_refl _, fun _ _ _ => rfl⟩
theorem below_of_grown {w w' : World} {base : Nat} {row : Option Nat} (h : w.grownBy w' row) (hr : ∀ g, row = some g → base ≤ g) (hs : base ≤ w.heap.size) : Below base w w' :=
  ⟨h.os, h.tape, h.output, h.size, fun k hk => h.block k (by omega) (fun e => by have := hr k e.symm; omega)⟩
theorem wpList_append_slice {w : World} {ops : Array Oper} {rest : List Oper} {o : Oper} {a : Act} {Q : Exit → Act → World → Prop} (hgd : o.guard = none) (s x : Operand)
    (ho : o.op = .call { callee := .builtin .append, args := #[s, x], argTypes := #[22, 22] }) (base : Nat)
    (v : Value) (n : Nat) (xs : List Value) (hs : a.eval s = v) (hown : w.ownsRow base 5 1 v n xs)
    (A : Option Addr) (m c : Nat) (q : List (BitVec 8)) (hx : a.eval x = .slice A m c) (hq : Slice w (.slice A m c) q) (hA : A = none → c = 0)
    (hnm : n + m ≤ 1000000000) (hbase : base ≤ w.heap.size)
    (h : ∀ v' w', w'.ownsRow base 5 1 v' (n + m) (xs ++ bytesV q) → Below base w w' → wpList Tryd.prog ops Q rest (a.put o.dst v') w') : wpList Tryd.prog ops Q (o :: rest) a w := by
  obtain ⟨i0, hi, hz0, hz1, hz2⟩ := info_parts info_u8
  have hblk : ∀ g, v.ownBlock = some g → base ≤ g := fun g hg => (hown.lt g hg).1
  obtain ⟨A', c', e1, _, h3⟩ := hq
  injection e1 with e1 e2 e3
  subst e1 e2 e3
  cases A with
  | none =>
    have hq0 : q = [] := by
      apply Decidable.byContradiction
      intro hne
      obtain ⟨_, _, h4, _⟩ := h3 hne
      cases h4
    subst hq0
    obtain rfl := hA rfl
    refine wpList_append_own_none hgd s x 22 ho base 5 i0 1 Tryd.underlying22 hi v n xs hs hown hx ?_
    exact h v w (by simpa [bytesV] using hown) (Below.refl _ _)
  | some ad =>
    refine wpList_append_own w hgd s x 22 ho base 5 i0 (.int .u8 0) 1 1 Tryd.underlying22 hi hz0 hz1 hz2 rfl (by omega) v n xs hs hown ad q.length c (bytesV q) hx (by simp [bytesV]) ?_ (one_bytesV q) (by unfold maxLen; omega) (by omega) hbase ?_
    · intro j u hu
      have hne : q ≠ [] := by rintro rfl; simp [bytesV] at hu
      obtain ⟨b, o, h4, _, h6⟩ := h3 hne
      have h4 := Option.some.inj h4
      subst h4
      rw [Addr.add_mid]
      simp only [bytesV, List.getElem?_map, Option.map_eq_some_iff] at hu
      obtain ⟨y, hy, rfl⟩ := hu
      exact h6 j y hy
    · intro v' w' h1 h2 _
      exact h v' w' h1 (below_of_grown h2 hblk hbase)
/- a slice of the call's own that is not empty: where it lies and what it holds -/
theorem owns_form {w : World} {base n : Nat} {e : TypeId} {v : Value} {q : List (BitVec 8)} (h : w.ownsRow base e 1 v n (bytesV q)) (hq : 0 < q.length) :
    ∃ g cap, v = .slice (some ⟨g, 0, none⟩) q.length cap ∧ base ≤ g ∧ g < w.heap.size ∧ q.length ≤ cap ∧ ∀ j x, q[j]? = some x → w.cell? ⟨g, j, none⟩ = some (.int .u8 (bd x)) := by
  have hn : q.length = n := by have := h.1; simp [bytesV] at this; omega
  subst hn
  rcases h.2 with ⟨_, h0⟩ | ⟨g, cap, cur, rfl, hg, hh, hc, _⟩
  · omega
  · refine ⟨g, cap, rfl, hg, (h.lt g rfl).2, hc, fun j x hx => ?_⟩
    have hj := (List.getElem?_eq_some_iff.1 hx).1
    have := h.cellAt j (by omega)
    rw [this]
    simp [bytesV, hx]
theorem parts1 {w : World} {v : Value} {q : List (BitVec 8)} (h : Slice w v q) : Parts (w.alloc (.cells #[v] 22)) (.slice (some ⟨w.heap.size, 0, none⟩) 1 1) [q] := by
  have r := Row.fresh w 22 #[v]
  refine ⟨_, 1, rfl, fun _ => ⟨w.heap.size, 0, rfl, r.lt, fun k p hp => ?_⟩⟩
  match k, hp with
  | 0, hp => obtain rfl : q = p := by simpa using hp
             exact ⟨v, r.get rfl, h.below ((Below.refl _ _).alloc (Nat.le_refl _) _) (Nat.le_refl _)⟩
theorem Slice.take {w : World} {A : Option Addr} {c k : Nat} {q : List (BitVec 8)} (h : Slice w (.slice A q.length c) q) (hk : k ≤ q.length) : Slice w (.slice A k c) (q.take k) := by
  obtain ⟨A', c', h1, h2, h3⟩ := h
  injection h1 with h1 _ h1c
  subst h1 h1c
  refine ⟨A, c, by rw [List.length_take, Nat.min_eq_left hk], by rw [List.length_take]; omega, fun hne => ?_⟩
  obtain ⟨b, o, h4, h5, h6⟩ := h3 (by intro e; subst e; simp at hne)
  refine ⟨b, o, h4, h5, fun j x hx => h6 j x ?_⟩
  rw [List.getElem?_take] at hx
  split at hx
  · exact hx
  · cases hx
theorem Slice.drop {w : World} {A : Option Addr} {c k : Nat} {q : List (BitVec 8)} (h : Slice w (.slice A q.length c) q) (hk : k ≤ q.length) : Slice w (.slice (if c = k then A else A.map (·.add k)) (q.length - k) (c - k)) (q.drop k) := by
  obtain ⟨A', c', h1, h2, h3⟩ := h
  injection h1 with h1 _ h1c
  subst h1 h1c
  refine ⟨_, c - k, by rw [List.length_drop], by rw [List.length_drop]; omega, fun hne => ?_⟩
  have hl : 0 < (q.drop k).length := List.length_pos_iff.2 hne
  rw [List.length_drop] at hl
  obtain ⟨b, o, h4, h5, h6⟩ := h3 (by intro e; subst e; simp at hne)
  subst h4
  refine ⟨b, o + k, ?_, h5, fun j x hx => ?_⟩
  · rw [if_neg (by omega)]; simp [Addr.add_mid]
  · rw [List.getElem?_drop] at hx
    rw [Nat.add_assoc]; exact h6 _ x hx
theorem Parts.below {w w' : World} {B : Nat} {v : Value} {ps : List (List (BitVec 8))} (h : Parts w v ps) (hb : Below B w w') (hB : w.heap.size ≤ B) : Parts w' v ps := by
  obtain ⟨A, c, h1, h3⟩ := h
  refine ⟨A, c, h1, fun hne => ?_⟩
  obtain ⟨b, o, h4, h5, h6⟩ := h3 hne
  refine ⟨b, o, h4, Nat.lt_of_lt_of_le h5 hb.size, fun k q hq => ?_⟩
  obtain ⟨u, h7, h8⟩ := h6 k q hq
  exact ⟨u, (hb.cell (p := ⟨b, o + k, none⟩) (Nat.lt_of_lt_of_le h5 hB)).trans h7, h8.below hb hB⟩
/- a slice of bytes that may be appended: nil has no room -/
def Item (w : World) (u : Value) (q : List (BitVec 8)) : Prop := ∃ A c, u = .slice A q.length c ∧ Slice w (.slice A q.length c) q ∧ (A = none → c = 0) ∧ q.length ≤ maxLen
def Hand (w : World) (v : Value) (ps : List (List (BitVec 8))) : Prop :=
  ∃ A c, v = .slice A ps.length c ∧ (ps ≠ [] → ∃ b o, A = some ⟨b, o, none⟩ ∧ b < w.heap.size ∧ ∀ k q, ps[k]? = some q → ∃ u, w.cell? ⟨b, o + k, none⟩ = some u ∧ Item w u q)
theorem Item.below {w w' : World} {B : Nat} {u : Value} {q : List (BitVec 8)} (h : Item w u q) (hb : Below B w w') (hB : w.heap.size ≤ B) : Item w' u q := by
  obtain ⟨A, c, h1, h2, h3⟩ := h
  exact ⟨A, c, h1, h2.below hb hB, h3⟩
theorem Item.slice {w : World} {u : Value} {q : List (BitVec 8)} (h : Item w u q) : Slice w u q := by
  obtain ⟨A, c, rfl, h2, h3⟩ := h
  exact h2
theorem Hand.below {w w' : World} {B : Nat} {v : Value} {ps : List (List (BitVec 8))} (h : Hand w v ps) (hb : Below B w w') (hB : w.heap.size ≤ B) : Hand w' v ps := by
  obtain ⟨A, c, h1, h3⟩ := h
  refine ⟨A, c, h1, fun hne => ?_⟩
  obtain ⟨b, o, h4, h5, h6⟩ := h3 hne
  refine ⟨b, o, h4, Nat.lt_of_lt_of_le h5 hb.size, fun k q hq => ?_⟩
  obtain ⟨u, h7, h8⟩ := h6 k q hq
  exact ⟨u, (hb.cell (p := ⟨b, o + k, none⟩) (Nat.lt_of_lt_of_le h5 hB)).trans h7, h8.below hb hB⟩
theorem info_sl : (Tryd.prog.info? 22).map (fun i => (i.zero, i.size, i.bytes)) = some (some (.slice none 0 0), 1, 24) := by kernel_rfl
theorem own_slice {w : World} {base : Nat} {v : Value} {q : List (BitVec 8)} (h : w.ownsRow base 5 1 v q.length (bytesV q)) : Slice w v q := by
  by_cases hq : q = []
  · subst hq
    rcases h.2 with ⟨rfl, _⟩ | ⟨g, cap, cur, rfl, _⟩
    · exact ⟨none, 0, rfl, by simp, fun h => absurd rfl h⟩
    · exact ⟨_, cap, rfl, by simp, fun h => absurd rfl h⟩
  · obtain ⟨g, cap, rfl, _, h3, h4, h5⟩ := owns_form h (List.length_pos_iff.2 hq)
    exact ⟨_, cap, rfl, h4, fun _ => ⟨g, 0, rfl, h3, fun j x hx => by rw [Nat.zero_add]; exact h5 j x hx⟩⟩
/- slices of the call's own, in a slice of the call's own -/
def Owns (w wr : World) (v : Value) (ps : List (List (BitVec 8))) : Prop :=
  ∃ vs : List Value, wr.ownsRow w.heap.size 22 1 v ps.length vs ∧ Below w.heap.size w wr ∧ ∀ (j : Nat) (q : List (BitVec 8)), ps[j]? = some q → ∃ u, vs[j]? = some u ∧ wr.ownsRow w.heap.size 5 1 u q.length (bytesV q)
theorem Owns.parts {w wr : World} {v : Value} {ps : List (List (BitVec 8))} (h : Owns w wr v ps) : Parts wr v ps := by
  obtain ⟨vs, h1, _, h3⟩ := h
  rcases h1.2 with ⟨rfl, h0⟩ | ⟨g, cap, cur, rfl, hg, hh, hc, _⟩
  · obtain rfl : ps = [] := List.length_eq_zero_iff.1 h0
    exact ⟨none, 0, rfl, fun h => absurd rfl h⟩
  · refine ⟨_, cap, rfl, fun _ => ⟨g, 0, rfl, (h1.lt g rfl).2, fun k q hq => ?_⟩⟩
    obtain ⟨u, hu, ho⟩ := h3 k q hq
    have hk := (List.getElem?_eq_some_iff.1 hq).1
    exact ⟨u, by rw [Nat.zero_add, h1.cellAt k (by omega), hu], own_slice ho⟩
/- the slices of a slice of slices, as a list -/
theorem Parts.list {w : World} {v : Value} {ps : List (List (BitVec 8))} (h : Parts w v ps) : ∃ A c, ∃ us : List Value, v = .slice A ps.length c ∧ us.length = ps.length ∧ (∀ ad, A = some ad → ∀ (j : Nat) (u : Value), us[j]? = some u → w.cell? (ad.add j) = some u) ∧ (A = none → ps = []) ∧
    (∀ u ∈ us, Value.oneCell' u = true) ∧ ∀ (k : Nat) (q : List (BitVec 8)), ps[k]? = some q → ∃ u, us[k]? = some u ∧ Slice w u q := by
  obtain ⟨A, c, rfl, h3⟩ := h
  by_cases hne : ps = []
  · subst hne
    exact ⟨A, c, [], rfl, rfl, fun _ _ j u hu => (by simp at hu), fun _ => rfl, fun u hu => (by cases hu), fun k q hq => (by simp at hq)⟩
  · obtain ⟨b, o, rfl, _, hc⟩ := h3 hne
    have hk : ∀ k, k < ps.length → ∃ u, w.cell? ⟨b, o + k, none⟩ = some u ∧ Slice w u (ps.getD k []) := fun k hk => hc k _ (by rw [List.getD_eq_getElem?_getD, List.getElem?_eq_getElem hk]; rfl)
    refine ⟨some ⟨b, o, none⟩, c, (List.range ps.length).map fun k => (w.cell? ⟨b, o + k, none⟩).getD undef, rfl, by simp, ?_, fun h => (by cases h), ?_, ?_⟩
    · rintro ad e j u hu
      injection e with e
      subst e
      simp only [List.getElem?_map, Option.map_eq_some_iff] at hu
      obtain ⟨k, hk1, rfl⟩ := hu
      have hlt : j < ps.length := by have := (List.getElem?_eq_some_iff.1 hk1).1; simpa using this
      obtain rfl : j = k := by simpa [hlt] using hk1
      obtain ⟨u, hu, _⟩ := hk _ hlt
      rw [Addr.add_mid, hu]; rfl
    · intro u hu
      simp only [List.mem_map, List.mem_range] at hu
      obtain ⟨k, hlt, rfl⟩ := hu
      obtain ⟨u, hu, A', c', rfl, _⟩ := hk k hlt
      rw [hu]; rfl
    · intro k q hq
      have hlt := (List.getElem?_eq_some_iff.1 hq).1
      obtain ⟨u, hu, hs⟩ := hk k hlt
      rw [List.getD_eq_getElem?_getD, hq] at hs
      exact ⟨u, by simp [hlt, hu], hs⟩
theorem parts_own {w : World} {base g N cap : Nat} {bv : Value} {us : List Value} {l : List (BitVec 8)} {ps : List (List (BitVec 8))} (h : w.ownsRow base 22 1 (.slice (some ⟨g, 0, none⟩) N cap) N ([bv] ++ us)) (hN : N = ps.length + 1)
    (hb : Slice w bv l) (hu : ∀ (k : Nat) (q : List (BitVec 8)), ps[k]? = some q → ∃ u, us[k]? = some u ∧ Slice w u q) : Parts w (.slice (some ⟨g, 0, none⟩) N cap) (l :: ps) := by
  subst hN
  refine ⟨_, cap, rfl, fun _ => ⟨g, 0, rfl, (h.lt g rfl).2, fun k q hq => ?_⟩⟩
  have hk := (List.getElem?_eq_some_iff.1 hq).1
  rw [Nat.zero_add, h.cellAt k (by simp at hk; omega)]
  cases k with
  | zero => obtain rfl : l = q := by simpa using hq
            exact ⟨bv, rfl, hb⟩
  | succ k => obtain ⟨u, hu1, hu2⟩ := hu k q (by simpa using hq)
              exact ⟨u, by simpa using hu1, hu2⟩
theorem below_only {w w' : World} {g B : Nat} (h : w.grownBy w' (some g)) (hg : B ≤ g) (hs : B ≤ w.heap.size) : Below B w w' := below_of_grown h (fun k e => by injection e with e; omega) hs
theorem parts2 {w : World} {a b : Value} {p q : List (BitVec 8)} (ha : Slice w a p) (hb : Slice w b q) : Parts (w.alloc (.cells #[a, b] 22)) (.slice (some ⟨w.heap.size, 0, none⟩) 2 2) [p, q] := by
  have t := Row.fresh w 22 #[a, b]
  have hx := (Below.refl w.heap.size w).alloc (Nat.le_refl _) (.cells #[a, b] 22)
  refine ⟨_, 2, rfl, fun _ => ⟨w.heap.size, 0, rfl, t.lt, fun k s hs => ?_⟩⟩
  match k, hs with
  | 0, hs => obtain rfl : p = s := by simpa using hs
             exact ⟨a, t.get rfl, ha.below hx (Nat.le_refl _)⟩
  | 1, hs => obtain rfl : q = s := by simpa using hs
             exact ⟨b, t.get rfl, hb.below hx (Nat.le_refl _)⟩
/- the slices of a slice of slices that was handed in, as a list -/
theorem Hand.list {w : World} {v : Value} {ps : List (List (BitVec 8))} (h : Hand w v ps) : ∃ A c, ∃ us : List Value, v = .slice A ps.length c ∧ us.length = ps.length ∧ (∀ ad, A = some ad → ∀ (j : Nat) (u : Value), us[j]? = some u → w.cell? (ad.add j) = some u) ∧ (A = none → ps = []) ∧
    (∀ u ∈ us, Value.oneCell' u = true) ∧ ∀ (k : Nat) (q : List (BitVec 8)), ps[k]? = some q → ∃ u, us[k]? = some u ∧ Item w u q := by
  obtain ⟨A, c, rfl, h3⟩ := h
  by_cases hne : ps = []
  · subst hne
    exact ⟨A, c, [], rfl, rfl, fun _ _ j u hu => (by simp at hu), fun _ => rfl, fun u hu => (by cases hu), fun k q hq => (by simp at hq)⟩
  · obtain ⟨b, o, rfl, _, hc⟩ := h3 hne
    have hk : ∀ k, k < ps.length → ∃ u, w.cell? ⟨b, o + k, none⟩ = some u ∧ Item w u (ps.getD k []) := fun k hk => hc k _ (by rw [List.getD_eq_getElem?_getD, List.getElem?_eq_getElem hk]; rfl)
    refine ⟨some ⟨b, o, none⟩, c, (List.range ps.length).map fun k => (w.cell? ⟨b, o + k, none⟩).getD undef, rfl, by simp, ?_, fun h => (by cases h), ?_, ?_⟩
    · rintro ad e j u hu
      injection e with e
      subst e
      simp only [List.getElem?_map, Option.map_eq_some_iff] at hu
      obtain ⟨k, hk1, rfl⟩ := hu
      have hlt : j < ps.length := by have := (List.getElem?_eq_some_iff.1 hk1).1; simpa using this
      obtain rfl : j = k := by simpa [hlt] using hk1
      obtain ⟨u, hu, _⟩ := hk _ hlt
      rw [Addr.add_mid, hu]; rfl
    · intro u hu
      simp only [List.mem_map, List.mem_range] at hu
      obtain ⟨k, hlt, rfl⟩ := hu
      obtain ⟨u, hu, A', c', rfl, _⟩ := hk k hlt
      rw [hu]; rfl
    · intro k q hq
      have hlt := (List.getElem?_eq_some_iff.1 hq).1
      obtain ⟨u, hu, hs⟩ := hk k hlt
      rw [List.getD_eq_getElem?_getD, hq] at hs
      exact ⟨u, by simp [hlt, hu], hs⟩
theorem bs_toList (l : List (BitVec 8)) : (bs l).toList = bytesV l := by simp [bs, bytesV]
theorem grown_setRow (w : World) (g : Nat) (cs : Array Value) : w.grownBy (w.setRow g cs) (some g) :=
  ⟨rfl, rfl, rfl, by rw [size_setRow]; exact Nat.le_refl _, fun k _ hk => setRow_other w g k cs (fun e => hk (by rw [e]))⟩
theorem copied (cur q : List (BitVec 8)) : ((bs cur).toList.take 0 ++ (bytesV q ++ (bs cur).toList.drop (0 + (bytesV q).length))).toArray = bs (q ++ cur.drop q.length) := by
  simp [bs, bytesV]
theorem wpList_copy_bytes {w : World} {ops : Array Oper} {rest : List Oper} {o : Oper} {a : Act} {Q : Exit → Act → World → Prop} (hgd : o.guard = none) (d s : Operand)
    (ho : o.op = .call { callee := .builtin .copy, args := #[d, s], argTypes := #[22, 22] })
    (g n m : Nat) (hd : a.eval d = .slice (some ⟨g, 0, none⟩) n m) (v : Value) (hs : a.eval s = v) (q cur : List (BitVec 8)) (hq : Slice w v q) (t : TypeId) (hg : Row w g t (bs cur)) (hn : cur.length = n) (hle : q.length ≤ n)
    (h : ∀ w', Row w' g t (bs (q ++ cur.drop q.length)) → w.grownBy w' (some g) → wpList Tryd.prog ops Q rest (a.put o.dst (goInt q.length)) w') : wpList Tryd.prog ops Q (o :: rest) a w := by
  obtain ⟨A, c, rfl, _, h3⟩ := hq
  by_cases hne : q = []
  · subst hne
    refine wpList_copy_nothing hgd d s 22 22 ho 5 Tryd.underlying22 size_u8 _ _ n m 0 c hd hs (Nat.zero_min _) ?_
    exact h w (by simpa using hg) (owns_refl w _)
  · obtain ⟨b, o', rfl, hbl, hc⟩ := h3 hne
    refine wpList_copy_own hgd d s 22 22 ho 5 Tryd.underlying22 size_u8 g 0 n m ⟨b, o', none⟩ q.length c hd hs (bs cur) t hg (bytesV q) (by rw [show (bytesV q).length = q.length by simp [bytesV]]; exact (Nat.min_eq_left hle).symm) ?_ (by rw [size_bs]; simp [bytesV]; omega) (one_bytesV q) ?_
    · intro j u hu
      rw [Addr.add_mid]
      simp only [bytesV, List.getElem?_map, Option.map_eq_some_iff] at hu
      obtain ⟨y, hy, rfl⟩ := hu
      exact hc j y hy
    · rw [copied, show (bytesV q).length = q.length by simp [bytesV]]
      exact h _ (hg.setRow _) (grown_setRow _ _ _)
theorem Hand.parts {w : World} {v : Value} {ps : List (List (BitVec 8))} (h : Hand w v ps) : Parts w v ps := by
  obtain ⟨A, c, h1, h3⟩ := h
  refine ⟨A, c, h1, fun hne => ?_⟩
  obtain ⟨b, o, h4, h5, h6⟩ := h3 hne
  refine ⟨b, o, h4, h5, fun k q hq => ?_⟩
  obtain ⟨u, h7, h8⟩ := h6 k q hq
  exact ⟨u, h7, h8.slice⟩
end Go.Proofs.YtcheflcfoiclgaaDoor

/- SHA-256 as plain functions on lists of bit vectors: the words of a block, the rounds, a block's turn, the pad, a message's hash. No program is named here. -/
set_option maxRecDepth 4000
namespace Go.Proofs.YtcheflcfoiclgaaDoor
def rr (x : BitVec 32) (n : Nat) : BitVec 32 := x <<< (32 - n) ||| x >>> n
def ss0 (x : BitVec 32) : BitVec 32 := rr x 7 ^^^ rr x 18 ^^^ x >>> 3
def ss1 (x : BitVec 32) : BitVec 32 := rr x 17 ^^^ rr x 19 ^^^ x >>> 10
def bs0 (x : BitVec 32) : BitVec 32 := rr x 2 ^^^ rr x 13 ^^^ rr x 22
def bs1 (x : BitVec 32) : BitVec 32 := rr x 6 ^^^ rr x 11 ^^^ rr x 25
def rnd1 (e f g h kw : BitVec 32) : BitVec 32 := h + bs1 e + (e &&& f ^^^ ~~~e &&& g) + kw
def rnd2 (a b c : BitVec 32) : BitVec 32 := bs0 a + (a &&& b ^^^ a &&& c ^^^ b &&& c)

/- four bytes as a word, the higher first -/
def word (a b c d : BitVec 8) : BitVec 32 := (a.setWidth 32 <<< 24 ||| b.setWidth 32 <<< 16) ||| c.setWidth 32 <<< 8 ||| d.setWidth 32
def wordAt (l : List (BitVec 8)) (t : Nat) : BitVec 32 := word (l.getD (4 * t) 0) (l.getD (4 * t + 1) 0) (l.getD (4 * t + 2) 0) (l.getD (4 * t + 3) 0)
def next (l : List (BitVec 32)) (t : Nat) : BitVec 32 := ss1 (l.getD (t - 2) 0) + l.getD (t - 7) 0 + ss0 (l.getD (t - 15) 0) + l.getD (t - 16) 0
def zeros (n : Nat) : List (BitVec 32) := List.replicate n 0
/- the words of a block as they stand behind k steps -/
def sched (b : List (BitVec 8)) : Nat → List (BitVec 32)
  | 0 => zeros 64
  | t + 1 => (sched b t).set t (if t < 16 then wordAt b t else next (sched b t) t)
theorem length_sched (b : List (BitVec 8)) (k : Nat) : (sched b k).length = 64 := by
  induction k with
  | zero => simp [sched, zeros]
  | succ k ih => simp [sched, ih]

/- the document's K -/
def kk : List (BitVec 32) := [0x428a2f98#32, 0x71374491#32, 0xb5c0fbcf#32, 0xe9b5dba5#32, 0x3956c25b#32, 0x59f111f1#32, 0x923f82a4#32, 0xab1c5ed5#32, 0xd807aa98#32, 0x12835b01#32, 0x243185be#32, 0x550c7dc3#32, 0x72be5d74#32, 0x80deb1fe#32, 0x9bdc06a7#32, 0xc19bf174#32, 0xe49b69c1#32, 0xefbe4786#32, 0x0fc19dc6#32, 0x240ca1cc#32, 0x2de92c6f#32, 0x4a7484aa#32, 0x5cb0a9dc#32, 0x76f988da#32, 0x983e5152#32, 0xa831c66d#32, 0xb00327c8#32, 0xbf597fc7#32, 0xc6e00bf3#32, 0xd5a79147#32, 0x06ca6351#32, 0x14292967#32, 0x27b70a85#32, 0x2e1b2138#32, 0x4d2c6dfc#32, 0x53380d13#32, 0x650a7354#32, 0x766a0abb#32, 0x81c2c92e#32, 0x92722c85#32, 0xa2bfe8a1#32, 0xa81a664b#32, 0xc24b8b70#32, 0xc76c51a3#32, 0xd192e819#32, 0xd6990624#32, 0xf40e3585#32, 0x106aa070#32, 0x19a4c116#32, 0x1e376c08#32, 0x2748774c#32, 0x34b0bcb5#32, 0x391c0cb3#32, 0x4ed8aa4a#32, 0x5b9cca4f#32, 0x682e6ff3#32, 0x748f82ee#32, 0x78a5636f#32, 0x84c87814#32, 0x8cc70208#32, 0x90befffa#32, 0xa4506ceb#32, 0xbef9a3f7#32, 0xc67178f2#32]
def rnd (s : List (BitVec 32)) (kw : BitVec 32) : List (BitVec 32) :=
  match s with
  | [a, b, c, d, e, f, g, h] => [rnd1 e f g h kw + rnd2 a b c, a, b, c, d + rnd1 e f g h kw, e, f, g]
  | _ => s
def rounds (h w : List (BitVec 32)) : Nat → List (BitVec 32)
  | 0 => h
  | t + 1 => rnd (rounds h w t) (kk.getD t 0 + w.getD t 0)
def plus (h s : List (BitVec 32)) : List (BitVec 32) := List.zipWith (· + ·) h s
/- H behind one more block -/
def turn (h : List (BitVec 32)) (b : List (BitVec 8)) : List (BitVec 32) := plus h (rounds h (sched b 64) 64)
theorem length_kk : kk.length = 64 := rfl
theorem length_rnd (s : List (BitVec 32)) (kw : BitVec 32) : (rnd s kw).length = s.length := by
  unfold rnd; split <;> rfl
theorem length_rounds (h w : List (BitVec 32)) (t : Nat) : (rounds h w t).length = h.length := by
  induction t with
  | zero => rfl
  | succ t ih => rw [rounds, length_rnd, ih]
theorem length_turn (h : List (BitVec 32)) (b : List (BitVec 8)) : (turn h b).length = h.length := by
  simp [turn, plus, length_rounds]
theorem list8 {α : Type} (l : List α) (h : l.length = 8) : ∃ a b c d e f g i, l = [a, b, c, d, e, f, g, i] := by
  match l, h with
  | [a, b, c, d, e, f, g, i], _ => exact ⟨a, b, c, d, e, f, g, i, rfl⟩
theorem length_plus (h s : List (BitVec 32)) (hl : h.length = 8) (hs : s.length = 8) : (plus h s).length = 8 := by simp [plus, hl, hs]
/- h, its first k words increased by those of s -/
def part (h s : List (BitVec 32)) (k : Nat) : List (BitVec 32) := (plus h s).take k ++ h.drop k
theorem part_zero (h s : List (BitVec 32)) : part h s 0 = h := by simp [part]
theorem part_all (h s : List (BitVec 32)) (hl : h.length = 8) (hs : s.length = 8) : part h s 8 = plus h s := by
  have : (plus h s).length = 8 := by simp [plus, hl, hs]
  rw [part, List.take_of_length_le (by omega), List.drop_of_length_le (by omega), List.append_nil]
theorem length_part (h s : List (BitVec 32)) (k : Nat) (hl : h.length = 8) (hs : s.length = 8) (hk : k ≤ 8) : (part h s k).length = 8 := by
  simp [part, plus, hl, hs]; omega
theorem part_get (h s : List (BitVec 32)) (k : Nat) (hl : h.length = 8) (hs : s.length = 8) (hk : k < 8) : (part h s k).getD k 0 = h.getD k 0 := by
  have h1 : ((plus h s).take k).length = k := by simp [plus, hl, hs]; omega
  rw [part, List.getD_eq_getElem?_getD, List.getElem?_append_right (by omega), h1, List.getElem?_drop]
  simp
theorem part_set (h s : List (BitVec 32)) (k : Nat) (hl : h.length = 8) (hs : s.length = 8) (hk : k < 8) : (part h s k).set k (h.getD k 0 + s.getD k 0) = part h s (k + 1) := by
  have h1 : ((plus h s).take k).length = k := by simp [plus, hl, hs]; omega
  have h2 : (plus h s).length = 8 := by simp [plus, hl, hs]
  have e : (plus h s)[k]'(by omega) = h.getD k 0 + s.getD k 0 := by
    simp [plus, List.getElem?_eq_getElem (show k < h.length by omega), List.getElem?_eq_getElem (show k < s.length by omega)]
  rw [part, part, List.set_append_right _ _ (by omega), h1, Nat.sub_self, List.take_succ_eq_append_getElem (by omega), e, List.append_assoc]
  rw [List.drop_eq_getElem_cons (show k < h.length by omega), List.set_cons_zero]
  rfl
end Go.Proofs.YtcheflcfoiclgaaDoor

set_option maxRecDepth 4000
namespace Go.Proofs.YtcheflcfoiclgaaDoor
open Go Go.RowKit
theorem shr3_wd (x : BitVec 32) : wd x / (8 : Int) = wd (x >>> 3) := shr_wd x 3
theorem shr10_wd (x : BitVec 32) : wd x / (1024 : Int) = wd (x >>> 10) := shr_wd x 10
theorem xor_shr3 (y x : BitVec 32) : bits .xor .u32 (wd y) (wd x / (8 : Int)) = wd (y ^^^ x >>> 3) := by rw [shr3_wd, xor_wd]
theorem xor_shr10 (y x : BitVec 32) : bits .xor .u32 (wd y) (wd x / (1024 : Int)) = wd (y ^^^ x >>> 10) := by rw [shr10_wd, xor_wd]
attribute [local go_sem] xor_wd and_wd or_wd add_wd shr_wd

theorem and31 (n : Nat) (h : 0 < n) (h2 : n < 32) : bits .and .u64 (IntKind.u64.wrap (-(n : Int))) 31 = ((32 - n : Nat) : Int) := by
  have hw : IntKind.u64.wrap (-(n : Int)) = ((18446744073709551616 - n : Nat) : Int) := by
    rw [show IntKind.u64.wrap (-(n : Int)) = (-(n : Int)) % 18446744073709551616 from by simp [IntKind.wrap, IntKind.bits, IntKind.signed]]
    omega
  have e : bits .and .u64 ((18446744073709551616 - n : Nat) : Int) ((31 : Nat) : Int) = _ := u64_and_nat (18446744073709551616 - n) 31 (by omega) (by omega)
  rw [hw]; refine e.trans ?_; rw [nat_mask5]
  omega
theorem rot_any (x : BitVec 32) (n : Nat) (w : World) (h : 0 < n) (h2 : n < 32) :
    Calls Tryd.prog 53 #[.int .u32 (wd x), .int .i64 (-(n : Int))] w fun e w' => e = .returned (.int .u32 (wd (x <<< (32 - n) ||| x >>> n))) ∧ w = w' := by
  have e1 := and31 n h h2
  have e2 : Op.shift .shl .u32 (wd x) .u64 ((32 - n : Nat) : Int) = pure (.int .u32 (wd (x <<< (32 - n)))) := by
    rw [shift_shl _ _ _ _ (by omega) (by simp [IntKind.bits]; omega), Int.toNat_natCast, shl_wd]
  have e3 : IntKind.u64.wrap (32 - ((32 - n : Nat) : Int)) = (n : Int) := by
    rw [show IntKind.u64.wrap (32 - ((32 - n : Nat) : Int)) = (32 - ((32 - n : Nat) : Int)) % 18446744073709551616 from by simp [IntKind.wrap, IntKind.bits, IntKind.signed]]
    omega
  generalize 32 - n = m at *
  go_enter Tryd.func53, Tryd.ntmps53
  go_wp2
  go_ret
  exact ⟨rfl, rfl⟩

theorem sharight_any (x : BitVec 32) (n : Nat) (w : World) (h : 0 < n) (h2 : n < 32) :
    Calls Tryd.prog 52 #[.int .u32 (wd x), .int .i64 (n : Int)] w fun e w' => e = .returned (.int .u32 (wd (x <<< (32 - n) ||| x >>> n))) ∧ w = w' := by
  go_enter Tryd.func52, Tryd.ntmps52
  go_wp2_with fail
  refine (rot_any _ _ _ h h2).mono ?_
  rintro e w' ⟨rfl, rfl⟩
  go_wp2
  go_ret
  exact ⟨rfl, rfl⟩

theorem right_lit (x : BitVec 32) (k : Int) (n : Nat) (w : World) (hk : k = (n : Int)) (h : 0 < n) (h2 : n < 32) :
    Calls Tryd.prog 52 #[.int .u32 (wd x), .int .i64 k] w fun e w' => e = .returned (.int .u32 (wd (rr x n))) ∧ w = w' := by
  subst hk; exact sharight_any x n w h h2

theorem ss1_any (x : BitVec 32) (w : World) :
    Calls Tryd.prog 48 #[.int .u32 (wd x)] w fun e w' => e = .returned (.int .u32 (wd (ss1 x))) ∧ w = w' := by
  go_enter Tryd.func48, Tryd.ntmps48
  go_wp2_with fail
  refine (right_lit _ 17 17 _ rfl (by omega) (by omega)).mono ?_; rintro e w' ⟨rfl, rfl⟩
  go_wp2_with fail
  refine (right_lit _ 19 19 _ rfl (by omega) (by omega)).mono ?_; rintro e w' ⟨rfl, rfl⟩
  go_wp2
  go_ret
  exact ⟨ret_int (xor_shr10 _ _), rfl⟩
theorem ss0_any (x : BitVec 32) (w : World) :
    Calls Tryd.prog 49 #[.int .u32 (wd x)] w fun e w' => e = .returned (.int .u32 (wd (ss0 x))) ∧ w = w' := by
  go_enter Tryd.func49, Tryd.ntmps49
  go_wp2_with fail
  refine (right_lit _ 7 7 _ rfl (by omega) (by omega)).mono ?_; rintro e w' ⟨rfl, rfl⟩
  go_wp2_with fail
  refine (right_lit _ 18 18 _ rfl (by omega) (by omega)).mono ?_; rintro e w' ⟨rfl, rfl⟩
  go_wp2
  go_ret
  exact ⟨ret_int (xor_shr3 _ _), rfl⟩
theorem bs1_any (x : BitVec 32) (w : World) :
    Calls Tryd.prog 50 #[.int .u32 (wd x)] w fun e w' => e = .returned (.int .u32 (wd (bs1 x))) ∧ w = w' := by
  go_enter Tryd.func50, Tryd.ntmps50
  go_wp2_with fail
  refine (right_lit _ 6 6 _ rfl (by omega) (by omega)).mono ?_; rintro e w' ⟨rfl, rfl⟩
  go_wp2_with fail
  refine (right_lit _ 11 11 _ rfl (by omega) (by omega)).mono ?_; rintro e w' ⟨rfl, rfl⟩
  go_wp2_with fail
  refine (right_lit _ 25 25 _ rfl (by omega) (by omega)).mono ?_; rintro e w' ⟨rfl, rfl⟩
  go_wp2
  go_ret
  exact ⟨rfl, rfl⟩
theorem bs0_any (x : BitVec 32) (w : World) :
    Calls Tryd.prog 51 #[.int .u32 (wd x)] w fun e w' => e = .returned (.int .u32 (wd (bs0 x))) ∧ w = w' := by
  go_enter Tryd.func51, Tryd.ntmps51
  go_wp2_with fail
  refine (right_lit _ 2 2 _ rfl (by omega) (by omega)).mono ?_; rintro e w' ⟨rfl, rfl⟩
  go_wp2_with fail
  refine (right_lit _ 13 13 _ rfl (by omega) (by omega)).mono ?_; rintro e w' ⟨rfl, rfl⟩
  go_wp2_with fail
  refine (right_lit _ 22 22 _ rfl (by omega) (by omega)).mono ?_; rintro e w' ⟨rfl, rfl⟩
  go_wp2
  go_ret
  exact ⟨rfl, rfl⟩
end Go.Proofs.YtcheflcfoiclgaaDoor

set_option maxRecDepth 4000
namespace Go.Proofs.YtcheflcfoiclgaaDoor
open Go Go.RowKit
attribute [local go_sem] xor_wd and_wd or_wd add_wd shr_wd not_wd signed_u32
theorem round_any (a b c d e f g h kw : BitVec 32) (w : World) :
    Calls Tryd.prog 47 #[.agg #[.int .u32 (wd a), .int .u32 (wd b), .int .u32 (wd c), .int .u32 (wd d), .int .u32 (wd e), .int .u32 (wd f), .int .u32 (wd g), .int .u32 (wd h)], .int .u32 (wd kw)] w fun x w' =>
      x = .returned (.agg #[.int .u32 (wd (rnd1 e f g h kw + rnd2 a b c)), .int .u32 (wd a), .int .u32 (wd b), .int .u32 (wd c), .int .u32 (wd (d + rnd1 e f g h kw)), .int .u32 (wd e), .int .u32 (wd f), .int .u32 (wd g)]) ∧ Below w.heap.size w w' := by
  go_enter Tryd.func47, Tryd.ntmps47
  go_wp2
  go_quiet (fail)
  go_wp2_with (first | (go_at_call 50; refine (bs1_any _ _).mono ?_; rintro e w' ⟨rfl, rfl⟩) | (go_at_call 51; refine (bs0_any _ _).mono ?_; rintro e w' ⟨rfl, rfl⟩))
  refine bodyPost_ret (v := .agg #[.int .u32 (wd (rnd1 e f g h kw + rnd2 a b c)), .int .u32 (wd a), .int .u32 (wd b), .int .u32 (wd c), .int .u32 (wd (d + rnd1 e f g h kw)), .int .u32 (wd e), .int .u32 (wd f), .int .u32 (wd g)]) ?_ rfl ⟨rfl, ?_⟩
  · simp [results, Tryd.results47, go_sem, rnd1, rnd2]
  · repeat (with_reducible refine Below.setCell ?_ (by simp) _)
    refine below_drewN ?_ _
    exact ((Below.refl _ _).alloc (Nat.le_refl _) _).alloc (by simp) _
end Go.Proofs.YtcheflcfoiclgaaDoor

set_option maxRecDepth 4000
namespace Go.Proofs.YtcheflcfoiclgaaDoor
open Go Go.RowKit
attribute [local go_sem] xor_wd and_wd or_wd add_wd shr_wd not_wd signed_u32 conv_bd shl24_wd shl16_wd shl8_wd
theorem size_w : (Tryd.prog.info? 87).map (·.size) = some 64 := by kernel_rfl
/- the world behind the three allocations -/
theorem start {w : World} {l : List (BitVec 8)} {z : Array Value} (hz : z = ws (zeros 64)) :
    ∃ k : Nat, k ≤ 16 ∧ Value.int .i64 0 = .int .i64 k ∧ Row (((w.alloc (.cells (bs l) 62)).alloc (.cells z 87)).alloc (.cells z 87)) w.heap.size 62 (bs l) ∧ Row (((w.alloc (.cells (bs l) 62)).alloc (.cells z 87)).alloc (.cells z 87)) (w.heap.size + 1) 87 (ws (zeros 64)) ∧ Row (((w.alloc (.cells (bs l) 62)).alloc (.cells z 87)).alloc (.cells z 87)) (w.heap.size + 1 + 1) 87 (ws (sched l k)) ∧ Below w.heap.size w (((w.alloc (.cells (bs l) 62)).alloc (.cells z 87)).alloc (.cells z 87)) := by
  subst hz
  have e1 : w.heap.size + 1 = (w.alloc (.cells (bs l) 62)).heap.size := by simp
  have e2 : w.heap.size + 1 + 1 = ((w.alloc (.cells (bs l) 62)).alloc (.cells (ws (zeros 64)) 87)).heap.size := by simp
  refine ⟨0, by omega, rfl, ((Row.fresh _ _ _).alloc _).alloc _, ?_, ?_, ((((Below.refl _ _).alloc (Nat.le_refl _) _).alloc (by simp) _)).alloc (by simp; omega) _⟩
  · rw [e1]; exact (Row.fresh _ _ _).alloc _
  · rw [e2]; exact Row.fresh _ _ _
theorem sched_step {w wr : World} {l : List (BitVec 8)} {k : Nat} {x : BitVec 32} (hx : x = if k < 16 then wordAt l k else next (sched l k) k)
    (hr0 : Row wr w.heap.size 62 (bs l)) (hr1 : Row wr (w.heap.size + 1) 87 (ws (zeros 64))) (hr2 : Row wr (w.heap.size + 1 + 1) 87 (ws (sched l k))) (hb : Below w.heap.size w wr) :
    Row (wr.setCell ⟨w.heap.size + 1 + 1, k, none⟩ (.int .u32 (wd x))).drew w.heap.size 62 (bs l) ∧ Row (wr.setCell ⟨w.heap.size + 1 + 1, k, none⟩ (.int .u32 (wd x))).drew (w.heap.size + 1) 87 (ws (zeros 64)) ∧
      Row (wr.setCell ⟨w.heap.size + 1 + 1, k, none⟩ (.int .u32 (wd x))).drew (w.heap.size + 1 + 1) 87 (ws (sched l (k + 1))) ∧ Below w.heap.size w (wr.setCell ⟨w.heap.size + 1 + 1, k, none⟩ (.int .u32 (wd x))).drew := by
  refine ⟨(hr0.far (by simp; omega) _).drew, (hr1.far (by simp) _).drew, ?_, (hb.setCell (by simp; omega) _).drew⟩
  have h := (hr2.put k (.int .u32 (wd x))).drew
  rw [set_ws, hx] at h
  subst hx
  exact h
theorem far4 {wr : World} {g i k : Nat} {v x : Value} (h : wr.cell? ⟨g, i, none⟩ = some x) (hne : i ≠ k) : (wr.setCell ⟨g, k, none⟩ v).drew.cell? ⟨g, i, none⟩ = some x :=
  (World.cell?_setCell_other wr ⟨g, k, none⟩ ⟨g, i, none⟩ v (fun e => hne (by injection e with _ h2; exact h2.symm))).trans h
set_option maxHeartbeats 800000 in
theorem sched_any (l : List (BitVec 8)) (hl : l.length = 64) (w : World) :
    Calls Tryd.prog 46 #[.agg (bs l)] w fun e w' => e = .returned (.agg (ws (sched l 64))) ∧ Below w.heap.size w w' := by
  go_enter Tryd.func46, Tryd.ntmps46
  go_wp2
  go_loopw [6] (fun i wr => ∃ k : Nat, k ≤ 16 ∧ i = .int .i64 k ∧ Row wr w.heap.size 62 (bs l) ∧ Row wr (w.heap.size + 1) 87 (ws (zeros 64)) ∧ Row wr (w.heap.size + 1 + 1) 87 (ws (sched l k)) ∧ Below w.heap.size w wr) (fun i _ => 16 - (intOf i).toNat)
  case atStart => exact start rfl
  case round =>
    obtain ⟨k, hk, rfl, hr0, hr1, hr2, hb⟩ := hrel
    by_cases hlt : k < 16
    · have c0 := hr0.get (get_bs l (4 * k) (by omega))
      have c1 := hr0.get (get_bs l (4 * k + 1) (by omega))
      have c2 := hr0.get (get_bs l (4 * k + 2) (by omega))
      have c3 := hr0.get (get_bs l (4 * k + 3) (by omega))
      have ct := hr2.get (get_ws (sched l k) k (by rw [length_sched]; omega))
      have cf := hr2.free k
      have z0 := i64_id (4 * (k : Int)) (by omega) (by omega)
      have z1 := i64_id (4 * (k : Int) + 1) (by omega) (by omega)
      have z2 := i64_id (4 * (k : Int) + 2) (by omega) (by omega)
      have z3 := i64_id (4 * (k : Int) + 3) (by omega) (by omega)
      have t0 : (4 * (k : Int)).toNat = 4 * k := by omega
      have t1 : (4 * (k : Int) + 1).toNat = 4 * k + 1 := by omega
      have t2 : (4 * (k : Int) + 2).toNat = 4 * k + 2 := by omega
      have t3 : (4 * (k : Int) + 3).toNat = 4 * k + 3 := by omega
      go_wp2
      go_region
      go_wp2
      go_roundw
      case rel => exact ⟨k + 1, by omega, by go_num, sched_step (by rw [if_pos hlt]; simp [wordAt, word]) hr0 hr1 hr2 hb⟩
      case measure => simp [intOf]; omega
    · obtain rfl : k = 16 := by omega
      clear hlt hk
      go_wp2
      go_loopw [5] (fun i wr => ∃ k : Nat, 16 ≤ k ∧ k ≤ 64 ∧ i = .int .i64 k ∧ Row wr w.heap.size 62 (bs l) ∧ Row wr (w.heap.size + 1) 87 (ws (zeros 64)) ∧ Row wr (w.heap.size + 1 + 1) 87 (ws (sched l k)) ∧ Below w.heap.size w wr) (fun i _ => 64 - (intOf i).toNat)
      case atStart => exact ⟨16, by omega, by omega, rfl, hr0, hr1, hr2, hb⟩
      case round =>
        clear hr0 hr1 hr2 hb
        obtain ⟨k, hk0, hk, rfl, hr0, hr1, hr2, hb⟩ := hrel
        by_cases hlt : k < 64
        · have c0 := hr2.get (get_ws (sched l k) (k - 2) (by rw [length_sched]; omega))
          have c1 := hr2.get (get_ws (sched l k) (k - 7) (by rw [length_sched]; omega))
          have c2 := hr2.get (get_ws (sched l k) (k - 15) (by rw [length_sched]; omega))
          have c3 := hr2.get (get_ws (sched l k) (k - 16) (by rw [length_sched]; omega))
          have ct := hr2.get (get_ws (sched l k) k (by rw [length_sched]; omega))
          have cf := hr2.free k
          have z0 := i64_id ((k : Int) - 2) (by omega) (by omega)
          have z1 := i64_id ((k : Int) - 7) (by omega) (by omega)
          have z2 := i64_id ((k : Int) - 15) (by omega) (by omega)
          have z3 := i64_id ((k : Int) - 16) (by omega) (by omega)
          have t0 : ((k : Int) - 2).toNat = k - 2 := by omega
          have t1 : ((k : Int) - 7).toNat = k - 7 := by omega
          have t2 : ((k : Int) - 15).toNat = k - 15 := by omega
          have t3 : ((k : Int) - 16).toNat = k - 16 := by omega
          have b0 : (0 : Int) ≤ (k : Int) - 2 := by omega
          have b1 : (0 : Int) ≤ (k : Int) - 7 := by omega
          have b2 : (0 : Int) ≤ (k : Int) - 15 := by omega
          have b3 : (0 : Int) ≤ (k : Int) - 16 := by omega
          have d0 : (2 : Int) ≤ (k : Int) := by omega
          have d1 : (7 : Int) ≤ (k : Int) := by omega
          have d2 : (15 : Int) ≤ (k : Int) := by omega
          have d3 : (16 : Int) ≤ (k : Int) := by omega
          have f0 : (k : Int) - 2 < 64 := by omega
          have f1 : (k : Int) - 7 < 64 := by omega
          have f2 : (k : Int) - 15 < 64 := by omega
          have f3 : (k : Int) - 16 < 64 := by omega
          have f4 : (k : Int) < 64 := by omega
          have n0 : ¬ k = k - 2 := by omega
          have m0 : ¬ k - 2 = k := by omega
          have n1 : ¬ k = k - 7 := by omega
          have m1 : ¬ k - 7 = k := by omega
          have n2 : ¬ k = k - 15 := by omega
          have m2 : ¬ k - 15 = k := by omega
          have n3 : ¬ k = k - 16 := by omega
          have m3 : ¬ k - 16 = k := by omega
          go_wp2_with fail
          go_region_held3 (fun W => W.cell? ⟨w.heap.size + 1 + 1, k - 2, none⟩ = some (.int .u32 (wd ((sched l k).getD (k - 2) 0))) ∧ W.cell? ⟨w.heap.size + 1 + 1, k - 7, none⟩ = some (.int .u32 (wd ((sched l k).getD (k - 7) 0))) ∧ W.cell? ⟨w.heap.size + 1 + 1, k - 15, none⟩ = some (.int .u32 (wd ((sched l k).getD (k - 15) 0))) ∧ W.cell? ⟨w.heap.size + 1 + 1, k - 16, none⟩ = some (.int .u32 (wd ((sched l k).getD (k - 16) 0)))) (first | exact ⟨far4 c0 m0, far4 c1 m1, far4 c2 m2, far4 c3 m3⟩ | exact ⟨c0, c1, c2, c3⟩ | go_keep)
            (first | (go_at_call 48; refine (ss1_any _ _).mono ?_; rintro e w' ⟨rfl, rfl⟩) | (go_at_call 49; refine (ss0_any _ _).mono ?_; rintro e w' ⟨rfl, rfl⟩))
          go_wp2
          go_roundw
          case rel =>
            (repeat apply Exists.intro)
            refine ⟨⟨k + 1, ?_, ?_, ?_, sched_step (by rw [if_neg (by omega)]; simp [next]) hr0 hr1 hr2 hb⟩, rfl⟩
            · omega
            · omega
            · go_num
          case measure => simp [intOf]; omega
        · obtain rfl : k = 64 := by omega
          clear hlt hk hk0
          have hs0 : (Tryd.prog.info? 87).map (·.size) = some (ws (sched l 64)).size := by rw [size_ws, length_sched]; exact size_w
          have hs1 : (ws (zeros 64)).size = (ws (sched l 64)).size := by rw [size_ws, size_ws, length_sched]; rfl
          have H0 := Lib.hid hs0
          have H1 := Lib.hid hs1
          clear hs0 hs1
          go_wp2_with (first | (refine wpList_load_row rfl 87 _ rfl (w.heap.size + 1 + 1) rfl 87 (ws (sched l 64)) (0, 0) _ hr2 Tryd.underlying87 rfl H0.out ?_) | (refine wpList_store_row rfl 87 _ _ rfl (w.heap.size + 1) (ws (sched l 64)) rfl rfl 87 (ws (zeros 64)) hr1 H0.out H1.out (one_ws _) ?_))
          refine bodyPost_ret (v := .agg (ws (sched l 64))) (results_cell_row Tryd.results46 _ _ (w.heap.size + 1) 87 (ws (sched l 64)) (0, 0) _ rfl (hr1.setRow _) Tryd.underlying87 rfl (by rw [size_ws, length_sched]; exact size_w)) rfl ⟨rfl, below_setRow hb (by omega) _⟩
end Go.Proofs.YtcheflcfoiclgaaDoor

set_option maxRecDepth 4000
namespace Go.Proofs.YtcheflcfoiclgaaDoor
open Go Go.RowKit
attribute [local go_sem] xor_wd and_wd or_wd add_wd shr_wd not_wd signed_u32

/- the table of the document's K, where the program keeps it -/
def Tab (w : World) : Prop := ∀ i, i < 64 → w.cell? ⟨0, i, none⟩ = some (.int .u32 (wd (kk.getD i 0)))
theorem Tab.pos {w : World} (h : Tab w) : 0 < w.heap.size := by
  have := World.block_lt_of_cell? w _ (h 0 (by omega)); exact this
theorem Tab.below {w w' : World} {B : Nat} (h : Tab w) (hb : Below B w w') (h0 : 0 < B) : Tab w' := fun i hi => (hb.cell (p := ⟨0, i, none⟩) h0).trans (h i hi)

theorem size_h : (Tryd.prog.info? 78).map (·.size) = some 8 := by kernel_rfl
theorem size_b : (Tryd.prog.info? 62).map (·.size) = some 64 := by kernel_rfl

theorem round_ws (a b c d e f g h kw : BitVec 32) (w : World) :
    Calls Tryd.prog 47 #[.agg #[.int .u32 (wd a), .int .u32 (wd b), .int .u32 (wd c), .int .u32 (wd d), .int .u32 (wd e), .int .u32 (wd f), .int .u32 (wd g), .int .u32 (wd h)], .int .u32 (wd kw)] w fun x w' =>
      x = .returned (.agg (ws (rnd [a, b, c, d, e, f, g, h] kw))) ∧ Below w.heap.size w w' := by
  have e : ws (rnd [a, b, c, d, e, f, g, h] kw) = #[.int .u32 (wd (rnd1 e f g h kw + rnd2 a b c)), .int .u32 (wd a), .int .u32 (wd b), .int .u32 (wd c), .int .u32 (wd (d + rnd1 e f g h kw)), .int .u32 (wd e), .int .u32 (wd f), .int .u32 (wd g)] := by simp [ws, rnd]
  rw [e]; exact round_any _ _ _ _ _ _ _ _ _ _
set_option maxHeartbeats 800000 in
theorem turn_any (h : List (BitVec 32)) (l : List (BitVec 8)) (hh : h.length = 8) (hl : l.length = 64) (w : World) (hT : Tab w) :
    Calls Tryd.prog 45 #[.agg (ws h), .agg (bs l)] w fun e w' => e = .returned (.agg (ws (turn h l))) ∧ Below w.heap.size w w' := by
  have hs33 : (Tryd.prog.info? 78).map (·.size) = some (ws h).size := by rw [size_ws, hh]; exact size_h
  have hs34 : (Tryd.prog.info? 62).map (·.size) = some (bs l).size := by rw [size_bs, hl]; exact size_b
  have hs48 : (Tryd.prog.info? 87).map (·.size) = some (ws (sched l 64)).size := by rw [size_ws, length_sched]; exact size_w
  have H33 := Lib.hid hs33
  have H34 := Lib.hid hs34
  have H48 := Lib.hid hs48
  have HT := Lib.hid hT
  have HH := Lib.hid hh
  have HL := Lib.hid hl
  clear hs33 hs34 hs48 hT hh hl
  go_enter Tryd.func45, Tryd.ntmps45
  go_wp2_with (refine wpList_load_row rfl 62 _ rfl (w.heap.size + 1) rfl 62 (bs l) (0, 0) _ (row3b w _ _ _ _) Tryd.underlying62 rfl H34.out ?_)
  refine (sched_any l HL.out _).mono ?_
  rintro e w1 ⟨rfl, hb1⟩
  have ra := (row3a w 78 (ws h) (.cells (bs l) 62) (.cells (ws (zeros 8)) 78)).call hb1
  have rc := (row3c w 78 (ws (zeros 8)) (.cells (ws h) 78) (.cells (bs l) 62)).call hb1
  have hb : Below w.heap.size w w1 := (below3 w _ _ _).trans (hb1.mono (by simp; omega))
  clear hb1
  go_wp2_with (first | (refine wpList_store_row rfl 87 _ _ rfl w1.heap.size (ws (sched l 64)) rfl rfl 87 _ (Row.fresh _ _ _) H48.out (by rw [size_ws, length_sched]; rfl) (one_ws _) ?_; rw [World.setRow_alloc_new]) | (refine wpList_load_row rfl 78 _ rfl w.heap.size rfl 78 (ws h) (0, 0) _ (ra.alloc _) Tryd.underlying78 rfl H33.out ?_) | (refine wpList_store_row rfl 78 _ _ rfl (w1.heap.size + 1) (ws h) rfl rfl 78 _ (row2b _ _ _ _) H33.out (by rw [size_ws, HH.out]; rfl) (one_ws _) ?_; rw [setRow_alloc2]))
  go_loopw [12] (fun i wr => ∃ k : Nat, k ≤ 64 ∧ i = .int .i64 k ∧ Row wr w.heap.size 78 (ws h) ∧ Row wr (w.heap.size + 1 + 1) 78 (ws (zeros 8)) ∧ Row wr w1.heap.size 87 (ws (sched l 64)) ∧ Row wr (w1.heap.size + 1) 78 (ws (rounds h (sched l 64) k)) ∧ Below w.heap.size w wr) (fun i _ => 64 - (intOf i).toNat)
  case atStart => exact ⟨0, by omega, rfl, (ra.alloc _).alloc _, (rc.alloc _).alloc _, (Row.fresh _ _ _).alloc _, row2b _ _ _ _, (hb.alloc hb.size _).alloc (by have := hb.size; simp; omega) _⟩
  case round =>
    have hz := hb.size
    have hzc := rc.lt
    clear ra rc hb
    obtain ⟨k, hk, rfl, ra, rc, rw_, rs, hb⟩ := hrel
    by_cases hlt : k < 64
    · obtain ⟨a, b, c, d, e, f, g, x, hs⟩ := list8 (rounds h (sched l 64) k) (by rw [length_rounds]; exact HH.out)
      have ct := (HT.out.below hb HT.out.pos) k hlt
      have cw := rw_.get (get_ws (sched l 64) k (by rw [length_sched]; omega))
      have HS := Lib.hid hs
      rw [hs] at rs
      clear hs
      have c0 : wr.cell? ⟨w1.heap.size + 1, 0, none⟩ = some (.int .u32 (wd a)) := rs.get rfl
      have c1 : wr.cell? ⟨w1.heap.size + 1, 1, none⟩ = some (.int .u32 (wd b)) := rs.get rfl
      have c2 : wr.cell? ⟨w1.heap.size + 1, 2, none⟩ = some (.int .u32 (wd c)) := rs.get rfl
      have c3 : wr.cell? ⟨w1.heap.size + 1, 3, none⟩ = some (.int .u32 (wd d)) := rs.get rfl
      have c4 : wr.cell? ⟨w1.heap.size + 1, 4, none⟩ = some (.int .u32 (wd e)) := rs.get rfl
      have c5 : wr.cell? ⟨w1.heap.size + 1, 5, none⟩ = some (.int .u32 (wd f)) := rs.get rfl
      have c6 : wr.cell? ⟨w1.heap.size + 1, 6, none⟩ = some (.int .u32 (wd g)) := rs.get rfl
      have c7 : wr.cell? ⟨w1.heap.size + 1, 7, none⟩ = some (.int .u32 (wd x)) := rs.get rfl
      have f0 : (0 : Int) ≤ (k : Int) := by omega
      have f4 : (k : Int) < 64 := by omega
      go_wp2_with fail
      go_still_tail 8, (by kernel_rfl)
      change wpList _ _ _ _ _ wr.drew
      clear c0 c1 c2 c3 c4 c5 c6 c7 ct cw
      go_wp2_with (first | (go_at_call 47; refine (round_ws a b c d e f g x _ _).mono ?_; rintro z w2 ⟨rfl, hb2⟩) | (refine wpList_store_row rfl 78 _ _ rfl (w1.heap.size + 1) _ rfl rfl 78 _ (rs.drew.call hb2) (by rw [size_ws, length_rnd]; exact size_h) (by rw [size_ws, size_ws, length_rnd]) (one_ws _) ?_))
      go_roundw
      case rel =>
        refine ⟨k + 1, by omega, by go_num, (ra.drew.call hb2).setRow_far (by omega) _, (rc.drew.call hb2).setRow_far (by omega) _, (rw_.drew.call hb2).setRow_far (by omega) _, ?_, below_setRow (hb.drew.trans (hb2.mono hb.size)) (by omega) _⟩
        rw [rounds, HS.out]
        exact (rs.drew.call hb2).setRow _
      case measure => simp [intOf]; omega
    · obtain rfl : k = 64 := by omega
      clear hlt hk rw_
      have HR : Hid ((rounds h (sched l 64) 64).length = 8) := Lib.hid (by rw [length_rounds]; exact HH.out)
      have HF : Hid (turn h l = plus h (rounds h (sched l 64) 64)) := Lib.hid rfl
      generalize rounds h (sched l 64) 64 = s at *
      go_wp2
      go_loopw [25] (fun i wr => ∃ k : Nat, k ≤ 8 ∧ i = .int .i64 k ∧ Row wr w.heap.size 78 (ws (part h s k)) ∧ Row wr (w.heap.size + 1 + 1) 78 (ws (zeros 8)) ∧ Row wr (w1.heap.size + 1) 78 (ws s) ∧ Below w.heap.size w wr) (fun i _ => 8 - (intOf i).toNat)
      case atStart => exact ⟨0, by omega, rfl, by rw [part_zero]; exact ra, rc, rs, hb⟩
      case round =>
        clear ra rc rs hb
        obtain ⟨k, hk, rfl, ra, rc, rs, hb⟩ := hrel
        by_cases hlt : k < 8
        · have c0 := ra.get (get_ws (part h s k) k (by rw [length_part h s k HH.out HR.out hk]; exact hlt))
          rw [part_get h s k HH.out HR.out hlt] at c0
          have cf := ra.free k
          have c1 := rs.get (get_ws s k (by rw [HR.out]; exact hlt))
          go_wp2
          go_region
          go_wp2
          go_roundw
          case rel =>
            refine ⟨k + 1, by omega, by go_num, ?_, (rc.far (by simp; omega) _).drew, (rs.far (by simp; omega) _).drew, (hb.setCell (Nat.le_refl _) _).drew⟩
            have h1 := (ra.put k (.int .u32 (wd (h.getD k 0 + s.getD k 0)))).drew
            rw [set_ws, part_set h s k HH.out HR.out hlt] at h1
            exact h1
          case measure => simp [intOf]; omega
        · obtain rfl : k = 8 := by omega
          rw [part_all h s HH.out HR.out] at ra
          have HS8 : Hid ((Tryd.prog.info? 78).map (·.size) = some (ws (plus h s)).size) := Lib.hid (by rw [size_ws, length_plus h s HH.out HR.out]; exact size_h)
          clear hlt hk
          go_wp2_with (first | (refine wpList_load_row rfl 78 _ rfl w.heap.size rfl 78 (ws (plus h s)) (0, 0) _ ra Tryd.underlying78 rfl HS8.out ?_) | (refine wpList_store_row rfl 78 _ _ rfl (w.heap.size + 1 + 1) (ws (plus h s)) rfl rfl 78 _ rc HS8.out (by rw [size_ws, size_ws, length_plus h s HH.out HR.out]; rfl) (one_ws _) ?_))
          rw [HF.out]
          exact bodyPost_ret (v := .agg (ws (plus h s))) (results_cell_row Tryd.results45 _ _ (w.heap.size + 1 + 1) 78 (ws (plus h s)) (0, 0) _ rfl (rc.setRow _) Tryd.underlying78 rfl HS8.out) rfl ⟨rfl, below_setRow hb (by omega) _⟩
end Go.Proofs.YtcheflcfoiclgaaDoor

/- Arguments opened: a slice of bytes, a list of them, an array of integers. -/
set_option maxRecDepth 4000
namespace Go.Proofs.YtcheflcfoiclgaaDoor
open Go Go.ChangeShapes Go.WideShapes Go.ChangeAt Go.RowKit
theorem ownK : ownKnob Tryd.prog.godebug = none := by kernel_rfl
theorem laidOutT : laidOutB Tryd.prog = true := by kernel_rfl
theorem okWide_arr {P : Program} {w : World} {r : Reach} {base n : Nat} {t e : TypeId} {v : Value} (ht : P.underlying t = some (.array n e)) (h : Value.okWide P w r base t v) : ∃ cs, v = .agg cs := by
  simp only [Value.okWide, ht] at h
  cases v <;> simp_all
def intIn : Value → Int
  | .int _ z => z
  | _ => 0
end Go.Proofs.YtcheflcfoiclgaaDoor

/- What the rows' list says of the table of round words, and a world for the rows' witness in which the table lies as its initialiser lays it. -/
set_option maxRecDepth 4000
namespace Go.Proofs.YtcheflcfoiclgaaDoor
open Go Go.ChangeShapes Go.WideShapes Go.ChangeAt Go.RowKit
theorem gTab : Tryd.prog.globalNamed "tollhouse/sha.roundWords" = some 0 := by kernel_rfl
theorem gTabType : (Tryd.prog.globals[0]?).map (·.type) = some 87 := by kernel_rfl
theorem cellsW : Tryd.prog.cellsOf 87 = 64 := by kernel_rfl
theorem cellsU : Tryd.prog.cellsOf 23 = 1 := by kernel_rfl
def laidOne : List (String × DataW Unit) := [("tollhouse/sha.roundWords", Rows.laid_tollhouse_sha_roundWords)]
theorem tab_of_laid {W : World} (h : laidMetH Tryd.prog laidOne W) : Tab W := by
  have hT : Lib.TabIs Tryd.prog W "tollhouse/sha.roundWords" .u32 (kk.map wd) := Lib.tabIs_of_head (rest := []) gTab gTabType Tryd.underlying87 Tryd.underlying23 cellsU cellsW h
  intro i hi
  have hc := hT.cell gTab i (by rw [List.length_map, length_kk]; exact hi)
  rw [hc]
  have hk : i < kk.length := by rw [length_kk]; exact hi
  simp [hk]
noncomputable def laidWorld (os : Os) : World :=
  { World.holding Tryd.prog os ⟨#[], #[], []⟩ with heap := (World.holding Tryd.prog os ⟨#[], #[], []⟩).heap.modify 0 fun
      | .cells _ t frozen => .cells (ws kk) t frozen
      | o => o }
end Go.Proofs.YtcheflcfoiclgaaDoor

/- The lowest byte of a number. -/
set_option maxRecDepth 4000
namespace Go.Proofs.YtcheflcfoiclgaaDoor
open Go Go.RowKit
def byteI (z : Int) : BitVec 8 := BitVec.ofInt 8 z
end Go.Proofs.YtcheflcfoiclgaaDoor

/- What names may be, as plain functions of bytes; the document's way and the program's way to a name of four bytes. No function of the program is named here. -/
set_option maxRecDepth 4000
namespace Go.Proofs.YtcheflcfoiclgaaDoor
open Go
def letter (x : BitVec 8) : Bool := decide (97 ≤ bd x) && decide (bd x ≤ 122)
def goodN (q : List (BitVec 8)) : Bool := decide (1 ≤ q.length) && decide (q.length ≤ 4) && q.all letter
def goodNs (l : List (List (BitVec 8))) : Bool := l.all goodN
def padN (q : List (BitVec 8)) : List (BitVec 8) := (q ++ zer 4).take 4
theorem length_padN (q : List (BitVec 8)) : (padN q).length = 4 := by unfold padN; rw [List.length_take, List.length_append, length_zer]; omega
end Go.Proofs.YtcheflcfoiclgaaDoor

/- Words of 16 bits, kept shut: what the operations of Go on uint16 come to. No condition. -/
set_option maxRecDepth 4000
namespace Go.Proofs.YtcheflcfoiclgaaDoor
open Go Go.RowKit
def hd (x : BitVec 16) : Int := (x.toNat : Int)
theorem hd_lo (x : BitVec 16) : 0 ≤ hd x := by unfold hd; omega
theorem hd_hi (x : BitVec 16) : hd x < 65536 := by unfold hd; have := x.isLt; omega
theorem ofInt_hd (x : BitVec 16) : BitVec.ofInt 16 (hd x) = x := by
  apply BitVec.eq_of_toNat_eq; unfold hd; rw [ofInt_u16 _ x.isLt]
theorem wrap_hd (x : BitVec 16) : IntKind.u16.wrap (hd x) = hd x := by
  rw [IntKind.wrap_u16]; have := hd_lo x; have := hd_hi x; omega
theorem xor_hd (x y : BitVec 16) : bits .xor .u16 (hd x) (hd y) = hd (x ^^^ y) := by
  show IntKind.u16.wrap ((BitVec.ofInt 16 (hd x) ^^^ BitVec.ofInt 16 (hd y)).toNat : Int) = _
  rw [ofInt_hd, ofInt_hd]; exact wrap_hd _
theorem and_hd (x y : BitVec 16) : bits .and .u16 (hd x) (hd y) = hd (x &&& y) := by
  show IntKind.u16.wrap ((BitVec.ofInt 16 (hd x) &&& BitVec.ofInt 16 (hd y)).toNat : Int) = _
  rw [ofInt_hd, ofInt_hd]; exact wrap_hd _
theorem not_hd (x : BitVec 16) : bits .xor .u16 IntKind.u16.max (hd x) = hd (~~~x) := by
  have e : IntKind.u16.max = hd (BitVec.allOnes 16) := by decide +kernel
  rw [e, xor_hd, BitVec.allOnes_xor]
theorem signed_u16 : (IntKind.u16.signed = true) = False := by simp [IntKind.signed]
def lowI (x : BitVec 16) : Int := if x.getLsbD 0 then 1 else 0
theorem low_hd (x : BitVec 16) : bits .and .u16 (hd x) 1 = lowI x := by
  rw [show (1 : Int) = hd 1#16 from rfl, and_hd]
  have e : x &&& 1#16 = if x.getLsbD 0 then 1#16 else 0#16 := by
    apply BitVec.eq_of_getLsbD_eq; intro i hi
    cases i with
    | zero => rw [BitVec.getLsbD_and]; cases h : x.getLsbD 0 <;> rfl
    | succ i => cases h : x.getLsbD 0 <;> simp
  rw [e]; unfold lowI; cases h : x.getLsbD 0 <;> rfl
theorem convb_hd (x : BitVec 8) : IntKind.u16.wrap (bd x) = hd (x.setWidth 16) := by
  rw [IntKind.wrap_u16]; unfold bd hd; have := x.isLt; rw [BitVec.toNat_setWidth]; omega
theorem lowb_hd (x : BitVec 16) : IntKind.u8.wrap (hd x) = bd (x.setWidth 8) := by
  rw [IntKind.wrap_u8']; unfold bd hd; rw [BitVec.toNat_setWidth]; omega
theorem lowb8_hd (x : BitVec 16) : IntKind.u8.wrap (hd x / (256 : Int)) = bd ((x >>> 8).setWidth 8) := by
  rw [IntKind.wrap_u8']; unfold bd hd; rw [BitVec.toNat_setWidth, BitVec.toNat_ushiftRight, Nat.shiftRight_eq_div_pow]; omega
theorem or_hd (x y : BitVec 16) : bits .or .u16 (hd x) (hd y) = hd (x ||| y) := by
  show IntKind.u16.wrap ((BitVec.ofInt 16 (hd x) ||| BitVec.ofInt 16 (hd y)).toNat : Int) = _
  rw [ofInt_hd, ofInt_hd]; exact wrap_hd _
end Go.Proofs.YtcheflcfoiclgaaDoor

/- What a call changes when it works on things that were there: a footprint; rows of elements of several cells. No function of the program is named here. -/
set_option maxRecDepth 4000
namespace Go.Proofs.YtcheflcfoiclgaaDoor
open Go Go.RowKit
/- all blocks but those of F are as they were -/
structure Chg (F : Nat → Prop) (w w' : World) : Prop where
  os : w'.os = w.os
  tape : w'.tape = w.tape
  output : w'.output = w.output
  size : w.heap.size ≤ w'.heap.size
  block : ∀ k, k < w.heap.size → ¬ F k → w'.heap[k]? = w.heap[k]?
section
variable {F F' : Nat → Prop} {a b c w w' : World}
theorem Chg.refl (F : Nat → Prop) (w : World) : Chg F w w := ⟨rfl, rfl, rfl, Nat.le_refl _, fun _ _ _ => rfl⟩
theorem Chg.trans (h : Chg F a b) (k : Chg F' b c) (hF : ∀ i, F' i → F i ∨ a.heap.size ≤ i) : Chg F a c :=
  ⟨k.os.trans h.os, k.tape.trans h.tape, k.output.trans h.output, Nat.le_trans h.size k.size, fun i hi hn => (k.block i (Nat.lt_of_lt_of_le hi h.size) fun hf => by rcases hF i hf with h1 | h1; exact hn h1; omega).trans (h.block i hi hn)⟩
theorem Chg.mono (h : Chg F a b) (hF : ∀ i, F i → F' i ∨ a.heap.size ≤ i) : Chg F' a b := (Chg.refl F' a).trans h hF
theorem Chg.of_below (h : Below w.heap.size w w') : Chg F w w' := ⟨h.os, h.tape, h.output, h.size, fun k hk _ => h.block k hk⟩
theorem Chg.drew (h : Chg F a w) : Chg F a w.drew := ⟨h.os, h.tape, h.output, h.size, h.block⟩
theorem Chg.alloc (h : Chg F a w) (o : Obj) : Chg F a (w.alloc o) := h.trans (F' := fun _ => False) (Chg.of_below ((Below.refl _ _).alloc (Nat.le_refl _) o)) (fun _ h => h.elim)
theorem Chg.setCell (h : Chg F a w) {p : Addr} (hp : F p.block ∨ a.heap.size ≤ p.block) (v : Value) : Chg F a (w.setCell p v) :=
  ⟨h.os, h.tape, h.output, by rw [World.size_setCell]; exact h.size, fun k hk hn => (Below.heap_setCell _ _ _ _ (fun e => by subst e; rcases hp with h1 | h1; exact hn h1; omega)).trans (h.block k hk hn)⟩
theorem Chg.setCells {g : Nat} (hp : F g ∨ a.heap.size ≤ g) : ∀ (vs : List Value) (o : Nat) {w : World}, Chg F a w → Chg F a (w.setCells g o vs)
  | [], _, _, h => h
  | v :: vs, o, _, h => Chg.setCells hp vs (o + 1) (h.setCell (p := ⟨g, o, none⟩) hp v)
theorem Chg.one (w : World) (g o : Nat) (v : Value) : Chg (fun k => k = g) w (w.setCell ⟨g, o, none⟩ v) := (Chg.refl (fun k => k = g) w).setCell (p := ⟨g, o, none⟩) (.inl rfl) v
theorem Chg.below (h : Chg F w w') {B : Nat} (hF : ∀ i, F i → B ≤ i) (hB : B ≤ w.heap.size) : Below B w w' := ⟨h.os, h.tape, h.output, h.size, fun k hk => h.block k (by omega) fun hf => by have := hF k hf; omega⟩
theorem Chg.grown (h : Chg F a w) {row : Option Nat} (hg : w.grownBy w' row) (hr : ∀ k, row = some k → F k ∨ a.heap.size ≤ k) : Chg F a w' :=
  h.trans (F' := fun k => row = some k) ⟨hg.os, hg.tape, hg.output, hg.size, fun k hk hn => hg.block k hk fun e => hn e.symm⟩ hr
theorem Row.chg {g : Nat} {t : TypeId} {cs : Array Value} (h : Row w g t cs) (k : Chg F w w') (hg : ¬ F g) : Row w' g t cs := (k.block g h.lt hg).trans h
end
/- rows of elements of several cells -/
def spl {α : Type} (L : List α) (o : Nat) (vs : List α) : List α := L.take o ++ vs ++ L.drop (o + vs.length)
theorem set_eq_spl {α : Type} (L : List α) (o : Nat) (v : α) (h : o < L.length) : L.set o v = spl L o [v] := by
  rw [spl, List.set_eq_take_append_cons_drop, if_pos h]; simp
/- an element of an owned row of elements: read and written -/
section
variable {w : World} {base e sz n cap g : Nat} {l : List (List Value)}
end
/- append: where the slice then lies: where it lay, or in a new block -/
def Where (w : World) (v v' : Value) : Prop := v'.ownBlock = v.ownBlock ∨ ∀ k, v'.ownBlock = some k → w.heap.size ≤ k
theorem Where.cases {w : World} {v v' : Value} (h : Where w v v') {k : Nat} (hk : v'.ownBlock = some k) : v.ownBlock = some k ∨ w.heap.size ≤ k := by
  rcases h with h | h
  · exact .inl (by rw [← h]; exact hk)
  · exact .inr (h k hk)
theorem len_bytesV (b : List (BitVec 8)) : (bytesV b).length = b.length := by simp [bytesV]
end Go.Proofs.YtcheflcfoiclgaaDoor

/- Copying bytes into a part of a row; a slice of bytes that was just built. No function of the program is named here. -/
set_option maxRecDepth 4000
namespace Go.Proofs.YtcheflcfoiclgaaDoor
open Go Go.RowKit
/- bytes behind bytes -/
theorem spl_bs (p q : List (BitVec 8)) (off : Nat) : (spl (bs p).toList off (bytesV q)).toArray = bs (spl p off q) := by
  simp [spl, bs, bytesV]
end Go.Proofs.YtcheflcfoiclgaaDoor

/- A region that draws its order, walked once: what each operation yields holds by what those that it waits for yielded, whichever comes up. The conditions: the theorems' own. -/
set_option maxRecDepth 4000
namespace Go.Proofs.YtcheflcfoiclgaaDoor
open Go Go.RowKit
/- what an operation yields -/
def Does (P : Program) (o : Oper) (a : Act) (w : World) (R : Value → World → Prop) : Prop :=
  ∀ (K : Act → World → Prop) (Q : Exit → Act → World → Prop), (∀ v w', R v w' → K (a.put o.dst v) w') → o.wp P a w K Q
def dstAt (ops : Array Oper) (i : Nat) : Option Tmp := (ops[i]?).bind (·.dst)
def waitsFor (o : Oper) (j : Nat) : Bool := o.after.any fun e => Region.binds .any e && e.on == j
section
variable {P : Program} {Q : Exit → Act → World → Prop} {ops : Array Oper} {n : Nat} {R : World → World → Prop} {V : Nat → Value → World → Prop} {G : Nat → Bool} {a0 : Act} {w1 : World}
def Known (ops : Array Oper) (n : Nat) (V : Nat → Value → World → Prop) (a : Act) (x : Nat → Value) (w : World) (o : Oper) : Prop :=
  ∀ j, waitsFor o j = true → j < n → V j (x j) w ∧ ∀ d, dstAt ops j = some d → a.tmps[d]? = some (x j)
def All (p : Nat → Oper → Prop) (n : Nat) : List Oper → Nat → Prop
  | [], _ => True
  | o :: l, i => (i < n → p i o) ∧ All p n l (i + 1)
theorem all_cons {p : Nat → Oper → Prop} {o : Oper} {l : List Oper} {i : Nat} (h : p i o) (t : All p n l (i + 1)) : All p n (o :: l) i := ⟨fun _ => h, t⟩
theorem eval_of_get {a : Act} {d : Nat} {v : Value} (h : a.tmps[d]? = some v) : a.eval (.tmp d) = v := by simp [Act.eval, Array.getD_eq_getD_getElem?, h]
end
theorem anyH_one {P : Program} {md : Region.Mode} {ops : Array Oper} {Q : Exit → Act → World → Prop} {S : World → Prop} {i : Nat} {o : Oper} {fuel : Nat} {listed : Array Bool} {a : Act} {w : World} (hr : Region.ready md ops listed = [i]) (ho : ops[i]? = some o)
    (h : ∀ K' : Act → World → Prop, (∀ a w, S w → wpAnyH P md ops Q S fuel (listed.setIfInBounds i true) a w → K' a w) → if Region.wanted o (yielded ops a.tmps) = true then Oper.wp P o a w K' Q else K' (a.put o.dst undef) w) : wpAnyH P md ops Q S (fuel + 1) listed a w :=
  wpAnyH_all hr (by simp) fun j hj => by
    obtain rfl : j = i := by simpa using hj
    exact wpOp_step ho (fun K hK => h K fun a w h1 h2 => hK a w ⟨h1, h2⟩)
end Go.Proofs.YtcheflcfoiclgaaDoor

/- The steps of a region that is walked by what each operation yields: the plain operations; what stays of a world while blocks are made and calls come and go. -/
set_option maxRecDepth 4000
namespace Go.Proofs.YtcheflcfoiclgaaDoor
open Go Go.RowKit
/- below B all is as it was; every block keeps its cells -/
structure Keeps (B : Nat) (w w' : World) : Prop where
  below : Below B w w'
  rows : ∀ (g : Nat) (cs : Array Value) (t : TypeId) (fr : Nat × Nat), w.heap[g]? = some (.cells cs t fr) → ∃ fr' : Nat × Nat, w'.heap[g]? = some (.cells cs t fr')
theorem Keeps.refl (B : Nat) (w : World) : Keeps B w w := ⟨Below.refl _ _, fun _ _ _ fr h => ⟨fr, h⟩⟩
theorem Keeps.trans {B : Nat} {a b c : World} (h : Keeps B a b) (k : Keeps B b c) : Keeps B a c :=
  ⟨h.below.trans k.below, fun g cs t fr hg => by obtain ⟨fr', h'⟩ := h.rows g cs t fr hg; exact k.rows g cs t fr' h'⟩
theorem lt_of_heap {w : World} {g : Nat} {o : Obj} (h : w.heap[g]? = some o) : g < w.heap.size := (Array.getElem?_eq_some_iff.1 h).1
theorem Keeps.call {B : Nat} {w w' : World} (h : Below w.heap.size w w') (hB : B ≤ w.heap.size) : Keeps B w w' :=
  ⟨h.mono hB, fun g _ _ fr hg => ⟨fr, (h.block g (lt_of_heap hg)).trans hg⟩⟩
theorem Keeps.alloc {B : Nat} (w : World) (o : Obj) (hB : B ≤ w.heap.size) : Keeps B w (w.alloc o) := Keeps.call ((Below.refl _ _).alloc (Nat.le_refl _) o) hB
theorem Keeps.cell {B : Nat} {w w' : World} (h : Keeps B w w') {a : Addr} {v : Value} (hc : w.cell? a = some v) : w'.cell? a = some v := by
  unfold World.cell? at *
  cases hg : w.heap[a.block]? with
  | none => rw [hg] at hc; cases hc
  | some o =>
    rw [hg] at hc
    cases o with
    | cells cs t fr => obtain ⟨fr', h'⟩ := h.rows _ _ _ _ hg
                       rw [h']; exact hc
    | _ => cases hc
theorem Keeps.slice {B : Nat} {w w' : World} {v : Value} {q : List (BitVec 8)} (h : Keeps B w w') (hs : Slice w v q) : Slice w' v q := by
  obtain ⟨A, c, h1, h2, h3⟩ := hs
  refine ⟨A, c, h1, h2, fun hne => ?_⟩
  obtain ⟨b, o, h4, h5, h6⟩ := h3 hne
  exact ⟨b, o, h4, Nat.lt_of_lt_of_le h5 h.below.size, fun j x hx => h.cell (h6 j x hx)⟩
theorem Keeps.parts {B : Nat} {w w' : World} {v : Value} {ps : List (List (BitVec 8))} (h : Keeps B w w') (hs : Parts w v ps) : Parts w' v ps := by
  obtain ⟨A, c, h1, h3⟩ := hs
  refine ⟨A, c, h1, fun hne => ?_⟩
  obtain ⟨b, o, h4, h5, h6⟩ := h3 hne
  refine ⟨b, o, h4, Nat.lt_of_lt_of_le h5 h.below.size, fun k q hq => ?_⟩
  obtain ⟨u, h7, h8⟩ := h6 k q hq
  exact ⟨u, h.cell h7, h.slice h8⟩
theorem Keeps.item {B : Nat} {w w' : World} {v : Value} {q : List (BitVec 8)} (h : Keeps B w w') (hs : Item w v q) : Item w' v q := by
  obtain ⟨A, c, h1, h2, h3⟩ := hs
  exact ⟨A, c, h1, h.slice h2, h3⟩
/- what a value is known by -/
def is (c : Value) : Value → World → Prop := fun v _ => v = c
/- a literal's row, frozen or not -/
def lit (B : Nat) (q : List (BitVec 8)) : Value → World → Prop := fun v w => ∃ (g : Nat) (fr : Nat × Nat), v = .slice (some ⟨g, 0, none⟩) q.length q.length ∧ B ≤ g ∧ w.heap[g]? = some (.cells (bs q) 5 fr)
section
variable {P : Program} {ops : Array Oper} {n : Nat} {R : World → World → Prop} {V : Nat → Value → World → Prop} {G : Nat → Bool} {a0 a : Act} {w1 w : World} {x : Nat → Value} {o : Oper} {l : List Oper} {i : Nat}
theorem Known.get (hk : Known ops n V a x w o) (j d : Nat) (hw : waitsFor o j = true) (hj : j < n) (hd : dstAt ops j = some d) : ∃ v, a.tmps[d]? = some v ∧ V j v w := ⟨x j, (hk j hw hj).2 d hd, (hk j hw hj).1⟩
theorem Known.is (hk : Known ops n V a x w o) (j d : Nat) (hw : waitsFor o j = true) (hj : j < n) (hd : dstAt ops j = some d) (c : Value) (hV : V j = is c) : a.tmps[d]? = some c := by
  obtain ⟨h1, h2⟩ := hk j hw hj
  rw [hV] at h1
  rw [h2 d hd]; exact congrArg some h1
end
section
variable {P : Program} {o : Oper} {a : Act} {w : World} {R : Value → World → Prop}
theorem does_run {v : Value} {w' : World} (h : (execOp a.eval o).run P w = .ok (.value v) w') (hR : R v w') : Does P o a w R := fun K Q hK => by
  unfold Oper.wp; rw [h]; exact hK v w' hR
end
end Go.Proofs.YtcheflcfoiclgaaDoor

/- A region that draws its order and in which some operations change what was there (calls of methods, appends, stores), one behind the other: each of them begins a new phase; what is known of the world hangs on the phase. -/
set_option maxRecDepth 4000
namespace Go.Proofs.YtcheflcfoiclgaaDoor
open Go Go.RowKit
def phAfter (U : Nat → Bool) (ph : Nat → Option Nat) (i : Nat) : Option Nat := (ph i).map fun p => if U i then p + 1 else p
section
variable {P : Program} {Q : Exit → Act → World → Prop} {ops : Array Oper} {n : Nat} {K : World → World → Prop} {Φ : Nat → World → Prop} {V : Nat → Value → World → Prop} {G U rig : Nat → Bool} {ph : Nat → Option Nat} {a0 : Act} {w1 : World}
def KnownP (ops : Array Oper) (n : Nat) (V : Nat → Value → World → Prop) (U rig : Nat → Bool) (ph : Nat → Option Nat) (q : Option Nat) (a : Act) (x : Nat → Value) (w : World) (o : Oper) : Prop :=
  ∀ j, waitsFor o j = true → j < n → (rig j = true ∨ (q.isSome = true ∧ phAfter U ph j = q) → V j (x j) w) ∧ ∀ d, dstAt ops j = some d → a.tmps[d]? = some (x j)
end
end Go.Proofs.YtcheflcfoiclgaaDoor

/- The region whose operations change things, with lists of what is known: of the values, of the phases. -/
set_option maxRecDepth 4000
namespace Go.Proofs.YtcheflcfoiclgaaDoor
open Go Go.RowKit
/- all that there was is as it was -/
def Same (w w' : World) : Prop := Below w.heap.size w w'
theorem Same.refl (w : World) : Same w w := Below.refl _ _
theorem Same.alloc (w : World) (o : Obj) : Same w (w.alloc o) := (Below.refl _ _).alloc (Nat.le_refl _) o
section
variable {P : Program} {ops : Array Oper} {n : Nat} {K : World → World → Prop} {Φ : Nat → World → Prop} {V : Nat → Value → World → Prop} {G U rig : Nat → Bool} {ph : Nat → Option Nat} {a0 a : Act} {w : World} {x : Nat → Value} {o : Oper} {l : List Oper} {i : Nat} {q : Option Nat}
theorem KnownP.get (hk : KnownP ops n V U rig ph q a x w o) (j d : Nat) (hw : waitsFor o j = true) (hj : j < n) (hd : dstAt ops j = some d) (hor : rig j = true ∨ (q.isSome = true ∧ phAfter U ph j = q)) : ∃ v, a.tmps[d]? = some v ∧ V j v w :=
  ⟨x j, (hk j hw hj).2 d hd, (hk j hw hj).1 hor⟩
theorem KnownP.is (hk : KnownP ops n V U rig ph q a x w o) (j d : Nat) (hw : waitsFor o j = true) (hj : j < n) (hd : dstAt ops j = some d) (hor : rig j = true) (c : Value) (hV : V j = is c) : a.tmps[d]? = some c := by
  obtain ⟨h1, h2⟩ := hk j hw hj
  have h1 := h1 (.inl hor)
  rw [hV] at h1
  rw [h2 d hd]; exact congrArg some h1
end
end Go.Proofs.YtcheflcfoiclgaaDoor

/- What a walk knows of the memory, as one list of blocks: the operations on memory as steps from list to list, each with a new world. No function of the program is named here. -/
set_option maxRecDepth 4000
namespace Go.Proofs.YtcheflcfoiclgaaDoor
open Go Go.RowKit
structure Blk where
  g : Nat
  t : TypeId
  cs : Array Value
/- the blocks of R are as said, apart from each other, and may be written; all else that was there at w0, but for F, is as it was -/
structure St (w0 : World) (F : Nat → Prop) (R : List Blk) (w : World) : Prop where
  chg : Chg F w0 w
  rows : ∀ (k : Nat) (r : Blk), R[k]? = some r → Row w r.g r.t r.cs
  apart : ∀ (j k : Nat) (r s : Blk), j ≠ k → R[j]? = some r → R[k]? = some s → r.g ≠ s.g
  own : ∀ (k : Nat) (r : Blk), R[k]? = some r → F r.g ∨ w0.heap.size ≤ r.g
def noF : Nat → Prop := fun _ => False
section
variable {P : Program} {w0 w w' : World} {F : Nat → Prop} {R : List Blk}
theorem St.nil (w0 : World) (F : Nat → Prop) : St w0 F [] w0 := ⟨Chg.refl _ _, fun _ _ h => by simp at h, fun _ _ _ _ _ h => by simp at h, fun _ _ h => by simp at h⟩
theorem St.row (h : St w0 F R w) (k : Nat) {r : Blk} (hk : R[k]? = some r) : Row w r.g r.t r.cs := h.rows k r hk
theorem St.below (h : St w0 noF R w) : Below w0.heap.size w0 w := ⟨h.chg.os, h.chg.tape, h.chg.output, h.chg.size, fun k hk => h.chg.block k hk (fun h => h)⟩
theorem St.same (h : St w0 F R w) (k : Below w.heap.size w w') : St w0 F R w' :=
  ⟨h.chg.trans (F' := fun _ => False) (Chg.of_below k) (fun _ h => h.elim), fun j r hj => (h.rows j r hj).call k, h.apart, h.own⟩
theorem St.drew (h : St w0 F R w) : St w0 F R w.drew := h.same (Below.refl _ _).drew
theorem St.upd (h : St w0 F R w) (k : Nat) {r : Blk} (hk : R[k]? = some r) {cs : Array Value} (hr : Row w' r.g r.t cs) (hg : w.grownBy w' (some r.g)) : St w0 F (R.set k ⟨r.g, r.t, cs⟩) w' := by
  have hlt : k < R.length := (List.getElem?_eq_some_iff.1 hk).1
  have at_ : ∀ (j : Nat) (s : Blk), (R.set k ⟨r.g, r.t, cs⟩)[j]? = some s → (j = k ∧ s = ⟨r.g, r.t, cs⟩) ∨ (j ≠ k ∧ R[j]? = some s) := fun j s hj => by
    by_cases e : j = k
    · subst e
      rw [List.getElem?_set_self hlt] at hj
      exact .inl ⟨rfl, (Option.some.inj hj).symm⟩
    · rw [List.getElem?_set_ne (fun h => e h.symm)] at hj
      exact .inr ⟨e, hj⟩
  refine ⟨h.chg.grown hg (fun g e => by injection e with e; subst e; exact h.own k r hk), fun j s hj => ?_, fun i j s u hij hi hj => ?_, fun j s hj => ?_⟩
  · rcases at_ j s hj with ⟨_, rfl⟩ | ⟨hne, hs⟩
    · exact hr
    · exact (h.rows j s hs).only hg (h.apart j k s r hne hs hk)
  · rcases at_ i s hi with ⟨rfl, rfl⟩ | ⟨hne, hs⟩ <;> rcases at_ j u hj with ⟨rfl, rfl⟩ | ⟨hne', hu⟩
    · exact (hij rfl).elim
    · exact h.apart _ _ r u (fun e => hne' e.symm) hk hu
    · exact h.apart _ _ s r hne hs hk
    · exact h.apart _ _ s u hij hs hu
  · rcases at_ j s hj with ⟨rfl, rfl⟩ | ⟨_, hs⟩
    · exact h.own _ r hk
    · exact h.own j s hs
theorem St.snoc (h : St w0 F R w) (t : TypeId) (cs : Array Value) : St w0 F (R ++ [⟨w.heap.size, t, cs⟩]) (w.alloc (.cells cs t)) := by
  have at_ : ∀ (j : Nat) (s : Blk), (R ++ [(⟨w.heap.size, t, cs⟩ : Blk)])[j]? = some s → (j < R.length ∧ R[j]? = some s) ∨ (j = R.length ∧ s = ⟨w.heap.size, t, cs⟩) := fun j s hj => by
    by_cases e : j < R.length
    · rw [List.getElem?_append_left e] at hj; exact .inl ⟨e, hj⟩
    · rw [List.getElem?_append_right (by omega)] at hj
      have e2 : j - R.length = 0 := by
        rcases Nat.eq_zero_or_pos (j - R.length) with h0 | h0
        · exact h0
        · rw [List.getElem?_eq_none (by simp; omega)] at hj; cases hj
      rw [e2] at hj
      exact .inr ⟨by omega, (Option.some.inj hj).symm⟩
  refine ⟨h.chg.alloc _, fun j s hj => ?_, fun i j s u hij hi hj => ?_, fun j s hj => ?_⟩
  · rcases at_ j s hj with ⟨_, hs⟩ | ⟨_, rfl⟩
    · exact (h.rows j s hs).alloc _
    · exact Row.fresh _ _ _
  · rcases at_ i s hi with ⟨_, hs⟩ | ⟨e1, rfl⟩ <;> rcases at_ j u hj with ⟨_, hu⟩ | ⟨e2, rfl⟩
    · exact h.apart _ _ _ _ hij hs hu
    · have := (h.rows i s hs).lt; show s.g ≠ w.heap.size; omega
    · have := (h.rows j u hu).lt; show w.heap.size ≠ u.g; omega
    · omega
  · rcases at_ j s hj with ⟨_, hs⟩ | ⟨_, rfl⟩
    · exact h.own j s hs
    · exact .inr h.chg.size
/- cells of a row -/
theorem Row.slab {g : Nat} {t : TypeId} {cs : Array Value} (h : Row w g t cs) (o : Nat) (L : List Value) (hL : (cs.toList.drop o).take L.length = L) : w.rangeAt g o L := fun j v hv => by
  have hj := (List.getElem?_eq_some_iff.1 hv).1
  rw [h.cell, ← Array.getElem?_toList]
  rw [← hL, List.getElem?_take_of_lt hj, List.getElem?_drop] at hv
  exact hv
theorem run_storeVar_at (w : World) (g o : Nat) (t ty : TypeId) (cur : Array Value) (v : Value) (hg : Row w g t cur) (hi : (P.info? ty).map (·.size) = some v.cells.size) (ho : o + v.cells.size ≤ cur.size) (h1 : v.cells.all (·.oneCell') = true) :
    (storeVar ty ⟨g, o, none⟩ v).run P w = .ok () (w.setRow g (spl cur.toList o v.cells.toList).toArray) := by
  have := run_storeCells_at P g o t v.cells.toList 0 cur w hg (by simpa using ho) (fun x hx => (Array.all_eq_true_iff_forall_mem.1 h1) x (by simpa using hx))
  cases hq : P.info? ty with
  | none => simp [hq] at hi
  | some i =>
    have hs : v.cells.size = i.size := by simp [hq] at hi; omega
    simp [storeVar, sizeOf, typeInfo, hq, hs, this, spl]
section
variable {o : Oper} {a : Act} {K : Act → World → Prop} {Q : Exit → Act → World → Prop}
theorem wp_st_alloc (hS : St w0 F R w) (e : TypeId) (cs : Array Value) (ho : o.op = .alloc e) (z : Value) (hz : (P.info? e).bind (·.zero) = some z) (hc : z.cells = cs)
    (h : ∀ g w', St w0 F (R ++ [⟨g, e, cs⟩]) w' → K (a.put o.dst (.pointer (some ⟨g, 0, none⟩))) w') : o.wp P a w K Q := by
  cases hq : P.info? e with
  | none => simp [hq] at hz
  | some i =>
    have hi : i.zero = some z := by simpa [hq] using hz
    have hrun : (Instr.alloc e true (.tuple #[])).run P w = .ok (.pointer (some ⟨w.heap.size, 0, none⟩)) (w.alloc (.cells cs e)) := by
      simp [Instr.alloc, zeroValue, typeInfo, hq, hi, newVar, newRow, hc]
    unfold Oper.wp execOp
    simp [ho, hrun]
    exact h _ _ (hS.snoc e cs)
theorem wp_st_box (hS : St w0 F R w) (e : TypeId) (x : Operand) (ho : o.op = .box e x) (v : Value) (hx : a.eval x = v) (cs : Array Value) (hc : v.cells = cs)
    (h : ∀ g w', St w0 F (R ++ [⟨g, e, cs⟩]) w' → K (a.put o.dst (.pointer (some ⟨g, 0, none⟩))) w') : o.wp P a w K Q := by
  have hrun : (Instr.box e v).run P w = .ok (.pointer (some ⟨w.heap.size, 0, none⟩)) (w.alloc (.cells cs e)) := by
    simp [Instr.box, newVar, newRow, hc]
  unfold Oper.wp execOp
  simp [ho, hx, hrun]
  exact h _ _ (hS.snoc e cs)
/- several cells -/
theorem wp_st_load (hS : St w0 F R w) (k i : Nat) (ty : TypeId) (x : Operand) (ho : o.op = .load ty x) {r : Blk} (hk : R[k]? = some r) (hx : a.eval x = .pointer (some ⟨r.g, i, none⟩)) (cs : Array Value) (hv : (r.cs.toList.drop i).take cs.size = cs.toList) (d : TypeDesc) (hu : P.underlying ty = some d) (hd : d.isRow = true) (hi : (P.info? ty).map (·.size) = some cs.size)
    (h : K (a.put o.dst (.agg cs)) w) : o.wp P a w K Q :=
  wp_load_mid ty x ho r.g i hx cs.toList d ((hS.row k hk).slab i cs.toList (by simpa using hv)) hu hd (by simpa using hi) (by simpa using h)
theorem wp_st_store (hS : St w0 F R w) (k i : Nat) (ty : TypeId) (x y : Operand) (ho : o.op = .store ty x y) {r : Blk} (hk : R[k]? = some r) (hx : a.eval x = .pointer (some ⟨r.g, i, none⟩)) (v : Value) (hy : a.eval y = v) (hi : (P.info? ty).map (·.size) = some v.cells.size) (hfit : i + v.cells.size ≤ r.cs.size) (h1 : v.cells.all (·.oneCell') = true)
    (cs : Array Value) (hcs : (spl r.cs.toList i v.cells.toList).toArray = cs)
    (h : ∀ w', St w0 F (R.set k ⟨r.g, r.t, cs⟩) w' → K (a.put o.dst undef) w') : o.wp P a w K Q := by
  have hrun := run_storeVar_at (P := P) w r.g i r.t ty r.cs v (hS.row k hk) hi hfit h1
  unfold Oper.wp execOp
  simp [ho, hx, hy, Instr.storeAt, Instr.sureAddr, hrun]
  rw [hcs]
  exact h _ (hS.upd k hk ((hS.row k hk).setRow cs) (grown_setRow w r.g cs))
end
/- at the list of a plain region's operations -/
section
variable {ops : Array Oper} {rest : List Oper} {o : Oper} {a : Act} {Q : Exit → Act → World → Prop}
end
/- the whole of a row, or a part -/
theorem slab_whole (cs : Array Value) : (cs.toList.drop 0).take cs.size = cs.toList := by rw [List.drop_zero]; exact List.take_of_length_le (by simp)
theorem spl_whole (cur cs : Array Value) (h : cur.size = cs.size) : (spl cur.toList 0 cs.toList).toArray = cs := by
  unfold spl
  rw [List.take_zero, List.nil_append, Nat.zero_add, List.drop_of_length_le (by simp [h]), List.append_nil]
theorem spl_agg (cur cs cs' : Array Value) (e : cs = cs') (h : cur.size = cs.size) : (spl cur.toList 0 (Value.agg cs).cells.toList).toArray = cs' := by
  rw [← e]; exact spl_whole cur cs h
theorem spl_at (cur : Array Value) (i : Nat) (v : Value) (h : i < cur.size) : (spl cur.toList i [v]).toArray = cur.setIfInBounds i v := by
  rw [← set_eq_spl _ _ _ (by simpa using h)]
  apply Array.ext'
  simp
theorem wp_st_put {o : Oper} {a : Act} {K : Act → World → Prop} {Q : Exit → Act → World → Prop} (hS : St w0 F R w) (k i : Nat) (ty : TypeId) (x y : Operand) (ho : o.op = .store ty x y) {r : Blk} (hk : R[k]? = some r) (hx : a.eval x = .pointer (some ⟨r.g, i, none⟩)) (v : Value) (hy : a.eval y = v) (hi : (P.info? ty).map (·.size) = some 1) (hv : v.cells = #[v]) (h1 : v.oneCell' = true) (hfit : i < r.cs.size)
    (cs : Array Value) (hcs : r.cs.setIfInBounds i v = cs)
    (h : ∀ w', St w0 F (R.set k ⟨r.g, r.t, cs⟩) w' → K (a.put o.dst undef) w') : o.wp P a w K Q :=
  wp_st_store hS k i ty x y ho hk hx v hy (by rw [hv]; exact hi) (by rw [hv]; exact hfit) (by rw [hv]; simp [h1]) cs (by rw [hv, ← hcs]; exact spl_at r.cs i v hfit) h
end
end Go.Proofs.YtcheflcfoiclgaaDoor

/- An append of so many zeros onto a slice of bytes of the call's own. -/
set_option maxRecDepth 4000
namespace Go.Proofs.YtcheflcfoiclgaaDoor
open Go Go.RowKit
section
variable (w : World)
end
end Go.Proofs.YtcheflcfoiclgaaDoor

/- A sector of one byte, as the program has it. -/
set_option maxRecDepth 4000
namespace Go.Proofs.YtcheflcfoiclgaaDoor
open Go Go.RowKit
end Go.Proofs.YtcheflcfoiclgaaDoor

/- The same region, with one thing more: an operation may say that its value is an earlier one's (a store names the block that it went to). -/
set_option maxRecDepth 4000
namespace Go.Proofs.YtcheflcfoiclgaaDoor
open Go Go.RowKit
section
variable {P : Program} {Q : Exit → Act → World → Prop} {ops : Array Oper} {n : Nat} {K : World → World → Prop} {Φ : Nat → World → Prop} {V : Nat → Value → World → Prop} {G U rig : Nat → Bool} {ph : Nat → Option Nat} {a0 : Act} {w1 : World} {al : Nat → Option Nat}
end
section
variable {P : Program} {ops : Array Oper} {n : Nat} {K : World → World → Prop} {Φ : Nat → World → Prop} {V : Nat → Value → World → Prop} {G U rig : Nat → Bool} {ph : Nat → Option Nat} {a0 a : Act} {w : World} {x : Nat → Value} {o : Oper} {l : List Oper} {i : Nat} {al : Nat → Option Nat}
end
end Go.Proofs.YtcheflcfoiclgaaDoor

/- Two arrays of integers: what their comparison tells. -/
set_option maxRecDepth 4000
namespace Go.Proofs.YtcheflcfoiclgaaDoor
open Go
theorem forIn_until {P : Program} {w : World} {β : Type} (b r : β) (f : Nat → β → Sem (ForInStep β)) (p : Nat → Bool) : ∀ l : List Nat, (∀ i ∈ l, (f i b).run P w = .ok (if p i then .yield b else .done r) w) → (forIn l b f).run P w = .ok (if l.all p then b else r) w
  | [], _ => by simp [Sem.run_pure]
  | i :: l, h => by
    simp only [List.forIn_cons, Sem.run_bind, h i (by simp), Result.andThen]
    cases hp : p i with
    | true =>
      simp only [List.all_cons, hp, Bool.true_and, if_true]
      exact forIn_until b r f p l fun j hj => h j (by simp [hj])
    | false => simp [List.all_cons, hp, Sem.run_pure]
theorem equal_ints {P : Program} (w : World) (d : Nat) (t e : TypeId) (k : IntKind) (n : Nat) (xs ys : Array Value) (f g : Nat → Int) (ht : P.underlying t = some (.array n e)) (he : P.underlying e = some (.int k)) (hs : (P.info? e).map (·.size) = some 1)
    (hx : ∀ i, i < n → xs[i]? = some (.int k (f i))) (hy : ∀ i, i < n → ys[i]? = some (.int k (g i))) : (Op.equalIn (d + 2) t (.agg xs) (.agg ys)).run P w = .ok ((List.range n).all fun i => f i == g i) w := by
  obtain ⟨i0, hi, hs⟩ := Option.map_eq_some_iff.1 hs
  have hsz : (sizeOf e).run P w = .ok 1 w := by simp [sizeOf, typeInfo, hi, hs]
  rw [show Op.equalIn (d + 2) t (.agg xs) (.agg ys) = Op.equalIn ((d + 1) + 1) t (.agg xs) (.agg ys) from rfl]
  unfold Op.equalIn
  simp only [Sem.run_bind, run_underlying ht, Result.andThen_ok, hsz]
  rw [Std.Legacy.Range.forIn_eq_forIn_range', forIn_until (p := fun i => f i == g i) (r := ⟨some false, ()⟩)]
  · have e1 : (List.range' 0 (Std.Legacy.Range.size [:n]) 1).all (fun i => f i == g i) = (List.range n).all fun i => f i == g i := by
      rw [List.range_eq_range']; simp [Std.Legacy.Range.size]
    simp only [e1]
    cases (List.range n).all fun i => f i == g i <;> simp [Sem.run_pure]
  · intro i hi
    have hin : i < n := by simp [Std.Legacy.Range.size] at hi; omega
    have hp : (Go.part e xs (i * 1)).run P w = .ok (.int k (f i)) w := by simp [Go.part, isAgg, run_underlying he, hx i hin]
    have hq : (Go.part e ys (i * 1)).run P w = .ok (.int k (g i)) w := by simp [Go.part, isAgg, run_underlying he, hy i hin]
    simp only [Sem.run_bind, hp, hq, Result.andThen_ok, run_equalIn_int w d e k k (f i) (g i) he]
    cases f i == g i <;> simp
theorem equal_bytesD (d : Nat) (t : TypeId) (n : Nat) (p q : List (BitVec 8)) (hp : p.length = n) (hq : q.length = n) (ht : Tryd.prog.underlying t = some (.array n 5)) (w : World) : (Op.equalIn (d + 2) t (.agg (bs p)) (.agg (bs q))).run Tryd.prog w = .ok (decide (p = q)) w := by
  rw [equal_ints w d t 5 .u8 n (bs p) (bs q) (fun i => bd (p.getD i 0)) (fun i => bd (q.getD i 0)) ht Tryd.underlying5 size_u8 (fun i hi => get_bs p i (by omega)) (fun i hi => get_bs q i (by omega))]
  congr 1
  by_cases h : p = q
  · subst h; simp
  · rw [decide_eq_false h, ← Bool.not_eq_true, List.all_eq_true]
    intro hall
    refine h (List.ext_getElem (by omega) fun i h1 h2 => ?_)
    have := hall i (List.mem_range.2 (by omega))
    simp [h1, h2] at this
    exact bd_inj this
end Go.Proofs.YtcheflcfoiclgaaDoor

/- Two sectors compared. -/
set_option maxRecDepth 4000
namespace Go.Proofs.YtcheflcfoiclgaaDoor
open Go Go.RowKit
end Go.Proofs.YtcheflcfoiclgaaDoor

/- Blocks that come to a list of blocks. No function of the program is named here. -/
set_option maxRecDepth 4000
namespace Go.Proofs.YtcheflcfoiclgaaDoor
open Go Go.RowKit
section
variable {w0 W W' : World} {F : Nat → Prop} {R : List Blk}
theorem St.join (h : St w0 F R W) {g : Nat} {t : TypeId} {cs : Array Value} (hr : Row W g t cs) (hg : w0.heap.size ≤ g) (hne : ∀ b ∈ R, b.g ≠ g) : St w0 F (R ++ [⟨g, t, cs⟩]) W := by
  have at_ : ∀ (j : Nat) (s : Blk), (R ++ [(⟨g, t, cs⟩ : Blk)])[j]? = some s → (j < R.length ∧ R[j]? = some s) ∨ (j = R.length ∧ s = ⟨g, t, cs⟩) := fun j s hj => by
    by_cases e : j < R.length
    · rw [List.getElem?_append_left e] at hj; exact .inl ⟨e, hj⟩
    · rw [List.getElem?_append_right (by omega)] at hj
      have e2 : j - R.length = 0 := by
        rcases Nat.eq_zero_or_pos (j - R.length) with h0 | h0
        · exact h0
        · rw [List.getElem?_eq_none (by simp; omega)] at hj; cases hj
      rw [e2] at hj
      exact .inr ⟨by omega, (Option.some.inj hj).symm⟩
  refine ⟨h.chg, fun j s hj => ?_, fun i j s u hij hi hj => ?_, fun j s hj => ?_⟩
  · rcases at_ j s hj with ⟨_, hk⟩ | ⟨_, rfl⟩
    · exact h.rows j s hk
    · exact hr
  · rcases at_ i s hi with ⟨_, hk⟩ | ⟨e1, rfl⟩ <;> rcases at_ j u hj with ⟨_, hu⟩ | ⟨e2, rfl⟩
    · exact h.apart _ _ _ _ hij hk hu
    · exact hne s (List.mem_of_getElem? hk)
    · exact fun e => hne u (List.mem_of_getElem? hu) e.symm
    · omega
  · rcases at_ j s hj with ⟨_, hk⟩ | ⟨_, rfl⟩
    · exact h.own j s hk
    · exact .inr hg
/- a block that is none of the list's changes -/
theorem St.far (h : St w0 F R W) {g : Nat} (k : W.grownBy W' (some g)) (hg : w0.heap.size ≤ g) (hne : ∀ b ∈ R, b.g ≠ g) : St w0 F R W' :=
  ⟨h.chg.grown k (fun j e => by cases e; exact .inr hg), fun j r hj => (h.rows j r hj).only k (hne r (List.mem_of_getElem? hj)), h.apart, h.own⟩
theorem St.lt (h : St w0 F R W) {b : Blk} (hb : b ∈ R) : b.g < W.heap.size := by
  obtain ⟨k, hk⟩ := List.getElem?_of_mem hb
  exact (h.rows k b hk).lt
end
theorem own_litq (w : World) (q : List (BitVec 8)) (h : q.length ≤ maxLen) : (w.alloc (.cells (bs q) 5)).ownsRow w.heap.size 5 1 (.slice (some ⟨w.heap.size, 0, none⟩) q.length q.length) q.length (bytesV q) :=
  ⟨by rw [len_bytesV, Nat.mul_one], .inr ⟨w.heap.size, q.length, bs q, rfl, Nat.le_refl _, heap_alloc_new w _, Nat.le_refl _, h, by rw [size_bs, Nat.mul_one], by rw [bs_toList]; exact List.take_of_length_le (by rw [len_bytesV]; omega)⟩⟩
theorem own_base {w : World} {b b' e size n : Nat} {v : Value} {xs : List Value} (h : w.ownsRow b e size v n xs) (hb : b' ≤ b) : w.ownsRow b' e size v n xs := by
  refine ⟨h.1, ?_⟩
  rcases h.2 with h | ⟨g, cap, cur, h1, h2, h3⟩
  · exact .inl h
  · exact .inr ⟨g, cap, cur, h1, Nat.le_trans hb h2, h3⟩
end Go.Proofs.YtcheflcfoiclgaaDoor

/- Literals of structs and of slices of structs: their cells, side by side. No function of the program is named here. -/
set_option maxRecDepth 4000
namespace Go.Proofs.YtcheflcfoiclgaaDoor
open Go Go.RowKit
theorem fill_set (off : Nat) (v : Array Value) (cells : Array Value) (h : off + v.size ≤ cells.size) : v.zipIdx.foldl (fun cs (x : Value × Nat) => cs.setIfInBounds (off + x.2) x.1) cells = (spl cells.toList off v.toList).toArray := by
  rw [← Array.foldl_toList, Array.toList_zipIdx]
  obtain ⟨h1, h2⟩ := Great.foldl_set off v.toList 0 cells
  apply Array.ext_getElem?
  intro k
  rw [h2 k, Nat.add_zero]
  have hL : cells.toList.length = cells.size := Array.length_toList
  have hv : v.toList.length = v.size := Array.length_toList
  have e1 : (cells.toList.take off).length = off := by rw [List.length_take]; omega
  rw [show (spl cells.toList off v.toList).toArray[k]? = (spl cells.toList off v.toList)[k]? from List.getElem?_toArray]
  unfold spl
  by_cases hk : off ≤ k
  · by_cases hk2 : k < off + v.size
    · rw [if_pos ⟨hk, by omega, by omega⟩, List.getElem?_append_left (by rw [List.length_append, e1]; omega), List.getElem?_append_right (by omega), e1]
    · rw [if_neg (by omega), List.getElem?_append_right (by rw [List.length_append, e1]; omega), List.getElem?_drop, List.length_append, e1, hv]
      rw [show off + v.size + (k - (off + v.size)) = k by omega]; simp
  · rw [if_neg (by omega), List.append_assoc, List.getElem?_append_left (by omega), List.getElem?_take, if_pos (by omega)]; simp
def fits : Nat → List Nat → List (Nat × Nat) → Bool
  | _, [], [] => true
  | o, s :: ss, (o', s') :: ps => o == o' && s == s' && fits (o + s) ss ps
  | _, _, _ => false
theorem fits_at : ∀ (ss : List Nat) (o : Nat) (ps : List (Nat × Nat)), fits o ss ps = true → ∀ (k s : Nat), ss[k]? = some s → ps[k]? = some (o + (ss.take k).sum, s)
  | [], _, _, _, k, s, h => by simp at h
  | s0 :: ss, o, [], h, _, _, _ => by simp [fits] at h
  | s0 :: ss, o, (o', s') :: ps, h, 0, s, hk => by
    simp only [fits, Bool.and_eq_true, beq_iff_eq] at h
    obtain ⟨⟨rfl, rfl⟩, _⟩ := h
    obtain rfl : s0 = s := by simpa using hk
    simp
  | s0 :: ss, o, (o', s') :: ps, h, k + 1, s, hk => by
    simp only [fits, Bool.and_eq_true, beq_iff_eq] at h
    obtain ⟨⟨rfl, rfl⟩, h⟩ := h
    have := fits_at ss (o + s0) ps h k s (by simpa using hk)
    rw [List.getElem?_cons_succ, this]
    simp [Nat.add_assoc]
end Go.Proofs.YtcheflcfoiclgaaDoor

/- A hash's bytes, the pad, a message's hash, as plain functions on lists of bit vectors. -/
set_option maxRecDepth 4000
namespace Go.Proofs.YtcheflcfoiclgaaDoor

/- a word's four bytes, the higher first; a hash's bytes -/
def fourH (x : BitVec 32) : List (BitVec 8) := [(x >>> 24).setWidth 8, (x >>> 16).setWidth 8, (x >>> 8).setWidth 8, x.setWidth 8]
def dig (h : List (BitVec 32)) : List (BitVec 8) := h.flatMap fourH
theorem length_dig (h : List (BitVec 32)) : (dig h).length = 4 * h.length := by
  induction h with
  | nil => rfl
  | cons x r ih => simp [dig, fourH] at ih ⊢; omega
def digTo (h : List (BitVec 32)) (k : Nat) : List (BitVec 8) := dig (h.take k) ++ zer (32 - 4 * k)
theorem digTo_zero (h : List (BitVec 32)) : digTo h 0 = zer 32 := by simp [digTo, dig]
theorem digTo_all (h : List (BitVec 32)) (hl : h.length = 8) : digTo h 8 = dig h := by
  simp [digTo, zer, List.take_of_length_le (show h.length ≤ 8 by omega)]
theorem length_digTo (h : List (BitVec 32)) (k : Nat) (hl : h.length = 8) (hk : k ≤ 8) : (digTo h k).length = 32 := by
  simp [digTo, length_dig, zer, hl]; omega
theorem digTo_set (h : List (BitVec 32)) (k : Nat) (hl : h.length = 8) (hk : k < 8) :
    ((((digTo h k).set (4 * k) ((h.getD k 0 >>> 24).setWidth 8)).set (4 * k + 1) ((h.getD k 0 >>> 16).setWidth 8)).set (4 * k + 2) ((h.getD k 0 >>> 8).setWidth 8)).set (4 * k + 3) ((h.getD k 0).setWidth 8) = digTo h (k + 1) := by
  have h1 : (dig (h.take k)).length = 4 * k := by rw [length_dig]; simp [hl]; omega
  have hz : zer (32 - 4 * k) = 0 :: 0 :: 0 :: 0 :: zer (32 - 4 * (k + 1)) := by
    rw [show 32 - 4 * k = (32 - 4 * (k + 1)) + 4 by omega]; simp [zer, List.replicate_succ]
  have ht : dig (h.take (k + 1)) = dig (h.take k) ++ fourH (h.getD k 0) := by
    have e : h.getD k 0 = h[k]'(by omega) := by simp [List.getElem?_eq_getElem (show k < h.length by omega)]
    rw [List.take_succ_eq_append_getElem (by omega), e]; unfold dig; rw [List.flatMap_append]; simp only [List.flatMap_cons, List.flatMap_nil, List.append_nil]
  unfold digTo
  rw [hz, ht]
  generalize dig (h.take k) = L at *
  generalize h.getD k 0 = x
  subst_vars
  rw [← h1]
  simp [fourH]

/- the pad behind a message of n bytes: 80, bytes 00, the length in bits in eight bytes, the higher first -/
def padSize (n : Nat) : Nat := if 64 - n % 64 < 9 then 64 - n % 64 + 64 else 64 - n % 64
def lenByte (X : Int) (k : Nat) : BitVec 8 := BitVec.ofInt 8 (X / 2 ^ (8 * k))
def lows (X : Int) : Nat → List (BitVec 8)
  | 0 => []
  | k + 1 => lenByte X k :: lows X k
def padTo (z : Nat) (X : Int) (k : Nat) : List (BitVec 8) := 0x80#8 :: (zer (z - 9) ++ (zer (8 - k) ++ lows X k))
def bitLen (n : Nat) : Int := ((n * 8 % 18446744073709551616 : Nat) : Int)
def pad (n : Nat) : List (BitVec 8) := padTo (padSize n) (bitLen n) 8
theorem padSize_lo (n : Nat) : 9 ≤ padSize n := by unfold padSize; split <;> omega
theorem padSize_hi (n : Nat) : padSize n ≤ 72 := by unfold padSize; split <;> omega
theorem length_lows (X : Int) (k : Nat) : (lows X k).length = k := by
  induction k with
  | zero => rfl
  | succ k ih => simp [lows, ih]
theorem length_padTo (z : Nat) (X : Int) (k : Nat) (hz : 9 ≤ z) (hk : k ≤ 8) : (padTo z X k).length = z := by
  simp [padTo, zer, length_lows]; omega
theorem length_pad (n : Nat) : (pad n).length = padSize n := length_padTo _ _ _ (padSize_lo n) (Nat.le_refl _)
theorem padTo_zero (z : Nat) (X : Int) (hz : 9 ≤ z) : (zer z).set 0 0x80#8 = padTo z X 0 := by
  obtain ⟨m, rfl⟩ : ∃ m, z = m + 9 := ⟨z - 9, by omega⟩
  simp only [padTo, zer, lows, List.append_nil, Nat.add_sub_cancel, List.replicate_append_replicate, Nat.sub_zero]
  rw [show m + 9 = (m + 8) + 1 by omega, List.replicate_succ, List.set_cons_zero]
theorem padTo_set (z : Nat) (X : Int) (k : Nat) (hz : 9 ≤ z) (hk : k < 8) : (padTo z X k).set (z - 1 - k) (lenByte X k) = padTo z X (k + 1) := by
  have h8 : zer (8 - k) = zer (8 - (k + 1)) ++ [0] := by
    rw [show 8 - k = (8 - (k + 1)) + 1 by omega]; simp [zer, List.replicate_succ']
  unfold padTo
  rw [h8]
  have e : z - 1 - k = ((z - 9) + (8 - (k + 1))) + 1 := by omega
  rw [e, List.set_cons_succ, List.set_append_right _ _ (by simp [zer]), List.append_assoc, List.set_append_right _ _ (by simp [zer])]
  have e2 : (z - 9 + (8 - (k + 1)) - (zer (z - 9)).length - (zer (8 - (k + 1))).length) = 0 := by simp [zer]
  rw [e2]
  simp [lows]
end Go.Proofs.YtcheflcfoiclgaaDoor

/- A message's hash, block by block, and what a part that is added makes of it. Plain functions on lists. -/
set_option maxRecDepth 4000
namespace Go.Proofs.YtcheflcfoiclgaaDoor
def h0 : List (BitVec 32) := [0x6a09e667#32, 0xbb67ae85#32, 0x3c6ef372#32, 0xa54ff53a#32, 0x510e527f#32, 0x9b05688c#32, 0x1f83d9ab#32, 0x5be0cd19#32]
/- H behind the first k blocks -/
def turns (msg : List (BitVec 8)) : Nat → List (BitVec 32)
  | 0 => h0
  | k + 1 => turn (turns msg k) ((msg.drop (64 * k)).take 64)
def hashTo (msg : List (BitVec 8)) : List (BitVec 32) := turns msg (msg.length / 64)
/- the hash of a message -/
def sha (msg : List (BitVec 8)) : List (BitVec 8) := dig (hashTo (msg ++ pad msg.length))
theorem length_turns (msg : List (BitVec 8)) (k : Nat) : (turns msg k).length = 8 := by
  induction k with
  | zero => rfl
  | succ k ih => rw [turns, length_turn, ih]
theorem length_hashTo (msg : List (BitVec 8)) : (hashTo msg).length = 8 := length_turns _ _
theorem turns_append (msg x : List (BitVec 8)) (k : Nat) (hk : 64 * k ≤ msg.length) : turns (msg ++ x) k = turns msg k := by
  induction k with
  | zero => rfl
  | succ k ih =>
    rw [turns, turns, ih (by omega), List.drop_append_of_le_length (by omega), List.take_append_of_le_length (by rw [List.length_drop]; omega)]
/- the block that is being filled -/
def fill (b q : List (BitVec 8)) (r : Nat) : List (BitVec 8) := b.take r ++ (q ++ b.drop (r + q.length))
theorem length_fill (b q : List (BitVec 8)) (r : Nat) (hb : b.length = 64) (h : r + q.length ≤ 64) : (fill b q r).length = 64 := by
  simp [fill, hb]; omega
/- what a message in the making keeps: a block whose first bytes are the message's last -/
def Tail (msg b : List (BitVec 8)) : Prop := b.length = 64 ∧ b.take (msg.length % 64) = msg.drop (msg.length - msg.length % 64)
theorem tail_more (msg b q : List (BitVec 8)) (h : Tail msg b) (hq : msg.length % 64 + q.length < 64) :
    Tail (msg ++ q) (fill b q (msg.length % 64)) ∧ hashTo (msg ++ q) = hashTo msg ∧ (msg.length + q.length) % 64 ≠ 0 ∨ q = [] := by
  by_cases h0 : q = []
  · exact .inr h0
  have hpos : 0 < q.length := List.length_pos_iff.2 h0
  refine .inl ⟨⟨length_fill b q _ h.1 (by omega), ?_⟩, ?_, by omega⟩
  · have e : (msg ++ q).length % 64 = msg.length % 64 + q.length := by rw [List.length_append]; omega
    have hl : (b.take (msg.length % 64)).length = msg.length % 64 := by rw [List.length_take, h.1]; omega
    rw [e, List.length_append, show msg.length + q.length - (msg.length % 64 + q.length) = msg.length - msg.length % 64 by omega, List.drop_append_of_le_length (by omega), ← h.2, fill, ← List.append_assoc]
    rw [List.take_append_of_le_length (by simp [hl]), List.take_of_length_le (by simp [hl])]
  · unfold hashTo
    rw [List.length_append, show (msg.length + q.length) / 64 = msg.length / 64 by omega, turns_append _ _ _ (by omega)]
theorem tail_full (msg b q : List (BitVec 8)) (h : Tail msg b) (hq : msg.length % 64 + q.length = 64) (c : List (BitVec 8)) (hc : c.length = 64) :
    Tail (msg ++ q) c ∧ hashTo (msg ++ q) = turn (hashTo msg) (fill b q (msg.length % 64)) := by
  have e : (msg ++ q).length % 64 = 0 := by rw [List.length_append]; omega
  refine ⟨⟨hc, ?_⟩, ?_⟩
  · rw [e]; simp
  · unfold hashTo
    have e2 : (msg ++ q).length / 64 = msg.length / 64 + 1 := by rw [List.length_append]; omega
    rw [e2, turns, turns_append _ _ _ (by omega)]
    have hf : fill b q (msg.length % 64) = msg.drop (msg.length - msg.length % 64) ++ q := by
      have hd : b.drop (msg.length % 64 + q.length) = [] := List.drop_of_length_le (by rw [h.1]; omega)
      rw [fill, h.2, hd, List.append_nil]
    rw [hf, show 64 * (msg.length / 64) = msg.length - msg.length % 64 by omega, List.drop_append_of_le_length (by omega), List.take_of_length_le (by simp; omega)]
end Go.Proofs.YtcheflcfoiclgaaDoor

/- The key's block and the tag, as plain functions on lists of bytes. No program is named here. -/
set_option maxRecDepth 4000
namespace Go.Proofs.YtcheflcfoiclgaaDoor
open Go Go.RowKit
def blockOf (key : List (BitVec 8)) : List (BitVec 8) := if 64 < key.length then sha key ++ zer 32 else key ++ zer (64 - key.length)
def turnBy (x : BitVec 8) (l : List (BitVec 8)) : List (BitVec 8) := l.map (· ^^^ x)
def tagOf (key M : List (BitVec 8)) : List (BitVec 8) := sha (turnBy 0x5c#8 (blockOf key) ++ sha (turnBy 0x36#8 (blockOf key) ++ M))
theorem length_sha (M : List (BitVec 8)) : (sha M).length = 32 := by rw [sha, length_dig, length_hashTo]
theorem length_blockOf (key : List (BitVec 8)) : (blockOf key).length = 64 := by
  unfold blockOf
  split
  · rw [List.length_append, length_sha, length_zer]
  · rw [List.length_append, length_zer]; omega
theorem length_turnBy (x : BitVec 8) (l : List (BitVec 8)) : (turnBy x l).length = l.length := by simp [turnBy]
theorem length_tagOf (key M : List (BitVec 8)) : (tagOf key M).length = 32 := length_sha _
/- a block of which the first k bytes are turned -/
def tpart (x : BitVec 8) (l : List (BitVec 8)) (k : Nat) : List (BitVec 8) := turnBy x (l.take k) ++ l.drop k
theorem length_tpart (x : BitVec 8) (l : List (BitVec 8)) (k : Nat) : (tpart x l k).length = l.length := by
  simp [tpart, turnBy]; omega
theorem tpart_zero (x : BitVec 8) (l : List (BitVec 8)) : tpart x l 0 = l := by simp [tpart, turnBy]
theorem tpart_all (x : BitVec 8) (l : List (BitVec 8)) : tpart x l l.length = turnBy x l := by simp [tpart]
theorem tpart_get (x : BitVec 8) (l : List (BitVec 8)) (k : Nat) (hk : k < l.length) : (tpart x l k).getD k 0 = l.getD k 0 := by
  have e : (turnBy x (l.take k)).length = k := by rw [length_turnBy, List.length_take]; omega
  rw [List.getD_eq_getElem?_getD, tpart, List.getElem?_append_right (by omega), e, Nat.sub_self, List.getElem?_drop, Nat.add_zero, List.getD_eq_getElem?_getD]
theorem tpart_set (x : BitVec 8) (l : List (BitVec 8)) (k : Nat) (hk : k < l.length) : (tpart x l k).set k (l.getD k 0 ^^^ x) = tpart x l (k + 1) := by
  have e : (turnBy x (l.take k)).length = k := by rw [length_turnBy, List.length_take]; omega
  rw [tpart, List.set_append_right _ _ (by omega), e, Nat.sub_self, List.drop_eq_getElem_cons hk, List.set_cons_zero, tpart, List.take_succ_eq_append_getElem hk]
  simp only [turnBy, List.map_append, List.map_cons, List.map_nil, List.append_assoc, List.cons_append, List.nil_append, List.getD_eq_getElem?_getD, List.getElem?_eq_getElem hk, Option.getD_some]
end Go.Proofs.YtcheflcfoiclgaaDoor

/- The slices of bytes as they are handed in; and whether they are few and short enough. -/
set_option maxRecDepth 4000
namespace Go.Proofs.YtcheflcfoiclgaaDoor
open Go Go.RowKit
end Go.Proofs.YtcheflcfoiclgaaDoor

/- Copies of the slices of bytes, in memory of the call's own. -/
set_option maxRecDepth 4000
namespace Go.Proofs.YtcheflcfoiclgaaDoor
open Go Go.RowKit
end Go.Proofs.YtcheflcfoiclgaaDoor

set_option maxRecDepth 4000
namespace Go.Proofs.YtcheflcfoiclgaaDoor
open Go Go.RowKit
end Go.Proofs.YtcheflcfoiclgaaDoor

/- The memory of a message in the making: its cells, and how a copy, a store of the length and a store of H turn them. -/
set_option maxRecDepth 4000
namespace Go.Proofs.YtcheflcfoiclgaaDoor
open Go Go.RowKit
def mcells (h : List (BitVec 32)) (b : List (BitVec 8)) (n : Nat) : Array Value := ws h ++ (bs b ++ #[.int .u64 (n : Int)])
theorem toList_mcells (h : List (BitVec 32)) (b : List (BitVec 8)) (n : Nat) : (mcells h b n).toList = (ws h).toList ++ ((bs b).toList ++ [.int .u64 (n : Int)]) := by simp [mcells]
theorem len_ws (h : List (BitVec 32)) : (ws h).toList.length = h.length := by simp [ws]
theorem size_mcells (h : List (BitVec 32)) (b : List (BitVec 8)) (n : Nat) (hh : h.length = 8) (hb : b.length = 64) : (mcells h b n).size = 73 := by simp [mcells, size_ws, size_bs, hh, hb]
theorem mcells_len (h : List (BitVec 32)) (b : List (BitVec 8)) (n : Nat) (hh : h.length = 8) (hb : b.length = 64) : (mcells h b n)[72]? = some (.int .u64 (n : Int)) := by
  unfold mcells
  rw [Array.getElem?_append_right (by rw [size_ws]; omega), Array.getElem?_append_right (by rw [size_ws, size_bs]; omega), size_ws, size_bs, hh, hb]
  rfl
theorem mcells_setLen (h : List (BitVec 32)) (b : List (BitVec 8)) (n k : Nat) (hh : h.length = 8) (hb : b.length = 64) : (mcells h b n).setIfInBounds 72 (.int .u64 (k : Int)) = mcells h b k := by
  apply Array.toList_inj.1
  rw [Array.toList_setIfInBounds, toList_mcells, toList_mcells, List.set_append_right _ _ (by rw [len_ws]; omega), List.set_append_right _ _ (by rw [len_ws, len_bs]; omega), len_ws, len_bs, hh, hb]
  rfl
theorem mcells_setH (h : List (BitVec 32)) (b : List (BitVec 8)) (n i : Nat) (x : BitVec 32) (hi : i < h.length) : (mcells h b n).setIfInBounds i (.int .u32 (wd x)) = mcells (h.set i x) b n := by
  apply Array.toList_inj.1
  rw [Array.toList_setIfInBounds, toList_mcells, toList_mcells, List.set_append_left _ _ (by rw [len_ws]; omega), ← set_ws, Array.toList_setIfInBounds]
/- the copy into the block's place -/
theorem mcells_fill (h : List (BitVec 32)) (b : List (BitVec 8)) (n : Nat) (hh : h.length = 8) (hb : b.length = 64) (q : List (BitVec 8)) (r : Nat) (hr : r + q.length ≤ 64) :
    ((mcells h b n).toList.take (8 + r) ++ ((q.map fun x => Value.int .u8 (bd x)) ++ (mcells h b n).toList.drop (8 + r + (q.map fun x => Value.int .u8 (bd x)).length))).toArray = mcells h (fill b q r) n := by
  have h1 : (ws h).toList.length = 8 := by rw [len_ws, hh]
  have h2 : (bs b).toList.length = 64 := by rw [len_bs, hb]
  rw [toList_mcells h b n, List.take_append, List.drop_append, h1, List.take_of_length_le (by omega), List.drop_of_length_le (by omega), List.length_map, show 8 + r - 8 = r by omega, show 8 + r + q.length - 8 = r + q.length by omega]
  rw [List.take_append_of_le_length (by omega), List.drop_append_of_le_length (by omega), List.nil_append]
  apply Array.toList_inj.1
  rw [toList_mcells]
  simp [bs, fill, List.map_take, List.map_drop]
theorem range_h {h : List (BitVec 32)} {b : List (BitVec 8)} {n : Nat} {w : World} {g : Nat} {t : TypeId} (hr : Row w g t (mcells h b n)) : w.rangeAt g 0 (ws h).toList := fun j v hv => by
  rw [Nat.zero_add, hr.cell, mcells, Array.getElem?_append_left]
  · simpa using hv
  · have := (List.getElem?_eq_some_iff.1 hv).1; simpa using this
theorem range_b {h : List (BitVec 32)} {b : List (BitVec 8)} {n : Nat} {w : World} {g : Nat} {t : TypeId} (hh : h.length = 8) (hr : Row w g t (mcells h b n)) : w.rangeAt g 8 (bs b).toList := fun j v hv => by
  have hj := (List.getElem?_eq_some_iff.1 hv).1
  rw [hr.cell, mcells, Array.getElem?_append_right (by rw [size_ws]; omega), size_ws, hh, show 8 + j - 8 = j by omega, Array.getElem?_append_left (by simpa using hj)]
  simpa using hv
theorem there_h {h : List (BitVec 32)} {b : List (BitVec 8)} {n : Nat} (hh : h.length = 8) (hb : b.length = 64) {w : World} {g : Nat} {t : TypeId} (hr : Row w g t (mcells h b n)) : w.there g 0 8 := fun j hj => by
  rw [Nat.zero_add]
  refine ⟨?_, hr.free j⟩
  rw [hr.cell, Array.getElem?_eq_getElem (by rw [size_mcells h b n hh hb]; omega)]
  rfl
/- H written anew -/
theorem Row.putH {w : World} {g : Nat} {t : TypeId} {h h' : List (BitVec 32)} {b : List (BitVec 8)} {n : Nat} (hh : h.length = 8) (hh' : h'.length = 8) (hr : Row w g t (mcells h b n)) :
    Row (w.setCells g 0 (ws h').toList) g t (mcells h' b n) := by
  obtain ⟨a0, a1, a2, a3, a4, a5, a6, a7, rfl⟩ := list8 h hh
  obtain ⟨x0, x1, x2, x3, x4, x5, x6, x7, rfl⟩ := list8 h' hh'
  have h0 := hr.put 0 (.int .u32 (wd x0)); rw [mcells_setH _ _ _ _ _ (by simp)] at h0
  have h1 := h0.put 1 (.int .u32 (wd x1)); rw [mcells_setH _ _ _ _ _ (by simp)] at h1
  have h2 := h1.put 2 (.int .u32 (wd x2)); rw [mcells_setH _ _ _ _ _ (by simp)] at h2
  have h3 := h2.put 3 (.int .u32 (wd x3)); rw [mcells_setH _ _ _ _ _ (by simp)] at h3
  have h4 := h3.put 4 (.int .u32 (wd x4)); rw [mcells_setH _ _ _ _ _ (by simp)] at h4
  have h5 := h4.put 5 (.int .u32 (wd x5)); rw [mcells_setH _ _ _ _ _ (by simp)] at h5
  have h6 := h5.put 6 (.int .u32 (wd x6)); rw [mcells_setH _ _ _ _ _ (by simp)] at h6
  have h7 := h6.put 7 (.int .u32 (wd x7)); rw [mcells_setH _ _ _ _ _ (by simp)] at h7
  exact h7

theorem step_load_mid {P : Program} {ops : Array Oper} {w : World} {K : Act → World → Prop} {Q : Exit → Act → World → Prop} {E : Prop} {op : Oper} {a : Act} (hgd : op.guard = none) (ty : TypeId) (x : Operand) (ho : op.op = .load ty x)
    (b o : Nat) (hx : a.eval x = .pointer (some ⟨b, o, none⟩)) (cs : List Value) (d : TypeDesc) (hc : w.rangeAt b o cs) (hu : P.underlying ty = some d) (hd : d.isRow = true) (hi : (P.info? ty).map (·.size) = some cs.length)
    (h : K (a.put op.dst (.agg cs.toArray)) w) : if Region.wanted op (yielded ops a.tmps) = true then Oper.wp P op a w K Q else E := by
  rw [if_pos (by simp [Region.wanted, hgd])]
  exact wp_load_mid ty x ho b o hx cs d hc hu hd hi h
theorem step_store_mid {P : Program} {ops : Array Oper} {w : World} {K : Act → World → Prop} {Q : Exit → Act → World → Prop} {E : Prop} {op : Oper} {a : Act} (hgd : op.guard = none) (ty : TypeId) (x y : Operand) (ho : op.op = .store ty x y)
    (b o : Nat) (cells : Array Value) (hx : a.eval x = .pointer (some ⟨b, o, none⟩)) (hy : a.eval y = .agg cells)
    (ht : w.there b o cells.size) (hi : (P.info? ty).map (·.size) = some cells.size) (h1 : cells.all (·.oneCell') = true)
    (h : K (a.put op.dst undef) (w.setCells b o cells.toList)) : if Region.wanted op (yielded ops a.tmps) = true then Oper.wp P op a w K Q else E := by
  rw [if_pos (by simp [Region.wanted, hgd])]
  exact wp_store_mid ty x y ho b o cells hx hy ht hi h1 h
end Go.Proofs.YtcheflcfoiclgaaDoor

set_option maxRecDepth 4000
namespace Go.Proofs.YtcheflcfoiclgaaDoor
open Go Go.RowKit
/- a slice value that reads as q, not in block g -/
def Part (w : World) (g : Nat) (v : Value) (q : List (BitVec 8)) : Prop :=
  ∃ A c, v = .slice A q.length c ∧ q.length ≤ c ∧ (q ≠ [] → ∃ b o, A = some ⟨b, o, none⟩ ∧ b ≠ g ∧ b < w.heap.size ∧ ∀ j x, q[j]? = some x → w.cell? ⟨b, o + j, none⟩ = some (.int .u8 (bd x)))
def MsgAt (w : World) (g : Nat) (M : List (BitVec 8)) : Prop := ∃ b, Tail M b ∧ Row w g 84 (mcells (hashTo M) b M.length)
def AddR (w wr : World) (g : Nat) (v : Value) (all : List (BitVec 8)) : Prop := ∃ M q, M ++ q = all ∧ Part wr g v q ∧ MsgAt wr g M ∧ w.grownBy wr (some g)
def sliceLen : Value → Nat
  | .slice _ n _ => n
  | _ => 0
theorem src {w : World} {b o j : Nat} {q : List (BitVec 8)} (h : ∀ j x, q[j]? = some x → w.cell? ⟨b, o + j, none⟩ = some (.int .u8 (bd x))) :
    ∀ i v, (bytesV (q.take j))[i]? = some v → w.drew.cell? ((⟨b, o, none⟩ : Addr).add i) = some v := by
  intro i v hv
  rw [Addr.add_mid]
  simp only [bytesV, List.getElem?_map, Option.map_eq_some_iff] at hv
  obtain ⟨x, hx, rfl⟩ := hv
  rw [List.getElem?_take] at hx
  split at hx
  · exact h i x hx
  · cases hx
theorem part_next {w2 w3 : World} {g bq oq j c c' : Nat} {q : List (BitVec 8)} {A' : Option Addr} (hc : ∀ j' x, q[j']? = some x → w2.cell? ⟨bq, oq + j', none⟩ = some (.int .u8 (bd x)))
    (hbg : bq ≠ g) (hbl : bq < w2.heap.size) (hcap : q.length ≤ c) (h3 : w2.grownBy w3 (some g)) (hA : c ≠ j → A' = some ⟨bq, oq + j, none⟩) (hc' : q.length - j ≤ c') : Part w3 g (.slice A' (q.length - j) c') (q.drop j) := by
  refine ⟨A', c', by rw [List.length_drop], by rw [List.length_drop]; exact hc', fun hne => ?_⟩
  have hl : 0 < (q.drop j).length := List.length_pos_iff.2 hne
  rw [List.length_drop] at hl
  refine ⟨bq, oq + j, hA (by omega), hbg, Nat.lt_of_lt_of_le hbl h3.size, fun i x hx => ?_⟩
  rw [List.getElem?_drop] at hx
  have := hc (j + i) x hx
  rw [Nat.add_assoc]
  exact h3.cell this (fun e => hbg (by injection e))
theorem msg_more {w3 : World} {g r : Nat} {m b q : List (BitVec 8)} (hb : Tail m b) (hr : m.length % 64 = r) (hq : r + q.length < 64) (hq0 : 0 < q.length)
    (hrow : Row w3 g 84 (mcells (hashTo m) (fill b q r) (m.length + q.length))) : MsgAt w3 g (m ++ q) := by
  subst hr
  rcases tail_more m b q hb hq with ⟨h1, h2, _⟩ | h
  · refine ⟨_, h1, ?_⟩
    rw [h2, List.length_append]; exact hrow
  · subst h; simp at hq0
theorem msg_full {w3 : World} {g r : Nat} {m b q : List (BitVec 8)} (hb : Tail m b) (hr : m.length % 64 = r) (hq : r + q.length = 64) (hL : (fill b q r).length = 64)
    (hrow : Row w3 g 84 (mcells (turn (hashTo m) (fill b q r)) (fill b q r) (m.length + q.length))) : MsgAt w3 g (m ++ q) := by
  subst hr
  obtain ⟨h1, h2⟩ := tail_full m b q hb hq _ hL
  refine ⟨_, h1, ?_⟩
  rw [h2, List.length_append]; exact hrow
theorem Tab.only {w w' : World} {g : Nat} (h : Tab w) (hw : w.grownBy w' (some g)) (hg : 0 < g) : Tab w' := fun i hi => hw.cell (h i hi) (fun e => Nat.ne_of_lt hg (by injection e))
set_option maxHeartbeats 1600000 in
theorem shaadd_any (g : Nat) (M p : List (BitVec 8)) (v : Value) (w : World) (hT : Tab w) (hg : 0 < g) (hv : Part w g v p) (hM : MsgAt w g M) (hlen : (M ++ p).length < 4294967296) :
    Calls Tryd.prog 40 #[.pointer (some ⟨g, 0, none⟩), v] w fun e w' => e = .returned (.tuple #[]) ∧ MsgAt w' g (M ++ p) ∧ w.grownBy w' (some g) := by
  have HT := Lib.hid hT
  have HV := Lib.hid hv
  have HM := Lib.hid hM
  clear hT hv hM
  go_enter Tryd.func40, Tryd.ntmps40
  go_wp2
  go_loopw [1] (fun v wr => AddR w wr g v (M ++ p)) (fun v _ => sliceLen v)
  case atStart => exact ⟨M, p, rfl, HV.out, HM.out, only_refl w g⟩
  case round =>
    obtain ⟨m, q, hall, ⟨A, c, rfl, hcap, hq⟩, ⟨b, hb, hr⟩, ho⟩ := hrel
    have HA := Lib.hid hall
    have hlen2 : m.length + q.length < 4294967296 := by rw [← List.length_append, hall]; exact hlen
    clear hall
    by_cases hne : q = []
    · subst hne
      go_wp2
      go_end0
      exact ⟨rfl, by have := HA.out; rw [List.append_nil] at this; rw [← this]; exact ⟨b, hb, hr⟩, ho⟩
    · have hpos : 0 < q.length := List.length_pos_iff.2 hne
      obtain ⟨bq, oq, rfl, hbg, hbl, hqc⟩ := hq hne
      have HC := Lib.hid hqc
      have c72 := hr.get (mcells_len _ b m.length (length_hashTo m) hb.1)
      have HB := Lib.hid hb
      clear hqc hq hb
      obtain ⟨r, hre⟩ : ∃ r, m.length % 64 = r := ⟨_, rfl⟩
      have tm : (m.length : Int).tmod 64 = (r : Int) := by rw [Int.tmod_eq_emod_of_nonneg (by omega)]; omega
      have hr64 : r < 64 := by omega
      have b0 : (0 : Int) ≤ (r : Int) := by omega
      have b1 : (r : Int) ≤ 64 := by omega
      have HR := Lib.hid hre
      clear hre
      obtain ⟨j, hj⟩ : ∃ j, Nat.min q.length (64 - r) = j := ⟨_, rfl⟩
      have hj1 : j ≤ q.length := hj ▸ Nat.min_le_left q.length (64 - r)
      have hj2 : j ≤ 64 - r := hj ▸ Nat.min_le_right q.length (64 - r)
      have hj0 : 0 < j := hj ▸ Nat.lt_min.2 ⟨hpos, (show 0 < 64 - r by omega)⟩
      have nr : ¬ 64 = r := by omega
      have HJ := Lib.hid hj
      clear hj
      have HJL : Hid ((bytesV (q.take j)).length = j) := Lib.hid (by simp [bytesV]; omega)
      go_wp2_with fail
      go_still_tail 10, (by kernel_rfl)
      change wpList _ _ _ _ _ wr.drew
      refine wpList_copy_own rfl _ _ 22 22 rfl 5 Tryd.underlying22 size_u8 g (8 + r) (64 - r) (64 - r) ⟨bq, oq, none⟩ q.length c rfl rfl (mcells (hashTo m) b m.length) 84 hr.drew (bytesV (q.take j)) (by rw [HJL.out, HJ.out]) (src HC.out) (by rw [size_mcells _ _ _ (length_hashTo m) HB.out.1, HJL.out]; omega) (one_bytesV _) ?_
      have hql : (q.take j).length = j := by rw [List.length_take]; omega
      have e1 : (List.take (8 + r) (mcells (hashTo m) b m.length).toList ++ (bytesV (List.take j q) ++ List.drop (8 + r + (bytesV (List.take j q)).length) (mcells (hashTo m) b m.length).toList)).toArray = mcells (hashTo m) (fill b (q.take j) r) m.length :=
        mcells_fill (hashTo m) b m.length (length_hashTo m) HB.out.1 (q.take j) r (by rw [hql]; omega)
      have hL : (fill b (q.take j) r).length = 64 := length_fill b (q.take j) r HB.out.1 (by rw [hql]; omega)
      rw [e1, HJL.out]
      have hr2 := hr.drew.setRow (mcells (hashTo m) (fill b (q.take j) r) m.length)
      have ho2 := only_setRow (only_drew ho) (mcells (hashTo m) (fill b (q.take j) r) m.length)
      have hbl2 : bq < (wr.drew.setRow g (mcells (hashTo m) (fill b (q.take j) r) m.length)).heap.size := by rw [size_setRow]; exact hbl
      have HC2 : Hid (∀ j' x, q[j']? = some x → (wr.drew.setRow g (mcells (hashTo m) (fill b (q.take j) r) m.length)).cell? ⟨bq, oq + j', none⟩ = some (.int .u8 (bd x))) :=
        Lib.hid fun j' x hx => (cell_setRow_other wr.drew g _ ⟨bq, oq + j', none⟩ hbg).trans (HC.out j' x hx)
      have HL := Lib.hid hL
      have HQ := Lib.hid hql
      clear e1 hL hql hbl HC hr ho c72 tm
      generalize wr.drew.setRow g (mcells (hashTo m) (fill b (q.take j) r) m.length) = w2 at *
      have c72 := hr2.get (mcells_len _ _ m.length (length_hashTo m) HL.out)
      have f72 := hr2.free 72
      have hr3 := hr2.put 72 (.int .u64 ((m.length + j : Nat) : Int))
      rw [mcells_setLen _ _ _ _ (length_hashTo m) HL.out, Int.natCast_add] at hr3
      have ho3 := only_setCell (i := 72) ho2 (.int .u64 ((m.length : Int) + (j : Int)))
      have HP : Hid (∀ (w3 : World) A' c', w2.grownBy w3 (some g) → (c ≠ j → A' = some ⟨bq, oq + j, none⟩) → q.length - j ≤ c' → Part w3 g (.slice A' (q.length - j) c') (q.drop j)) :=
        Lib.hid fun w3 A' c' h3 hA hc' => part_next HC2.out hbg hbl2 hcap h3 hA hc'
      clear hr2 HC2 hbl2 HJ HJL
      by_cases hfull : r + j = 64
      · have eb : (((m.length : Int) + (j : Int)) % 64 == 0) = true := by rw [beq_iff_eq]; have := HR.out; omega
        by_cases hcj : c = j
        all_goals
          go_wp2_with fail
          have HF := Lib.hid hfull
          clear hfull eb c72 f72
          have hs3 := only_setCell (i := 72) (only_refl w2 g) (.int .u64 ((m.length : Int) + (j : Int)))
          generalize w2.setCell ⟨g, 72, none⟩ (.int .u64 ((m.length : Int) + (j : Int))) = w3 at *
          have HTD : Hid (Tab w3.drew) := Lib.hid (Tab.only HT.out (only_drew ho3) hg)
          refine wp_region_any (by kernel_rfl) ?_
          change wpAny _ _ _ _ _ _ _ (World.drew _)
          refine wpAny_take (i := 0) (oi := { dst := some 37, op := _, type := _, pos := _, after := _, guard := none }) (v := .pointer (some ⟨g, 0, none⟩)) rfl (by kernel_rfl) (by kernel_rfl) (by kernel_rfl) (fun _ _ _ h => h) (Or.inl ⟨by rfl, fun _ => by go_simp⟩) ?_
          refine wpAny_take (i := 1) (oi := { dst := some 38, op := _, type := _, pos := _, after := _, guard := none }) (v := .pointer (some ⟨g, 0, none⟩)) rfl (by kernel_rfl) (by kernel_rfl) (by kernel_rfl) (fun _ _ _ h => h) (Or.inl ⟨by rfl, fun _ => by go_simp⟩) ?_
          refine wpAny_take (i := 2) (oi := { dst := some 39, op := _, type := _, pos := _, after := _, guard := none }) (v := .pointer (some ⟨g, 0, none⟩)) rfl (by kernel_rfl) (by kernel_rfl) (by kernel_rfl) (fun _ _ _ h => h) (Or.inl ⟨by rfl, fun _ => by go_simp⟩) ?_
          refine wpAny_take (i := 3) (oi := { dst := some 40, op := _, type := _, pos := _, after := _, guard := none }) (v := .pointer (some ⟨g, 0, none⟩)) rfl (by kernel_rfl) (by kernel_rfl) (by kernel_rfl) (fun _ _ _ h => h) (Or.inl ⟨by rfl, fun _ => by go_simp⟩) ?_
          refine wpAny_take (i := 5) (oi := { dst := some 42, op := _, type := _, pos := _, after := _, guard := none }) (v := .pointer (some ⟨g, 0, none⟩)) rfl (by kernel_rfl) (by kernel_rfl) (by kernel_rfl) (fun _ _ _ h => h) (Or.inl ⟨by rfl, fun _ => by go_simp⟩) ?_
          refine wpAny_take (i := 6) (oi := { dst := some 43, op := _, type := _, pos := _, after := _, guard := none }) (v := .pointer (some ⟨g, 0, none⟩)) rfl (by kernel_rfl) (by kernel_rfl) (by kernel_rfl) (fun _ _ _ h => h) (Or.inl ⟨by rfl, fun _ => by go_simp⟩) ?_
          refine wpAny_take (i := 7) (oi := { dst := some 44, op := _, type := _, pos := _, after := _, guard := none }) (v := .pointer (some ⟨g, 8, none⟩)) rfl (by kernel_rfl) (by kernel_rfl) (by kernel_rfl) (fun _ _ _ h => h) (Or.inl ⟨by rfl, fun _ => by go_simp⟩) ?_
          simp only [Act.put, List.setIfInBounds_toArray, List.set_cons_succ, List.set_cons_zero]
          refine wpAny_ready (rs := [4, 8]) (by kernel_rfl) (by simp) ?_
          refine AllReady.cons (o := { dst := some 41, op := .load 78 (.tmp 40), type := 78, pos := _, after := _, guard := none }) rfl (fun K hK => ?_) (AllReady.cons (o := { dst := some 45, op := .load 62 (.tmp 44), type := 62, pos := _, after := _, guard := none }) rfl (fun K hK => ?_) AllReady.nil)
          · refine step_load_mid rfl 78 _ rfl g 0 rfl (ws (hashTo m)).toList _ (range_h hr3.drew) Tryd.underlying78 rfl (by rw [len_ws, length_hashTo]; exact size_h) ?_
            refine hK _ _ ?_
            clear hK K
            refine wpAny_ready (rs := [8]) (by kernel_rfl) (by simp) ?_
            refine AllReady.cons (o := { dst := some 45, op := .load 62 (.tmp 44), type := 62, pos := _, after := _, guard := none }) rfl (fun K hK => ?_) AllReady.nil
            refine step_load_mid rfl 62 _ rfl g 8 rfl (bs (fill b (q.take j) r)).toList _ (range_b (length_hashTo m) hr3.drew) Tryd.underlying62 rfl (by rw [len_bs, HL.out]; exact size_b) ?_
            refine hK _ _ ?_
            clear hK K
            refine wpAny_ready (rs := [9]) (by kernel_rfl) (by simp) ?_
            refine AllReady.cons (o := { dst := some 46, op := .call { callee := .value (.func 45), args := #[.tmp 41, .tmp 45], argTypes := #[78, 62] }, type := 78, pos := _, after := _, guard := none }) rfl (fun K hK => ?_) AllReady.nil
            go_simp
            refine (turn_any (hashTo m) (fill b (q.take j) r) (length_hashTo m) HL.out _ HTD.out).mono ?_
            rintro e w4 ⟨rfl, hb4⟩
            refine hK _ _ ?_
            clear hK K
            refine wpAny_take (i := 10) (oi := { dst := some 47, op := _, type := _, pos := _, after := _, guard := none }) (v := .pointer (some ⟨g, 0, none⟩)) rfl (by kernel_rfl) (by kernel_rfl) (by kernel_rfl) (fun _ _ _ h => h) (Or.inl ⟨by rfl, fun _ => by go_simp⟩) ?_
            refine wpAny_take (i := 11) (oi := { dst := some 48, op := _, type := _, pos := _, after := _, guard := none }) (v := .pointer (some ⟨g, 0, none⟩)) rfl (by kernel_rfl) (by kernel_rfl) (by kernel_rfl) (fun _ _ _ h => h) (Or.inl ⟨by rfl, fun _ => by go_simp⟩) ?_
            simp only [Act.put, List.setIfInBounds_toArray, List.set_cons_succ, List.set_cons_zero]
            refine wpAny_ready (rs := [12]) (by kernel_rfl) (by simp) ?_
            refine AllReady.cons (o := { dst := none, op := .store 78 (.tmp 48) (.tmp 46), type := _, pos := _, after := _, guard := none }) rfl (fun K hK => ?_) AllReady.nil
            refine step_store_mid rfl 78 _ _ rfl g 0 (ws (turn (hashTo m) (fill b (q.take j) r))) rfl rfl (by rw [size_ws, length_turn, length_hashTo]; exact there_h (length_hashTo m) HL.out (hr3.drew.call hb4)) (by rw [size_ws, length_turn, length_hashTo]; exact size_h) (one_ws _) ?_
            refine hK _ _ ?_
            clear hK K
            refine wpAny_done (by kernel_rfl) ?_ _
            go_wp2_with fail
            have hr5 := Row.putH (length_hashTo m) (h' := turn (hashTo m) (fill b (q.take j) r)) (by rw [length_turn, length_hashTo]) (hr3.drew.call hb4)
            have ho5 := only_setCells (ws (turn (hashTo m) (fill b (q.take j) r))).toList 0 (only_call (only_drew ho3) hb4)
            have hs5 := only_setCells (ws (turn (hashTo m) (fill b (q.take j) r))).toList 0 (only_call (only_drew hs3) hb4)
            go_roundw
            case rel =>
              (repeat apply Exists.intro)
              refine ⟨⟨m ++ q.take j, q.drop j, by rw [List.append_assoc, List.take_append_drop]; exact HA.out, HP.out _ _ _ hs5 (fun hne => by first | rfl | exact absurd hcj hne) (by omega), ?_, ho5⟩, rfl⟩
              exact msg_full HB.out HR.out (by rw [HQ.out]; exact HF.out) HL.out (by rw [HQ.out]; exact hr5)
            case measure => show q.length - j < q.length; omega
          · refine step_load_mid rfl 62 _ rfl g 8 rfl (bs (fill b (q.take j) r)).toList _ (range_b (length_hashTo m) hr3.drew) Tryd.underlying62 rfl (by rw [len_bs, HL.out]; exact size_b) ?_
            refine hK _ _ ?_
            clear hK K
            refine wpAny_ready (rs := [4]) (by kernel_rfl) (by simp) ?_
            refine AllReady.cons (o := { dst := some 41, op := .load 78 (.tmp 40), type := 78, pos := _, after := _, guard := none }) rfl (fun K hK => ?_) AllReady.nil
            refine step_load_mid rfl 78 _ rfl g 0 rfl (ws (hashTo m)).toList _ (range_h hr3.drew) Tryd.underlying78 rfl (by rw [len_ws, length_hashTo]; exact size_h) ?_
            refine hK _ _ ?_
            clear hK K
            refine wpAny_ready (rs := [9]) (by kernel_rfl) (by simp) ?_
            refine AllReady.cons (o := { dst := some 46, op := .call { callee := .value (.func 45), args := #[.tmp 41, .tmp 45], argTypes := #[78, 62] }, type := 78, pos := _, after := _, guard := none }) rfl (fun K hK => ?_) AllReady.nil
            go_simp
            refine (turn_any (hashTo m) (fill b (q.take j) r) (length_hashTo m) HL.out _ HTD.out).mono ?_
            rintro e w4 ⟨rfl, hb4⟩
            refine hK _ _ ?_
            clear hK K
            refine wpAny_take (i := 10) (oi := { dst := some 47, op := _, type := _, pos := _, after := _, guard := none }) (v := .pointer (some ⟨g, 0, none⟩)) rfl (by kernel_rfl) (by kernel_rfl) (by kernel_rfl) (fun _ _ _ h => h) (Or.inl ⟨by rfl, fun _ => by go_simp⟩) ?_
            refine wpAny_take (i := 11) (oi := { dst := some 48, op := _, type := _, pos := _, after := _, guard := none }) (v := .pointer (some ⟨g, 0, none⟩)) rfl (by kernel_rfl) (by kernel_rfl) (by kernel_rfl) (fun _ _ _ h => h) (Or.inl ⟨by rfl, fun _ => by go_simp⟩) ?_
            simp only [Act.put, List.setIfInBounds_toArray, List.set_cons_succ, List.set_cons_zero]
            refine wpAny_ready (rs := [12]) (by kernel_rfl) (by simp) ?_
            refine AllReady.cons (o := { dst := none, op := .store 78 (.tmp 48) (.tmp 46), type := _, pos := _, after := _, guard := none }) rfl (fun K hK => ?_) AllReady.nil
            refine step_store_mid rfl 78 _ _ rfl g 0 (ws (turn (hashTo m) (fill b (q.take j) r))) rfl rfl (by rw [size_ws, length_turn, length_hashTo]; exact there_h (length_hashTo m) HL.out (hr3.drew.call hb4)) (by rw [size_ws, length_turn, length_hashTo]; exact size_h) (one_ws _) ?_
            refine hK _ _ ?_
            clear hK K
            refine wpAny_done (by kernel_rfl) ?_ _
            go_wp2_with fail
            have hr5 := Row.putH (length_hashTo m) (h' := turn (hashTo m) (fill b (q.take j) r)) (by rw [length_turn, length_hashTo]) (hr3.drew.call hb4)
            have ho5 := only_setCells (ws (turn (hashTo m) (fill b (q.take j) r))).toList 0 (only_call (only_drew ho3) hb4)
            have hs5 := only_setCells (ws (turn (hashTo m) (fill b (q.take j) r))).toList 0 (only_call (only_drew hs3) hb4)
            go_roundw
            case rel =>
              (repeat apply Exists.intro)
              refine ⟨⟨m ++ q.take j, q.drop j, by rw [List.append_assoc, List.take_append_drop]; exact HA.out, HP.out _ _ _ hs5 (fun hne => by first | rfl | exact absurd hcj hne) (by omega), ?_, ho5⟩, rfl⟩
              exact msg_full HB.out HR.out (by rw [HQ.out]; exact HF.out) HL.out (by rw [HQ.out]; exact hr5)
            case measure => show q.length - j < q.length; omega
      · have eb : (((m.length : Int) + (j : Int)) % 64 == 0) = false := by rw [beq_eq_false_iff_ne]; have := HR.out; omega
        go_wp2_with fail
        refine ⟨⟨m ++ q.take j, q.drop j, by rw [List.append_assoc, List.take_append_drop]; exact HA.out, ?_, ?_, ho3⟩, ?_⟩
        · exact HP.out _ _ _ (only_setCell (only_refl _ _) _) (fun hne => if_neg hne) (by omega)
        · exact msg_more HB.out HR.out (by rw [HQ.out]; omega) (by rw [HQ.out]; exact hj0) (by rw [HQ.out]; exact hr3)
        · show q.length - j < q.length; omega
end Go.Proofs.YtcheflcfoiclgaaDoor

set_option maxRecDepth 4000
namespace Go.Proofs.YtcheflcfoiclgaaDoor
open Go Go.RowKit
theorem u64_wrap (n : Int) : IntKind.u64.wrap n = n % 18446744073709551616 := by simp [IntKind.wrap, IntKind.bits, IntKind.signed]
theorem made_bytes (z : Nat) : madeCells (Value.int .u8 0).cells z = bs (zer z) := by
  apply Array.ext
  · simp [size_madeCells, size_bs, zer]
  · intro i h1 h2
    simp [madeCells, bs, zer, Value.cells, Nat.mod_one, bd]
theorem make_bytes (z : Nat) (k : Int) (hk : k = (z : Int)) (hz : z ≤ 100000) (w : World) :
    (Instr.makeSlice 22 (.int .u64 k) (.int .u64 k)).run Tryd.prog w = .ok (.slice (some ⟨w.heap.size, 0, none⟩) z z) (w.alloc (.cells (bs (zer z)) 5)) := by
  subst hk
  obtain ⟨i0, hi, hz0, hz1, hz2⟩ := info_parts info_u8
  have h := run_make (P := Tryd.prog) w 22 5 i0 (.int .u8 0) Tryd.underlying22 hi hz0 .u64 .u64 (z : Int) (z : Int) (by omega) (by omega) (by rw [hz2]; omega) (by omega)
  rw [hz1] at h
  simp only [Int.toNat_natCast, Nat.mul_one] at h
  rw [made_bytes] at h
  exact h
theorem pad_start {w : World} {z : Nat} {X : Int} (hz : 9 ≤ z) : ∃ k : Nat, k ≤ 8 ∧ Value.int .u64 0 = .int .u64 k ∧ Row (w.alloc (.cells ((bs (zer z)).setIfInBounds 0 (.int .u8 128)) 5)) w.heap.size 5 (bs (padTo z X k)) ∧ Below w.heap.size w (w.alloc (.cells ((bs (zer z)).setIfInBounds 0 (.int .u8 128)) 5)) := by
  have e : (bs (zer z)).setIfInBounds 0 (.int .u8 128) = bs (padTo z X 0) := by
    rw [show (Value.int .u8 128) = .int .u8 (bd 0x80#8) from rfl, set_bs, padTo_zero z X hz]
  rw [e]
  exact ⟨0, by omega, rfl, Row.fresh _ _ _, (Below.refl _ _).alloc (Nat.le_refl _) _⟩
theorem pad_step {w wr : World} {z k : Nat} {X : Int} (hz : 9 ≤ z) (hk : k < 8) (hr : Row wr w.heap.size 5 (bs (padTo z X k))) (hb : Below w.heap.size w wr) :
    Row (wr.setCell ⟨w.heap.size, z - 1 - k, none⟩ (.int .u8 (X / 2 ^ (8 * k) % 256))) w.heap.size 5 (bs (padTo z X (k + 1))) ∧ Below w.heap.size w (wr.setCell ⟨w.heap.size, z - 1 - k, none⟩ (.int .u8 (X / 2 ^ (8 * k) % 256))) := by
  have e : X / 2 ^ (8 * k) % 256 = bd (lenByte X k) := by rw [lenByte, ← wrap_u8_bd, IntKind.wrap_u8']
  rw [e]
  refine ⟨?_, hb.setCell (Nat.le_refl _) _⟩
  have h1 := hr.put (z - 1 - k) (.int .u8 (bd (lenByte X k)))
  rw [set_bs, padTo_set z X k hz hk] at h1
  exact h1
set_option maxHeartbeats 800000 in
theorem pad_core (n z : Nat) (X : Int) (hn : n < 18446744073709551616) (hz : 9 ≤ z) (hz2 : z ≤ 72) (w : World)
    (hX : IntKind.u64.wrap ((n : Int) * 8) = X) (_hX0 : 0 ≤ X) (_hX1 : X < 18446744073709551616)
    (hc : z = if 64 - n % 64 < 9 then 64 - n % 64 + 64 else 64 - n % 64) :
    Calls Tryd.prog 41 #[.int .u64 (n : Int)] w fun e w' => e = .returned (.slice (some ⟨w.heap.size, 0, none⟩) z z) ∧ Row w' w.heap.size 5 (bs (padTo z X 8)) ∧ Below w.heap.size w w' := by
  have hmk := make_bytes z (z : Int) rfl (by omega)
  have g0 := get_bs (zer z) 0 (by simp [zer]; omega)
  by_cases hlt : 64 - n % 64 < 9
  · rw [if_pos hlt] at hc
    have e1 : 64 - (n : Int) % 64 + 64 = (z : Int) := by omega
    have e2 : 64 - (n : Int) % 64 < 9 := by omega
    clear hc hlt
    go_enter Tryd.func41, Tryd.ntmps41
    go_wp2
    clear e1 e2
    go_loopw [20] (fun i wr => ∃ k : Nat, k ≤ 8 ∧ i = .int .u64 k ∧ Row wr w.heap.size 5 (bs (padTo z X k)) ∧ Below w.heap.size w wr) (fun i _ => 8 - (intOf i).toNat)
    case atStart => exact pad_start hz
    case round =>
      clear hmk g0
      obtain ⟨k, hk, rfl, hr, hb⟩ := hrel
      by_cases hlt : k < 8
      · have c0 := hr.get (get_bs (padTo z X k) (z - 1 - k) (by rw [length_padTo z X k hz hk]; omega))
        have f0 := hr.free (z - 1 - k)
        go_wp2
        go_roundw
        case rel => exact ⟨k + 1, by omega, by go_num, pad_step hz hlt hr hb⟩
        case measure => simp [intOf]; omega
      · obtain rfl : k = 8 := by omega
        clear hlt hk
        go_wp2
        go_ret
        exact ⟨rfl, hr, hb⟩
  · rw [if_neg hlt] at hc
    have e1 : 64 - (n : Int) % 64 = (z : Int) := by omega
    have e2 : ¬ (z : Int) < 9 := by omega
    clear hc hlt
    go_enter Tryd.func41, Tryd.ntmps41
    go_wp2
    clear e1 e2
    go_loopw [20] (fun i wr => ∃ k : Nat, k ≤ 8 ∧ i = .int .u64 k ∧ Row wr w.heap.size 5 (bs (padTo z X k)) ∧ Below w.heap.size w wr) (fun i _ => 8 - (intOf i).toNat)
    case atStart => exact pad_start hz
    case round =>
      clear hmk g0
      obtain ⟨k, hk, rfl, hr, hb⟩ := hrel
      by_cases hlt : k < 8
      · have c0 := hr.get (get_bs (padTo z X k) (z - 1 - k) (by rw [length_padTo z X k hz hk]; omega))
        have f0 := hr.free (z - 1 - k)
        go_wp2
        go_roundw
        case rel => exact ⟨k + 1, by omega, by go_num, pad_step hz hlt hr hb⟩
        case measure => simp [intOf]; omega
      · obtain rfl : k = 8 := by omega
        clear hlt hk
        go_wp2
        go_ret
        exact ⟨rfl, hr, hb⟩

theorem shapad_any (n : Nat) (hn : n < 18446744073709551616) (w : World) :
    Calls Tryd.prog 41 #[.int .u64 (n : Int)] w fun e w' => e = .returned (.slice (some ⟨w.heap.size, 0, none⟩) (padSize n) (padSize n)) ∧ Row w' w.heap.size 5 (bs (pad n)) ∧ Below w.heap.size w w' :=
  pad_core n (padSize n) (bitLen n) hn (padSize_lo n) (padSize_hi n) w (by rw [u64_wrap]; unfold bitLen; omega) (by unfold bitLen; omega) (by unfold bitLen; omega) rfl
end Go.Proofs.YtcheflcfoiclgaaDoor

set_option maxRecDepth 4000
namespace Go.Proofs.YtcheflcfoiclgaaDoor
open Go Go.RowKit
attribute [local go_sem] low_wd low24_wd low16_wd low8_wd
theorem size_d : (Tryd.prog.info? 29).map (·.size) = some 32 := by kernel_rfl
theorem info_u32 : (Tryd.prog.info? 23).map (·.size) = some 1 := by kernel_rfl
theorem index_ws (h : List (BitVec 32)) (k : Nat) (hl : h.length = 8) (hk : k < 8) (w : World) : (Instr.index 78 (.agg (ws h)) (.int .i64 k)).run Tryd.prog w = .ok (.int .u32 (wd (h.getD k 0))) w := by
  obtain ⟨i, hi, hs⟩ := Option.map_eq_some_iff.1 info_u32
  have hg := get_ws h k (by omega)
  have e1 : (0 : Int) ≤ (k : Int) ∧ (k : Int) < ((8 : Nat) : Int) := by omega
  simp only [Instr.index, asIntOf, run_underlying Tryd.underlying78, Sem.run_bind, Sem.run_pure, Result.andThen_ok]
  rw [if_pos e1]
  simp [Go.part, isAgg, run_underlying Tryd.underlying23, sizeOf, typeInfo, hi, hs, hg]
theorem start_any (w : World) : Calls Tryd.prog 39 #[] w fun e w' => e = .returned (.agg (ws [0x6a09e667#32, 0xbb67ae85#32, 0x3c6ef372#32, 0xa54ff53a#32, 0x510e527f#32, 0x9b05688c#32, 0x1f83d9ab#32, 0x5be0cd19#32])) ∧ Below w.heap.size w w' := by
  go_enter Tryd.func39, Tryd.ntmps39
  go_wp2
  refine bodyPost_ret (v := .agg (ws [0x6a09e667#32, 0xbb67ae85#32, 0x3c6ef372#32, 0xa54ff53a#32, 0x510e527f#32, 0x9b05688c#32, 0x1f83d9ab#32, 0x5be0cd19#32])) ?_ rfl ⟨rfl, (Below.refl _ _).alloc (Nat.le_refl _) _⟩
  exact results_cell_row Tryd.results39 _ _ w.heap.size 78 (ws [0x6a09e667#32, 0xbb67ae85#32, 0x3c6ef372#32, 0xa54ff53a#32, 0x510e527f#32, 0x9b05688c#32, 0x1f83d9ab#32, 0x5be0cd19#32]) (0, 0) _ rfl (Row.fresh _ _ _) Tryd.underlying78 rfl size_h
set_option maxHeartbeats 400000 in
theorem dig_any (h : List (BitVec 32)) (hh : h.length = 8) (w : World) :
    Calls Tryd.prog 42 #[.agg (ws h)] w fun e w' => e = .returned (.agg (bs (dig h))) ∧ Below w.heap.size w w' := by
  have H33 : Hid ((Tryd.prog.info? 78).map (·.size) = some (ws h).size) := Lib.hid (by rw [size_ws, hh]; exact size_h)
  have HH := Lib.hid hh
  clear hh
  go_enter Tryd.func42, Tryd.ntmps42
  go_wp2_with (refine wpList_load_row rfl 78 _ rfl w.heap.size rfl 78 (ws h) (0, 0) _ (row3a w _ _ _ _) Tryd.underlying78 rfl H33.out ?_)
  go_loopw [7] (fun i wr => ∃ k : Nat, k ≤ 8 ∧ i = .int .i64 k ∧ Row wr (w.heap.size + 1) 29 (bs (zer 32)) ∧ Row wr (w.heap.size + 1 + 1) 29 (bs (digTo h k)) ∧ Below w.heap.size w wr) (fun i _ => 8 - (intOf i).toNat)
  case atStart => exact ⟨0, by omega, rfl, row3b w 29 (bs (zer 32)) _ _, by rw [digTo_zero]; exact row3c w 29 (bs (zer 32)) _ _, below3 _ _ _ _⟩
  case round =>
    obtain ⟨k, hk, rfl, hr1, hr2, hb⟩ := hrel
    by_cases hlt : k < 8
    · have ix := index_ws h k HH.out hlt
      have c0 := hr2.get (get_bs (digTo h k) (4 * k) (by rw [length_digTo h k HH.out hk]; omega))
      have c1 := hr2.get (get_bs (digTo h k) (4 * k + 1) (by rw [length_digTo h k HH.out hk]; omega))
      have c2 := hr2.get (get_bs (digTo h k) (4 * k + 2) (by rw [length_digTo h k HH.out hk]; omega))
      have c3 := hr2.get (get_bs (digTo h k) (4 * k + 3) (by rw [length_digTo h k HH.out hk]; omega))
      have f0 := hr2.free (4 * k)
      have f1 := hr2.free (4 * k + 1)
      have f2 := hr2.free (4 * k + 2)
      have f3 := hr2.free (4 * k + 3)
      go_wp2
      go_roundw
      case rel =>
        refine ⟨k + 1, by omega, by go_num, ?_, ?_, ?_⟩
        · exact (((hr1.far (by simp) _).far (by simp) _).far (by simp) _).far (by simp) _
        · have h1 := (((hr2.put (4 * k) (.int .u8 (bd ((h.getD k 0 >>> 24).setWidth 8)))).put (4 * k + 1) (.int .u8 (bd ((h.getD k 0 >>> 16).setWidth 8)))).put (4 * k + 2) (.int .u8 (bd ((h.getD k 0 >>> 8).setWidth 8)))).put (4 * k + 3) (.int .u8 (bd ((h.getD k 0).setWidth 8)))
          rw [set_bs, set_bs, set_bs, set_bs, digTo_set h k HH.out hlt] at h1
          exact h1
        · exact (((hb.setCell (by simp; omega) _).setCell (by simp; omega) _).setCell (by simp; omega) _).setCell (by simp; omega) _
      case measure => simp [intOf]; omega
    · obtain rfl : k = 8 := by omega
      rw [digTo_all h HH.out] at hr2
      have HS : Hid ((Tryd.prog.info? 29).map (·.size) = some (bs (dig h)).size) := Lib.hid (by rw [size_bs, length_dig, HH.out]; exact size_d)
      clear hlt hk
      go_wp2_with (first | (refine wpList_load_row rfl 29 _ rfl (w.heap.size + 1 + 1) rfl 29 (bs (dig h)) (0, 0) _ hr2 Tryd.underlying29 rfl HS.out ?_) | (refine wpList_store_row rfl 29 _ _ rfl (w.heap.size + 1) (bs (dig h)) rfl rfl 29 _ hr1 HS.out (by rw [size_bs, size_bs, length_dig, HH.out]; rfl) (one_bs _) ?_))
      exact bodyPost_ret (v := .agg (bs (dig h))) (results_cell_row Tryd.results42 _ _ (w.heap.size + 1) 29 (bs (dig h)) (0, 0) _ rfl (hr1.setRow _) Tryd.underlying29 rfl HS.out) rfl ⟨rfl, below_setRow hb (by omega) _⟩
end Go.Proofs.YtcheflcfoiclgaaDoor

set_option maxRecDepth 4000
namespace Go.Proofs.YtcheflcfoiclgaaDoor
open Go Go.RowKit
theorem Slice.part {w w' : World} {g : Nat} {v : Value} {q : List (BitVec 8)} (h : Slice w v q) (hb : Below w.heap.size w w') (hg : w.heap.size ≤ g) : Part w' g v q := by
  obtain ⟨A, c, h1, h2, h3⟩ := h
  refine ⟨A, c, h1, h2, fun hne => ?_⟩
  obtain ⟨b, o, h4, h5, h6⟩ := h3 hne
  exact ⟨b, o, h4, by omega, Nat.lt_of_lt_of_le h5 hb.size, fun j x hx => (hb.cell (p := ⟨b, o + j, none⟩) h5).trans (h6 j x hx)⟩
theorem size_m : (Tryd.prog.info? 84).map (·.size) = some 73 := by kernel_rfl
theorem built_m : Tryd.prog.built 84 [(0, .agg (ws h0))] = some (mcells h0 (zer 64) 0) := by kernel_rfl
theorem zero_m (w : World) : (zeroValue 84).run Tryd.prog w = .ok (.agg (mcells (zeros 8) (zer 64) 0)) w := by kernel_rfl
theorem start_h0 (w : World) : Calls Tryd.prog 39 #[] w fun e w' => e = .returned (.agg (ws h0)) ∧ Below w.heap.size w w' := start_any w
def SumR (w wr : World) (g k : Nat) (ps : List (List (BitVec 8))) : Prop :=
  MsgAt wr g (ps.take k).flatten ∧ Row wr w.heap.size 29 (bs (zer 32)) ∧ Below w.heap.size w wr ∧ g < wr.heap.size
theorem msg_zero (w : World) : MsgAt (w.alloc (.cells (mcells h0 (zer 64) 0) 84)) w.heap.size [] :=
  ⟨zer 64, ⟨rfl, rfl⟩, Row.fresh _ _ _⟩
theorem MsgAt.call {w w' : World} {g : Nat} {M : List (BitVec 8)} (h : MsgAt w g M) (hb : Below w.heap.size w w') : MsgAt w' g M := by
  obtain ⟨b, h1, h2⟩ := h; exact ⟨b, h1, h2.call hb⟩
theorem sum_step {w wr w2 : World} {g k : Nat} {ps : List (List (BitVec 8))} (h : SumR w wr g k ps) (hk : k < ps.length) (hM : MsgAt w2 g ((ps.take k).flatten ++ ps[k])) (hO : wr.grownBy w2 (some g)) (hg : w.heap.size < g) : SumR w w2 g (k + 1) ps := by
  obtain ⟨_, h2, h3, h4⟩ := h
  refine ⟨by rw [flat_succ ps k hk]; exact hM, h2.only hO (by omega), h3.trans (only_below hO (by omega) h3.size), Nat.lt_of_lt_of_le h4 hO.size⟩
theorem pad_part {wr w2 : World} {g n : Nat} (rp : Row w2 wr.heap.size 5 (bs (pad n))) (hg : g < wr.heap.size) : Part w2 g (.slice (some ⟨wr.heap.size, 0, none⟩) (padSize n) (padSize n)) (pad n) := by
  refine ⟨some ⟨wr.heap.size, 0, none⟩, padSize n, by rw [length_pad], by rw [length_pad]; exact Nat.le_refl _, fun _ => ⟨wr.heap.size, 0, rfl, by omega, rp.lt, fun j x hx => ?_⟩⟩
  have hj := (List.getElem?_eq_some_iff.1 hx).1
  rw [Nat.zero_add, rp.get (get_bs (pad n) j hj), List.getD_eq_getElem?_getD, hx]; rfl
set_option maxHeartbeats 800000 in
theorem sum_core (ps : List (List (BitVec 8))) (M : List (BitVec 8)) (hF : ps.flatten = M) (v : Value) (w : World) (hT : Tab w) (hv : Parts w v ps) (hn : ps.length < 2147483648) (hlen : M.length < 2147483648) :
    Calls Tryd.prog 33 #[v] w fun e w' => e = .returned (.agg (bs (sha M))) ∧ Below w.heap.size w w' := by
  obtain ⟨A, c, rfl, hp⟩ := hv
  have HT := Lib.hid hT
  have HF := Lib.hid hF
  have HP := Lib.hid hp
  clear hT hp hF
  have hz := zero_m
  have hbu := built_m
  go_enter Tryd.func33, Tryd.ntmps33
  go_wp2_with fail
  refine (start_h0 _).mono ?_
  rintro e w1 ⟨rfl, hb1⟩
  have hb : Below w.heap.size w w1 := ((Below.refl _ _).alloc (Nat.le_refl _) _).trans (hb1.mono (by simp))
  have r0 : Row w1 w.heap.size 29 (bs (zer 32)) := (Row.fresh w 29 (bs (zer 32))).call hb1
  clear hb1
  go_wp2_with (first | (refine wpList_build rfl _ _ rfl (by kernel_rfl) ?_) | (refine wpList_store_row rfl 84 _ _ rfl w1.heap.size (mcells h0 (zer 64) 0) rfl rfl 84 _ (Row.fresh _ _ _) size_m (by kernel_rfl) (by kernel_rfl) ?_; rw [World.setRow_alloc_new]))
  clear hz hbu
  go_loopw [10] (fun i wr => ∃ k : Nat, k ≤ ps.length ∧ i = .int .i64 k ∧ SumR w wr w1.heap.size k ps) (fun i _ => ps.length - (intOf i).toNat)
  case atStart => exact ⟨0, by omega, rfl, msg_zero _, r0.alloc _, hb.alloc hb.size _, by simp⟩
  case round =>
    obtain ⟨k, hk, rfl, hR⟩ := hrel
    have HR := Lib.hid hR
    clear hR
    by_cases hlt : k < ps.length
    · obtain ⟨b, o, rfl, hbl, hc⟩ := HP.out (by intro h; subst h; simp at hlt)
      obtain ⟨u, hu, hs⟩ := hc k ps[k] (List.getElem?_eq_getElem hlt)
      have hu2 := (HR.out.2.2.1.cell (p := ⟨b, o + k, none⟩) hbl).trans hu
      have HS := Lib.hid hs
      clear hc hu hs
      go_wp2_with fail
      refine (shaadd_any w1.heap.size (ps.take k).flatten ps[k] u wr (HT.out.below HR.out.2.2.1 HT.out.pos) (Nat.lt_of_lt_of_le HT.out.pos hb.size) (HS.out.part HR.out.2.2.1 hb.size) HR.out.1 (by have := flat_le ps k hlt; rw [HF.out] at this; omega)).mono ?_
      rintro e w2 ⟨rfl, hM, hO⟩
      have HR2 := Lib.hid (sum_step HR.out hlt hM hO r0.lt)
      clear hM hO HR
      go_wp2_with fail
      go_roundw
      case rel => exact ⟨k + 1, by omega, by go_num, HR2.out⟩
      case measure => simp [intOf]; omega
    · obtain rfl : k = ps.length := by omega
      obtain ⟨hM, hr, hbw, hgw⟩ := HR.out
      rw [List.take_length, HF.out] at hM
      have hgN := r0.lt
      clear HR hlt hk hb r0 HP HF
      obtain ⟨b, ⟨hb1, hb2⟩, hrow⟩ := hM
      have c72 := hrow.get (mcells_len _ b M.length (length_hashTo _) hb1)
      have HM : Hid (MsgAt wr w1.heap.size M) := Lib.hid ⟨b, ⟨hb1, hb2⟩, hrow⟩
      clear hb1 hb2 hrow
      go_wp2_with fail
      refine (shapad_any M.length (by omega) wr).mono ?_
      rintro e w2 ⟨rfl, rp, hbp⟩
      go_wp2_with fail
      have hz := padSize_hi M.length
      refine (shaadd_any w1.heap.size M (pad M.length) _ w2 (HT.out.below (hbw.trans (hbp.mono hbw.size)) HT.out.pos) (by omega) (pad_part rp hgw) (HM.out.call hbp) (by rw [List.length_append, length_pad]; omega)).mono ?_
      rintro e w3 ⟨rfl, hM3, hO3⟩
      have hr3 := (hr.call hbp).only hO3 (by omega)
      have hb3 : Below w.heap.size w w3 := (hbw.trans (hbp.mono hbw.size)).trans (only_below hO3 (by omega) (Nat.le_trans hbw.size hbp.size))
      obtain ⟨b3, ⟨hb31, _⟩, hrow3⟩ := hM3
      have HD : Hid ((Tryd.prog.info? 29).map (·.size) = some (bs (sha M)).size) := Lib.hid (by rw [size_bs, sha, length_dig, length_hashTo]; exact size_d)
      have HX : Hid (sha M = dig (hashTo (M ++ pad M.length))) := Lib.hid rfl
      have HH : Hid ((hashTo (M ++ pad M.length)).length = 8) := Lib.hid (length_hashTo _)
      clear c72 HM rp hr hbw hbp hO3 hb31
      generalize hashTo (M ++ pad M.length) = H at *
      go_wp2_with (refine wpList_load_mid rfl 78 _ rfl w1.heap.size 0 rfl (ws H).toList _ (range_h hrow3) Tryd.underlying78 rfl (by rw [len_ws, HH.out]; exact size_h) ?_)
      refine (dig_any H HH.out _).mono ?_
      rintro e w4 ⟨rfl, hb4⟩
      rw [← HX.out]
      have hr4 := hr3.call hb4
      have hb5 : Below w.heap.size w w4 := hb3.trans (hb4.mono hb3.size)
      clear hr3 hb3 hb4 hrow3
      go_wp2_with (refine wpList_store_row rfl 29 _ _ rfl w.heap.size (bs (sha M)) rfl rfl 29 _ hr4 HD.out (by rw [size_bs, size_bs, sha, length_dig, length_hashTo]; rfl) (one_bs _) ?_)
      exact bodyPost_ret (v := .agg (bs (sha M))) (results_cell_row Tryd.results33 _ _ w.heap.size 29 (bs (sha M)) (0, 0) _ rfl (hr4.setRow _) Tryd.underlying29 rfl HD.out) rfl ⟨rfl, below_setRow hb5 (Nat.le_refl _) _⟩
theorem sum_any (ps : List (List (BitVec 8))) (v : Value) (w : World) (hT : Tab w) (hv : Parts w v ps) (hn : ps.length < 2147483648) (hlen : ps.flatten.length < 2147483648) :
    Calls Tryd.prog 33 #[v] w fun e w' => e = .returned (.agg (bs (sha ps.flatten))) ∧ Below w.heap.size w w' := sum_core ps _ rfl v w hT hv hn hlen
end Go.Proofs.YtcheflcfoiclgaaDoor

/- Two arrays of integers that are the same are told as equal. -/
set_option maxRecDepth 4000
namespace Go.Proofs.YtcheflcfoiclgaaDoor
open Go
end Go.Proofs.YtcheflcfoiclgaaDoor

/- Arrays that are the same are told as equal. -/
set_option maxRecDepth 4000
namespace Go.Proofs.YtcheflcfoiclgaaDoor
open Go Go.RowKit
end Go.Proofs.YtcheflcfoiclgaaDoor

/- An append of bytes onto a slice of the call's own, the appended slice nil, empty or not. -/
set_option maxRecDepth 4000
namespace Go.Proofs.YtcheflcfoiclgaaDoor
open Go Go.RowKit
end Go.Proofs.YtcheflcfoiclgaaDoor

/- A block of bytes read as a slice; a conversion of a text's bytes. -/
set_option maxRecDepth 4000
namespace Go.Proofs.YtcheflcfoiclgaaDoor
open Go Go.RowKit
end Go.Proofs.YtcheflcfoiclgaaDoor

/- What stands in a pad. -/
set_option maxRecDepth 4000
namespace Go.Proofs.YtcheflcfoiclgaaDoor
open Go Go.RowKit
end Go.Proofs.YtcheflcfoiclgaaDoor

/- Parts laid by the call; blocks of 64 bytes of a message. -/
set_option maxRecDepth 4000
namespace Go.Proofs.YtcheflcfoiclgaaDoor
open Go Go.RowKit
def PR (w wr : World) (gh g g6 : Nat) (L D : List (BitVec 8)) (k : Nat) : Prop :=
  Row wr gh 78 (ws (turns L k)) ∧ Row wr g6 29 (bs D) ∧ Below w.heap.size w wr ∧ (∀ j x, L[j]? = some x → wr.cell? ⟨g, j, none⟩ = some (.int .u8 (bd x))) ∧ g < wr.heap.size
theorem PR.call {w wr w' : World} {gh g g6 k : Nat} {L D : List (BitVec 8)} (h : PR w wr gh g g6 L D k) (hb : Below wr.heap.size wr w') : PR w w' gh g g6 L D k := by
  obtain ⟨h1, h2, h3, h4, h5⟩ := h
  exact ⟨h1.call hb, h2.call hb, h3.trans (hb.mono h3.size), fun j x hx => (hb.cell (p := ⟨g, j, none⟩) h5).trans (h4 j x hx), Nat.lt_of_lt_of_le h5 hb.size⟩
theorem PR.setRow {w wx : World} {gh g g6 gy k : Nat} {L D : List (BitVec 8)} (h : PR w wx gh g g6 L D k) (h1 : gh ≠ gy) (h2 : g ≠ gy) (h3 : g6 ≠ gy) (h4 : w.heap.size ≤ gy) (cs : Array Value) : PR w (wx.drew.setRow gy cs) gh g g6 L D k := by
  obtain ⟨a1, a2, a3, a4, a5⟩ := h
  exact ⟨a1.drew.setRow_far h1 cs, a2.drew.setRow_far h3 cs, below_setRow a3.drew h4 cs, fun j x hx => (cell_setRow_other wx.drew gy cs ⟨g, j, none⟩ h2).trans (a4 j x hx), by rw [size_setRow]; exact a5⟩
theorem PR.turned {w w8 : World} {gh g g6 k : Nat} {L D : List (BitVec 8)} (h : PR w w8 gh g g6 L D k) (h1 : gh ≠ g) (h3 : gh ≠ g6) (h4 : w.heap.size ≤ gh) : PR w (w8.setRow gh (ws (turns L (k + 1)))) gh g g6 L D (k + 1) := by
  obtain ⟨a1, a2, a3, a4, a5⟩ := h
  exact ⟨a1.setRow _, a2.setRow_far (Ne.symm h3) _, below_setRow a3 h4 _, fun j x hx => (cell_setRow_other w8 gh _ ⟨g, j, none⟩ (Ne.symm h1)).trans (a4 j x hx), by rw [size_setRow]; exact a5⟩
end Go.Proofs.YtcheflcfoiclgaaDoor

/- The document's answer for one block: the same words. -/
set_option maxRecDepth 4000
namespace Go.Proofs.YtcheflcfoiclgaaDoor
open Go Go.RowKit
attribute [local go_sem] xor_wd and_wd or_wd add_wd shr_wd not_wd signed_u32 conv_bd shl24_wd shl16_wd shl8_wd
end Go.Proofs.YtcheflcfoiclgaaDoor

/- The document's answer for H behind one more block: the plain function's. -/
set_option maxRecDepth 4000
namespace Go.Proofs.YtcheflcfoiclgaaDoor
open Go Go.RowKit
attribute [local go_sem] xor_wd and_wd or_wd add_wd shr_wd not_wd signed_u32 conv_bd shl24_wd shl16_wd shl8_wd
def R4 (w wr : World) (h : List (BitVec 32)) (l : List (BitVec 8)) (k : Nat) : Prop :=
  Row wr w.heap.size 78 (ws h) ∧ Row wr (w.heap.size + 1) 62 (bs l) ∧ Row wr (w.heap.size + 1 + 1) 78 (ws (zeros 8)) ∧ Row wr (w.heap.size + 1 + 1 + 1) 87 (ws (sched l k)) ∧ Below w.heap.size w wr
theorem R4.alloc {w wr : World} {h : List (BitVec 32)} {l : List (BitVec 8)} {k : Nat} (hr : R4 w wr h l k) (o : Obj) : R4 w (wr.alloc o) h l k := by
  obtain ⟨h1, h2, h3, h4, h5⟩ := hr
  exact ⟨h1.alloc o, h2.alloc o, h3.alloc o, h4.alloc o, h5.alloc h5.size o⟩
theorem R4.call {w wr w' : World} {h : List (BitVec 32)} {l : List (BitVec 8)} {k : Nat} (hr : R4 w wr h l k) (hb : Below wr.heap.size wr w') : R4 w w' h l k := by
  obtain ⟨h1, h2, h3, h4, h5⟩ := hr
  exact ⟨h1.call hb, h2.call hb, h3.call hb, h4.call hb, h5.trans (hb.mono h5.size)⟩
theorem R4.setRow {w wr : World} {h : List (BitVec 32)} {l : List (BitVec 8)} {k g : Nat} (hr : R4 w wr h l k) (hg : w.heap.size + 1 + 1 + 1 < g) (cs : Array Value) : R4 w (wr.setRow g cs) h l k := by
  obtain ⟨h1, h2, h3, h4, h5⟩ := hr
  exact ⟨h1.setRow_far (by omega) cs, h2.setRow_far (by omega) cs, h3.setRow_far (by omega) cs, h4.setRow_far (by omega) cs, below_setRow h5 (by omega) cs⟩
theorem R4.put {w wr : World} {h : List (BitVec 32)} {l : List (BitVec 8)} {k g i : Nat} (hr : R4 w wr h l k) (hg : w.heap.size + 1 + 1 + 1 < g) (v : Value) : R4 w (wr.setCell ⟨g, i, none⟩ v) h l k := by
  obtain ⟨h1, h2, h3, h4, h5⟩ := hr
  exact ⟨h1.far (show w.heap.size ≠ g by omega) v, h2.far (show w.heap.size + 1 ≠ g by omega) v, h3.far (show w.heap.size + 1 + 1 ≠ g by omega) v, h4.far (show w.heap.size + 1 + 1 + 1 ≠ g by omega) v, h5.setCell (show w.heap.size ≤ g by omega) v⟩
theorem R4.drew {w wr : World} {h : List (BitVec 32)} {l : List (BitVec 8)} {k : Nat} (hr : R4 w wr h l k) : R4 w wr.drew h l k := by
  obtain ⟨h1, h2, h3, h4, h5⟩ := hr
  exact ⟨h1, h2, h3, h4, h5.drew⟩
end Go.Proofs.YtcheflcfoiclgaaDoor

/- The document's pad: the plain function's. -/
set_option maxRecDepth 4000
namespace Go.Proofs.YtcheflcfoiclgaaDoor
open Go Go.RowKit
/- a slice of the call's own, of these bytes -/
def Own (w wr : World) (v : Value) (q : List (BitVec 8)) : Prop := ∃ g cap, v = .slice (some ⟨g, 0, none⟩) q.length cap ∧ wr.ownsRow w.heap.size 5 1 v q.length (bytesV q) ∧ Below w.heap.size w wr
theorem Own.slice {w wr : World} {v : Value} {q : List (BitVec 8)} (h : Own w wr v q) (hq : 0 < q.length) : Slice wr v q := by
  obtain ⟨g, cap, rfl, h1, _⟩ := h
  obtain ⟨g', cap', e, _, h3, h4, h5⟩ := owns_form h1 hq
  injection e with e1 _ e3
  injection e1 with e1
  injection e1 with e1
  subst e1 e3
  exact ⟨_, cap, rfl, h4, fun _ => ⟨g, 0, rfl, h3, fun j x hx => by rw [Nat.zero_add]; exact h5 j x hx⟩⟩
end Go.Proofs.YtcheflcfoiclgaaDoor

/- The document's start; one operation of a region that draws its order. -/
set_option maxRecDepth 4000
namespace Go.Proofs.YtcheflcfoiclgaaDoor
open Go Go.RowKit
end Go.Proofs.YtcheflcfoiclgaaDoor

/- The document's hash of any parts: the plain function's. -/
set_option maxRecDepth 4000
namespace Go.Proofs.YtcheflcfoiclgaaDoor
open Go Go.RowKit
def RS (w wr : World) (v : Value) (M : List (BitVec 8)) : Prop :=
  wr.ownsRow (w.heap.size + 1) 5 1 v M.length (bytesV M) ∧ Row wr w.heap.size 29 (bs (zer 32)) ∧ Below w.heap.size w wr
theorem RS.start (w : World) : RS w (w.alloc (.cells (bs (zer 32)) 29)) (.slice none 0 0) [] :=
  ⟨World.ownsRow_nil _ _ _ _, Row.fresh _ _ _, (Below.refl _ _).alloc (Nat.le_refl _) _⟩
end Go.Proofs.YtcheflcfoiclgaaDoor

/- Lists of slices: as a list of values, of the call's own, handed on. -/
set_option maxRecDepth 4000
namespace Go.Proofs.YtcheflcfoiclgaaDoor
open Go Go.RowKit
end Go.Proofs.YtcheflcfoiclgaaDoor

/- The hash of a block and the parts behind it. -/
set_option maxRecDepth 4000
namespace Go.Proofs.YtcheflcfoiclgaaDoor
open Go Go.RowKit
set_option maxHeartbeats 1600000 in
theorem behind_any (l : List (BitVec 8)) (ps : List (List (BitVec 8))) (v : Value) (w : World) (hT : Tab w) (hl : l.length = 64) (hv : Parts w v ps) (hnil : ∀ n c, v = .slice none n c → c = 0) (hn : ps.length ≤ 1000000) (hlen : ps.flatten.length ≤ 1000000000) :
    Calls Tryd.prog 23 #[.agg (bs l), v] w fun e w' => e = .returned (.agg (bs (sha (l ++ ps.flatten)))) ∧ Below w.heap.size w w' := by
  obtain ⟨i1, hi1, hz10, hz11, hz12⟩ := info_parts info_sl
  obtain ⟨A, c, us, rfl, hul, huc, hun, huo, hus⟩ := hv.list
  have HT := Lib.hid hT
  have HL := Lib.hid hl
  have HUC := Lib.hid huc
  have HUS := Lib.hid hus
  have HUN : Hid (A = none → ps.length = 0 ∧ c = 0) := Lib.hid fun h => ⟨by rw [hun h]; rfl, hnil _ _ (by rw [h])⟩
  have HUO := Lib.hid huo
  have HF : Hid (sha (l :: ps).flatten = sha (l ++ ps.flatten)) := Lib.hid (by rw [List.flatten_cons])
  have HFL : Hid ((l :: ps).flatten.length < 2147483648) := Lib.hid (by rw [List.flatten_cons, List.length_append, hl]; omega)
  have HD : Hid ((sha (l ++ ps.flatten)).length = 32) := Lib.hid (length_sha _)
  clear hT hl huc hus hun hnil hv huo hlen
  have r0 : Row ((w.alloc (.cells (bs l) 62)).alloc (.cells (bs (zer 32)) 29)) w.heap.size 62 (bs l) := (Row.fresh _ _ _).alloc _
  have r1 : Row ((w.alloc (.cells (bs l) 62)).alloc (.cells (bs (zer 32)) 29)) (w.heap.size + 1) 29 (bs (zer 32)) := row2b _ _ _ _
  have hb1 : Below w.heap.size w ((w.alloc (.cells (bs l) 62)).alloc (.cells (bs (zer 32)) 29)) := ((Below.refl _ _).alloc (Nat.le_refl _) _).alloc (by simp) _
  have hs1 : ((w.alloc (.cells (bs l) 62)).alloc (.cells (bs (zer 32)) 29)).heap.size = w.heap.size + 1 + 1 := by simp
  generalize sha (l ++ ps.flatten) = D at *
  go_enter Tryd.func23, Tryd.ntmps23
  go_wp2_with (first
    | (at_make; refine wpList_make_own ((w.alloc (.cells (bs l) 62)).alloc (.cells (bs (zer 32)) 29)) rfl _ _ 56 rfl (w.heap.size + 1 + 1) 22 i1 (.slice none 0 0) 1 Tryd.underlying56 hi1 hz10 hz11 .i64 .i64 _ (1 + ps.length) rfl rfl (by omega) (by rw [hz12]; omega) (by unfold maxLen; omega) (by rw [hs1]; exact Nat.le_refl _) ?_; intro w2 own2 hg2; rw [hs1] at own2; have hq2 := below_of_grown (base := w.heap.size + 1 + 1) hg2 (fun g e => by cases e) (by rw [hs1]; exact Nat.le_refl _); have r02 := r0.below hq2 (by omega); have r12 := r1.below hq2 (by omega); have hb2 := hb1.trans (hq2.mono (by omega)); have hs2 := Nat.le_trans (Nat.le_of_eq hs1.symm) hg2.size; clear r0 r1 hb1 hg2 hq2)
    | (at_builtin; refine wpList_append_fits _ rfl (.tmp 10) (.tmp 12) 56 rfl (w.heap.size + 1 + 1) 22 i1 1 Tryd.underlying56 hi1 hz11 (w.heap.size + 1 + 1) 0 (1 + ps.length) [] rfl (own2.alloc _) ⟨w2.heap.size, 0, none⟩ 1 1 [.slice (some ⟨w.heap.size, 0, none⟩) 64 64] rfl rfl (cell_one_new _ _ _) (fun x hx => by simp at hx; subst hx; rfl) (by omega) ?_; intro w3 own3 hg3; simp only [Nat.zero_add, List.nil_append] at own3; have r03 := (r02.alloc _).only hg3 (by omega); have r13 := (r12.alloc _).only hg3 (by omega); have hb3 := (hb2.alloc hb2.size _).trans (below_only hg3 (by omega) (Nat.le_trans hb2.size (by simp))); have HC3 : Hid (∀ ad, A = some ad → ∀ (j : Nat) (u : Value), us[j]? = some u → w3.cell? (ad.add j) = some u) := Lib.hid (fun ad e j u hu => (hb3.cell (World.block_lt_of_cell? w _ (HUC.out ad e j u hu))).trans (HUC.out ad e j u hu)); clear own2 r02 r12 hb2 hg3 hs2)
    | (at_builtin; refine wpList_append_fits_any _ rfl (.tmp 14) (.tmp 15) 56 rfl (w.heap.size + 1 + 1) 22 i1 1 Tryd.underlying56 hi1 hz11 (w.heap.size + 1 + 1) 1 (1 + ps.length) [.slice (some ⟨w.heap.size, 0, none⟩) 64 64] rfl own3 A ps.length c us rfl (by omega) HUN.out HC3.out HUO.out (by omega) ?_; intro w4 own4 hg4; have r04 := r03.only hg4 (by omega); have r14 := r13.only hg4 (by omega); have hb4 := hb3.trans (below_only hg4 (by omega) hb3.size); clear own3 r03 r13 hb3 hg4 HC3))
  have hs64 : Slice w4 (.slice (some ⟨w.heap.size, 0, none⟩) 64 64) l := by
    have h := row_slice r04 (c := 64) (by rw [HL.out]; exact Nat.le_refl _)
    rw [HL.out] at h; exact h
  have hP := parts_own own4 (ps := ps) (by omega) hs64 (fun k q hq => by
    obtain ⟨u, h1, h2⟩ := HUS.out k q hq
    exact ⟨u, h1, h2.below hb4 (Nat.le_refl _)⟩)
  refine (sum_any (l :: ps) _ w4 (HT.out.below hb4 HT.out.pos) hP (by simp; omega) HFL.out).mono ?_
  rintro e w5 ⟨rfl, hb5⟩
  rw [HF.out]
  have r15 := r14.call hb5
  have hb05 := hb4.trans (hb5.mono hb4.size)
  have HS : Hid ((Tryd.prog.info? 29).map (·.size) = some (bs D).size) := Lib.hid (by rw [size_bs, HD.out]; exact size_d)
  clear hs64 hP r04 r14 hb4 hb5 own4
  go_wp2_with (first | (refine wpList_store_row rfl 29 _ _ rfl (w.heap.size + 1) (bs D) rfl rfl 29 _ r15 HS.out (by rw [size_bs, size_bs, HD.out]; rfl) (one_bs _) ?_))
  exact bodyPost_ret (v := .agg (bs D)) (results_cell_row Tryd.results23 _ _ (w.heap.size + 1) 29 (bs D) (0, 0) _ rfl (r15.setRow _) Tryd.underlying29 rfl HS.out) rfl ⟨rfl, below_setRow hb05 (by omega) _⟩
end Go.Proofs.YtcheflcfoiclgaaDoor

/- A copy of bytes into a block of the call's own. -/
set_option maxRecDepth 4000
namespace Go.Proofs.YtcheflcfoiclgaaDoor
open Go Go.RowKit
end Go.Proofs.YtcheflcfoiclgaaDoor

/- The key's block. -/
set_option maxRecDepth 4000
namespace Go.Proofs.YtcheflcfoiclgaaDoor
open Go Go.RowKit
theorem blockOf_long (key : List (BitVec 8)) (h : 64 < key.length) : sha key ++ (zer 64).drop (sha key).length = blockOf key := by
  rw [blockOf, if_pos h, length_sha, zer, zer, List.drop_replicate]
theorem blockOf_short (key : List (BitVec 8)) (h : ¬ 64 < key.length) : key ++ (zer 64).drop key.length = blockOf key := by
  rw [blockOf, if_neg h, zer, zer, List.drop_replicate]
set_option maxHeartbeats 800000 in
theorem macblock_any (key : List (BitVec 8)) (v : Value) (w : World) (hT : Tab w) (hv : Slice w v key) (hk : key.length < 2147483648) :
    Calls Tryd.prog 22 #[v] w fun e w' => e = .returned (.agg (bs (blockOf key))) ∧ Below w.heap.size w w' := by
  have HT := Lib.hid hT
  have HV := Lib.hid hv
  obtain ⟨A, c, rfl, _, _⟩ := hv
  clear hT
  have HS : Hid ((Tryd.prog.info? 62).map (·.size) = some (bs (blockOf key)).size) := Lib.hid (by rw [size_bs, length_blockOf]; exact size_b)
  have HL : Hid ((bs (blockOf key)).size = 64) := Lib.hid (by rw [size_bs, length_blockOf])
  have ra : Row ((w.alloc (.cells (bs (zer 64)) 62)).alloc (.cells (bs (zer 64)) 62)) w.heap.size 62 (bs (zer 64)) := (Row.fresh _ _ _).alloc _
  have rb : Row ((w.alloc (.cells (bs (zer 64)) 62)).alloc (.cells (bs (zer 64)) 62)) (w.heap.size + 1) 62 (bs (zer 64)) := row2b _ _ _ _
  have hb : Below w.heap.size w ((w.alloc (.cells (bs (zer 64)) 62)).alloc (.cells (bs (zer 64)) 62)) := ((Below.refl _ _).alloc (Nat.le_refl _) _).alloc (by simp) _
  by_cases hlong : 64 < key.length
  · have HB := Lib.hid (blockOf_long key hlong)
    go_enter Tryd.func22, Tryd.ntmps22
    go_wp2_with fail
    change Calls _ _ _ (((w.alloc (.cells (bs (zer 64)) 62)).alloc (.cells (bs (zer 64)) 62)).alloc _) _
    have hsz : ((w.alloc (.cells (bs (zer 64)) 62)).alloc (.cells (bs (zer 64)) 62)).heap.size = w.heap.size + 1 + 1 := by simp
    generalize (w.alloc (.cells (bs (zer 64)) 62)).alloc (.cells (bs (zer 64)) 62) = w1 at *
    have hp := parts1 (HV.out.below hb (Nat.le_refl _))
    rw [hsz] at hp
    refine (sum_any [key] _ _ (HT.out.below (hb.alloc hb.size _) HT.out.pos) hp (by simp) (by simp; omega)).mono ?_
    rintro e w2 ⟨rfl, hb2⟩
    rw [show ([key] : List (List (BitVec 8))).flatten = key by simp]
    have ra2 := (ra.alloc _).call hb2
    have rb2 := (rb.alloc _).call hb2
    have hb02 : Below w.heap.size w w2 := (hb.alloc hb.size _).trans (hb2.mono (Nat.le_trans hb.size (by simp)))
    have HD : Hid ((sha key).length = 32) := Lib.hid (length_sha key)
    clear ra rb hb hb2 hp hsz
    generalize sha key = D at *
    go_wp2_with (first | (refine wpList_store_row rfl 29 _ _ rfl w2.heap.size (bs D) rfl rfl 29 _ (Row.fresh _ _ _) (by rw [size_bs, HD.out]; exact size_d) (by rw [size_bs, HD.out]; rfl) (one_bs _) ?_; rw [World.setRow_alloc_new]))
    have ra3 := ra2.alloc (.cells (bs D) 29)
    have rb3 := rb2.alloc (.cells (bs D) 29)
    have hb3 := hb02.alloc hb02.size (.cells (bs D) 29)
    have rd : Slice (w2.alloc (.cells (bs D) 29)) (.slice (some ⟨w2.heap.size, 0, none⟩) 32 32) D := by
      have h := row_slice (Row.fresh w2 29 (bs D)) (c := 32) (by rw [HD.out]; exact Nat.le_refl _)
      rw [HD.out] at h; exact h
    clear ra2 rb2 hb02
    generalize w2.alloc (.cells (bs D) 29) = w3 at *
    go_still_tail 2, (by kernel_rfl)
    change wpList _ _ _ _ _ w3.drew
    refine wpList_copy_bytes rfl _ _ rfl (w.heap.size + 1) 64 64 rfl (.slice (some ⟨w2.heap.size, 0, none⟩) 32 32) rfl D (zer 64) rd 62 rb3.drew rfl (by rw [HD.out]; omega) ?_
    intro w4 rb4 hg4
    rw [HB.out] at rb4
    have ra4 := ra3.drew.only hg4 (by omega)
    have hb4 := hb3.drew.trans (only_below hg4 (by omega) hb3.size)
    clear rd ra3 rb3 hb3 hg4
    go_wp2_with (first | (refine wpList_load_row rfl 62 _ rfl (w.heap.size + 1) rfl 62 (bs (blockOf key)) (0, 0) _ rb4 Tryd.underlying62 rfl HS.out ?_) | (refine wpList_store_row rfl 62 _ _ rfl w.heap.size (bs (blockOf key)) rfl rfl 62 _ ra4 HS.out (by rw [HL.out, size_bs]; rfl) (one_bs _) ?_))
    exact bodyPost_ret (v := .agg (bs (blockOf key))) (results_cell_row Tryd.results22 _ _ w.heap.size 62 (bs (blockOf key)) (0, 0) _ rfl (ra4.setRow _) Tryd.underlying62 rfl HS.out) rfl ⟨rfl, below_setRow hb4 (Nat.le_refl _) _⟩
  · have HB := Lib.hid (blockOf_short key hlong)
    have d0 : decide ((64 : Int) < (key.length : Int)) = false := by simp; omega
    have hv1 := HV.out.below hb (Nat.le_refl _)
    go_enter Tryd.func22, Tryd.ntmps22
    go_wp2_with (first | (refine wpList_copy_bytes rfl _ _ rfl (w.heap.size + 1) 64 64 rfl (.slice A key.length c) rfl key (zer 64) hv1 62 rb rfl (by omega) ?_; intro w4 rb4 hg4; rw [HB.out] at rb4; have ra4 := ra.only hg4 (by omega); have hb4 := hb.trans (only_below hg4 (by omega) hb.size); clear ra rb hb hg4 hv1) | (refine wpList_load_row rfl 62 _ rfl (w.heap.size + 1) rfl 62 (bs (blockOf key)) (0, 0) _ rb4 Tryd.underlying62 rfl HS.out ?_) | (refine wpList_store_row rfl 62 _ _ rfl w.heap.size (bs (blockOf key)) rfl rfl 62 _ ra4 HS.out (by rw [HL.out, size_bs]; rfl) (one_bs _) ?_))
    exact bodyPost_ret (v := .agg (bs (blockOf key))) (results_cell_row Tryd.results22 _ _ w.heap.size 62 (bs (blockOf key)) (0, 0) _ rfl (ra4.setRow _) Tryd.underlying62 rfl HS.out) rfl ⟨rfl, below_setRow hb4 (Nat.le_refl _) _⟩
end Go.Proofs.YtcheflcfoiclgaaDoor

/- A block, each byte turned. -/
set_option maxRecDepth 4000
namespace Go.Proofs.YtcheflcfoiclgaaDoor
open Go Go.RowKit
attribute [local go_sem] xor_bd
set_option maxHeartbeats 400000 in
theorem turned_any (l : List (BitVec 8)) (x : BitVec 8) (hl : l.length = 64) (w : World) :
    Calls Tryd.prog 24 #[.agg (bs l), .int .u8 (bd x)] w fun e w' => e = .returned (.agg (bs (turnBy x l))) ∧ Below w.heap.size w w' := by
  have HL := Lib.hid hl
  clear hl
  go_enter Tryd.func24, Tryd.ntmps24
  go_wp2_with fail
  go_loopw [5, 6] (fun _ i wr => ∃ k : Nat, k ≤ 64 ∧ i = .int .i64 k ∧ Row wr w.heap.size 62 (bs (tpart x l k)) ∧ Row wr (w.heap.size + 1) 62 (bs (zer 64)) ∧ Below w.heap.size w wr) (fun _ i _ => 64 - (intOf i).toNat)
  case atStart => exact ⟨0, by omega, rfl, by rw [tpart_zero]; exact (Row.fresh _ _ _).alloc _, row2b _ _ _ _, ((Below.refl _ _).alloc (Nat.le_refl _) _).alloc (by simp) _⟩
  case round =>
    obtain ⟨k, hk, rfl, r1, r2, hb⟩ := hrel
    by_cases hlt : k < 64
    · have c0 := r1.get (get_bs (tpart x l k) k (by rw [length_tpart, HL.out]; exact hlt))
      rw [tpart_get x l k (by rw [HL.out]; exact hlt)] at c0
      have f0 := r1.free k
      go_wp2
      go_roundw
      case rel =>
        refine ⟨k + 1, by omega, by go_num, ?_, r2.far (by simp) _, hb.setCell (by simp) _⟩
        have h1 := r1.put k (.int .u8 (bd (l.getD k 0 ^^^ x)))
        rw [set_bs, tpart_set x l k (by rw [HL.out]; exact hlt)] at h1
        exact h1
      case measure => simp [intOf]; omega
    · obtain rfl : k = 64 := by omega
      have e : tpart x l 64 = turnBy x l := by rw [← HL.out]; exact tpart_all x l
      rw [e] at r1
      have HS : Hid ((Tryd.prog.info? 62).map (·.size) = some (bs (turnBy x l)).size) := Lib.hid (by rw [size_bs, length_turnBy, HL.out]; exact size_b)
      clear hlt hk e
      go_wp2_with (first | (refine wpList_load_row rfl 62 _ rfl w.heap.size rfl 62 (bs (turnBy x l)) (0, 0) _ r1 Tryd.underlying62 rfl HS.out ?_) | (refine wpList_store_row rfl 62 _ _ rfl (w.heap.size + 1) (bs (turnBy x l)) rfl rfl 62 _ r2 HS.out (by rw [size_bs, size_bs, length_turnBy, HL.out]; rfl) (one_bs _) ?_))
      exact bodyPost_ret (v := .agg (bs (turnBy x l))) (results_cell_row Tryd.results24 _ _ (w.heap.size + 1) 62 (bs (turnBy x l)) (0, 0) _ rfl (r2.setRow _) Tryd.underlying62 rfl HS.out) rfl ⟨rfl, below_setRow hb (by omega) _⟩
end Go.Proofs.YtcheflcfoiclgaaDoor

/- The tag of all parts by a key. -/
set_option maxRecDepth 4000
namespace Go.Proofs.YtcheflcfoiclgaaDoor
open Go Go.RowKit
theorem anyH_two {P : Program} {md : Region.Mode} {ops : Array Oper} {Q : Exit → Act → World → Prop} {S : World → Prop} {i j : Nat} {oi oj : Oper} {fuel : Nat} {listed : Array Bool} {a : Act} {w : World} (hr : Region.ready md ops listed = [i, j]) (hi : ops[i]? = some oi) (hj : ops[j]? = some oj)
    (h1 : ∀ K' : Act → World → Prop, (∀ a w, S w → wpAnyH P md ops Q S fuel (listed.setIfInBounds i true) a w → K' a w) → if Region.wanted oi (yielded ops a.tmps) = true then Oper.wp P oi a w K' Q else K' (a.put oi.dst undef) w)
    (h2 : ∀ K' : Act → World → Prop, (∀ a w, S w → wpAnyH P md ops Q S fuel (listed.setIfInBounds j true) a w → K' a w) → if Region.wanted oj (yielded ops a.tmps) = true then Oper.wp P oj a w K' Q else K' (a.put oj.dst undef) w) : wpAnyH P md ops Q S (fuel + 1) listed a w :=
  wpAnyH_all hr (by simp) fun k hk => by
    have hk' : k = i ∨ k = j := by simpa using hk
    rcases hk' with rfl | rfl
    · exact wpOp_step hi (fun K hK => h1 K fun a w h1 h2 => hK a w ⟨h1, h2⟩)
    · exact wpOp_step hj (fun K hK => h2 K fun a w h1 h2 => hK a w ⟨h1, h2⟩)
/- what stands while the outer hash is made -/
def MR (w : World) (g5 g6 : Nat) (B D : List (BitVec 8)) (W : World) : Prop := (∃ C : List (BitVec 8), C.length = 32 ∧ Row W w.heap.size 29 (bs C)) ∧ Row W g5 62 (bs B) ∧ Row W g6 29 (bs D) ∧ Tab W ∧ Below w.heap.size w W
theorem MR.call {w W W' : World} {g5 g6 : Nat} {B D : List (BitVec 8)} (h : MR w g5 g6 B D W) (hb : Below W.heap.size W W') : MR w g5 g6 B D W' :=
  ⟨by obtain ⟨C, h1, h2⟩ := h.1; exact ⟨C, h1, h2.call hb⟩, h.2.1.call hb, h.2.2.1.call hb, h.2.2.2.1.below hb h.2.2.2.1.pos, h.2.2.2.2.trans (hb.mono h.2.2.2.2.size)⟩
theorem MR.alloc {w W : World} {g5 g6 : Nat} {B D : List (BitVec 8)} (h : MR w g5 g6 B D W) (o : Obj) : MR w g5 g6 B D (W.alloc o) := h.call ((Below.refl _ _).alloc (Nat.le_refl _) _)
theorem MR.drew {w W : World} {g5 g6 : Nat} {B D : List (BitVec 8)} (h : MR w g5 g6 B D W) : MR w g5 g6 B D W.drew := ⟨h.1, h.2.1, h.2.2.1, h.2.2.2.1, h.2.2.2.2.drew⟩
theorem MR.rb {w W : World} {g5 g6 : Nat} {B D : List (BitVec 8)} (h : MR w g5 g6 B D W) : W.rangeAt g5 0 (bs B).toList := fun j v hv => by rw [Nat.zero_add, h.2.1.cell]; simpa using hv
theorem MR.put {w W : World} {g5 g6 : Nat} {B D : List (BitVec 8)} (h : MR w g5 g6 B D W) (h0 : 0 < w.heap.size) (h5 : w.heap.size < g5) (h6 : w.heap.size < g6) (C : List (BitVec 8)) (hC : C.length = 32) : MR w g5 g6 B D (W.setRow w.heap.size (bs C)) := by
  obtain ⟨⟨C0, _, h1⟩, h2, h3, h4, h5'⟩ := h
  have hb := below_setRow h5' (Nat.le_refl _) (bs C)
  refine ⟨⟨C, hC, h1.setRow _⟩, h2.setRow_far (by omega) _, h3.setRow_far (by omega) _, fun i hi => ?_, hb⟩
  exact (cell_setRow_other W w.heap.size _ ⟨0, i, none⟩ (Nat.ne_of_lt h0)).trans (h4 i hi)
theorem MR.dig {w W : World} {g5 g6 : Nat} {B D : List (BitVec 8)} (h : MR w g5 g6 B D W) (hD : D.length = 32) : Slice W (.slice (some ⟨g6, 0, none⟩) 32 32) D := by
  have h1 := row_slice h.2.2.1 (c := 32) (by rw [hD]; exact Nat.le_refl _)
  rw [hD] at h1; exact h1
theorem behind_one (l q : List (BitVec 8)) (v : Value) (w : World) (hT : Tab w) (hl : l.length = 64) (hv : Parts w v [q]) (hq : q.length = 32) (D : List (BitVec 8)) (hD : sha (l ++ q) = D) :
    Calls Tryd.prog 23 #[.agg (bs l), v] w fun e w' => e = .returned (.agg (bs D)) ∧ Below w.heap.size w w' := by
  subst hD
  have h := behind_any l [q] v w hT hl hv (fun n c e => by obtain ⟨A, c', h1, h2⟩ := hv; subst e; injection h1 with h1 _ _; obtain ⟨_, _, h3, _⟩ := h2 (by simp); rw [← h1] at h3; cases h3) (by simp) (by simp; omega)
  rwa [show ([q] : List (List (BitVec 8))).flatten = q by simp] at h
theorem turned_lit (l : List (BitVec 8)) (x : BitVec 8) (z : Int) (hz : bd x = z) (hl : l.length = 64) (w : World) :
    Calls Tryd.prog 24 #[.agg (bs l), .int .u8 z] w fun e w' => e = .returned (.agg (bs (turnBy x l))) ∧ Below w.heap.size w w' := by
  subst hz; exact turned_any l x hl w
set_option maxHeartbeats 1600000 in
theorem mac_any (key : List (BitVec 8)) (ps : List (List (BitVec 8))) (kv v : Value) (w : World) (hT : Tab w) (hk : Slice w kv key) (hkl : key.length < 2147483648) (hv : Parts w v ps) (hnil : ∀ n c, v = .slice none n c → c = 0) (hn : ps.length ≤ 1000000) (hlen : ps.flatten.length ≤ 1000000000) :
    Calls Tryd.prog 15 #[kv, v] w fun e w' => e = .returned (.agg (bs (tagOf key ps.flatten))) ∧ Below w.heap.size w w' := by
  have HT := Lib.hid hT
  have HK := Lib.hid hk
  have HV := Lib.hid hv
  have HNIL := Lib.hid hnil
  have HLEN := Lib.hid hlen
  obtain ⟨Ak, ck, rfl, _⟩ := hk
  obtain ⟨A, c, rfl, _⟩ := hv
  have HB : Hid ((blockOf key).length = 64) := Lib.hid (length_blockOf key)
  have HI : Hid ((sha (turnBy 0x36#8 (blockOf key) ++ ps.flatten)).length = 32) := Lib.hid (length_sha _)
  have HO : Hid (sha (turnBy 0x5c#8 (blockOf key) ++ sha (turnBy 0x36#8 (blockOf key) ++ ps.flatten)) = tagOf key ps.flatten) := Lib.hid rfl
  have HTL : Hid ((tagOf key ps.flatten).length = 32) := Lib.hid (length_tagOf _ _)
  clear hT hnil hlen
  generalize tagOf key ps.flatten = TG at *
  go_enter Tryd.func15, Tryd.ntmps15
  go_wp2_with fail
  have hb0 : Below w.heap.size w (w.alloc (.cells (bs (zer 32)) 29)) := (Below.refl _ _).alloc (Nat.le_refl _) _
  refine (macblock_any key _ (w.alloc (.cells (bs (zer 32)) 29)) (HT.out.below hb0 HT.out.pos) (HK.out.below hb0 (Nat.le_refl _)) hkl).mono ?_
  rintro e w1 ⟨rfl, hb1⟩
  have r4 := (Row.fresh w 29 (bs (zer 32))).call hb1
  have hb01 : Below w.heap.size w w1 := hb0.trans (hb1.mono (by simp))
  clear hb0 hb1
  generalize hBk : blockOf key = B at *
  clear hBk
  go_wp2_with (first | (refine wpList_store_row rfl 62 _ _ rfl w1.heap.size (bs B) rfl rfl 62 _ (Row.fresh _ _ _) (by rw [size_bs, HB.out]; exact size_b) (by rw [size_bs, HB.out]; rfl) (one_bs _) ?_; rw [World.setRow_alloc_new]) | (refine wpList_load_row rfl 62 (.tmp 5) rfl w1.heap.size rfl 62 (bs B) (0, 0) _ (Row.fresh _ _ _) Tryd.underlying62 rfl (by rw [size_bs, HB.out]; exact size_b) ?_))
  refine (turned_lit B 0x36#8 54 rfl HB.out _).mono ?_
  rintro e w2 ⟨rfl, hb2⟩
  have r42 := (r4.alloc (.cells (bs B) 62)).call hb2
  have r52 := (Row.fresh w1 62 (bs B)).call hb2
  have hb02 : Below w.heap.size w w2 := (hb01.alloc hb01.size _).trans (hb2.mono (Nat.le_trans hb01.size (by simp)))
  clear hb01 hb2
  go_wp2_with fail
  refine (behind_any (turnBy 0x36#8 B) ps _ w2 (HT.out.below hb02 HT.out.pos) (by rw [length_turnBy]; exact HB.out) (HV.out.below hb02 (Nat.le_refl _)) HNIL.out hn HLEN.out).mono ?_
  rintro e w3 ⟨rfl, hb3⟩
  generalize sha (turnBy 0x36#8 B ++ ps.flatten) = D at *
  have r43 := r42.call hb3
  have r53 := r52.call hb3
  have hb03 : Below w.heap.size w w3 := hb02.trans (hb3.mono hb02.size)
  clear r42 r52 hb02 hb3
  go_wp2_with (first | (refine wpList_store_row rfl 29 _ _ rfl w3.heap.size (bs D) rfl rfl 29 _ (Row.fresh _ _ _) (by rw [size_bs, HI.out]; exact size_d) (by rw [size_bs, HI.out]; rfl) (one_bs _) ?_; rw [World.setRow_alloc_new]))
  have hbx := hb03.alloc hb03.size (.cells (bs D) 29)
  have M0 : MR w w1.heap.size w3.heap.size B D (w3.alloc (.cells (bs D) 29)) := ⟨⟨_, rfl, r43.alloc _⟩, r53.alloc _, Row.fresh _ _ _, HT.out.below hbx HT.out.pos, hbx⟩
  have S0 := M0.drew
  have h51 : w.heap.size < w1.heap.size := r4.lt
  have h61 : w.heap.size < w3.heap.size := r43.lt
  clear r43 r53 hb03 hbx M0 r4
  have H31 : Hid ((Tryd.prog.info? 62).map (·.size) = some (bs B).toList.length) := Lib.hid (by rw [len_bs, HB.out]; exact size_b)
  have HS : Hid ((Tryd.prog.info? 29).map (·.size) = some (bs TG).size) := Lib.hid (by rw [size_bs, HTL.out]; exact size_d)
  generalize w3.alloc (.cells (bs D) 29) = w4 at *
  refine wp_region_held (S := MR w w1.heap.size w3.heap.size B D) (by kernel_rfl) ?_
  change wpAnyH _ _ _ _ _ _ _ _ w4.drew
  generalize w4.drew = w5 at *
  refine wpAnyH_take (i := 0) (oi := { dst := some 13, op := _, type := _, pos := _, after := _, guard := none }) (v := .agg (bs B)) rfl (by kernel_rfl) (by kernel_rfl) (by kernel_rfl) (fun _ _ _ h => h) (by rw [show (Value.agg (bs B)) = .agg (bs B).toList.toArray by simp]; exact yieldsIf_load_mid rfl 62 _ rfl w1.heap.size 0 rfl (bs B).toList _ (fun W hW => MR.rb hW) Tryd.underlying62 rfl H31.out) S0 ?_
  simp only [Act.put, List.setIfInBounds_toArray, List.set_cons_succ, List.set_cons_zero]
  refine wpAnyH_take (i := 2) (oi := { dst := some 15, op := _, type := _, pos := _, after := _, guard := none }) (v := .slice (some ⟨w3.heap.size, 0, none⟩) 32 32) rfl (by kernel_rfl) (by kernel_rfl) (by kernel_rfl) (fun _ _ _ h => h) (Or.inl ⟨by rfl, fun _ _ => by go_simp⟩) S0 ?_
  simp only [Act.put, List.setIfInBounds_toArray, List.set_cons_succ, List.set_cons_zero]
  refine anyH_two (i := 1) (j := 3) (oi := { dst := some 14, op := _, type := _, pos := _, after := _, guard := none }) (oj := { dst := some 16, op := _, type := _, pos := _, after := _, guard := none }) (by kernel_rfl) rfl rfl (fun K hK => ?_) (fun K hK => ?_)
  · go_simp
    refine (turned_lit B 0x5c#8 92 rfl HB.out w5).mono ?_
    rintro e wA ⟨rfl, hbA⟩
    have SA := S0.call hbA
    refine hK _ _ SA ?_
    clear hK K
    refine anyH_one (i := 3) (o := { dst := some 16, op := _, type := _, pos := _, after := _, guard := none }) (by kernel_rfl) rfl (fun K hK => ?_)
    go_simp
    have hP := parts1 (SA.dig HI.out)
    have SB := SA.alloc (.cells #[.slice (some ⟨w3.heap.size, 0, none⟩) 32 32] 22)
    generalize wA.heap.size = gx at *
    generalize wA.alloc (.cells #[.slice (some ⟨w3.heap.size, 0, none⟩) 32 32] 22) = wB at *
    refine hK _ _ SB ?_
    clear hK K
    refine anyH_one (i := 4) (o := { dst := some 17, op := _, type := _, pos := _, after := _, guard := none }) (by kernel_rfl) rfl (fun K hK => ?_)
    go_simp
    refine (behind_one (turnBy 0x5c#8 B) D _ wB SB.2.2.2.1 (by rw [length_turnBy]; exact HB.out) hP HI.out TG HO.out).mono ?_
    rintro e wC ⟨rfl, hbC⟩
    have SC := SB.call hbC
    refine hK _ _ SC ?_
    clear hK K
    obtain ⟨C0, hC0, hr0⟩ := SC.1
    refine anyH_one (i := 5) (o := { dst := none, op := _, type := _, pos := _, after := _, guard := none }) (by kernel_rfl) rfl (fun K hK => ?_)
    rw [if_pos (by rfl)]
    refine wp_store_row 29 _ _ rfl w.heap.size (bs TG) rfl rfl 29 _ hr0 HS.out (by rw [size_bs, size_bs, HTL.out]; exact hC0) (one_bs _) ?_
    refine hK _ _ (SC.put HT.out.pos h51 h61 TG HTL.out) ?_
    clear hK K
    refine wpAnyH_done (by kernel_rfl) ?_ _
    go_wp2_with fail
    exact bodyPost_ret (v := .agg (bs TG)) (results_cell_row Tryd.results15 _ _ w.heap.size 29 (bs TG) (0, 0) _ rfl (hr0.setRow _) Tryd.underlying29 rfl HS.out) rfl ⟨rfl, below_setRow SC.2.2.2.2 (Nat.le_refl _) _⟩
  · go_simp
    have hP0 := parts1 (S0.dig HI.out)
    have SA := S0.alloc (.cells #[.slice (some ⟨w3.heap.size, 0, none⟩) 32 32] 22)
    generalize w5.heap.size = gx at *
    generalize w5.alloc (.cells #[.slice (some ⟨w3.heap.size, 0, none⟩) 32 32] 22) = wA at *
    refine hK _ _ SA ?_
    clear hK K
    refine anyH_one (i := 1) (o := { dst := some 14, op := _, type := _, pos := _, after := _, guard := none }) (by kernel_rfl) rfl (fun K hK => ?_)
    go_simp
    refine (turned_lit B 0x5c#8 92 rfl HB.out wA).mono ?_
    rintro e wB ⟨rfl, hbB⟩
    have SB := SA.call hbB
    have hP := hP0.below hbB (Nat.le_refl _)
    refine hK _ _ SB ?_
    clear hK K
    refine anyH_one (i := 4) (o := { dst := some 17, op := _, type := _, pos := _, after := _, guard := none }) (by kernel_rfl) rfl (fun K hK => ?_)
    go_simp
    refine (behind_one (turnBy 0x5c#8 B) D _ wB SB.2.2.2.1 (by rw [length_turnBy]; exact HB.out) hP HI.out TG HO.out).mono ?_
    rintro e wC ⟨rfl, hbC⟩
    have SC := SB.call hbC
    refine hK _ _ SC ?_
    clear hK K
    obtain ⟨C0, hC0, hr0⟩ := SC.1
    refine anyH_one (i := 5) (o := { dst := none, op := _, type := _, pos := _, after := _, guard := none }) (by kernel_rfl) rfl (fun K hK => ?_)
    rw [if_pos (by rfl)]
    refine wp_store_row 29 _ _ rfl w.heap.size (bs TG) rfl rfl 29 _ hr0 HS.out (by rw [size_bs, size_bs, HTL.out]; exact hC0) (one_bs _) ?_
    refine hK _ _ (SC.put HT.out.pos h51 h61 TG HTL.out) ?_
    clear hK K
    refine wpAnyH_done (by kernel_rfl) ?_ _
    go_wp2_with fail
    exact bodyPost_ret (v := .agg (bs TG)) (results_cell_row Tryd.results15 _ _ w.heap.size 29 (bs TG) (0, 0) _ rfl (hr0.setRow _) Tryd.underlying29 rfl HS.out) rfl ⟨rfl, below_setRow SC.2.2.2.2 (Nat.le_refl _) _⟩
end Go.Proofs.YtcheflcfoiclgaaDoor

/- The document's example of a tag, reckoned by the kernel. -/
set_option maxRecDepth 4000
namespace Go.Proofs.YtcheflcfoiclgaaDoor
end Go.Proofs.YtcheflcfoiclgaaDoor

/- The chapter's examples of mac, asked by the statements. -/
set_option maxRecDepth 4000
namespace Go.Proofs.YtcheflcfoiclgaaDoor
open Go Go.RowKit
end Go.Proofs.YtcheflcfoiclgaaDoor

/- The statement MacMakes: its walk. -/
set_option maxRecDepth 4000
namespace Go.Proofs.YtcheflcfoiclgaaDoor
open Go Go.RowKit
attribute [local go_sem] xor_bd
/- a block of which the first k bytes are laid, each turned -/
def opart (x : BitVec 8) (l : List (BitVec 8)) (k : Nat) : List (BitVec 8) := turnBy x (l.take k) ++ zer (64 - k)
theorem opart_zero (x : BitVec 8) (l : List (BitVec 8)) : opart x l 0 = zer 64 := by simp [opart, turnBy]
theorem xor36 (x : BitVec 8) : bits .xor .u8 (bd x) 54 = bd (x ^^^ 0x36#8) := xor_bd x 0x36#8
theorem xor5c (x : BitVec 8) : bits .xor .u8 (bd x) 92 = bd (x ^^^ 0x5c#8) := xor_bd x 0x5c#8
attribute [local go_sem] xor36 xor5c
/- what stands while the last line is reckoned -/
def SM (w : World) (g7 g9 : Nat) (O D : List (BitVec 8)) (W : World) : Prop := Row W g7 62 (bs O) ∧ Row W g9 29 (bs D) ∧ Tab W ∧ Below w.heap.size w W
theorem SM.call {w W W' : World} {g7 g9 : Nat} {O D : List (BitVec 8)} (h : SM w g7 g9 O D W) (hb : Below W.heap.size W W') : SM w g7 g9 O D W' :=
  ⟨h.1.call hb, h.2.1.call hb, h.2.2.1.below hb h.2.2.1.pos, h.2.2.2.trans (hb.mono h.2.2.2.size)⟩
theorem SM.alloc {w W : World} {g7 g9 : Nat} {O D : List (BitVec 8)} (h : SM w g7 g9 O D W) (o : Obj) : SM w g7 g9 O D (W.alloc o) := h.call ((Below.refl _ _).alloc (Nat.le_refl _) _)
theorem SM.drew {w W : World} {g7 g9 : Nat} {O D : List (BitVec 8)} (h : SM w g7 g9 O D W) : SM w g7 g9 O D W.drew := ⟨h.1, h.2.1, h.2.2.1, h.2.2.2.drew⟩
theorem SM.parts {w W : World} {g7 g9 : Nat} {O D : List (BitVec 8)} (h : SM w g7 g9 O D W) (hO : O.length = 64) (hD : D.length = 32) : Parts (W.alloc (.cells #[.slice (some ⟨g7, 0, none⟩) 64 64, .slice (some ⟨g9, 0, none⟩) 32 32] 22)) (.slice (some ⟨W.heap.size, 0, none⟩) 2 2) [O, D] := by
  have h1 := row_slice h.1 (c := 64) (by rw [hO]; exact Nat.le_refl _)
  have h2 := row_slice h.2.1 (c := 32) (by rw [hD]; exact Nat.le_refl _)
  rw [hO] at h1
  rw [hD] at h2
  exact parts2 h1 h2
theorem mac_one (key b : List (BitVec 8)) (kv v : Value) (w : World) (hT : Tab w) (hk : Slice w kv key) (hkl : key.length ≤ 1000000) (hv : Parts w v [b]) (hb : b.length ≤ 1000000) (T : List (BitVec 8)) (hTag : tagOf key b = T) :
    Calls Tryd.prog 15 #[kv, v] w fun e w' => e = .returned (.agg (bs T)) ∧ Below w.heap.size w w' := by
  subst hTag
  have h := mac_any key [b] kv v w hT hk (by omega) hv (fun n c e => by obtain ⟨A, c', h1, h2⟩ := hv; subst e; injection h1 with h1 _ _; obtain ⟨_, _, h3, _⟩ := h2 (by simp); rw [← h1] at h3; cases h3) (by simp) (by simp; omega)
  rwa [show ([b] : List (List (BitVec 8))).flatten = b by simp] at h
end Go.Proofs.YtcheflcfoiclgaaDoor

/- Tags chained, and bytes compared, as plain functions on lists. No program is named here. -/
set_option maxRecDepth 4000
namespace Go.Proofs.YtcheflcfoiclgaaDoor
open Go Go.RowKit
theorem ofInt_bd (x : BitVec 8) : BitVec.ofInt 8 (bd x) = x := by
  apply BitVec.eq_of_toNat_eq; unfold bd; rw [ofInt_u8 _ x.isLt]
theorem or_bd (x y : BitVec 8) : bits .or .u8 (bd x) (bd y) = bd (x ||| y) := by
  show IntKind.u8.wrap ((BitVec.ofInt 8 (bd x) ||| BitVec.ofInt 8 (bd y)).toNat : Int) = _
  rw [ofInt_bd, ofInt_bd]; exact wrap_bd _
/- what differs in the first k places -/
def dif (p q : List (BitVec 8)) : Nat → BitVec 8
  | 0 => if p.length = q.length then 0 else 1
  | k + 1 => dif p q k ||| (p.getD k 0 ^^^ q.getD k 0)
theorem or_zero8 (x y : BitVec 8) : x ||| y = 0 ↔ x = 0 ∧ y = 0 := by
  constructor
  · intro h
    have hx : ∀ i : Nat, (x.getLsbD i || y.getLsbD i) = false := fun i => by rw [← BitVec.getLsbD_or, h]; simp
    constructor
    · apply BitVec.eq_of_getLsbD_eq; intro i _; have := hx i; simp at this; simp [this.1]
    · apply BitVec.eq_of_getLsbD_eq; intro i _; have := hx i; simp at this; simp [this.2]
  · rintro ⟨rfl, rfl⟩; rfl
theorem dif_zero (p q : List (BitVec 8)) (k : Nat) : dif p q k = 0 ↔ p.length = q.length ∧ ∀ j, j < k → p.getD j 0 = q.getD j 0 := by
  induction k with
  | zero => unfold dif; split <;> simp_all
  | succ k ih =>
    unfold dif
    rw [or_zero8, ih]
    constructor
    · rintro ⟨⟨h1, h2⟩, h3⟩
      refine ⟨h1, fun j hj => ?_⟩
      by_cases hjk : j < k
      · exact h2 j hjk
      · obtain rfl : j = k := by omega
        exact BitVec.xor_eq_zero_iff.1 h3
    · rintro ⟨h1, h2⟩
      exact ⟨⟨h1, fun j hj => h2 j (by omega)⟩, BitVec.xor_eq_zero_iff.2 (h2 k (by omega))⟩
theorem dif_eq (p q : List (BitVec 8)) (n : Nat) (hn : p.length ≤ n) : dif p q n = 0 ↔ p = q := by
  rw [dif_zero]
  constructor
  · rintro ⟨h1, h2⟩
    apply List.ext_getElem h1
    intro j hj hj'
    have := h2 j (by omega)
    simpa [List.getD_eq_getElem?_getD, hj, hj'] using this
  · rintro rfl; exact ⟨rfl, fun _ _ => rfl⟩
theorem dif_bool (p q : List (BitVec 8)) (n : Nat) (hn : p.length ≤ n) : decide (bd (dif p q n) = 0) = decide (p = q) := by
  have h := dif_eq p q n hn
  have e : bd (dif p q n) = 0 ↔ dif p q n = 0 := ⟨fun h => bd_inj h, fun h => by rw [h]; rfl⟩
  rw [decide_eq_decide, e, h]
end Go.Proofs.YtcheflcfoiclgaaDoor

/- Whether two rows of bytes are alike: what Same answers. -/
set_option maxRecDepth 4000
namespace Go.Proofs.YtcheflcfoiclgaaDoor
open Go Go.RowKit
attribute [local go_sem] xor_bd or_bd
theorem byteat_any (q : List (BitVec 8)) (v : Value) (i : Nat) (w : World) (hs : Slice w v q) :
    Calls Tryd.prog 37 #[v, .int .i64 (i : Int)] w fun e w' => e = .returned (.int .u8 (bd (q.getD i 0))) ∧ w = w' := by
  obtain ⟨A, c, rfl, hc, h3⟩ := hs
  by_cases hlt : i < q.length
  · obtain ⟨b, o, rfl, _, h6⟩ := h3 (by intro e; subst e; simp at hlt)
    have hx := h6 i q[i] (List.getElem?_eq_getElem hlt)
    have e : q.getD i 0 = q[i] := by simp [List.getD_eq_getElem?_getD, hlt]
    rw [e]
    clear h6 h3 e
    generalize q[i] = x at *
    generalize q.length = n at *
    go_enter Tryd.func37, Tryd.ntmps37
    go_wp2
    go_ret
    exact ⟨rfl, rfl⟩
  · have e : q.getD i 0 = 0 := by simp [List.getD_eq_getElem?_getD, List.getElem?_eq_none (Nat.le_of_not_lt hlt)]
    rw [e]
    clear h3 e
    generalize q.length = n at *
    go_enter Tryd.func37, Tryd.ntmps37
    go_wp2
    go_ret
    exact ⟨rfl, rfl⟩
set_option maxHeartbeats 400000 in
theorem same_any (p q : List (BitVec 8)) (va vb : Value) (w : World) (hp : Slice w va p) (hq : Slice w vb q) (hpl : p.length ≤ 1000000) (hql : q.length ≤ 1000000) :
    Calls Tryd.prog 30 #[va, vb] w fun e w' => e = .returned (.bool (decide (p = q))) ∧ w = w' := by
  have HP := Lib.hid hp
  have HQ := Lib.hid hq
  obtain ⟨A, c, rfl, _⟩ := hp
  obtain ⟨A', c', rfl, _⟩ := hq
  have HD : Hid ((bd (dif p q (max p.length q.length)) == 0) = decide (p = q)) := Lib.hid (dif_bool p q (max p.length q.length) (Nat.le_max_left _ _))
  have HU : Hid (∀ k, dif p q (k + 1) = dif p q k ||| (p.getD k 0 ^^^ q.getD k 0)) := Lib.hid fun _ => rfl
  have H0 : Hid (dif p q 0 = if p.length = q.length then 0 else 1) := Lib.hid rfl
  have HE : Hid (∀ b, ((p.length : Int) != (q.length : Int)) = b → Value.int .u8 (if b then 1 else 0) = Value.int .u8 (bd (dif p q 0))) := Lib.hid fun b hb => by
    rw [H0.out]
    cases b with
    | true =>
      have hne : p.length ≠ q.length := fun e => by rw [e] at hb; simp at hb
      simp only [if_true, if_neg hne]; rfl
    | false =>
      have h : (p.length : Int) = (q.length : Int) := by simpa using hb
      have h' : p.length = q.length := by omega
      simp only [if_pos h']; rfl
  clear H0
  generalize dif p q = D at *
  go_enter Tryd.func30, Tryd.ntmps30
  go_wp2_with fail
  all_goals
    go_loopw [5, 17] (fun d i wr => ∃ k : Nat, k ≤ max p.length q.length ∧ i = .int .i64 k ∧ d = .int .u8 (bd (D k)) ∧ wr = w) (fun _ i _ => max p.length q.length - (intOf i).toNat)
    case atStart =>
      rename_i hpq _ _
      refine ⟨0, by omega, rfl, ?_, rfl⟩
      first | exact HE.out true hpq | exact HE.out false (by simpa using hpq)
    case round =>
      obtain ⟨k, hk, rfl, rfl, rfl⟩ := hrel
      by_cases hlt : k < max p.length q.length
      · have hu := Lib.hid (HU.out k)
        have c1 := byteat_any p _ k wr HP.out
        have c2 := byteat_any q _ k wr HQ.out
        generalize p.getD k 0 = x at *
        generalize q.getD k 0 = y at *
        have C1 := Lib.hid c1
        have C2 := Lib.hid c2
        clear c1 c2
        go_wp2_with fail
        refine C1.out.mono ?_
        rintro e w1 ⟨rfl, rfl⟩
        go_wp2_with fail
        refine C2.out.mono ?_
        rintro e w1 ⟨rfl, rfl⟩
        go_wp2_with fail
        go_roundw
        case rel => exact ⟨k + 1, by omega, by go_num, by rw [hu.out], trivial⟩
        case measure => simp [intOf]; omega
      · obtain rfl : k = max p.length q.length := by omega
        go_wp2_with fail
        go_ret
        exact ⟨congrArg (fun b => Ending.returned (.bool b)) HD.out, rfl⟩
end Go.Proofs.YtcheflcfoiclgaaDoor

/- Literals of bytes in a region that is walked by what each operation yields. -/
set_option maxRecDepth 4000
namespace Go.Proofs.YtcheflcfoiclgaaDoor
open Go Go.RowKit
section
variable {o : Oper} {a : Act} {w : World} {R : Value → World → Prop}
end
end Go.Proofs.YtcheflcfoiclgaaDoor

/- Strings of bytes compared. -/
set_option maxRecDepth 4000
namespace Go.Proofs.YtcheflcfoiclgaaDoor
open Go Go.RowKit
end Go.Proofs.YtcheflcfoiclgaaDoor

/- The document's block of a key. -/
set_option maxRecDepth 4000
namespace Go.Proofs.YtcheflcfoiclgaaDoor
open Go Go.RowKit
end Go.Proofs.YtcheflcfoiclgaaDoor

/- The document's tag of all parts by a key. -/
set_option maxRecDepth 4000
namespace Go.Proofs.YtcheflcfoiclgaaDoor
open Go Go.RowKit
attribute [local go_sem] xor_bd xor36 xor5c
/- what stands in the loop over a block's bytes -/
def RM (w : World) (g5 gi go : Nat) (B : List (BitVec 8)) (k : Nat) (W : World) : Prop := gi ≠ go ∧ g5 < gi ∧ g5 < go ∧ Row W w.heap.size 29 (bs (zer 32)) ∧ Row W g5 62 (bs B) ∧ Row W gi 5 (bs (opart 0x36#8 B k)) ∧ Row W go 5 (bs (opart 0x5c#8 B k)) ∧ Below w.heap.size w W
theorem RM.start {w w1 : World} {B : List (BitVec 8)} (hb : Below w.heap.size w w1) (r4 : Row w1 w.heap.size 29 (bs (zer 32))) :
    RM w w1.heap.size (w1.heap.size + 1) (w1.heap.size + 1 + 1) B 0 (((w1.alloc (.cells (bs B) 62)).alloc (.cells (bs (zer 64)) 5)).alloc (.cells (bs (zer 64)) 5)).drew ∧ RM w w1.heap.size (w1.heap.size + 1 + 1) (w1.heap.size + 1) B 0 (((w1.alloc (.cells (bs B) 62)).alloc (.cells (bs (zer 64)) 5)).alloc (.cells (bs (zer 64)) 5)).drew := by
  have a := ((r4.alloc (.cells (bs B) 62)).alloc (.cells (bs (zer 64)) 5)).alloc (.cells (bs (zer 64)) 5)
  have b := row3a w1 62 (bs B) (.cells (bs (zer 64)) 5) (.cells (bs (zer 64)) 5)
  have c := row3b w1 5 (bs (zer 64)) (.cells (bs B) 62) (.cells (bs (zer 64)) 5)
  have d := row3c w1 5 (bs (zer 64)) (.cells (bs B) 62) (.cells (bs (zer 64)) 5)
  have e := hb.trans ((below3 w1 (.cells (bs B) 62) (.cells (bs (zer 64)) 5) (.cells (bs (zer 64)) 5)).mono hb.size)
  unfold RM
  rw [opart_zero, opart_zero]
  exact ⟨⟨by omega, by omega, by omega, a, b, c, d, e.drew⟩, ⟨by omega, by omega, by omega, a, b, d, c, e.drew⟩⟩
end Go.Proofs.YtcheflcfoiclgaaDoor

/- A slice of bytes made of a constant text: its block bears a mark. No function of the program is named here. -/
set_option maxRecDepth 4000
namespace Go.Proofs.YtcheflcfoiclgaaDoor
open Go Go.RowKit
end Go.Proofs.YtcheflcfoiclgaaDoor

/- What an argument holds, read by its type: integers, bools, texts, rows of bytes, slices, structs, put together as the type is. No function of the program is named here. -/
set_option maxRecDepth 4000
namespace Go.Proofs.YtcheflcfoiclgaaDoor
open Go Go.ChangeShapes Go.WideShapes Go.ChangeAt Go.RowKit
/- the cells cs hold a, in the world w -/
def Rd (α : Type) := World → List Value → α → Prop
def Opens (P : Program) {α : Type} (t : TypeId) (R : Rd α) : Prop :=
  ∀ {H : Type} (enc : TypeId × Value → H) (W : World) (fuel : Nat) (cs : List Value) (x : DataW H × List MemPlace), DataW.trod enc P W 0 (fun _ => true) true fuel t cs = some x → (∀ y ∈ x.2, y.block < W.heap.size) → ∃ a, R W cs a
def rdInt (k : IntKind) : Rd Int := fun _ cs n => cs = [.int k n] ∧ (Lit.int k n).wf = true
def rdU8 : Rd (BitVec 8) := fun _ cs x => cs = [.int .u8 (bd x)]
def rdStr : Rd ByteArray := fun _ cs s => cs = [.string s] ∧ s.size ≤ maxLen
def rdRow (n : Nat) : Rd (List (BitVec 8)) := fun _ cs b => cs = bytesV b ∧ b.length = n
def rdNil : Rd Unit := fun _ cs _ => cs = []
def rdCons {α β : Type} (s : Nat) (R : Rd α) (T : Rd β) : Rd (α × β) := fun w cs ab => ∃ c d, cs = c ++ d ∧ c.length = s ∧ R w c ab.1 ∧ T w d ab.2
def rdSl {α : Type} (s : Nat) (R : Rd α) : Rd (List α) := fun w cs l => ∃ A c, cs = [.slice A l.length c] ∧ l.length ≤ c ∧ (A = none → c = 0) ∧ l.length ≤ maxLen ∧
  (l ≠ [] → ∃ b o, A = some ⟨b, o, none⟩ ∧ b < w.heap.size ∧ ∀ k x, l[k]? = some x → ∃ ds, ds.length = s ∧ w.rangeAt b (o + k * s) ds ∧ R w ds x)
section
variable {P : Program}
theorem opens_int {t : TypeId} {k : IntKind} (ht : P.underlying t = some (.int k)) : Opens P t (rdInt k) := fun _ _ _ _ _ h _ => by
  obtain ⟨n, h1, _, h2⟩ := DataW.trod_int ht h
  exact ⟨n, h1, h2⟩
theorem opens_u8 {t : TypeId} (ht : P.underlying t = some (.int .u8)) : Opens P t rdU8 := fun _ _ _ _ _ h _ => by
  obtain ⟨n, h1, _, h2⟩ := DataW.trod_int ht h
  have hb := bounds_u8 h2
  exact ⟨BitVec.ofInt 8 n, by unfold rdU8; rw [h1, ← bd_of n hb.1 (by omega)]⟩
theorem opens_str {t : TypeId} (ht : P.underlying t = some .string) : Opens P t rdStr := fun _ _ _ _ _ h _ => by
  obtain ⟨s, h1, _, h2⟩ := DataW.trod_string ht h
  exact ⟨s, h1, h2⟩
theorem opens_row {t e : TypeId} {n : Nat} (ht : P.underlying t = some (.array n e)) (he : P.underlying e = some (.int .u8)) (hce : P.cellsOf e = 1) (hct : P.cellsOf t = n) : Opens P t (rdRow n) := fun enc W fuel cs x h _ => by
  obtain ⟨xs, m, _, _, hl, hx, hi⟩ := DataW.trod_array ht h
  have hs : cs.length = n := by rw [hl, hct]
  have hint : ∀ i, i < n → ∃ z, cs[i]? = some (.int .u8 z) ∧ (Lit.int .u8 z).wf = true := fun i hin => by
    have h1 := hi i hin
    rw [List.getElem?_eq_getElem (by omega)] at h1
    obtain ⟨z, hz, _, hw⟩ := DataW.trod_int he h1
    refine ⟨z, ?_, hw⟩
    simp only [hce, Nat.mul_one] at hz
    rw [List.take_one, List.head?_drop] at hz
    cases hc : cs[i]? with
    | none => rw [hc] at hz; cases hz
    | some v => rw [hc] at hz; simpa using hz
  refine ⟨cs.map fun v => BitVec.ofInt 8 (intIn v), ?_, by simp [hs]⟩
  apply List.ext_getElem?
  intro i
  by_cases hin : i < n
  · obtain ⟨z, hz, hw⟩ := hint i hin
    have hb := bounds_u8 hw
    simp [bytesV, hz, intIn, ← bd_of z hb.1 (by omega)]
  · rw [List.getElem?_eq_none (by omega), List.getElem?_eq_none (by simp [bytesV]; omega)]
theorem opens_sl {α : Type} {t e : TypeId} {s : Nat} {R : Rd α} (ht : P.underlying t = some (.slice e)) (hs : P.cellsOf e = s) (hpos : 0 < s) (he : Opens P e R) : Opens P t (rdSl s R) := fun {H} enc W fuel cs x h hlt => by
  rcases Deep.open_slice ht h with ⟨h0, _⟩ | ⟨a, len, cap, m, n, D, Pl, hcs, _, hl, hm, hmm, hx, hi⟩
  · exact ⟨[], none, 0, h0, by simp, fun _ => rfl, by simp, fun h => absurd rfl h⟩
  · simp only [if_true] at hmm
    subst hmm
    have hlt' : ∀ y ∈ MemPlace.row a (m * P.cellsOf e) ++ (List.range m).flatMap Pl, y.block < W.heap.size := by rw [hx] at hlt; exact hlt
    have hR : ∀ i, i < len → ∃ b, ∃ ds, W.cells? 0 (a.add (i * s)) s = some ds ∧ R W ds b := fun i hil => by
      obtain ⟨ds, h1, h2⟩ := hi i (by omega)
      rw [hs] at h1
      obtain ⟨b, hb⟩ := he enc W n ds _ h2 fun y hy => hlt' y (List.mem_append_right _ (List.mem_flatMap.2 ⟨i, List.mem_range.2 (by omega), hy⟩))
      exact ⟨b, ds, h1, hb⟩
    by_cases h0 : len = 0
    · subst h0
      refine ⟨[], some a, m, hcs, by simp, fun h => (by cases h), by simp, fun h => absurd rfl h⟩
    · obtain ⟨b0, _⟩ := hR 0 (by omega)
      have hinh : Inhabited α := ⟨b0⟩
      obtain ⟨Q, hQ⟩ := Deep.choose_lt (α := α) (n := len) (p := fun i q => ∃ ds, W.cells? 0 (a.add (i * s)) s = some ds ∧ R W ds q) hR
      have hql : ((List.range len).map Q).length = len := by simp
      refine ⟨(List.range len).map Q, some a, m, by rw [hql]; exact hcs, by rw [hql]; exact hl, fun h => (by cases h), by rw [hql]; omega, fun _ => ?_⟩
      obtain ⟨b, off, spot⟩ := a
      have hspot : spot = none := by
        obtain ⟨ds, h1, _⟩ := hQ 0 (by omega)
        obtain ⟨_, h3, h4⟩ := World.cells?_some h1
        have h5 := h4 0 hpos
        rw [List.getElem?_eq_getElem (by omega)] at h5
        simpa [Addr.add] using World.cell?_spot h5
      subst hspot
      refine ⟨b, off, rfl, hlt' (.cell b off) (List.mem_append_left _ (MemPlace.mem_row.2 ⟨0, by rw [hs]; exact Nat.mul_pos (by omega) hpos, by simp⟩)), fun k x hk => ?_⟩
      have hkl : k < len := by have := (List.getElem?_eq_some_iff.1 hk).1; omega
      obtain ⟨ds, h1, h2⟩ := hQ k hkl
      obtain ⟨_, h3, h4⟩ := World.cells?_some h1
      obtain rfl : Q k = x := by simpa [hkl] using hk
      refine ⟨ds, h3, fun j v hv => ?_, h2⟩
      have hj : j < s := by have := (List.getElem?_eq_some_iff.1 hv).1; omega
      have h5 := h4 j hj
      rw [hv, Addr.add_mid, Addr.add_mid] at h5
      exact h5
/- the fields of a struct from offset o on -/
def OpensF (P : Program) {β : Type} (fs : List Field) (o : Nat) (T : Rd β) : Prop :=
  ∀ {H : Type} (enc : TypeId × Value → H) (W : World) (n : Nat) (cs : List Value) (xs : List (DataW H × List MemPlace)), xs.length = fs.length →
    (∀ (i : Nat) (f : Field), fs[i]? = some f → DataW.trod enc P W 0 (fun _ => true) true n f.type ((cs.drop f.offset).take (P.cellsOf f.type)) = xs[i]?) → (∀ y ∈ xs.flatMap (·.2), y.block < W.heap.size) → cs.length = o + (fs.map fun f => P.cellsOf f.type).sum → ∃ b, T W (cs.drop o) b
theorem opensF_nil {o : Nat} : OpensF P [] o rdNil := fun _ _ _ _ _ _ _ _ hl => ⟨(), by
  unfold rdNil
  simp only [List.map_nil, List.sum_nil, Nat.add_zero] at hl
  rw [← hl, List.drop_length]⟩
theorem opensF_cons {α β : Type} {f : Field} {fs : List Field} {o s : Nat} {R : Rd α} {T : Rd β} (ho : f.offset = o) (hs : P.cellsOf f.type = s) (h : Opens P f.type R) (t : OpensF P fs (o + s) T) : OpensF P (f :: fs) o (rdCons s R T) := fun {H} enc W n cs xs hxl hf hlt hl => by
  cases xs with
  | nil => simp at hxl
  | cons x xs =>
    simp only [List.length_cons, Nat.add_right_cancel_iff] at hxl
    have h0 := hf 0 f rfl
    simp only [List.getElem?_cons_zero] at h0
    rw [ho, hs] at h0
    obtain ⟨a, ha⟩ := h enc W n _ x h0 fun y hy => hlt y (by simp [hy])
    simp only [List.map_cons, List.sum_cons, hs] at hl
    obtain ⟨b, hb⟩ := t enc W n cs xs hxl (fun i g hg => by have := hf (i + 1) g (by simpa using hg); simpa using this) (fun y hy => hlt y (by simp only [List.flatMap_cons, List.mem_append]; exact .inr hy)) (by omega)
    refine ⟨(a, b), (cs.drop o).take s, cs.drop (o + s), ?_, by rw [List.length_take, List.length_drop]; omega, ha, hb⟩
    rw [← List.drop_drop, List.take_append_drop]
theorem opens_struct {β : Type} {t : TypeId} {fs : Array Field} {T : Rd β} (ht : P.underlying t = some (.struct fs)) (hc : P.cellsOf t = (fs.toList.map fun f => P.cellsOf f.type).sum) (h : OpensF P fs.toList 0 T) : Opens P t T := fun {H} enc W fuel cs x hx hlt => by
  obtain ⟨xs, n, _, hy, hlen, hyl, hf⟩ := DataW.trod_struct ht hx
  subst hy
  obtain ⟨b, hb⟩ := h enc W n cs xs (by rw [hyl]; exact Array.length_toList.symm) (fun i f hi => hf i f (by rw [← Array.getElem?_toList]; exact hi)) hlt (by rw [hlen, hc, Nat.zero_add])
  exact ⟨b, by simpa using hb⟩
end
/- an argument of a card -/
theorem open_arg {P : Program} {α : Type} {t : TypeId} {R : Rd α} (h : Opens P t R) {H : Type} {enc : TypeId × Value → H} {W : World} {v : Value} {d : DataW H} {ps : List MemPlace} (hT : DataW.Trod enc P W 0 (fun _ => true) true t v d ps) (hlt : ∀ y ∈ ps, y.block < W.heap.size) : ∃ a, R W v.cells.toList a := by
  obtain ⟨fuel, hf⟩ := hT
  exact h enc W fuel _ _ hf hlt
theorem okWide_rec {P : Program} {w : World} {r : Reach} {base : Nat} {t : TypeId} {fs : Array Field} {v : Value} (ht : P.underlying t = some (.struct fs)) (h : Value.okWide P w r base t v) : ∃ cs, v = .agg cs := by
  simp only [Value.okWide, ht] at h
  cases v <;> simp_all
/- an argument that is a struct -/
theorem open_argRec {P : Program} {α : Type} {t : TypeId} {fs : Array Field} {R : Rd α} (ht : P.underlying t = some (.struct fs)) (ho : Opens P t R) {H : Type} {enc : TypeId × Value → H} {W : World} {r : Reach} {base : Nat} {v : Value} {d : DataW H} {ps : List MemPlace} (hval : Value.okWide P W r base t v) (hT : DataW.Trod enc P W 0 (fun _ => true) true t v d ps) (hlt : ∀ y ∈ ps, y.block < W.heap.size) : ∃ cs x, v = .agg cs.toArray ∧ R W cs x := by
  obtain ⟨cs, rfl⟩ := okWide_rec ht hval
  obtain ⟨x, hx⟩ := open_arg ho hT hlt
  exact ⟨cs.toList, x, by simp, by simpa [Value.cells] using hx⟩
theorem open_argBytes {P : Program} {t e : TypeId} {n : Nat} (ht : P.underlying t = some (.array n e)) (he : P.underlying e = some (.int .u8)) (hce : P.cellsOf e = 1) (hct : P.cellsOf t = n) {H : Type} {enc : TypeId × Value → H} {W : World} {r : Reach} {base : Nat} {v : Value} {d : DataW H} {ps : List MemPlace} (hval : Value.okWide P W r base t v) (hT : DataW.Trod enc P W 0 (fun _ => true) true t v d ps) (hlt : ∀ y ∈ ps, y.block < W.heap.size) : ∃ q : List (BitVec 8), q.length = n ∧ v = .agg (bs q) := by
  obtain ⟨cs, rfl⟩ := okWide_arr ht hval
  obtain ⟨q, h1, h2⟩ := open_arg (opens_row ht he hce hct) hT hlt
  exact ⟨q, h2, congrArg Value.agg (by apply Array.toList_inj.1; rw [bs_toList]; simpa [Value.cells] using h1)⟩
/- slices of bytes as these readers have them -/
theorem rdSl_item {w : World} {u : Value} {q : List (BitVec 8)} (h : rdSl 1 rdU8 w [u] q) : Item w u q := by
  obtain ⟨A, c, h1, h2, h3, h4, h5⟩ := h
  injection h1 with h1 _
  refine ⟨A, c, h1, ⟨A, c, rfl, h2, fun hne => ?_⟩, h3, h4⟩
  obtain ⟨b, o, h6, h7, h8⟩ := h5 hne
  refine ⟨b, o, h6, h7, fun j x hx => ?_⟩
  obtain ⟨ds, _, h9, h10⟩ := h8 j x hx
  have := h9 0 (.int .u8 (bd x)) (by rw [h10]; rfl)
  simpa using this
end Go.Proofs.YtcheflcfoiclgaaDoor

/- Arguments of words (uint32, uint16, arrays of them) opened. No function of the program is named here. -/
set_option maxRecDepth 4000
namespace Go.Proofs.YtcheflcfoiclgaaDoor
open Go Go.ChangeShapes Go.WideShapes Go.ChangeAt Go.RowKit
def rdU32 : Rd (BitVec 32) := fun _ cs x => cs = [.int .u32 (wd x)]
theorem bounds_u32L {n : Int} (h : (Lit.int .u32 n).wf = true) : 0 ≤ n ∧ n < 4294967296 := by
  simp only [Lit.wf, Bool.and_eq_true, decide_eq_true_eq] at h
  have h1 : IntKind.u32.min = 0 := by decide
  have h2 : IntKind.u32.max = 4294967295 := by decide
  omega
theorem opens_u32 {P : Program} {t : TypeId} (ht : P.underlying t = some (.int .u32)) : Opens P t rdU32 := fun _ _ _ _ _ h _ => by
  obtain ⟨n, h1, _, h2⟩ := DataW.trod_int ht h
  have hb := bounds_u32L h2
  exact ⟨BitVec.ofInt 32 n, by unfold rdU32; rw [h1, ← wd_of n hb.1 hb.2]⟩
end Go.Proofs.YtcheflcfoiclgaaDoor

/- Integers that are handed in, as plain numbers. -/
set_option maxRecDepth 4000
namespace Go.Proofs.YtcheflcfoiclgaaDoor
open Go Go.RowKit
end Go.Proofs.YtcheflcfoiclgaaDoor
