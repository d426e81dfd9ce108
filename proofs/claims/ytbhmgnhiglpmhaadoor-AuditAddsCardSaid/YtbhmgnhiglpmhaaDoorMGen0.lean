/- Merged: Words Mem Sl Spec Sig Round Sched Turn OpenB Laid Spec2 Spec3 Msg Add Pad Dig Sum Open Inv Does Ph Phs Obj CopyR St StMore PhA Fill ByteI Half Lit MarkB ZerosB Blk EqI BlkE MacSpec TagSpec Fair Copy Keep Arr Eq App By PadG PartsG RefT RefTurn RefPad RefH RefSum PartL. -/
import Derived.WalkKit
import Derived.Laws.BitsAllLaws
import Derived.Laws.BitsLemmas
import Derived.Laws.Rows
import Derived.Laws.OwnMore
import Derived.Below
import Derived.Deep.Draws
import Derived.Laws.CopyOwn
import Derived.Laws.AppendOwn
import Derived.Deep.MidRow
import Derived.Deep.WholeRow
import Derived.Test.YtbhmgnhiglpmhaaDoorProg
import Derived.Still
import Derived.Laws.AppendOwnNone
import Derived.Laws.MakeOwn
import Derived.OwnWalk
import Derived.Maps.AppendAt
import Derived.Maps.RangeWalk
import Derived.Lib.SlBytesConst
import Derived.Lib.Hide
import Derived.WalkSpells
import Derived.WalkLawsBesides
import Derived.Deep.QuietTactic
import Derived.BigQuiet
import Derived.WalkSmall
import Derived.BigRegion
import Derived.LoopTactic
import Derived.RegionTactic
import Derived.Deep.RegionWith
import Derived.Deep.RegionHeld3
import Derived.StillTailTactics
import Derived.ProofKit
import Derived.OpenShut
import Derived.Carry
import Derived.Deep.DeepHandedRow
import Derived.Deep.Slices
import Derived.Test.YtbhmgnhiglpmhaaDoorCards
import Derived.Test.YtbhmgnhiglpmhaaDoorTie
import Derived.Lib.LaidTab
import Derived.OrdersHeld
import Derived.Great.BuildSlice
import Derived.Laws.IdiomStrings
import Derived.Laws.StructEq
import Derived.Laws.BytesArg
/- Plain facts on machine words as bit vectors, in the walk's own spelling: what the operations of Go on uint8, uint32 and uint64 come to. No condition. -/
set_option maxRecDepth 4000
namespace Go.Proofs.YtbhmgnhiglpmhaaDoor
open Go Go.RowKit

/- a word's number, kept shut: the walk does not look into it -/
def wd (x : BitVec 32) : Int := (x.toNat : Int)
def bd (x : BitVec 8) : Int := (x.toNat : Int)

theorem wd_lo (x : BitVec 32) : 0 ≤ wd x := by unfold wd; omega
theorem wd_hi (x : BitVec 32) : wd x < 4294967296 := by unfold wd; have := x.isLt; omega
theorem bd_lo (x : BitVec 8) : 0 ≤ bd x := by unfold bd; omega
theorem bd_hi (x : BitVec 8) : bd x < 256 := by unfold bd; have := x.isLt; omega
theorem bd_inj {x y : BitVec 8} (h : bd x = bd y) : x = y := by unfold bd at h; exact BitVec.eq_of_toNat_eq (by omega)
theorem bd_of (n : Int) (h0 : 0 ≤ n) (h1 : n < 256) : n = bd (BitVec.ofInt 8 n) := by
  unfold bd; obtain ⟨m, rfl⟩ := Int.eq_ofNat_of_zero_le h0
  rw [ofInt_u8 m (by omega)]

theorem ofInt_wd (x : BitVec 32) : BitVec.ofInt 32 (wd x) = x := by
  apply BitVec.eq_of_toNat_eq; unfold wd; rw [ofInt_u32 _ x.isLt]
theorem wrap_wd (x : BitVec 32) : IntKind.u32.wrap (wd x) = wd x := by
  rw [IntKind.wrap_u32']; have := wd_lo x; have := wd_hi x; omega
theorem wrap_bd (x : BitVec 8) : IntKind.u8.wrap (bd x) = bd x := by
  rw [IntKind.wrap_u8']; have := bd_lo x; have := bd_hi x; omega

theorem xor_wd (x y : BitVec 32) : bits .xor .u32 (wd x) (wd y) = wd (x ^^^ y) := by
  show IntKind.u32.wrap ((BitVec.ofInt 32 (wd x) ^^^ BitVec.ofInt 32 (wd y)).toNat : Int) = _
  rw [ofInt_wd, ofInt_wd]; exact wrap_wd _
theorem and_wd (x y : BitVec 32) : bits .and .u32 (wd x) (wd y) = wd (x &&& y) := by
  show IntKind.u32.wrap ((BitVec.ofInt 32 (wd x) &&& BitVec.ofInt 32 (wd y)).toNat : Int) = _
  rw [ofInt_wd, ofInt_wd]; exact wrap_wd _
theorem or_wd (x y : BitVec 32) : bits .or .u32 (wd x) (wd y) = wd (x ||| y) := by
  show IntKind.u32.wrap ((BitVec.ofInt 32 (wd x) ||| BitVec.ofInt 32 (wd y)).toNat : Int) = _
  rw [ofInt_wd, ofInt_wd]; exact wrap_wd _
theorem add_wd (x y : BitVec 32) : IntKind.u32.wrap (wd x + wd y) = wd (x + y) := by
  rw [IntKind.wrap_u32']; unfold wd; rw [BitVec.toNat_add]; omega
theorem signed_u32 : (IntKind.u32.signed = true) = False := by simp [IntKind.signed]
theorem not_wd (x : BitVec 32) : bits .xor .u32 IntKind.u32.max (wd x) = wd (~~~x) := by
  have e : IntKind.u32.max = wd (BitVec.allOnes 32) := by decide +kernel
  rw [e, xor_wd, BitVec.allOnes_xor]
theorem shr_wd (x : BitVec 32) (n : Nat) : wd x / 2 ^ n = wd (x >>> n) := by
  unfold wd; rw [BitVec.toNat_ushiftRight, Nat.shiftRight_eq_div_pow]; norm_cast
theorem shl_wd (x : BitVec 32) (n : Nat) : IntKind.u32.wrap (wd x * 2 ^ n) = wd (x <<< n) := by
  rw [IntKind.wrap_u32']; unfold wd; rw [BitVec.toNat_shiftLeft, Nat.shiftLeft_eq]
  have e : (2 : Int) ^ n = ((2 ^ n : Nat) : Int) := by norm_cast
  rw [e, ← Int.natCast_mul]
  generalize x.toNat * 2 ^ n = m
  show (m : Int) % 4294967296 = ((m % 4294967296 : Nat) : Int)
  omega
theorem conv_bd (x : BitVec 8) : IntKind.u32.wrap (bd x) = wd (x.setWidth 32) := by
  rw [IntKind.wrap_u32']; unfold bd wd; have := x.isLt; rw [BitVec.toNat_setWidth]; omega
theorem shl24_wd (x : BitVec 32) : IntKind.u32.wrap (wd x * (16777216 : Int)) = wd (x <<< 24) := shl_wd x 24
theorem shl16_wd (x : BitVec 32) : IntKind.u32.wrap (wd x * (65536 : Int)) = wd (x <<< 16) := shl_wd x 16
theorem shl8_wd (x : BitVec 32) : IntKind.u32.wrap (wd x * (256 : Int)) = wd (x <<< 8) := shl_wd x 8
theorem low_wd (x : BitVec 32) : IntKind.u8.wrap (wd x) = bd (x.setWidth 8) := by
  rw [IntKind.wrap_u8']; unfold bd wd; rw [BitVec.toNat_setWidth]; omega
theorem low24_wd (x : BitVec 32) : IntKind.u8.wrap (wd x / (16777216 : Int)) = bd ((x >>> 24).setWidth 8) := by rw [show wd x / (16777216 : Int) = wd (x >>> 24) from shr_wd x 24, low_wd]
theorem low16_wd (x : BitVec 32) : IntKind.u8.wrap (wd x / (65536 : Int)) = bd ((x >>> 16).setWidth 8) := by rw [show wd x / (65536 : Int) = wd (x >>> 16) from shr_wd x 16, low_wd]
theorem low8_wd (x : BitVec 32) : IntKind.u8.wrap (wd x / (256 : Int)) = bd ((x >>> 8).setWidth 8) := by rw [show wd x / (256 : Int) = wd (x >>> 8) from shr_wd x 8, low_wd]
theorem wrap_u8_bd (z : Int) : IntKind.u8.wrap z = bd (BitVec.ofInt 8 z) := by
  rw [IntKind.wrap_u8']; unfold bd; rw [BitVec.toNat_ofInt]; omega
theorem xor_bd (x y : BitVec 8) : bits .xor .u8 (bd x) (bd y) = bd (x ^^^ y) := by
  have e : ∀ z : BitVec 8, BitVec.ofInt 8 (bd z) = z := fun z => by
    apply BitVec.eq_of_toNat_eq; unfold bd; rw [ofInt_u8 _ z.isLt]
  show IntKind.u8.wrap ((BitVec.ofInt 8 (bd x) ^^^ BitVec.ofInt 8 (bd y)).toNat : Int) = _
  rw [e, e]; exact wrap_bd _
def zer (n : Nat) : List (BitVec 8) := List.replicate n 0
theorem length_zer (n : Nat) : (zer n).length = n := by simp [zer]
end Go.Proofs.YtbhmgnhiglpmhaaDoor

/- A block of memory that is known whole, and how it lasts through draws, new blocks, stores elsewhere and calls. No condition beyond the theorems' own. -/
set_option maxRecDepth 4000
namespace Go.Proofs.YtbhmgnhiglpmhaaDoor
open Go Go.RowKit

def Row (w : World) (g : Nat) (t : TypeId) (cs : Array Value) : Prop := w.heap[g]? = some (.cells cs t (0, 0))

section
variable {w w' : World} {g : Nat} {t : TypeId} {cs : Array Value}
theorem Row.lt (h : Row w g t cs) : g < w.heap.size := by
  by_cases hl : g < w.heap.size
  · exact hl
  · unfold Row at h; rw [Array.getElem?_eq_none (by omega)] at h; cases h
theorem Row.cell (h : Row w g t cs) (i : Nat) : w.cell? ⟨g, i, none⟩ = cs[i]? := cell_of_row w g i cs t (0, 0) h
theorem Row.free (h : Row w g t cs) (i : Nat) : w.frozen? ⟨g, i, none⟩ = false := frozen_of_row w g i cs t h
theorem Row.fresh (w : World) (t : TypeId) (cs : Array Value) : Row (w.alloc (.cells cs t)) w.heap.size t cs := heap_alloc_new w _
theorem Row.drew (h : Row w g t cs) : Row w.drew g t cs := h
theorem Row.drewN (h : Row w g t cs) (n : Nat) : Row (w.drewN n) g t cs := h
theorem Row.alloc (h : Row w g t cs) (o : Obj) : Row (w.alloc o) g t cs := (Below.heap_alloc w o g h.lt).trans h
theorem Row.put (h : Row w g t cs) (i : Nat) (v : Value) : Row (w.setCell ⟨g, i, none⟩ v) g t (cs.setIfInBounds i v) := heap_setCell_same w g i cs t v h
theorem Row.far (h : Row w g t cs) {p : Addr} (hp : g ≠ p.block) (v : Value) : Row (w.setCell p v) g t cs := (heap_setCell_other w p g v hp).trans h
theorem Row.setRow (h : Row w g t cs) (ds : Array Value) : Row (w.setRow g ds) g t ds := setRow_heap w g cs ds t (0, 0) h
theorem Row.setRow_far (h : Row w g t cs) {k : Nat} (hk : g ≠ k) (ds : Array Value) : Row (w.setRow k ds) g t cs := (setRow_other w k g ds hk).trans h
theorem Row.below {B : Nat} (h : Row w g t cs) (hb : Below B w w') (hg : g < B) : Row w' g t cs := (hb.block g hg).trans h
theorem Row.call (h : Row w g t cs) (hb : Below w.heap.size w w') : Row w' g t cs := h.below hb h.lt
theorem Row.get (h : Row w g t cs) {i : Nat} {v : Value} (hi : cs[i]? = some v) : w.cell? ⟨g, i, none⟩ = some v := (h.cell i).trans hi
end

theorem row3a (w : World) (t : TypeId) (cs : Array Value) (o2 o3 : Obj) : Row (((w.alloc (.cells cs t)).alloc o2).alloc o3) w.heap.size t cs := ((Row.fresh _ _ _).alloc _).alloc _
theorem row2b (w : World) (t : TypeId) (cs : Array Value) (o1 : Obj) : Row ((w.alloc o1).alloc (.cells cs t)) (w.heap.size + 1) t cs := by
  have e : w.heap.size + 1 = (w.alloc o1).heap.size := by simp
  rw [e]; exact Row.fresh _ _ _
theorem row3b (w : World) (t : TypeId) (cs : Array Value) (o1 o3 : Obj) : Row (((w.alloc o1).alloc (.cells cs t)).alloc o3) (w.heap.size + 1) t cs := (row2b _ _ _ _).alloc _
theorem row3c (w : World) (t : TypeId) (cs : Array Value) (o1 o2 : Obj) : Row (((w.alloc o1).alloc o2).alloc (.cells cs t)) (w.heap.size + 1 + 1) t cs := by
  have e : w.heap.size + 1 + 1 = ((w.alloc o1).alloc o2).heap.size := by simp
  rw [e]; exact Row.fresh _ _ _
theorem below3 (w : World) (o1 o2 o3 : Obj) : Below w.heap.size w (((w.alloc o1).alloc o2).alloc o3) := ((((Below.refl _ _).alloc (Nat.le_refl _) _).alloc (by simp) _)).alloc (by simp; omega) _

theorem setRow_alloc2 (w : World) (o1 : Obj) (c c' : Array Value) (t : TypeId) : ((w.alloc o1).alloc (.cells c t)).setRow (w.heap.size + 1) c' = (w.alloc o1).alloc (.cells c' t) := by
  have e : w.heap.size + 1 = (w.alloc o1).heap.size := by simp
  rw [e]; exact World.setRow_alloc_new _ _ _ _

/- arrays of words, as values -/
def ws (l : List (BitVec 32)) : Array Value := (l.map fun x => Value.int .u32 (wd x)).toArray
def bs (l : List (BitVec 8)) : Array Value := (l.map fun x => Value.int .u8 (bd x)).toArray
theorem size_ws (l : List (BitVec 32)) : (ws l).size = l.length := by simp [ws]
theorem size_bs (l : List (BitVec 8)) : (bs l).size = l.length := by simp [bs]
theorem get_ws (l : List (BitVec 32)) (i : Nat) (h : i < l.length) : (ws l)[i]? = some (.int .u32 (wd (l.getD i 0))) := by simp [ws, h]
theorem get_bs (l : List (BitVec 8)) (i : Nat) (h : i < l.length) : (bs l)[i]? = some (.int .u8 (bd (l.getD i 0))) := by simp [bs, h]
theorem set_ws (l : List (BitVec 32)) (i : Nat) (x : BitVec 32) : (ws l).setIfInBounds i (.int .u32 (wd x)) = ws (l.set i x) := by
  simp [ws, List.map_set]
theorem set_bs (l : List (BitVec 8)) (i : Nat) (x : BitVec 8) : (bs l).setIfInBounds i (.int .u8 (bd x)) = bs (l.set i x) := by
  simp [bs, List.map_set]
theorem one_ws (l : List (BitVec 32)) : (ws l).all (·.oneCell') = true := by simp [ws, Value.oneCell']
theorem one_bs (l : List (BitVec 8)) : (bs l).all (·.oneCell') = true := by simp [bs, Value.oneCell']
theorem len_bs (b : List (BitVec 8)) : (bs b).toList.length = b.length := by simp [bs]
theorem only_refl (w : World) (g : Nat) : w.grownBy w (some g) := ⟨rfl, rfl, rfl, Nat.le_refl _, fun _ _ _ => rfl⟩
theorem only_drew {a w : World} {g : Nat} (h : a.grownBy w (some g)) : a.grownBy w.drew (some g) := ⟨h.os, h.tape, h.output, h.size, h.block⟩
theorem only_call {a w w' : World} {g : Nat} (h : a.grownBy w (some g)) (hb : Below w.heap.size w w') : a.grownBy w' (some g) :=
  ⟨hb.os.trans h.os, hb.tape.trans h.tape, hb.output.trans h.output, Nat.le_trans h.size hb.size, fun k hk hne => (hb.block k (Nat.lt_of_lt_of_le hk h.size)).trans (h.block k hk hne)⟩
theorem only_setCell {a w : World} {g i : Nat} (h : a.grownBy w (some g)) (v : Value) : a.grownBy (w.setCell ⟨g, i, none⟩ v) (some g) :=
  ⟨h.os, h.tape, h.output, by simpa [World.setCell] using h.size, fun k hk hne => (heap_setCell_other w ⟨g, i, none⟩ k v (fun e => hne (by rw [e]))).trans (h.block k hk hne)⟩
theorem only_setRow {a w : World} {g : Nat} (h : a.grownBy w (some g)) (cs : Array Value) : a.grownBy (w.setRow g cs) (some g) :=
  ⟨h.os, h.tape, h.output, by simpa using h.size, fun k hk hne => (setRow_other w g k cs (fun e => hne (by rw [e]))).trans (h.block k hk hne)⟩
theorem only_setCells {a : World} {g : Nat} : ∀ (vs : List Value) (o : Nat) {w : World}, a.grownBy w (some g) → a.grownBy (w.setCells g o vs) (some g)
  | [], _, _, h => h
  | v :: vs, o, _, h => only_setCells vs (o + 1) (only_setCell h v)
theorem only_below {a w : World} {g B : Nat} (h : a.grownBy w (some g)) (hB : B ≤ g) (hs : B ≤ a.heap.size) : Below B a w :=
  ⟨h.os, h.tape, h.output, h.size, fun k hk => h.block k (by omega) (fun e => by injection e with e; omega)⟩
theorem Row.only {w w' : World} {g k : Nat} {t : TypeId} {cs : Array Value} (h : Row w k t cs) (hw : w.grownBy w' (some g)) (hne : k ≠ g) : Row w' k t cs :=
  (hw.block k h.lt (fun e => hne (by injection e))).trans h

end Go.Proofs.YtbhmgnhiglpmhaaDoor

/- Slices of bytes and lists of them: what they read as, how they are appended, taken apart and handed on. No function of the program is named here. -/
set_option maxRecDepth 4000
namespace Go.Proofs.YtbhmgnhiglpmhaaDoor
open Go Go.RowKit
theorem i64_id (n : Int) (h0 : 0 ≤ n) (h1 : n < 9223372036854775808) : IntKind.i64.wrap n = n := by
  rw [IntKind.wrap_i64]; omega
theorem ret_int {k : IntKind} {a b : Int} (h : a = b) : Ending.returned (.int k a) = .returned (.int k b) := by rw [h]
def bytesV (q : List (BitVec 8)) : List Value := q.map fun x => Value.int .u8 (bd x)
theorem size_u8 : (Tryd.prog.info? 5).map (·.size) = some 1 := by kernel_rfl
theorem one_bytesV (q : List (BitVec 8)) : ∀ v ∈ bytesV q, v.oneCell' = true := by
  intro v hv; simp only [bytesV, List.mem_map] at hv; obtain ⟨x, _, rfl⟩ := hv; rfl
theorem info_u8 : (Tryd.prog.info? 5).map (fun i => (i.zero, i.size, i.bytes)) = some (some (.int .u8 0), 1, 1) := by kernel_rfl
/- a slice value that reads as the bytes q -/
def Slice (w : World) (v : Value) (q : List (BitVec 8)) : Prop :=
  ∃ A c, v = .slice A q.length c ∧ q.length ≤ c ∧ (q ≠ [] → ∃ b o, A = some ⟨b, o, none⟩ ∧ b < w.heap.size ∧ ∀ j x, q[j]? = some x → w.cell? ⟨b, o + j, none⟩ = some (.int .u8 (bd x)))
/- a slice value that reads as these slices of bytes -/
def Parts (w : World) (v : Value) (ps : List (List (BitVec 8))) : Prop :=
  ∃ A c, v = .slice A ps.length c ∧ (ps ≠ [] → ∃ b o, A = some ⟨b, o, none⟩ ∧ b < w.heap.size ∧ ∀ k q, ps[k]? = some q → ∃ u, w.cell? ⟨b, o + k, none⟩ = some u ∧ Slice w u q)
theorem Slice.below {w w' : World} {B : Nat} {v : Value} {q : List (BitVec 8)} (h : Slice w v q) (hb : Below B w w') (hB : w.heap.size ≤ B) : Slice w' v q := by
  obtain ⟨A, c, h1, h2, h3⟩ := h
  refine ⟨A, c, h1, h2, fun hne => ?_⟩
  obtain ⟨b, o, h4, h5, h6⟩ := h3 hne
  exact ⟨b, o, h4, Nat.lt_of_lt_of_le h5 hb.size, fun j x hx => (hb.cell (p := ⟨b, o + j, none⟩) (Nat.lt_of_lt_of_le h5 hB)).trans (h6 j x hx)⟩
theorem flat_succ (ps : List (List (BitVec 8))) (k : Nat) (hk : k < ps.length) : (ps.take (k + 1)).flatten = (ps.take k).flatten ++ ps[k] := by
  rw [List.take_succ_eq_append_getElem hk, List.flatten_append]; simp
theorem flat_le (ps : List (List (BitVec 8))) (k : Nat) (hk : k < ps.length) : ((ps.take k).flatten ++ ps[k]).length ≤ ps.flatten.length := by
  rw [← flat_succ ps k hk]
  have : ps.flatten = (ps.take (k + 1)).flatten ++ (ps.drop (k + 1)).flatten := by rw [← List.flatten_append, List.take_append_drop]
  rw [this, List.length_append]; omega
theorem bytes_slice {w : World} {g c : Nat} {q : List (BitVec 8)} {t : TypeId} {fr : Nat × Nat} (hg : w.heap[g]? = some (.cells (bs q) t fr)) (hc : q.length ≤ c) : Slice w (.slice (some ⟨g, 0, none⟩) q.length c) q := by
  refine ⟨_, c, rfl, hc, fun _ => ⟨g, 0, rfl, ?_, fun j x hx => ?_⟩⟩
  · by_cases hl : g < w.heap.size
    · exact hl
    · rw [Array.getElem?_eq_none (by omega)] at hg; cases hg
  · have hj := (List.getElem?_eq_some_iff.1 hx).1
    rw [Nat.zero_add, cell_of_row w g j _ _ _ hg, get_bs q j hj, List.getD_eq_getElem?_getD, hx]; rfl
theorem row_slice {w : World} {g c : Nat} {q : List (BitVec 8)} {t : TypeId} (hg : Row w g t (bs q)) (hc : q.length ≤ c) : Slice w (.slice (some ⟨g, 0, none⟩) q.length c) q := bytes_slice hg hc
theorem grown_of_below {w w' : World} (hb : Below w.heap.size w w') (row : Option Nat) : w.grownBy w' row := ⟨hb.os, hb.tape, hb.output, hb.size, fun k hk _ => hb.block k hk⟩
theorem below_of_grown {w w' : World} {base : Nat} {row : Option Nat} (h : w.grownBy w' row) (hr : ∀ g, row = some g → base ≤ g) (hs : base ≤ w.heap.size) : Below base w w' :=
  ⟨h.os, h.tape, h.output, h.size, fun k hk => h.block k (by omega) (fun e => by have := hr k e.symm; omega)⟩
theorem wpList_append_slice {w : World} {ops : Array Oper} {rest : List Oper} {o : Oper} {a : Act} {Q : Exit → Act → World → Prop} (hgd : o.guard = none) (s x : Operand)
    (ho : o.op = .call { callee := .builtin .append, args := #[s, x], argTypes := #[35, 35] }) (base : Nat)
    (v : Value) (n : Nat) (xs : List Value) (hs : a.eval s = v) (hown : w.ownsRow base 5 1 v n xs)
    (A : Option Addr) (m c : Nat) (q : List (BitVec 8)) (hx : a.eval x = .slice A m c) (hq : Slice w (.slice A m c) q) (hA : A = none → c = 0)
    (hnm : n + m ≤ 1000000000) (hbase : base ≤ w.heap.size)
    (h : ∀ v' w', w'.ownsRow base 5 1 v' (n + m) (xs ++ bytesV q) → Below base w w' → wpList Tryd.prog ops Q rest (a.put o.dst v') w') : wpList Tryd.prog ops Q (o :: rest) a w := by
  obtain ⟨i0, hi, hz0, hz1, hz2⟩ := info_parts info_u8
  have hblk : ∀ g, v.ownBlock = some g → base ≤ g := fun g hg => (hown.lt g hg).1
  obtain ⟨A', c', e1, _, h3⟩ := hq
  injection e1 with e1 e2 e3
  subst e1 e2 e3
  cases A with
  | none =>
    have hq0 : q = [] := by
      apply Decidable.byContradiction
      intro hne
      obtain ⟨_, _, h4, _⟩ := h3 hne
      cases h4
    subst hq0
    obtain rfl := hA rfl
    refine wpList_append_own_none hgd s x 35 ho base 5 i0 1 Tryd.underlying35 hi v n xs hs hown hx ?_
    exact h v w (by simpa [bytesV] using hown) (Below.refl _ _)
  | some ad =>
    refine wpList_append_own w hgd s x 35 ho base 5 i0 (.int .u8 0) 1 1 Tryd.underlying35 hi hz0 hz1 hz2 rfl (by omega) v n xs hs hown ad q.length c (bytesV q) hx (by simp [bytesV]) ?_ (one_bytesV q) (by unfold maxLen; omega) (by omega) hbase ?_
    · intro j u hu
      have hne : q ≠ [] := by rintro rfl; simp [bytesV] at hu
      obtain ⟨b, o, h4, _, h6⟩ := h3 hne
      have h4 := Option.some.inj h4
      subst h4
      rw [Addr.add_mid]
      simp only [bytesV, List.getElem?_map, Option.map_eq_some_iff] at hu
      obtain ⟨y, hy, rfl⟩ := hu
      exact h6 j y hy
    · intro v' w' h1 h2 _
      exact h v' w' h1 (below_of_grown h2 hblk hbase)
theorem own_empty (w : World) : (w.alloc (.cells #[] 5)).ownsRow w.heap.size 5 1 (.slice (some ⟨w.heap.size, 0, none⟩) 0 0) 0 [] :=
  ⟨rfl, .inr ⟨w.heap.size, 0, #[], rfl, Nat.le_refl _, heap_alloc_new w _, Nat.le_refl _, by unfold maxLen; omega, rfl, rfl⟩⟩
theorem owns_call {w w' : World} {base e size n : Nat} {v : Value} {xs : List Value} (h : w.ownsRow base e size v n xs) (hb : Below w.heap.size w w') : w'.ownsRow base e size v n xs := by
  refine h.kept (row := none) (grown_of_below hb none) ?_
  cases hv : v.ownBlock with
  | none => exact .inl rfl
  | some g => exact .inr (by simp)
/- a slice of the call's own that is not empty: where it lies and what it holds -/
theorem owns_form {w : World} {base n : Nat} {e : TypeId} {v : Value} {q : List (BitVec 8)} (h : w.ownsRow base e 1 v n (bytesV q)) (hq : 0 < q.length) :
    ∃ g cap, v = .slice (some ⟨g, 0, none⟩) q.length cap ∧ base ≤ g ∧ g < w.heap.size ∧ q.length ≤ cap ∧ ∀ j x, q[j]? = some x → w.cell? ⟨g, j, none⟩ = some (.int .u8 (bd x)) := by
  have hn : q.length = n := by have := h.1; simp [bytesV] at this; omega
  subst hn
  rcases h.2 with ⟨_, h0⟩ | ⟨g, cap, cur, rfl, hg, hh, hc, _⟩
  · omega
  · refine ⟨g, cap, rfl, hg, (h.lt g rfl).2, hc, fun j x hx => ?_⟩
    have hj := (List.getElem?_eq_some_iff.1 hx).1
    have := h.cellAt j (by omega)
    rw [this]
    simp [bytesV, hx]
theorem parts1 {w : World} {v : Value} {q : List (BitVec 8)} (h : Slice w v q) : Parts (w.alloc (.cells #[v] 35)) (.slice (some ⟨w.heap.size, 0, none⟩) 1 1) [q] := by
  have r := Row.fresh w 35 #[v]
  refine ⟨_, 1, rfl, fun _ => ⟨w.heap.size, 0, rfl, r.lt, fun k p hp => ?_⟩⟩
  match k, hp with
  | 0, hp => obtain rfl : q = p := by simpa using hp
             exact ⟨v, r.get rfl, h.below ((Below.refl _ _).alloc (Nat.le_refl _) _) (Nat.le_refl _)⟩
theorem Slice.take {w : World} {A : Option Addr} {c k : Nat} {q : List (BitVec 8)} (h : Slice w (.slice A q.length c) q) (hk : k ≤ q.length) : Slice w (.slice A k c) (q.take k) := by
  obtain ⟨A', c', h1, h2, h3⟩ := h
  injection h1 with h1 _ h1c
  subst h1 h1c
  refine ⟨A, c, by rw [List.length_take, Nat.min_eq_left hk], by rw [List.length_take]; omega, fun hne => ?_⟩
  obtain ⟨b, o, h4, h5, h6⟩ := h3 (by intro e; subst e; simp at hne)
  refine ⟨b, o, h4, h5, fun j x hx => h6 j x ?_⟩
  rw [List.getElem?_take] at hx
  split at hx
  · exact hx
  · cases hx
theorem Slice.drop {w : World} {A : Option Addr} {c k : Nat} {q : List (BitVec 8)} (h : Slice w (.slice A q.length c) q) (hk : k ≤ q.length) : Slice w (.slice (if c = k then A else A.map (·.add k)) (q.length - k) (c - k)) (q.drop k) := by
  obtain ⟨A', c', h1, h2, h3⟩ := h
  injection h1 with h1 _ h1c
  subst h1 h1c
  refine ⟨_, c - k, by rw [List.length_drop], by rw [List.length_drop]; omega, fun hne => ?_⟩
  have hl : 0 < (q.drop k).length := List.length_pos_iff.2 hne
  rw [List.length_drop] at hl
  obtain ⟨b, o, h4, h5, h6⟩ := h3 (by intro e; subst e; simp at hne)
  subst h4
  refine ⟨b, o + k, ?_, h5, fun j x hx => ?_⟩
  · rw [if_neg (by omega)]; simp [Addr.add_mid]
  · rw [List.getElem?_drop] at hx
    rw [Nat.add_assoc]; exact h6 _ x hx
theorem Parts.below {w w' : World} {B : Nat} {v : Value} {ps : List (List (BitVec 8))} (h : Parts w v ps) (hb : Below B w w') (hB : w.heap.size ≤ B) : Parts w' v ps := by
  obtain ⟨A, c, h1, h3⟩ := h
  refine ⟨A, c, h1, fun hne => ?_⟩
  obtain ⟨b, o, h4, h5, h6⟩ := h3 hne
  refine ⟨b, o, h4, Nat.lt_of_lt_of_le h5 hb.size, fun k q hq => ?_⟩
  obtain ⟨u, h7, h8⟩ := h6 k q hq
  exact ⟨u, (hb.cell (p := ⟨b, o + k, none⟩) (Nat.lt_of_lt_of_le h5 hB)).trans h7, h8.below hb hB⟩
/- a slice of bytes that may be appended: nil has no room -/
def Item (w : World) (u : Value) (q : List (BitVec 8)) : Prop := ∃ A c, u = .slice A q.length c ∧ Slice w (.slice A q.length c) q ∧ (A = none → c = 0) ∧ q.length ≤ maxLen
def Hand (w : World) (v : Value) (ps : List (List (BitVec 8))) : Prop :=
  ∃ A c, v = .slice A ps.length c ∧ (ps ≠ [] → ∃ b o, A = some ⟨b, o, none⟩ ∧ b < w.heap.size ∧ ∀ k q, ps[k]? = some q → ∃ u, w.cell? ⟨b, o + k, none⟩ = some u ∧ Item w u q)
theorem Item.below {w w' : World} {B : Nat} {u : Value} {q : List (BitVec 8)} (h : Item w u q) (hb : Below B w w') (hB : w.heap.size ≤ B) : Item w' u q := by
  obtain ⟨A, c, h1, h2, h3⟩ := h
  exact ⟨A, c, h1, h2.below hb hB, h3⟩
theorem Item.slice {w : World} {u : Value} {q : List (BitVec 8)} (h : Item w u q) : Slice w u q := by
  obtain ⟨A, c, rfl, h2, h3⟩ := h
  exact h2
theorem Hand.below {w w' : World} {B : Nat} {v : Value} {ps : List (List (BitVec 8))} (h : Hand w v ps) (hb : Below B w w') (hB : w.heap.size ≤ B) : Hand w' v ps := by
  obtain ⟨A, c, h1, h3⟩ := h
  refine ⟨A, c, h1, fun hne => ?_⟩
  obtain ⟨b, o, h4, h5, h6⟩ := h3 hne
  refine ⟨b, o, h4, Nat.lt_of_lt_of_le h5 hb.size, fun k q hq => ?_⟩
  obtain ⟨u, h7, h8⟩ := h6 k q hq
  exact ⟨u, (hb.cell (p := ⟨b, o + k, none⟩) (Nat.lt_of_lt_of_le h5 hB)).trans h7, h8.below hb hB⟩
theorem info_sl : (Tryd.prog.info? 35).map (fun i => (i.zero, i.size, i.bytes)) = some (some (.slice none 0 0), 1, 24) := by kernel_rfl
theorem own_mono {w : World} {base base' e size n : Nat} {v : Value} {xs : List Value} (h : w.ownsRow base e size v n xs) (hb : base' ≤ base) : w.ownsRow base' e size v n xs := by
  refine ⟨h.1, ?_⟩
  rcases h.2 with hn | ⟨g, cap, cur, h1, h2, h3⟩
  · exact .inl hn
  · exact .inr ⟨g, cap, cur, h1, Nat.le_trans hb h2, h3⟩
theorem own_ne {w : World} {b b' n m : Nat} {v u : Value} {xs ys : List Value} (h : w.ownsRow b 35 1 v n xs) (h' : w.ownsRow b' 5 1 u m ys) : u.ownBlock = none ∨ u.ownBlock ≠ v.ownBlock := by
  rcases h'.2 with ⟨rfl, _⟩ | ⟨g', cap', cur', rfl, _, h3', _⟩
  · exact .inl rfl
  · refine .inr fun e => ?_
    rcases h.2 with ⟨rfl, _⟩ | ⟨g, cap, cur, rfl, _, h3, _⟩
    · cases e
    · injection e with e
      change g' = g at e
      subst e
      rw [h3] at h3'
      injection h3' with h3'
      injection h3' with _ h3'
      cases h3'
theorem own_form {w : World} {b e n : Nat} {v : Value} {xs : List Value} (h : w.ownsRow b e 1 v n xs) : ∃ A c, v = .slice A n c := by
  rcases h.2 with ⟨rfl, rfl⟩ | ⟨g, cap, cur, rfl, _⟩
  · exact ⟨none, 0, rfl⟩
  · exact ⟨_, cap, rfl⟩
theorem own_slice {w : World} {base : Nat} {v : Value} {q : List (BitVec 8)} (h : w.ownsRow base 5 1 v q.length (bytesV q)) : Slice w v q := by
  by_cases hq : q = []
  · subst hq
    rcases h.2 with ⟨rfl, _⟩ | ⟨g, cap, cur, rfl, _⟩
    · exact ⟨none, 0, rfl, by simp, fun h => absurd rfl h⟩
    · exact ⟨_, cap, rfl, by simp, fun h => absurd rfl h⟩
  · obtain ⟨g, cap, rfl, _, h3, h4, h5⟩ := owns_form h (List.length_pos_iff.2 hq)
    exact ⟨_, cap, rfl, h4, fun _ => ⟨g, 0, rfl, h3, fun j x hx => by rw [Nat.zero_add]; exact h5 j x hx⟩⟩
/- slices of the call's own, in a slice of the call's own -/
def Owns (w wr : World) (v : Value) (ps : List (List (BitVec 8))) : Prop :=
  ∃ vs : List Value, wr.ownsRow w.heap.size 35 1 v ps.length vs ∧ Below w.heap.size w wr ∧ ∀ (j : Nat) (q : List (BitVec 8)), ps[j]? = some q → ∃ u, vs[j]? = some u ∧ wr.ownsRow w.heap.size 5 1 u q.length (bytesV q)
theorem Owns.parts {w wr : World} {v : Value} {ps : List (List (BitVec 8))} (h : Owns w wr v ps) : Parts wr v ps := by
  obtain ⟨vs, h1, _, h3⟩ := h
  rcases h1.2 with ⟨rfl, h0⟩ | ⟨g, cap, cur, rfl, hg, hh, hc, _⟩
  · obtain rfl : ps = [] := List.length_eq_zero_iff.1 h0
    exact ⟨none, 0, rfl, fun h => absurd rfl h⟩
  · refine ⟨_, cap, rfl, fun _ => ⟨g, 0, rfl, (h1.lt g rfl).2, fun k q hq => ?_⟩⟩
    obtain ⟨u, hu, ho⟩ := h3 k q hq
    have hk := (List.getElem?_eq_some_iff.1 hq).1
    exact ⟨u, by rw [Nat.zero_add, h1.cellAt k (by omega), hu], own_slice ho⟩
theorem Owns.step {w wr w4 w6 : World} {v v1 v2 : Value} {ps : List (List (BitVec 8))} {k : Nat} {vs : List Value} (hk : k < ps.length)
    (h1 : wr.ownsRow w.heap.size 35 1 v k vs) (hb : Below w.heap.size w wr) (h3 : ∀ (j : Nat) (q : List (BitVec 8)), (ps.take k)[j]? = some q → ∃ u, vs[j]? = some u ∧ wr.ownsRow w.heap.size 5 1 u q.length (bytesV q))
    (own1 : w4.ownsRow wr.heap.size 5 1 v1 ps[k].length (bytesV ps[k])) (hb4 : Below wr.heap.size (wr.alloc (.cells #[] 5)) w4)
    (own2 : w6.ownsRow w.heap.size 35 1 v2 (k + 1) (vs ++ [v1])) (hg : (w4.alloc (.cells #[v1] 35)).grownBy w6 v.ownBlock) : Owns w w6 v2 (ps.take (k + 1)) := by
  have hb5 : Below wr.heap.size wr (w4.alloc (.cells #[v1] 35)) := (((Below.refl wr.heap.size wr).alloc (Nat.le_refl _) _).trans hb4).alloc (Nat.le_trans (by simp) hb4.size) _
  have o5 := owns_call h1 hb5
  have hl : vs.length = k := by simpa using h1.1
  refine ⟨vs ++ [v1], by rw [List.length_take, Nat.min_eq_left (by omega)]; exact own2, ?_, fun j q hq => ?_⟩
  · refine (hb.trans (hb5.mono hb.size)).trans (below_of_grown hg (fun g e => (o5.lt g e).1) (Nat.le_trans hb.size hb5.size))
  · have hj := (List.getElem?_eq_some_iff.1 hq).1
    rw [List.length_take] at hj
    by_cases hjk : j < k
    · obtain ⟨u, hu, ho⟩ := h3 j q (by rw [List.getElem?_take, if_pos (by omega)] at hq; rw [List.getElem?_take, if_pos hjk]; exact hq)
      have ho5 := owns_call ho hb5
      exact ⟨u, by rw [List.getElem?_append_left (by omega)]; exact hu, ho5.kept hg (own_ne o5 ho5)⟩
    · obtain rfl : j = k := by omega
      obtain rfl : ps[j] = q := by rw [List.getElem?_take, if_pos (by omega), List.getElem?_eq_getElem hk] at hq; injection hq
      have ho5 := (own_mono own1 hb.size).alloc (.cells #[v1] 35)
      exact ⟨v1, by rw [List.getElem?_append_right (by omega), hl]; simp, ho5.kept hg (own_ne o5 ho5)⟩
/- the slices of a slice of slices, as a list -/
theorem Parts.list {w : World} {v : Value} {ps : List (List (BitVec 8))} (h : Parts w v ps) : ∃ A c, ∃ us : List Value, v = .slice A ps.length c ∧ us.length = ps.length ∧ (∀ ad, A = some ad → ∀ (j : Nat) (u : Value), us[j]? = some u → w.cell? (ad.add j) = some u) ∧ (A = none → ps = []) ∧
    (∀ u ∈ us, Value.oneCell' u = true) ∧ ∀ (k : Nat) (q : List (BitVec 8)), ps[k]? = some q → ∃ u, us[k]? = some u ∧ Slice w u q := by
  obtain ⟨A, c, rfl, h3⟩ := h
  by_cases hne : ps = []
  · subst hne
    exact ⟨A, c, [], rfl, rfl, fun _ _ j u hu => (by simp at hu), fun _ => rfl, fun u hu => (by cases hu), fun k q hq => (by simp at hq)⟩
  · obtain ⟨b, o, rfl, _, hc⟩ := h3 hne
    have hk : ∀ k, k < ps.length → ∃ u, w.cell? ⟨b, o + k, none⟩ = some u ∧ Slice w u (ps.getD k []) := fun k hk => hc k _ (by rw [List.getD_eq_getElem?_getD, List.getElem?_eq_getElem hk]; rfl)
    refine ⟨some ⟨b, o, none⟩, c, (List.range ps.length).map fun k => (w.cell? ⟨b, o + k, none⟩).getD undef, rfl, by simp, ?_, fun h => (by cases h), ?_, ?_⟩
    · rintro ad e j u hu
      injection e with e
      subst e
      simp only [List.getElem?_map, Option.map_eq_some_iff] at hu
      obtain ⟨k, hk1, rfl⟩ := hu
      have hlt : j < ps.length := by have := (List.getElem?_eq_some_iff.1 hk1).1; simpa using this
      obtain rfl : j = k := by simpa [hlt] using hk1
      obtain ⟨u, hu, _⟩ := hk _ hlt
      rw [Addr.add_mid, hu]; rfl
    · intro u hu
      simp only [List.mem_map, List.mem_range] at hu
      obtain ⟨k, hlt, rfl⟩ := hu
      obtain ⟨u, hu, A', c', rfl, _⟩ := hk k hlt
      rw [hu]; rfl
    · intro k q hq
      have hlt := (List.getElem?_eq_some_iff.1 hq).1
      obtain ⟨u, hu, hs⟩ := hk k hlt
      rw [List.getD_eq_getElem?_getD, hq] at hs
      exact ⟨u, by simp [hlt, hu], hs⟩
theorem parts_own {w : World} {base g N cap : Nat} {bv : Value} {us : List Value} {l : List (BitVec 8)} {ps : List (List (BitVec 8))} (h : w.ownsRow base 35 1 (.slice (some ⟨g, 0, none⟩) N cap) N ([bv] ++ us)) (hN : N = ps.length + 1)
    (hb : Slice w bv l) (hu : ∀ (k : Nat) (q : List (BitVec 8)), ps[k]? = some q → ∃ u, us[k]? = some u ∧ Slice w u q) : Parts w (.slice (some ⟨g, 0, none⟩) N cap) (l :: ps) := by
  subst hN
  refine ⟨_, cap, rfl, fun _ => ⟨g, 0, rfl, (h.lt g rfl).2, fun k q hq => ?_⟩⟩
  have hk := (List.getElem?_eq_some_iff.1 hq).1
  rw [Nat.zero_add, h.cellAt k (by simp at hk; omega)]
  cases k with
  | zero => obtain rfl : l = q := by simpa using hq
            exact ⟨bv, rfl, hb⟩
  | succ k => obtain ⟨u, hu1, hu2⟩ := hu k q (by simpa using hq)
              exact ⟨u, by simpa using hu1, hu2⟩
theorem below_only {w w' : World} {g B : Nat} (h : w.grownBy w' (some g)) (hg : B ≤ g) (hs : B ≤ w.heap.size) : Below B w w' := below_of_grown h (fun k e => by injection e with e; omega) hs
/- the slices of a slice of slices that was handed in, as a list -/
theorem Hand.list {w : World} {v : Value} {ps : List (List (BitVec 8))} (h : Hand w v ps) : ∃ A c, ∃ us : List Value, v = .slice A ps.length c ∧ us.length = ps.length ∧ (∀ ad, A = some ad → ∀ (j : Nat) (u : Value), us[j]? = some u → w.cell? (ad.add j) = some u) ∧ (A = none → ps = []) ∧
    (∀ u ∈ us, Value.oneCell' u = true) ∧ ∀ (k : Nat) (q : List (BitVec 8)), ps[k]? = some q → ∃ u, us[k]? = some u ∧ Item w u q := by
  obtain ⟨A, c, rfl, h3⟩ := h
  by_cases hne : ps = []
  · subst hne
    exact ⟨A, c, [], rfl, rfl, fun _ _ j u hu => (by simp at hu), fun _ => rfl, fun u hu => (by cases hu), fun k q hq => (by simp at hq)⟩
  · obtain ⟨b, o, rfl, _, hc⟩ := h3 hne
    have hk : ∀ k, k < ps.length → ∃ u, w.cell? ⟨b, o + k, none⟩ = some u ∧ Item w u (ps.getD k []) := fun k hk => hc k _ (by rw [List.getD_eq_getElem?_getD, List.getElem?_eq_getElem hk]; rfl)
    refine ⟨some ⟨b, o, none⟩, c, (List.range ps.length).map fun k => (w.cell? ⟨b, o + k, none⟩).getD undef, rfl, by simp, ?_, fun h => (by cases h), ?_, ?_⟩
    · rintro ad e j u hu
      injection e with e
      subst e
      simp only [List.getElem?_map, Option.map_eq_some_iff] at hu
      obtain ⟨k, hk1, rfl⟩ := hu
      have hlt : j < ps.length := by have := (List.getElem?_eq_some_iff.1 hk1).1; simpa using this
      obtain rfl : j = k := by simpa [hlt] using hk1
      obtain ⟨u, hu, _⟩ := hk _ hlt
      rw [Addr.add_mid, hu]; rfl
    · intro u hu
      simp only [List.mem_map, List.mem_range] at hu
      obtain ⟨k, hlt, rfl⟩ := hu
      obtain ⟨u, hu, A', c', rfl, _⟩ := hk k hlt
      rw [hu]; rfl
    · intro k q hq
      have hlt := (List.getElem?_eq_some_iff.1 hq).1
      obtain ⟨u, hu, hs⟩ := hk k hlt
      rw [List.getD_eq_getElem?_getD, hq] at hs
      exact ⟨u, by simp [hlt, hu], hs⟩
theorem hand_own {w : World} {base g N cap : Nat} {bv : Value} {us : List Value} {l : List (BitVec 8)} {ps : List (List (BitVec 8))} (h : w.ownsRow base 35 1 (.slice (some ⟨g, 0, none⟩) N cap) N ([bv] ++ us)) (hN : N = ps.length + 1)
    (hb : Item w bv l) (hu : ∀ (k : Nat) (q : List (BitVec 8)), ps[k]? = some q → ∃ u, us[k]? = some u ∧ Item w u q) : Hand w (.slice (some ⟨g, 0, none⟩) N cap) (l :: ps) := by
  subst hN
  refine ⟨_, cap, rfl, fun _ => ⟨g, 0, rfl, (h.lt g rfl).2, fun k q hq => ?_⟩⟩
  have hk := (List.getElem?_eq_some_iff.1 hq).1
  rw [Nat.zero_add, h.cellAt k (by simp at hk; omega)]
  cases k with
  | zero => obtain rfl : l = q := by simpa using hq
            exact ⟨bv, rfl, hb⟩
  | succ k => obtain ⟨u, hu1, hu2⟩ := hu k q (by simpa using hq)
              exact ⟨u, by simpa using hu1, hu2⟩
theorem wpList_append_parts {w : World} {ops : Array Oper} {rest : List Oper} {o : Oper} {a : Act} {Q : Exit → Act → World → Prop} (hgd : o.guard = none) (s x : Operand)
    (ho : o.op = .call { callee := .builtin .append, args := #[s, x], argTypes := #[67, 67] }) (base : Nat)
    (v : Value) (n : Nat) (xs : List Value) (hs : a.eval s = v) (hown : w.ownsRow base 35 1 v n xs)
    (A : Option Addr) (m c : Nat) (us : List Value) (hx : a.eval x = .slice A m c) (hul : us.length = m) (huc : ∀ ad, A = some ad → ∀ (j : Nat) (u : Value), us[j]? = some u → w.cell? (ad.add j) = some u) (hun : A = none → m = 0 ∧ c = 0) (huo : ∀ u ∈ us, Value.oneCell' u = true)
    (hnm : n + m ≤ 1000000000) (hbase : base ≤ w.heap.size)
    (h : ∀ v' w', w'.ownsRow base 35 1 v' (n + m) (xs ++ us) → Below base w w' → wpList Tryd.prog ops Q rest (a.put o.dst v') w') : wpList Tryd.prog ops Q (o :: rest) a w := by
  obtain ⟨i1, hi1, hz10, hz11, hz12⟩ := info_parts info_sl
  have hblk : ∀ g, v.ownBlock = some g → base ≤ g := fun g hg => (hown.lt g hg).1
  cases A with
  | none =>
    obtain ⟨rfl, rfl⟩ := hun rfl
    obtain rfl : us = [] := List.length_eq_zero_iff.1 hul
    refine wpList_append_own_none hgd s x 67 ho base 35 i1 1 Tryd.underlying67 hi1 v n xs hs hown hx ?_
    exact h v w (by simpa using hown) (Below.refl _ _)
  | some ad =>
    refine wpList_append_own w hgd s x 67 ho base 35 i1 (.slice none 0 0) 1 24 Tryd.underlying67 hi1 hz10 hz11 hz12 rfl (by omega) v n xs hs hown ad m c us hx (by omega) (huc ad rfl) huo (by unfold maxLen; omega) (by omega) hbase ?_
    intro v' w' h1 h2 _
    exact h v' w' h1 (below_of_grown h2 hblk hbase)
theorem own_lit1 (w : World) (u : Value) : (w.alloc (.cells #[u] 35)).ownsRow w.heap.size 35 1 (.slice (some ⟨w.heap.size, 0, none⟩) 1 1) 1 [u] :=
  World.ownsRow_lit w #[u] 1 (Nat.le_refl _) (by unfold maxLen; omega) rfl
theorem own_nil {w : World} {base e n : Nat} {v : Value} {xs : List Value} (h : w.ownsRow base e 1 v n xs) : ∀ m c, v = .slice none m c → c = 0 := by
  intro m c e
  rcases h.2 with ⟨rfl, _⟩ | ⟨g, cap, cur, rfl, _⟩
  · injection e with _ _ e; exact e.symm
  · injection e with e _ _; cases e
theorem bs_toList (l : List (BitVec 8)) : (bs l).toList = bytesV l := by simp [bs, bytesV]
theorem wp_append_slice {w : World} {o : Oper} {a : Act} {K : Act → World → Prop} {Q : Exit → Act → World → Prop} (s x : Operand)
    (ho : o.op = .call { callee := .builtin .append, args := #[s, x], argTypes := #[35, 35] }) (base : Nat)
    (v : Value) (n : Nat) (xs : List Value) (hs : a.eval s = v) (hown : w.ownsRow base 5 1 v n xs)
    (A : Option Addr) (m c : Nat) (q : List (BitVec 8)) (hx : a.eval x = .slice A m c) (hq : Slice w (.slice A m c) q) (hA : A = none → c = 0)
    (hnm : n + m ≤ 1000000000) (hbase : base ≤ w.heap.size)
    (h : ∀ v' w', w'.ownsRow base 5 1 v' (n + m) (xs ++ bytesV q) → Below base w w' → K (a.put o.dst v') w') : o.wp Tryd.prog a w K Q := by
  obtain ⟨i0, hi, hz0, hz1, hz2⟩ := info_parts info_u8
  have hblk : ∀ g, v.ownBlock = some g → base ≤ g := fun g hg => (hown.lt g hg).1
  obtain ⟨A', c', e1, _, h3⟩ := hq
  injection e1 with e1 e2 e3
  subst e1 e2 e3
  cases A with
  | none =>
    have hq0 : q = [] := by
      apply Decidable.byContradiction
      intro hne
      obtain ⟨_, _, h4, _⟩ := h3 hne
      cases h4
    subst hq0
    obtain rfl := hA rfl
    have hrun := run_append_owned_none (P := Tryd.prog) (w := w) base 35 o.type 5 i0 1 Tryd.underlying35 hi v n xs hown
    unfold Oper.wp
    simp only [List.length_nil] at hx
    simp [execOp, ho, resolve, invoke, builtin, hs, hx, hrun, Result.andThen]
    exact h v w (by simpa [bytesV] using hown) (Below.refl _ _)
  | some ad =>
    refine wp_append_own w s x 35 ho base 5 i0 (.int .u8 0) 1 1 Tryd.underlying35 hi hz0 hz1 hz2 rfl (by omega) v n xs hs hown ad q.length c (bytesV q) hx (by simp [bytesV]) ?_ (one_bytesV q) (by unfold maxLen; omega) (by omega) hbase ?_
    · intro j u hu
      have hne : q ≠ [] := by rintro rfl; simp [bytesV] at hu
      obtain ⟨b, o, h4, _, h6⟩ := h3 hne
      have h4 := Option.some.inj h4
      subst h4
      rw [Addr.add_mid]
      simp only [bytesV, List.getElem?_map, Option.map_eq_some_iff] at hu
      obtain ⟨y, hy, rfl⟩ := hu
      exact h6 j y hy
    · intro v' w' h1 h2 _
      exact h v' w' h1 (below_of_grown h2 hblk hbase)
theorem grown_setRow (w : World) (g : Nat) (cs : Array Value) : w.grownBy (w.setRow g cs) (some g) :=
  ⟨rfl, rfl, rfl, by rw [size_setRow]; exact Nat.le_refl _, fun k _ hk => setRow_other w g k cs (fun e => hk (by rw [e]))⟩
def modK (k : Int) (n : Nat) : Nat := ((k.tmod n + n) % n).toNat
theorem modK_lt (k : Int) (n : Nat) (h : 0 < n) : modK k n < n := by
  unfold modK
  have h1 := Int.emod_nonneg (k.tmod n + n) (show (n : Int) ≠ 0 by omega)
  have h2 := Int.emod_lt_of_pos (k.tmod n + n) (show (0 : Int) < n by omega)
  omega
theorem Hand.parts {w : World} {v : Value} {ps : List (List (BitVec 8))} (h : Hand w v ps) : Parts w v ps := by
  obtain ⟨A, c, h1, h3⟩ := h
  refine ⟨A, c, h1, fun hne => ?_⟩
  obtain ⟨b, o, h4, h5, h6⟩ := h3 hne
  refine ⟨b, o, h4, h5, fun k q hq => ?_⟩
  obtain ⟨u, h7, h8⟩ := h6 k q hq
  exact ⟨u, h7, h8.slice⟩
end Go.Proofs.YtbhmgnhiglpmhaaDoor

/- SHA-256 as plain functions on lists of bit vectors: the words of a block, the rounds, a block's turn, the pad, a message's hash. No program is named here. -/
set_option maxRecDepth 4000
namespace Go.Proofs.YtbhmgnhiglpmhaaDoor
def rr (x : BitVec 32) (n : Nat) : BitVec 32 := x <<< (32 - n) ||| x >>> n
def ss0 (x : BitVec 32) : BitVec 32 := rr x 7 ^^^ rr x 18 ^^^ x >>> 3
def ss1 (x : BitVec 32) : BitVec 32 := rr x 17 ^^^ rr x 19 ^^^ x >>> 10
def bs0 (x : BitVec 32) : BitVec 32 := rr x 2 ^^^ rr x 13 ^^^ rr x 22
def bs1 (x : BitVec 32) : BitVec 32 := rr x 6 ^^^ rr x 11 ^^^ rr x 25
def rnd1 (e f g h kw : BitVec 32) : BitVec 32 := h + bs1 e + (e &&& f ^^^ ~~~e &&& g) + kw
def rnd2 (a b c : BitVec 32) : BitVec 32 := bs0 a + (a &&& b ^^^ a &&& c ^^^ b &&& c)

/- four bytes as a word, the higher first -/
def word (a b c d : BitVec 8) : BitVec 32 := (a.setWidth 32 <<< 24 ||| b.setWidth 32 <<< 16) ||| c.setWidth 32 <<< 8 ||| d.setWidth 32
def wordAt (l : List (BitVec 8)) (t : Nat) : BitVec 32 := word (l.getD (4 * t) 0) (l.getD (4 * t + 1) 0) (l.getD (4 * t + 2) 0) (l.getD (4 * t + 3) 0)
def next (l : List (BitVec 32)) (t : Nat) : BitVec 32 := ss1 (l.getD (t - 2) 0) + l.getD (t - 7) 0 + ss0 (l.getD (t - 15) 0) + l.getD (t - 16) 0
def zeros (n : Nat) : List (BitVec 32) := List.replicate n 0
/- the words of a block as they stand behind k steps -/
def sched (b : List (BitVec 8)) : Nat → List (BitVec 32)
  | 0 => zeros 64
  | t + 1 => (sched b t).set t (if t < 16 then wordAt b t else next (sched b t) t)
theorem length_sched (b : List (BitVec 8)) (k : Nat) : (sched b k).length = 64 := by
  induction k with
  | zero => simp [sched, zeros]
  | succ k ih => simp [sched, ih]

/- the document's K -/
def kk : List (BitVec 32) := [0x428a2f98#32, 0x71374491#32, 0xb5c0fbcf#32, 0xe9b5dba5#32, 0x3956c25b#32, 0x59f111f1#32, 0x923f82a4#32, 0xab1c5ed5#32, 0xd807aa98#32, 0x12835b01#32, 0x243185be#32, 0x550c7dc3#32, 0x72be5d74#32, 0x80deb1fe#32, 0x9bdc06a7#32, 0xc19bf174#32, 0xe49b69c1#32, 0xefbe4786#32, 0x0fc19dc6#32, 0x240ca1cc#32, 0x2de92c6f#32, 0x4a7484aa#32, 0x5cb0a9dc#32, 0x76f988da#32, 0x983e5152#32, 0xa831c66d#32, 0xb00327c8#32, 0xbf597fc7#32, 0xc6e00bf3#32, 0xd5a79147#32, 0x06ca6351#32, 0x14292967#32, 0x27b70a85#32, 0x2e1b2138#32, 0x4d2c6dfc#32, 0x53380d13#32, 0x650a7354#32, 0x766a0abb#32, 0x81c2c92e#32, 0x92722c85#32, 0xa2bfe8a1#32, 0xa81a664b#32, 0xc24b8b70#32, 0xc76c51a3#32, 0xd192e819#32, 0xd6990624#32, 0xf40e3585#32, 0x106aa070#32, 0x19a4c116#32, 0x1e376c08#32, 0x2748774c#32, 0x34b0bcb5#32, 0x391c0cb3#32, 0x4ed8aa4a#32, 0x5b9cca4f#32, 0x682e6ff3#32, 0x748f82ee#32, 0x78a5636f#32, 0x84c87814#32, 0x8cc70208#32, 0x90befffa#32, 0xa4506ceb#32, 0xbef9a3f7#32, 0xc67178f2#32]
def rnd (s : List (BitVec 32)) (kw : BitVec 32) : List (BitVec 32) :=
  match s with
  | [a, b, c, d, e, f, g, h] => [rnd1 e f g h kw + rnd2 a b c, a, b, c, d + rnd1 e f g h kw, e, f, g]
  | _ => s
def rounds (h w : List (BitVec 32)) : Nat → List (BitVec 32)
  | 0 => h
  | t + 1 => rnd (rounds h w t) (kk.getD t 0 + w.getD t 0)
def plus (h s : List (BitVec 32)) : List (BitVec 32) := List.zipWith (· + ·) h s
/- H behind one more block -/
def turn (h : List (BitVec 32)) (b : List (BitVec 8)) : List (BitVec 32) := plus h (rounds h (sched b 64) 64)
theorem length_kk : kk.length = 64 := rfl
theorem length_rnd (s : List (BitVec 32)) (kw : BitVec 32) : (rnd s kw).length = s.length := by
  unfold rnd; split <;> rfl
theorem length_rounds (h w : List (BitVec 32)) (t : Nat) : (rounds h w t).length = h.length := by
  induction t with
  | zero => rfl
  | succ t ih => rw [rounds, length_rnd, ih]
theorem length_turn (h : List (BitVec 32)) (b : List (BitVec 8)) : (turn h b).length = h.length := by
  simp [turn, plus, length_rounds]
theorem list8 {α : Type} (l : List α) (h : l.length = 8) : ∃ a b c d e f g i, l = [a, b, c, d, e, f, g, i] := by
  match l, h with
  | [a, b, c, d, e, f, g, i], _ => exact ⟨a, b, c, d, e, f, g, i, rfl⟩
theorem length_plus (h s : List (BitVec 32)) (hl : h.length = 8) (hs : s.length = 8) : (plus h s).length = 8 := by simp [plus, hl, hs]
/- h, its first k words increased by those of s -/
def part (h s : List (BitVec 32)) (k : Nat) : List (BitVec 32) := (plus h s).take k ++ h.drop k
theorem part_zero (h s : List (BitVec 32)) : part h s 0 = h := by simp [part]
theorem part_all (h s : List (BitVec 32)) (hl : h.length = 8) (hs : s.length = 8) : part h s 8 = plus h s := by
  have : (plus h s).length = 8 := by simp [plus, hl, hs]
  rw [part, List.take_of_length_le (by omega), List.drop_of_length_le (by omega), List.append_nil]
theorem length_part (h s : List (BitVec 32)) (k : Nat) (hl : h.length = 8) (hs : s.length = 8) (hk : k ≤ 8) : (part h s k).length = 8 := by
  simp [part, plus, hl, hs]; omega
theorem part_get (h s : List (BitVec 32)) (k : Nat) (hl : h.length = 8) (hs : s.length = 8) (hk : k < 8) : (part h s k).getD k 0 = h.getD k 0 := by
  have h1 : ((plus h s).take k).length = k := by simp [plus, hl, hs]; omega
  rw [part, List.getD_eq_getElem?_getD, List.getElem?_append_right (by omega), h1, List.getElem?_drop]
  simp
theorem part_set (h s : List (BitVec 32)) (k : Nat) (hl : h.length = 8) (hs : s.length = 8) (hk : k < 8) : (part h s k).set k (h.getD k 0 + s.getD k 0) = part h s (k + 1) := by
  have h1 : ((plus h s).take k).length = k := by simp [plus, hl, hs]; omega
  have h2 : (plus h s).length = 8 := by simp [plus, hl, hs]
  have e : (plus h s)[k]'(by omega) = h.getD k 0 + s.getD k 0 := by
    simp [plus, List.getElem?_eq_getElem (show k < h.length by omega), List.getElem?_eq_getElem (show k < s.length by omega)]
  rw [part, part, List.set_append_right _ _ (by omega), h1, Nat.sub_self, List.take_succ_eq_append_getElem (by omega), e, List.append_assoc]
  rw [List.drop_eq_getElem_cons (show k < h.length by omega), List.set_cons_zero]
  rfl
end Go.Proofs.YtbhmgnhiglpmhaaDoor

set_option maxRecDepth 4000
namespace Go.Proofs.YtbhmgnhiglpmhaaDoor
open Go Go.RowKit
theorem shr3_wd (x : BitVec 32) : wd x / (8 : Int) = wd (x >>> 3) := shr_wd x 3
theorem shr10_wd (x : BitVec 32) : wd x / (1024 : Int) = wd (x >>> 10) := shr_wd x 10
theorem xor_shr3 (y x : BitVec 32) : bits .xor .u32 (wd y) (wd x / (8 : Int)) = wd (y ^^^ x >>> 3) := by rw [shr3_wd, xor_wd]
theorem xor_shr10 (y x : BitVec 32) : bits .xor .u32 (wd y) (wd x / (1024 : Int)) = wd (y ^^^ x >>> 10) := by rw [shr10_wd, xor_wd]
attribute [local go_sem] xor_wd and_wd or_wd add_wd shr_wd

theorem and31 (n : Nat) (h : 0 < n) (h2 : n < 32) : bits .and .u64 (IntKind.u64.wrap (-(n : Int))) 31 = ((32 - n : Nat) : Int) := by
  have hw : IntKind.u64.wrap (-(n : Int)) = ((18446744073709551616 - n : Nat) : Int) := by
    rw [show IntKind.u64.wrap (-(n : Int)) = (-(n : Int)) % 18446744073709551616 from by simp [IntKind.wrap, IntKind.bits, IntKind.signed]]
    omega
  have e : bits .and .u64 ((18446744073709551616 - n : Nat) : Int) ((31 : Nat) : Int) = _ := u64_and_nat (18446744073709551616 - n) 31 (by omega) (by omega)
  rw [hw]; refine e.trans ?_; rw [nat_mask5]
  omega
theorem rot_any (x : BitVec 32) (n : Nat) (w : World) (h : 0 < n) (h2 : n < 32) :
    Calls Tryd.prog 63 #[.int .u32 (wd x), .int .i64 (-(n : Int))] w fun e w' => e = .returned (.int .u32 (wd (x <<< (32 - n) ||| x >>> n))) ∧ w = w' := by
  have e1 := and31 n h h2
  have e2 : Op.shift .shl .u32 (wd x) .u64 ((32 - n : Nat) : Int) = pure (.int .u32 (wd (x <<< (32 - n)))) := by
    rw [shift_shl _ _ _ _ (by omega) (by simp [IntKind.bits]; omega), Int.toNat_natCast, shl_wd]
  have e3 : IntKind.u64.wrap (32 - ((32 - n : Nat) : Int)) = (n : Int) := by
    rw [show IntKind.u64.wrap (32 - ((32 - n : Nat) : Int)) = (32 - ((32 - n : Nat) : Int)) % 18446744073709551616 from by simp [IntKind.wrap, IntKind.bits, IntKind.signed]]
    omega
  generalize 32 - n = m at *
  go_enter Tryd.func63, Tryd.ntmps63
  go_wp2
  go_ret
  exact ⟨rfl, rfl⟩

theorem sharight_any (x : BitVec 32) (n : Nat) (w : World) (h : 0 < n) (h2 : n < 32) :
    Calls Tryd.prog 62 #[.int .u32 (wd x), .int .i64 (n : Int)] w fun e w' => e = .returned (.int .u32 (wd (x <<< (32 - n) ||| x >>> n))) ∧ w = w' := by
  go_enter Tryd.func62, Tryd.ntmps62
  go_wp2_with fail
  refine (rot_any _ _ _ h h2).mono ?_
  rintro e w' ⟨rfl, rfl⟩
  go_wp2
  go_ret
  exact ⟨rfl, rfl⟩

theorem right_lit (x : BitVec 32) (k : Int) (n : Nat) (w : World) (hk : k = (n : Int)) (h : 0 < n) (h2 : n < 32) :
    Calls Tryd.prog 62 #[.int .u32 (wd x), .int .i64 k] w fun e w' => e = .returned (.int .u32 (wd (rr x n))) ∧ w = w' := by
  subst hk; exact sharight_any x n w h h2

theorem ss1_any (x : BitVec 32) (w : World) :
    Calls Tryd.prog 58 #[.int .u32 (wd x)] w fun e w' => e = .returned (.int .u32 (wd (ss1 x))) ∧ w = w' := by
  go_enter Tryd.func58, Tryd.ntmps58
  go_wp2_with fail
  refine (right_lit _ 17 17 _ rfl (by omega) (by omega)).mono ?_; rintro e w' ⟨rfl, rfl⟩
  go_wp2_with fail
  refine (right_lit _ 19 19 _ rfl (by omega) (by omega)).mono ?_; rintro e w' ⟨rfl, rfl⟩
  go_wp2
  go_ret
  exact ⟨ret_int (xor_shr10 _ _), rfl⟩
theorem ss0_any (x : BitVec 32) (w : World) :
    Calls Tryd.prog 59 #[.int .u32 (wd x)] w fun e w' => e = .returned (.int .u32 (wd (ss0 x))) ∧ w = w' := by
  go_enter Tryd.func59, Tryd.ntmps59
  go_wp2_with fail
  refine (right_lit _ 7 7 _ rfl (by omega) (by omega)).mono ?_; rintro e w' ⟨rfl, rfl⟩
  go_wp2_with fail
  refine (right_lit _ 18 18 _ rfl (by omega) (by omega)).mono ?_; rintro e w' ⟨rfl, rfl⟩
  go_wp2
  go_ret
  exact ⟨ret_int (xor_shr3 _ _), rfl⟩
theorem bs1_any (x : BitVec 32) (w : World) :
    Calls Tryd.prog 60 #[.int .u32 (wd x)] w fun e w' => e = .returned (.int .u32 (wd (bs1 x))) ∧ w = w' := by
  go_enter Tryd.func60, Tryd.ntmps60
  go_wp2_with fail
  refine (right_lit _ 6 6 _ rfl (by omega) (by omega)).mono ?_; rintro e w' ⟨rfl, rfl⟩
  go_wp2_with fail
  refine (right_lit _ 11 11 _ rfl (by omega) (by omega)).mono ?_; rintro e w' ⟨rfl, rfl⟩
  go_wp2_with fail
  refine (right_lit _ 25 25 _ rfl (by omega) (by omega)).mono ?_; rintro e w' ⟨rfl, rfl⟩
  go_wp2
  go_ret
  exact ⟨rfl, rfl⟩
theorem bs0_any (x : BitVec 32) (w : World) :
    Calls Tryd.prog 61 #[.int .u32 (wd x)] w fun e w' => e = .returned (.int .u32 (wd (bs0 x))) ∧ w = w' := by
  go_enter Tryd.func61, Tryd.ntmps61
  go_wp2_with fail
  refine (right_lit _ 2 2 _ rfl (by omega) (by omega)).mono ?_; rintro e w' ⟨rfl, rfl⟩
  go_wp2_with fail
  refine (right_lit _ 13 13 _ rfl (by omega) (by omega)).mono ?_; rintro e w' ⟨rfl, rfl⟩
  go_wp2_with fail
  refine (right_lit _ 22 22 _ rfl (by omega) (by omega)).mono ?_; rintro e w' ⟨rfl, rfl⟩
  go_wp2
  go_ret
  exact ⟨rfl, rfl⟩
end Go.Proofs.YtbhmgnhiglpmhaaDoor

set_option maxRecDepth 4000
namespace Go.Proofs.YtbhmgnhiglpmhaaDoor
open Go Go.RowKit
attribute [local go_sem] xor_wd and_wd or_wd add_wd shr_wd not_wd signed_u32
theorem round_any (a b c d e f g h kw : BitVec 32) (w : World) :
    Calls Tryd.prog 55 #[.agg #[.int .u32 (wd a), .int .u32 (wd b), .int .u32 (wd c), .int .u32 (wd d), .int .u32 (wd e), .int .u32 (wd f), .int .u32 (wd g), .int .u32 (wd h)], .int .u32 (wd kw)] w fun x w' =>
      x = .returned (.agg #[.int .u32 (wd (rnd1 e f g h kw + rnd2 a b c)), .int .u32 (wd a), .int .u32 (wd b), .int .u32 (wd c), .int .u32 (wd (d + rnd1 e f g h kw)), .int .u32 (wd e), .int .u32 (wd f), .int .u32 (wd g)]) ∧ Below w.heap.size w w' := by
  go_enter Tryd.func55, Tryd.ntmps55
  go_wp2
  go_quiet (fail)
  go_wp2_with (first | (go_at_call 60; refine (bs1_any _ _).mono ?_; rintro e w' ⟨rfl, rfl⟩) | (go_at_call 61; refine (bs0_any _ _).mono ?_; rintro e w' ⟨rfl, rfl⟩))
  refine bodyPost_ret (v := .agg #[.int .u32 (wd (rnd1 e f g h kw + rnd2 a b c)), .int .u32 (wd a), .int .u32 (wd b), .int .u32 (wd c), .int .u32 (wd (d + rnd1 e f g h kw)), .int .u32 (wd e), .int .u32 (wd f), .int .u32 (wd g)]) ?_ rfl ⟨rfl, ?_⟩
  · simp [results, Tryd.results55, go_sem, rnd1, rnd2]
  · repeat (with_reducible refine Below.setCell ?_ (by simp) _)
    refine below_drewN ?_ _
    exact ((Below.refl _ _).alloc (Nat.le_refl _) _).alloc (by simp) _
end Go.Proofs.YtbhmgnhiglpmhaaDoor

set_option maxRecDepth 4000
namespace Go.Proofs.YtbhmgnhiglpmhaaDoor
open Go Go.RowKit
attribute [local go_sem] xor_wd and_wd or_wd add_wd shr_wd not_wd signed_u32 conv_bd shl24_wd shl16_wd shl8_wd
theorem size_w : (Tryd.prog.info? 98).map (·.size) = some 64 := by kernel_rfl
/- the world behind the three allocations -/
theorem start {w : World} {l : List (BitVec 8)} {z : Array Value} (hz : z = ws (zeros 64)) :
    ∃ k : Nat, k ≤ 16 ∧ Value.int .i64 0 = .int .i64 k ∧ Row (((w.alloc (.cells (bs l) 80)).alloc (.cells z 98)).alloc (.cells z 98)) w.heap.size 80 (bs l) ∧ Row (((w.alloc (.cells (bs l) 80)).alloc (.cells z 98)).alloc (.cells z 98)) (w.heap.size + 1) 98 (ws (zeros 64)) ∧ Row (((w.alloc (.cells (bs l) 80)).alloc (.cells z 98)).alloc (.cells z 98)) (w.heap.size + 1 + 1) 98 (ws (sched l k)) ∧ Below w.heap.size w (((w.alloc (.cells (bs l) 80)).alloc (.cells z 98)).alloc (.cells z 98)) := by
  subst hz
  have e1 : w.heap.size + 1 = (w.alloc (.cells (bs l) 80)).heap.size := by simp
  have e2 : w.heap.size + 1 + 1 = ((w.alloc (.cells (bs l) 80)).alloc (.cells (ws (zeros 64)) 98)).heap.size := by simp
  refine ⟨0, by omega, rfl, ((Row.fresh _ _ _).alloc _).alloc _, ?_, ?_, ((((Below.refl _ _).alloc (Nat.le_refl _) _).alloc (by simp) _)).alloc (by simp; omega) _⟩
  · rw [e1]; exact (Row.fresh _ _ _).alloc _
  · rw [e2]; exact Row.fresh _ _ _
theorem sched_step {w wr : World} {l : List (BitVec 8)} {k : Nat} {x : BitVec 32} (hx : x = if k < 16 then wordAt l k else next (sched l k) k)
    (hr0 : Row wr w.heap.size 80 (bs l)) (hr1 : Row wr (w.heap.size + 1) 98 (ws (zeros 64))) (hr2 : Row wr (w.heap.size + 1 + 1) 98 (ws (sched l k))) (hb : Below w.heap.size w wr) :
    Row (wr.setCell ⟨w.heap.size + 1 + 1, k, none⟩ (.int .u32 (wd x))).drew w.heap.size 80 (bs l) ∧ Row (wr.setCell ⟨w.heap.size + 1 + 1, k, none⟩ (.int .u32 (wd x))).drew (w.heap.size + 1) 98 (ws (zeros 64)) ∧
      Row (wr.setCell ⟨w.heap.size + 1 + 1, k, none⟩ (.int .u32 (wd x))).drew (w.heap.size + 1 + 1) 98 (ws (sched l (k + 1))) ∧ Below w.heap.size w (wr.setCell ⟨w.heap.size + 1 + 1, k, none⟩ (.int .u32 (wd x))).drew := by
  refine ⟨(hr0.far (by simp; omega) _).drew, (hr1.far (by simp) _).drew, ?_, (hb.setCell (by simp; omega) _).drew⟩
  have h := (hr2.put k (.int .u32 (wd x))).drew
  rw [set_ws, hx] at h
  subst hx
  exact h
theorem far4 {wr : World} {g i k : Nat} {v x : Value} (h : wr.cell? ⟨g, i, none⟩ = some x) (hne : i ≠ k) : (wr.setCell ⟨g, k, none⟩ v).drew.cell? ⟨g, i, none⟩ = some x :=
  (World.cell?_setCell_other wr ⟨g, k, none⟩ ⟨g, i, none⟩ v (fun e => hne (by injection e with _ h2; exact h2.symm))).trans h
set_option maxHeartbeats 800000 in
theorem sched_any (l : List (BitVec 8)) (hl : l.length = 64) (w : World) :
    Calls Tryd.prog 54 #[.agg (bs l)] w fun e w' => e = .returned (.agg (ws (sched l 64))) ∧ Below w.heap.size w w' := by
  go_enter Tryd.func54, Tryd.ntmps54
  go_wp2
  go_loopw [6] (fun i wr => ∃ k : Nat, k ≤ 16 ∧ i = .int .i64 k ∧ Row wr w.heap.size 80 (bs l) ∧ Row wr (w.heap.size + 1) 98 (ws (zeros 64)) ∧ Row wr (w.heap.size + 1 + 1) 98 (ws (sched l k)) ∧ Below w.heap.size w wr) (fun i _ => 16 - (intOf i).toNat)
  case atStart => exact start rfl
  case round =>
    obtain ⟨k, hk, rfl, hr0, hr1, hr2, hb⟩ := hrel
    by_cases hlt : k < 16
    · have c0 := hr0.get (get_bs l (4 * k) (by omega))
      have c1 := hr0.get (get_bs l (4 * k + 1) (by omega))
      have c2 := hr0.get (get_bs l (4 * k + 2) (by omega))
      have c3 := hr0.get (get_bs l (4 * k + 3) (by omega))
      have ct := hr2.get (get_ws (sched l k) k (by rw [length_sched]; omega))
      have cf := hr2.free k
      have z0 := i64_id (4 * (k : Int)) (by omega) (by omega)
      have z1 := i64_id (4 * (k : Int) + 1) (by omega) (by omega)
      have z2 := i64_id (4 * (k : Int) + 2) (by omega) (by omega)
      have z3 := i64_id (4 * (k : Int) + 3) (by omega) (by omega)
      have t0 : (4 * (k : Int)).toNat = 4 * k := by omega
      have t1 : (4 * (k : Int) + 1).toNat = 4 * k + 1 := by omega
      have t2 : (4 * (k : Int) + 2).toNat = 4 * k + 2 := by omega
      have t3 : (4 * (k : Int) + 3).toNat = 4 * k + 3 := by omega
      go_wp2
      go_region
      go_wp2
      go_roundw
      case rel => exact ⟨k + 1, by omega, by go_num, sched_step (by rw [if_pos hlt]; simp [wordAt, word]) hr0 hr1 hr2 hb⟩
      case measure => simp [intOf]; omega
    · obtain rfl : k = 16 := by omega
      clear hlt hk
      go_wp2
      go_loopw [5] (fun i wr => ∃ k : Nat, 16 ≤ k ∧ k ≤ 64 ∧ i = .int .i64 k ∧ Row wr w.heap.size 80 (bs l) ∧ Row wr (w.heap.size + 1) 98 (ws (zeros 64)) ∧ Row wr (w.heap.size + 1 + 1) 98 (ws (sched l k)) ∧ Below w.heap.size w wr) (fun i _ => 64 - (intOf i).toNat)
      case atStart => exact ⟨16, by omega, by omega, rfl, hr0, hr1, hr2, hb⟩
      case round =>
        clear hr0 hr1 hr2 hb
        obtain ⟨k, hk0, hk, rfl, hr0, hr1, hr2, hb⟩ := hrel
        by_cases hlt : k < 64
        · have c0 := hr2.get (get_ws (sched l k) (k - 2) (by rw [length_sched]; omega))
          have c1 := hr2.get (get_ws (sched l k) (k - 7) (by rw [length_sched]; omega))
          have c2 := hr2.get (get_ws (sched l k) (k - 15) (by rw [length_sched]; omega))
          have c3 := hr2.get (get_ws (sched l k) (k - 16) (by rw [length_sched]; omega))
          have ct := hr2.get (get_ws (sched l k) k (by rw [length_sched]; omega))
          have cf := hr2.free k
          have z0 := i64_id ((k : Int) - 2) (by omega) (by omega)
          have z1 := i64_id ((k : Int) - 7) (by omega) (by omega)
          have z2 := i64_id ((k : Int) - 15) (by omega) (by omega)
          have z3 := i64_id ((k : Int) - 16) (by omega) (by omega)
          have t0 : ((k : Int) - 2).toNat = k - 2 := by omega
          have t1 : ((k : Int) - 7).toNat = k - 7 := by omega
          have t2 : ((k : Int) - 15).toNat = k - 15 := by omega
          have t3 : ((k : Int) - 16).toNat = k - 16 := by omega
          have b0 : (0 : Int) ≤ (k : Int) - 2 := by omega
          have b1 : (0 : Int) ≤ (k : Int) - 7 := by omega
          have b2 : (0 : Int) ≤ (k : Int) - 15 := by omega
          have b3 : (0 : Int) ≤ (k : Int) - 16 := by omega
          have d0 : (2 : Int) ≤ (k : Int) := by omega
          have d1 : (7 : Int) ≤ (k : Int) := by omega
          have d2 : (15 : Int) ≤ (k : Int) := by omega
          have d3 : (16 : Int) ≤ (k : Int) := by omega
          have f0 : (k : Int) - 2 < 64 := by omega
          have f1 : (k : Int) - 7 < 64 := by omega
          have f2 : (k : Int) - 15 < 64 := by omega
          have f3 : (k : Int) - 16 < 64 := by omega
          have f4 : (k : Int) < 64 := by omega
          have n0 : ¬ k = k - 2 := by omega
          have m0 : ¬ k - 2 = k := by omega
          have n1 : ¬ k = k - 7 := by omega
          have m1 : ¬ k - 7 = k := by omega
          have n2 : ¬ k = k - 15 := by omega
          have m2 : ¬ k - 15 = k := by omega
          have n3 : ¬ k = k - 16 := by omega
          have m3 : ¬ k - 16 = k := by omega
          go_wp2_with fail
          go_region_held3 (fun W => W.cell? ⟨w.heap.size + 1 + 1, k - 2, none⟩ = some (.int .u32 (wd ((sched l k).getD (k - 2) 0))) ∧ W.cell? ⟨w.heap.size + 1 + 1, k - 7, none⟩ = some (.int .u32 (wd ((sched l k).getD (k - 7) 0))) ∧ W.cell? ⟨w.heap.size + 1 + 1, k - 15, none⟩ = some (.int .u32 (wd ((sched l k).getD (k - 15) 0))) ∧ W.cell? ⟨w.heap.size + 1 + 1, k - 16, none⟩ = some (.int .u32 (wd ((sched l k).getD (k - 16) 0)))) (first | exact ⟨far4 c0 m0, far4 c1 m1, far4 c2 m2, far4 c3 m3⟩ | exact ⟨c0, c1, c2, c3⟩ | go_keep)
            (first | (go_at_call 58; refine (ss1_any _ _).mono ?_; rintro e w' ⟨rfl, rfl⟩) | (go_at_call 59; refine (ss0_any _ _).mono ?_; rintro e w' ⟨rfl, rfl⟩))
          go_wp2
          go_roundw
          case rel =>
            (repeat apply Exists.intro)
            refine ⟨⟨k + 1, ?_, ?_, ?_, sched_step (by rw [if_neg (by omega)]; simp [next]) hr0 hr1 hr2 hb⟩, rfl⟩
            · omega
            · omega
            · go_num
          case measure => simp [intOf]; omega
        · obtain rfl : k = 64 := by omega
          clear hlt hk hk0
          have hs0 : (Tryd.prog.info? 98).map (·.size) = some (ws (sched l 64)).size := by rw [size_ws, length_sched]; exact size_w
          have hs1 : (ws (zeros 64)).size = (ws (sched l 64)).size := by rw [size_ws, size_ws, length_sched]; rfl
          have H0 := Lib.hid hs0
          have H1 := Lib.hid hs1
          clear hs0 hs1
          go_wp2_with (first | (refine wpList_load_row rfl 98 _ rfl (w.heap.size + 1 + 1) rfl 98 (ws (sched l 64)) (0, 0) _ hr2 Tryd.underlying98 rfl H0.out ?_) | (refine wpList_store_row rfl 98 _ _ rfl (w.heap.size + 1) (ws (sched l 64)) rfl rfl 98 (ws (zeros 64)) hr1 H0.out H1.out (one_ws _) ?_))
          refine bodyPost_ret (v := .agg (ws (sched l 64))) (results_cell_row Tryd.results54 _ _ (w.heap.size + 1) 98 (ws (sched l 64)) (0, 0) _ rfl (hr1.setRow _) Tryd.underlying98 rfl (by rw [size_ws, length_sched]; exact size_w)) rfl ⟨rfl, below_setRow hb (by omega) _⟩
end Go.Proofs.YtbhmgnhiglpmhaaDoor

set_option maxRecDepth 4000
namespace Go.Proofs.YtbhmgnhiglpmhaaDoor
open Go Go.RowKit
attribute [local go_sem] xor_wd and_wd or_wd add_wd shr_wd not_wd signed_u32

/- the table of the document's K, where the program keeps it -/
def Tab (w : World) : Prop := ∀ i, i < 64 → w.cell? ⟨0, i, none⟩ = some (.int .u32 (wd (kk.getD i 0)))
theorem Tab.pos {w : World} (h : Tab w) : 0 < w.heap.size := by
  have := World.block_lt_of_cell? w _ (h 0 (by omega)); exact this
theorem Tab.below {w w' : World} {B : Nat} (h : Tab w) (hb : Below B w w') (h0 : 0 < B) : Tab w' := fun i hi => (hb.cell (p := ⟨0, i, none⟩) h0).trans (h i hi)

theorem size_h : (Tryd.prog.info? 78).map (·.size) = some 8 := by kernel_rfl
theorem size_b : (Tryd.prog.info? 80).map (·.size) = some 64 := by kernel_rfl

theorem round_ws (a b c d e f g h kw : BitVec 32) (w : World) :
    Calls Tryd.prog 55 #[.agg #[.int .u32 (wd a), .int .u32 (wd b), .int .u32 (wd c), .int .u32 (wd d), .int .u32 (wd e), .int .u32 (wd f), .int .u32 (wd g), .int .u32 (wd h)], .int .u32 (wd kw)] w fun x w' =>
      x = .returned (.agg (ws (rnd [a, b, c, d, e, f, g, h] kw))) ∧ Below w.heap.size w w' := by
  have e : ws (rnd [a, b, c, d, e, f, g, h] kw) = #[.int .u32 (wd (rnd1 e f g h kw + rnd2 a b c)), .int .u32 (wd a), .int .u32 (wd b), .int .u32 (wd c), .int .u32 (wd (d + rnd1 e f g h kw)), .int .u32 (wd e), .int .u32 (wd f), .int .u32 (wd g)] := by simp [ws, rnd]
  rw [e]; exact round_any _ _ _ _ _ _ _ _ _ _
set_option maxHeartbeats 800000 in
theorem turn_any (h : List (BitVec 32)) (l : List (BitVec 8)) (hh : h.length = 8) (hl : l.length = 64) (w : World) (hT : Tab w) :
    Calls Tryd.prog 49 #[.agg (ws h), .agg (bs l)] w fun e w' => e = .returned (.agg (ws (turn h l))) ∧ Below w.heap.size w w' := by
  have hs33 : (Tryd.prog.info? 78).map (·.size) = some (ws h).size := by rw [size_ws, hh]; exact size_h
  have hs34 : (Tryd.prog.info? 80).map (·.size) = some (bs l).size := by rw [size_bs, hl]; exact size_b
  have hs48 : (Tryd.prog.info? 98).map (·.size) = some (ws (sched l 64)).size := by rw [size_ws, length_sched]; exact size_w
  have H33 := Lib.hid hs33
  have H34 := Lib.hid hs34
  have H48 := Lib.hid hs48
  have HT := Lib.hid hT
  have HH := Lib.hid hh
  have HL := Lib.hid hl
  clear hs33 hs34 hs48 hT hh hl
  go_enter Tryd.func49, Tryd.ntmps49
  go_wp2_with (refine wpList_load_row rfl 80 _ rfl (w.heap.size + 1) rfl 80 (bs l) (0, 0) _ (row3b w _ _ _ _) Tryd.underlying80 rfl H34.out ?_)
  refine (sched_any l HL.out _).mono ?_
  rintro e w1 ⟨rfl, hb1⟩
  have ra := (row3a w 78 (ws h) (.cells (bs l) 80) (.cells (ws (zeros 8)) 78)).call hb1
  have rc := (row3c w 78 (ws (zeros 8)) (.cells (ws h) 78) (.cells (bs l) 80)).call hb1
  have hb : Below w.heap.size w w1 := (below3 w _ _ _).trans (hb1.mono (by simp; omega))
  clear hb1
  go_wp2_with (first | (refine wpList_store_row rfl 98 _ _ rfl w1.heap.size (ws (sched l 64)) rfl rfl 98 _ (Row.fresh _ _ _) H48.out (by rw [size_ws, length_sched]; rfl) (one_ws _) ?_; rw [World.setRow_alloc_new]) | (refine wpList_load_row rfl 78 _ rfl w.heap.size rfl 78 (ws h) (0, 0) _ (ra.alloc _) Tryd.underlying78 rfl H33.out ?_) | (refine wpList_store_row rfl 78 _ _ rfl (w1.heap.size + 1) (ws h) rfl rfl 78 _ (row2b _ _ _ _) H33.out (by rw [size_ws, HH.out]; rfl) (one_ws _) ?_; rw [setRow_alloc2]))
  go_loopw [12] (fun i wr => ∃ k : Nat, k ≤ 64 ∧ i = .int .i64 k ∧ Row wr w.heap.size 78 (ws h) ∧ Row wr (w.heap.size + 1 + 1) 78 (ws (zeros 8)) ∧ Row wr w1.heap.size 98 (ws (sched l 64)) ∧ Row wr (w1.heap.size + 1) 78 (ws (rounds h (sched l 64) k)) ∧ Below w.heap.size w wr) (fun i _ => 64 - (intOf i).toNat)
  case atStart => exact ⟨0, by omega, rfl, (ra.alloc _).alloc _, (rc.alloc _).alloc _, (Row.fresh _ _ _).alloc _, row2b _ _ _ _, (hb.alloc hb.size _).alloc (by have := hb.size; simp; omega) _⟩
  case round =>
    have hz := hb.size
    have hzc := rc.lt
    clear ra rc hb
    obtain ⟨k, hk, rfl, ra, rc, rw_, rs, hb⟩ := hrel
    by_cases hlt : k < 64
    · obtain ⟨a, b, c, d, e, f, g, x, hs⟩ := list8 (rounds h (sched l 64) k) (by rw [length_rounds]; exact HH.out)
      have ct := (HT.out.below hb HT.out.pos) k hlt
      have cw := rw_.get (get_ws (sched l 64) k (by rw [length_sched]; omega))
      have HS := Lib.hid hs
      rw [hs] at rs
      clear hs
      have c0 : wr.cell? ⟨w1.heap.size + 1, 0, none⟩ = some (.int .u32 (wd a)) := rs.get rfl
      have c1 : wr.cell? ⟨w1.heap.size + 1, 1, none⟩ = some (.int .u32 (wd b)) := rs.get rfl
      have c2 : wr.cell? ⟨w1.heap.size + 1, 2, none⟩ = some (.int .u32 (wd c)) := rs.get rfl
      have c3 : wr.cell? ⟨w1.heap.size + 1, 3, none⟩ = some (.int .u32 (wd d)) := rs.get rfl
      have c4 : wr.cell? ⟨w1.heap.size + 1, 4, none⟩ = some (.int .u32 (wd e)) := rs.get rfl
      have c5 : wr.cell? ⟨w1.heap.size + 1, 5, none⟩ = some (.int .u32 (wd f)) := rs.get rfl
      have c6 : wr.cell? ⟨w1.heap.size + 1, 6, none⟩ = some (.int .u32 (wd g)) := rs.get rfl
      have c7 : wr.cell? ⟨w1.heap.size + 1, 7, none⟩ = some (.int .u32 (wd x)) := rs.get rfl
      have f0 : (0 : Int) ≤ (k : Int) := by omega
      have f4 : (k : Int) < 64 := by omega
      go_wp2_with fail
      go_still_tail 8, (by kernel_rfl)
      change wpList _ _ _ _ _ wr.drew
      clear c0 c1 c2 c3 c4 c5 c6 c7 ct cw
      go_wp2_with (first | (go_at_call 55; refine (round_ws a b c d e f g x _ _).mono ?_; rintro z w2 ⟨rfl, hb2⟩) | (refine wpList_store_row rfl 78 _ _ rfl (w1.heap.size + 1) _ rfl rfl 78 _ (rs.drew.call hb2) (by rw [size_ws, length_rnd]; exact size_h) (by rw [size_ws, size_ws, length_rnd]) (one_ws _) ?_))
      go_roundw
      case rel =>
        refine ⟨k + 1, by omega, by go_num, (ra.drew.call hb2).setRow_far (by omega) _, (rc.drew.call hb2).setRow_far (by omega) _, (rw_.drew.call hb2).setRow_far (by omega) _, ?_, below_setRow (hb.drew.trans (hb2.mono hb.size)) (by omega) _⟩
        rw [rounds, HS.out]
        exact (rs.drew.call hb2).setRow _
      case measure => simp [intOf]; omega
    · obtain rfl : k = 64 := by omega
      clear hlt hk rw_
      have HR : Hid ((rounds h (sched l 64) 64).length = 8) := Lib.hid (by rw [length_rounds]; exact HH.out)
      have HF : Hid (turn h l = plus h (rounds h (sched l 64) 64)) := Lib.hid rfl
      generalize rounds h (sched l 64) 64 = s at *
      go_wp2
      go_loopw [25] (fun i wr => ∃ k : Nat, k ≤ 8 ∧ i = .int .i64 k ∧ Row wr w.heap.size 78 (ws (part h s k)) ∧ Row wr (w.heap.size + 1 + 1) 78 (ws (zeros 8)) ∧ Row wr (w1.heap.size + 1) 78 (ws s) ∧ Below w.heap.size w wr) (fun i _ => 8 - (intOf i).toNat)
      case atStart => exact ⟨0, by omega, rfl, by rw [part_zero]; exact ra, rc, rs, hb⟩
      case round =>
        clear ra rc rs hb
        obtain ⟨k, hk, rfl, ra, rc, rs, hb⟩ := hrel
        by_cases hlt : k < 8
        · have c0 := ra.get (get_ws (part h s k) k (by rw [length_part h s k HH.out HR.out hk]; exact hlt))
          rw [part_get h s k HH.out HR.out hlt] at c0
          have cf := ra.free k
          have c1 := rs.get (get_ws s k (by rw [HR.out]; exact hlt))
          go_wp2
          go_region
          go_wp2
          go_roundw
          case rel =>
            refine ⟨k + 1, by omega, by go_num, ?_, (rc.far (by simp; omega) _).drew, (rs.far (by simp; omega) _).drew, (hb.setCell (Nat.le_refl _) _).drew⟩
            have h1 := (ra.put k (.int .u32 (wd (h.getD k 0 + s.getD k 0)))).drew
            rw [set_ws, part_set h s k HH.out HR.out hlt] at h1
            exact h1
          case measure => simp [intOf]; omega
        · obtain rfl : k = 8 := by omega
          rw [part_all h s HH.out HR.out] at ra
          have HS8 : Hid ((Tryd.prog.info? 78).map (·.size) = some (ws (plus h s)).size) := Lib.hid (by rw [size_ws, length_plus h s HH.out HR.out]; exact size_h)
          clear hlt hk
          go_wp2_with (first | (refine wpList_load_row rfl 78 _ rfl w.heap.size rfl 78 (ws (plus h s)) (0, 0) _ ra Tryd.underlying78 rfl HS8.out ?_) | (refine wpList_store_row rfl 78 _ _ rfl (w.heap.size + 1 + 1) (ws (plus h s)) rfl rfl 78 _ rc HS8.out (by rw [size_ws, size_ws, length_plus h s HH.out HR.out]; rfl) (one_ws _) ?_))
          rw [HF.out]
          exact bodyPost_ret (v := .agg (ws (plus h s))) (results_cell_row Tryd.results49 _ _ (w.heap.size + 1 + 1) 78 (ws (plus h s)) (0, 0) _ rfl (rc.setRow _) Tryd.underlying78 rfl HS8.out) rfl ⟨rfl, below_setRow hb (by omega) _⟩
end Go.Proofs.YtbhmgnhiglpmhaaDoor

/- Arguments opened: a slice of bytes, a list of them, an array of integers. -/
set_option maxRecDepth 4000
namespace Go.Proofs.YtbhmgnhiglpmhaaDoor
open Go Go.ChangeShapes Go.WideShapes Go.ChangeAt Go.RowKit
theorem ownK : ownKnob Tryd.prog.godebug = none := by kernel_rfl
theorem laidOutT : laidOutB Tryd.prog = true := by kernel_rfl
theorem okWide_arr {P : Program} {w : World} {r : Reach} {base n : Nat} {t e : TypeId} {v : Value} (ht : P.underlying t = some (.array n e)) (h : Value.okWide P w r base t v) : ∃ cs, v = .agg cs := by
  simp only [Value.okWide, ht] at h
  cases v <;> simp_all
def intIn : Value → Int
  | .int _ z => z
  | _ => 0
end Go.Proofs.YtbhmgnhiglpmhaaDoor

/- What the rows' list says of the table of round words, and a world for the rows' witness in which the table lies as its initialiser lays it. -/
set_option maxRecDepth 4000
namespace Go.Proofs.YtbhmgnhiglpmhaaDoor
open Go Go.ChangeShapes Go.WideShapes Go.ChangeAt Go.RowKit
theorem gTab : Tryd.prog.globalNamed "tollhouse/sha.roundWords" = some 0 := by kernel_rfl
theorem gTabType : (Tryd.prog.globals[0]?).map (·.type) = some 98 := by kernel_rfl
theorem cellsW : Tryd.prog.cellsOf 98 = 64 := by kernel_rfl
theorem cellsU : Tryd.prog.cellsOf 77 = 1 := by kernel_rfl
def laidOne : List (String × DataW Unit) := [("tollhouse/sha.roundWords", Rows.laid_tollhouse_sha_roundWords)]
theorem tab_of_laid {W : World} (h : laidMetH Tryd.prog laidOne W) : Tab W := by
  have hT : Lib.TabIs Tryd.prog W "tollhouse/sha.roundWords" .u32 (kk.map wd) := Lib.tabIs_of_head (rest := []) gTab gTabType Tryd.underlying98 Tryd.underlying77 cellsU cellsW h
  intro i hi
  have hc := hT.cell gTab i (by rw [List.length_map, length_kk]; exact hi)
  rw [hc]
  have hk : i < kk.length := by rw [length_kk]; exact hi
  simp [hk]
noncomputable def laidWorld (os : Os) : World :=
  { World.holding Tryd.prog os ⟨#[], #[], []⟩ with heap := (World.holding Tryd.prog os ⟨#[], #[], []⟩).heap.modify 0 fun
      | .cells _ t frozen => .cells (ws kk) t frozen
      | o => o }
end Go.Proofs.YtbhmgnhiglpmhaaDoor

/- A hash's bytes, the pad, a message's hash, as plain functions on lists of bit vectors. -/
set_option maxRecDepth 4000
namespace Go.Proofs.YtbhmgnhiglpmhaaDoor

/- a word's four bytes, the higher first; a hash's bytes -/
def fourH (x : BitVec 32) : List (BitVec 8) := [(x >>> 24).setWidth 8, (x >>> 16).setWidth 8, (x >>> 8).setWidth 8, x.setWidth 8]
def dig (h : List (BitVec 32)) : List (BitVec 8) := h.flatMap fourH
theorem length_dig (h : List (BitVec 32)) : (dig h).length = 4 * h.length := by
  induction h with
  | nil => rfl
  | cons x r ih => simp [dig, fourH] at ih ⊢; omega
def digTo (h : List (BitVec 32)) (k : Nat) : List (BitVec 8) := dig (h.take k) ++ zer (32 - 4 * k)
theorem digTo_zero (h : List (BitVec 32)) : digTo h 0 = zer 32 := by simp [digTo, dig]
theorem digTo_all (h : List (BitVec 32)) (hl : h.length = 8) : digTo h 8 = dig h := by
  simp [digTo, zer, List.take_of_length_le (show h.length ≤ 8 by omega)]
theorem length_digTo (h : List (BitVec 32)) (k : Nat) (hl : h.length = 8) (hk : k ≤ 8) : (digTo h k).length = 32 := by
  simp [digTo, length_dig, zer, hl]; omega
theorem digTo_set (h : List (BitVec 32)) (k : Nat) (hl : h.length = 8) (hk : k < 8) :
    ((((digTo h k).set (4 * k) ((h.getD k 0 >>> 24).setWidth 8)).set (4 * k + 1) ((h.getD k 0 >>> 16).setWidth 8)).set (4 * k + 2) ((h.getD k 0 >>> 8).setWidth 8)).set (4 * k + 3) ((h.getD k 0).setWidth 8) = digTo h (k + 1) := by
  have h1 : (dig (h.take k)).length = 4 * k := by rw [length_dig]; simp [hl]; omega
  have hz : zer (32 - 4 * k) = 0 :: 0 :: 0 :: 0 :: zer (32 - 4 * (k + 1)) := by
    rw [show 32 - 4 * k = (32 - 4 * (k + 1)) + 4 by omega]; simp [zer, List.replicate_succ]
  have ht : dig (h.take (k + 1)) = dig (h.take k) ++ fourH (h.getD k 0) := by
    have e : h.getD k 0 = h[k]'(by omega) := by simp [List.getElem?_eq_getElem (show k < h.length by omega)]
    rw [List.take_succ_eq_append_getElem (by omega), e]; unfold dig; rw [List.flatMap_append]; simp only [List.flatMap_cons, List.flatMap_nil, List.append_nil]
  unfold digTo
  rw [hz, ht]
  generalize dig (h.take k) = L at *
  generalize h.getD k 0 = x
  subst_vars
  rw [← h1]
  simp [fourH]

/- the pad behind a message of n bytes: 80, bytes 00, the length in bits in eight bytes, the higher first -/
def padSize (n : Nat) : Nat := if 64 - n % 64 < 9 then 64 - n % 64 + 64 else 64 - n % 64
def lenByte (X : Int) (k : Nat) : BitVec 8 := BitVec.ofInt 8 (X / 2 ^ (8 * k))
def lows (X : Int) : Nat → List (BitVec 8)
  | 0 => []
  | k + 1 => lenByte X k :: lows X k
def padTo (z : Nat) (X : Int) (k : Nat) : List (BitVec 8) := 0x80#8 :: (zer (z - 9) ++ (zer (8 - k) ++ lows X k))
def bitLen (n : Nat) : Int := ((n * 8 % 18446744073709551616 : Nat) : Int)
def pad (n : Nat) : List (BitVec 8) := padTo (padSize n) (bitLen n) 8
theorem padSize_lo (n : Nat) : 9 ≤ padSize n := by unfold padSize; split <;> omega
theorem padSize_hi (n : Nat) : padSize n ≤ 72 := by unfold padSize; split <;> omega
theorem padSize_whole (n : Nat) : (n + padSize n) % 64 = 0 := by unfold padSize; split <;> omega
theorem length_lows (X : Int) (k : Nat) : (lows X k).length = k := by
  induction k with
  | zero => rfl
  | succ k ih => simp [lows, ih]
theorem length_padTo (z : Nat) (X : Int) (k : Nat) (hz : 9 ≤ z) (hk : k ≤ 8) : (padTo z X k).length = z := by
  simp [padTo, zer, length_lows]; omega
theorem length_pad (n : Nat) : (pad n).length = padSize n := length_padTo _ _ _ (padSize_lo n) (Nat.le_refl _)
theorem padTo_zero (z : Nat) (X : Int) (hz : 9 ≤ z) : (zer z).set 0 0x80#8 = padTo z X 0 := by
  obtain ⟨m, rfl⟩ : ∃ m, z = m + 9 := ⟨z - 9, by omega⟩
  simp only [padTo, zer, lows, List.append_nil, Nat.add_sub_cancel, List.replicate_append_replicate, Nat.sub_zero]
  rw [show m + 9 = (m + 8) + 1 by omega, List.replicate_succ, List.set_cons_zero]
theorem padTo_set (z : Nat) (X : Int) (k : Nat) (hz : 9 ≤ z) (hk : k < 8) : (padTo z X k).set (z - 1 - k) (lenByte X k) = padTo z X (k + 1) := by
  have h8 : zer (8 - k) = zer (8 - (k + 1)) ++ [0] := by
    rw [show 8 - k = (8 - (k + 1)) + 1 by omega]; simp [zer, List.replicate_succ']
  unfold padTo
  rw [h8]
  have e : z - 1 - k = ((z - 9) + (8 - (k + 1))) + 1 := by omega
  rw [e, List.set_cons_succ, List.set_append_right _ _ (by simp [zer]), List.append_assoc, List.set_append_right _ _ (by simp [zer])]
  have e2 : (z - 9 + (8 - (k + 1)) - (zer (z - 9)).length - (zer (8 - (k + 1))).length) = 0 := by simp [zer]
  rw [e2]
  simp [lows]
end Go.Proofs.YtbhmgnhiglpmhaaDoor

/- A message's hash, block by block, and what a part that is added makes of it. Plain functions on lists. -/
set_option maxRecDepth 4000
namespace Go.Proofs.YtbhmgnhiglpmhaaDoor
def h0 : List (BitVec 32) := [0x6a09e667#32, 0xbb67ae85#32, 0x3c6ef372#32, 0xa54ff53a#32, 0x510e527f#32, 0x9b05688c#32, 0x1f83d9ab#32, 0x5be0cd19#32]
/- H behind the first k blocks -/
def turns (msg : List (BitVec 8)) : Nat → List (BitVec 32)
  | 0 => h0
  | k + 1 => turn (turns msg k) ((msg.drop (64 * k)).take 64)
def hashTo (msg : List (BitVec 8)) : List (BitVec 32) := turns msg (msg.length / 64)
/- the hash of a message -/
def sha (msg : List (BitVec 8)) : List (BitVec 8) := dig (hashTo (msg ++ pad msg.length))
theorem length_turns (msg : List (BitVec 8)) (k : Nat) : (turns msg k).length = 8 := by
  induction k with
  | zero => rfl
  | succ k ih => rw [turns, length_turn, ih]
theorem length_hashTo (msg : List (BitVec 8)) : (hashTo msg).length = 8 := length_turns _ _
theorem turns_append (msg x : List (BitVec 8)) (k : Nat) (hk : 64 * k ≤ msg.length) : turns (msg ++ x) k = turns msg k := by
  induction k with
  | zero => rfl
  | succ k ih =>
    rw [turns, turns, ih (by omega), List.drop_append_of_le_length (by omega), List.take_append_of_le_length (by rw [List.length_drop]; omega)]
/- the block that is being filled -/
def fill (b q : List (BitVec 8)) (r : Nat) : List (BitVec 8) := b.take r ++ (q ++ b.drop (r + q.length))
theorem length_fill (b q : List (BitVec 8)) (r : Nat) (hb : b.length = 64) (h : r + q.length ≤ 64) : (fill b q r).length = 64 := by
  simp [fill, hb]; omega
/- what a message in the making keeps: a block whose first bytes are the message's last -/
def Tail (msg b : List (BitVec 8)) : Prop := b.length = 64 ∧ b.take (msg.length % 64) = msg.drop (msg.length - msg.length % 64)
theorem tail_more (msg b q : List (BitVec 8)) (h : Tail msg b) (hq : msg.length % 64 + q.length < 64) :
    Tail (msg ++ q) (fill b q (msg.length % 64)) ∧ hashTo (msg ++ q) = hashTo msg ∧ (msg.length + q.length) % 64 ≠ 0 ∨ q = [] := by
  by_cases h0 : q = []
  · exact .inr h0
  have hpos : 0 < q.length := List.length_pos_iff.2 h0
  refine .inl ⟨⟨length_fill b q _ h.1 (by omega), ?_⟩, ?_, by omega⟩
  · have e : (msg ++ q).length % 64 = msg.length % 64 + q.length := by rw [List.length_append]; omega
    have hl : (b.take (msg.length % 64)).length = msg.length % 64 := by rw [List.length_take, h.1]; omega
    rw [e, List.length_append, show msg.length + q.length - (msg.length % 64 + q.length) = msg.length - msg.length % 64 by omega, List.drop_append_of_le_length (by omega), ← h.2, fill, ← List.append_assoc]
    rw [List.take_append_of_le_length (by simp [hl]), List.take_of_length_le (by simp [hl])]
  · unfold hashTo
    rw [List.length_append, show (msg.length + q.length) / 64 = msg.length / 64 by omega, turns_append _ _ _ (by omega)]
theorem tail_full (msg b q : List (BitVec 8)) (h : Tail msg b) (hq : msg.length % 64 + q.length = 64) (c : List (BitVec 8)) (hc : c.length = 64) :
    Tail (msg ++ q) c ∧ hashTo (msg ++ q) = turn (hashTo msg) (fill b q (msg.length % 64)) := by
  have e : (msg ++ q).length % 64 = 0 := by rw [List.length_append]; omega
  refine ⟨⟨hc, ?_⟩, ?_⟩
  · rw [e]; simp
  · unfold hashTo
    have e2 : (msg ++ q).length / 64 = msg.length / 64 + 1 := by rw [List.length_append]; omega
    rw [e2, turns, turns_append _ _ _ (by omega)]
    have hf : fill b q (msg.length % 64) = msg.drop (msg.length - msg.length % 64) ++ q := by
      have hd : b.drop (msg.length % 64 + q.length) = [] := List.drop_of_length_le (by rw [h.1]; omega)
      rw [fill, h.2, hd, List.append_nil]
    rw [hf, show 64 * (msg.length / 64) = msg.length - msg.length % 64 by omega, List.drop_append_of_le_length (by omega), List.take_of_length_le (by simp; omega)]
end Go.Proofs.YtbhmgnhiglpmhaaDoor

/- The memory of a message in the making: its cells, and how a copy, a store of the length and a store of H turn them. -/
set_option maxRecDepth 4000
namespace Go.Proofs.YtbhmgnhiglpmhaaDoor
open Go Go.RowKit
def mcells (h : List (BitVec 32)) (b : List (BitVec 8)) (n : Nat) : Array Value := ws h ++ (bs b ++ #[.int .u64 (n : Int)])
theorem toList_mcells (h : List (BitVec 32)) (b : List (BitVec 8)) (n : Nat) : (mcells h b n).toList = (ws h).toList ++ ((bs b).toList ++ [.int .u64 (n : Int)]) := by simp [mcells]
theorem len_ws (h : List (BitVec 32)) : (ws h).toList.length = h.length := by simp [ws]
theorem size_mcells (h : List (BitVec 32)) (b : List (BitVec 8)) (n : Nat) (hh : h.length = 8) (hb : b.length = 64) : (mcells h b n).size = 73 := by simp [mcells, size_ws, size_bs, hh, hb]
theorem mcells_len (h : List (BitVec 32)) (b : List (BitVec 8)) (n : Nat) (hh : h.length = 8) (hb : b.length = 64) : (mcells h b n)[72]? = some (.int .u64 (n : Int)) := by
  unfold mcells
  rw [Array.getElem?_append_right (by rw [size_ws]; omega), Array.getElem?_append_right (by rw [size_ws, size_bs]; omega), size_ws, size_bs, hh, hb]
  rfl
theorem mcells_setLen (h : List (BitVec 32)) (b : List (BitVec 8)) (n k : Nat) (hh : h.length = 8) (hb : b.length = 64) : (mcells h b n).setIfInBounds 72 (.int .u64 (k : Int)) = mcells h b k := by
  apply Array.toList_inj.1
  rw [Array.toList_setIfInBounds, toList_mcells, toList_mcells, List.set_append_right _ _ (by rw [len_ws]; omega), List.set_append_right _ _ (by rw [len_ws, len_bs]; omega), len_ws, len_bs, hh, hb]
  rfl
theorem mcells_setH (h : List (BitVec 32)) (b : List (BitVec 8)) (n i : Nat) (x : BitVec 32) (hi : i < h.length) : (mcells h b n).setIfInBounds i (.int .u32 (wd x)) = mcells (h.set i x) b n := by
  apply Array.toList_inj.1
  rw [Array.toList_setIfInBounds, toList_mcells, toList_mcells, List.set_append_left _ _ (by rw [len_ws]; omega), ← set_ws, Array.toList_setIfInBounds]
/- the copy into the block's place -/
theorem mcells_fill (h : List (BitVec 32)) (b : List (BitVec 8)) (n : Nat) (hh : h.length = 8) (hb : b.length = 64) (q : List (BitVec 8)) (r : Nat) (hr : r + q.length ≤ 64) :
    ((mcells h b n).toList.take (8 + r) ++ ((q.map fun x => Value.int .u8 (bd x)) ++ (mcells h b n).toList.drop (8 + r + (q.map fun x => Value.int .u8 (bd x)).length))).toArray = mcells h (fill b q r) n := by
  have h1 : (ws h).toList.length = 8 := by rw [len_ws, hh]
  have h2 : (bs b).toList.length = 64 := by rw [len_bs, hb]
  rw [toList_mcells h b n, List.take_append, List.drop_append, h1, List.take_of_length_le (by omega), List.drop_of_length_le (by omega), List.length_map, show 8 + r - 8 = r by omega, show 8 + r + q.length - 8 = r + q.length by omega]
  rw [List.take_append_of_le_length (by omega), List.drop_append_of_le_length (by omega), List.nil_append]
  apply Array.toList_inj.1
  rw [toList_mcells]
  simp [bs, fill, List.map_take, List.map_drop]
theorem range_h {h : List (BitVec 32)} {b : List (BitVec 8)} {n : Nat} {w : World} {g : Nat} {t : TypeId} (hr : Row w g t (mcells h b n)) : w.rangeAt g 0 (ws h).toList := fun j v hv => by
  rw [Nat.zero_add, hr.cell, mcells, Array.getElem?_append_left]
  · simpa using hv
  · have := (List.getElem?_eq_some_iff.1 hv).1; simpa using this
theorem range_b {h : List (BitVec 32)} {b : List (BitVec 8)} {n : Nat} {w : World} {g : Nat} {t : TypeId} (hh : h.length = 8) (hr : Row w g t (mcells h b n)) : w.rangeAt g 8 (bs b).toList := fun j v hv => by
  have hj := (List.getElem?_eq_some_iff.1 hv).1
  rw [hr.cell, mcells, Array.getElem?_append_right (by rw [size_ws]; omega), size_ws, hh, show 8 + j - 8 = j by omega, Array.getElem?_append_left (by simpa using hj)]
  simpa using hv
theorem there_h {h : List (BitVec 32)} {b : List (BitVec 8)} {n : Nat} (hh : h.length = 8) (hb : b.length = 64) {w : World} {g : Nat} {t : TypeId} (hr : Row w g t (mcells h b n)) : w.there g 0 8 := fun j hj => by
  rw [Nat.zero_add]
  refine ⟨?_, hr.free j⟩
  rw [hr.cell, Array.getElem?_eq_getElem (by rw [size_mcells h b n hh hb]; omega)]
  rfl
/- H written anew -/
theorem Row.putH {w : World} {g : Nat} {t : TypeId} {h h' : List (BitVec 32)} {b : List (BitVec 8)} {n : Nat} (hh : h.length = 8) (hh' : h'.length = 8) (hr : Row w g t (mcells h b n)) :
    Row (w.setCells g 0 (ws h').toList) g t (mcells h' b n) := by
  obtain ⟨a0, a1, a2, a3, a4, a5, a6, a7, rfl⟩ := list8 h hh
  obtain ⟨x0, x1, x2, x3, x4, x5, x6, x7, rfl⟩ := list8 h' hh'
  have h0 := hr.put 0 (.int .u32 (wd x0)); rw [mcells_setH _ _ _ _ _ (by simp)] at h0
  have h1 := h0.put 1 (.int .u32 (wd x1)); rw [mcells_setH _ _ _ _ _ (by simp)] at h1
  have h2 := h1.put 2 (.int .u32 (wd x2)); rw [mcells_setH _ _ _ _ _ (by simp)] at h2
  have h3 := h2.put 3 (.int .u32 (wd x3)); rw [mcells_setH _ _ _ _ _ (by simp)] at h3
  have h4 := h3.put 4 (.int .u32 (wd x4)); rw [mcells_setH _ _ _ _ _ (by simp)] at h4
  have h5 := h4.put 5 (.int .u32 (wd x5)); rw [mcells_setH _ _ _ _ _ (by simp)] at h5
  have h6 := h5.put 6 (.int .u32 (wd x6)); rw [mcells_setH _ _ _ _ _ (by simp)] at h6
  have h7 := h6.put 7 (.int .u32 (wd x7)); rw [mcells_setH _ _ _ _ _ (by simp)] at h7
  exact h7

theorem step_load_mid {P : Program} {ops : Array Oper} {w : World} {K : Act → World → Prop} {Q : Exit → Act → World → Prop} {E : Prop} {op : Oper} {a : Act} (hgd : op.guard = none) (ty : TypeId) (x : Operand) (ho : op.op = .load ty x)
    (b o : Nat) (hx : a.eval x = .pointer (some ⟨b, o, none⟩)) (cs : List Value) (d : TypeDesc) (hc : w.rangeAt b o cs) (hu : P.underlying ty = some d) (hd : d.isRow = true) (hi : (P.info? ty).map (·.size) = some cs.length)
    (h : K (a.put op.dst (.agg cs.toArray)) w) : if Region.wanted op (yielded ops a.tmps) = true then Oper.wp P op a w K Q else E := by
  rw [if_pos (by simp [Region.wanted, hgd])]
  exact wp_load_mid ty x ho b o hx cs d hc hu hd hi h
theorem step_store_mid {P : Program} {ops : Array Oper} {w : World} {K : Act → World → Prop} {Q : Exit → Act → World → Prop} {E : Prop} {op : Oper} {a : Act} (hgd : op.guard = none) (ty : TypeId) (x y : Operand) (ho : op.op = .store ty x y)
    (b o : Nat) (cells : Array Value) (hx : a.eval x = .pointer (some ⟨b, o, none⟩)) (hy : a.eval y = .agg cells)
    (ht : w.there b o cells.size) (hi : (P.info? ty).map (·.size) = some cells.size) (h1 : cells.all (·.oneCell') = true)
    (h : K (a.put op.dst undef) (w.setCells b o cells.toList)) : if Region.wanted op (yielded ops a.tmps) = true then Oper.wp P op a w K Q else E := by
  rw [if_pos (by simp [Region.wanted, hgd])]
  exact wp_store_mid ty x y ho b o cells hx hy ht hi h1 h
end Go.Proofs.YtbhmgnhiglpmhaaDoor

set_option maxRecDepth 4000
namespace Go.Proofs.YtbhmgnhiglpmhaaDoor
open Go Go.RowKit
/- a slice value that reads as q, not in block g -/
def Part (w : World) (g : Nat) (v : Value) (q : List (BitVec 8)) : Prop :=
  ∃ A c, v = .slice A q.length c ∧ q.length ≤ c ∧ (q ≠ [] → ∃ b o, A = some ⟨b, o, none⟩ ∧ b ≠ g ∧ b < w.heap.size ∧ ∀ j x, q[j]? = some x → w.cell? ⟨b, o + j, none⟩ = some (.int .u8 (bd x)))
def MsgAt (w : World) (g : Nat) (M : List (BitVec 8)) : Prop := ∃ b, Tail M b ∧ Row w g 83 (mcells (hashTo M) b M.length)
def AddR (w wr : World) (g : Nat) (v : Value) (all : List (BitVec 8)) : Prop := ∃ M q, M ++ q = all ∧ Part wr g v q ∧ MsgAt wr g M ∧ w.grownBy wr (some g)
def sliceLen : Value → Nat
  | .slice _ n _ => n
  | _ => 0
theorem src {w : World} {b o j : Nat} {q : List (BitVec 8)} (h : ∀ j x, q[j]? = some x → w.cell? ⟨b, o + j, none⟩ = some (.int .u8 (bd x))) :
    ∀ i v, (bytesV (q.take j))[i]? = some v → w.drew.cell? ((⟨b, o, none⟩ : Addr).add i) = some v := by
  intro i v hv
  rw [Addr.add_mid]
  simp only [bytesV, List.getElem?_map, Option.map_eq_some_iff] at hv
  obtain ⟨x, hx, rfl⟩ := hv
  rw [List.getElem?_take] at hx
  split at hx
  · exact h i x hx
  · cases hx
theorem part_next {w2 w3 : World} {g bq oq j c c' : Nat} {q : List (BitVec 8)} {A' : Option Addr} (hc : ∀ j' x, q[j']? = some x → w2.cell? ⟨bq, oq + j', none⟩ = some (.int .u8 (bd x)))
    (hbg : bq ≠ g) (hbl : bq < w2.heap.size) (hcap : q.length ≤ c) (h3 : w2.grownBy w3 (some g)) (hA : c ≠ j → A' = some ⟨bq, oq + j, none⟩) (hc' : q.length - j ≤ c') : Part w3 g (.slice A' (q.length - j) c') (q.drop j) := by
  refine ⟨A', c', by rw [List.length_drop], by rw [List.length_drop]; exact hc', fun hne => ?_⟩
  have hl : 0 < (q.drop j).length := List.length_pos_iff.2 hne
  rw [List.length_drop] at hl
  refine ⟨bq, oq + j, hA (by omega), hbg, Nat.lt_of_lt_of_le hbl h3.size, fun i x hx => ?_⟩
  rw [List.getElem?_drop] at hx
  have := hc (j + i) x hx
  rw [Nat.add_assoc]
  exact h3.cell this (fun e => hbg (by injection e))
theorem msg_more {w3 : World} {g r : Nat} {m b q : List (BitVec 8)} (hb : Tail m b) (hr : m.length % 64 = r) (hq : r + q.length < 64) (hq0 : 0 < q.length)
    (hrow : Row w3 g 83 (mcells (hashTo m) (fill b q r) (m.length + q.length))) : MsgAt w3 g (m ++ q) := by
  subst hr
  rcases tail_more m b q hb hq with ⟨h1, h2, _⟩ | h
  · refine ⟨_, h1, ?_⟩
    rw [h2, List.length_append]; exact hrow
  · subst h; simp at hq0
theorem msg_full {w3 : World} {g r : Nat} {m b q : List (BitVec 8)} (hb : Tail m b) (hr : m.length % 64 = r) (hq : r + q.length = 64) (hL : (fill b q r).length = 64)
    (hrow : Row w3 g 83 (mcells (turn (hashTo m) (fill b q r)) (fill b q r) (m.length + q.length))) : MsgAt w3 g (m ++ q) := by
  subst hr
  obtain ⟨h1, h2⟩ := tail_full m b q hb hq _ hL
  refine ⟨_, h1, ?_⟩
  rw [h2, List.length_append]; exact hrow
theorem Tab.only {w w' : World} {g : Nat} (h : Tab w) (hw : w.grownBy w' (some g)) (hg : 0 < g) : Tab w' := fun i hi => hw.cell (h i hi) (fun e => Nat.ne_of_lt hg (by injection e))
set_option maxHeartbeats 1600000 in
theorem shaadd_any (g : Nat) (M p : List (BitVec 8)) (v : Value) (w : World) (hT : Tab w) (hg : 0 < g) (hv : Part w g v p) (hM : MsgAt w g M) (hlen : (M ++ p).length < 4294967296) :
    Calls Tryd.prog 36 #[.pointer (some ⟨g, 0, none⟩), v] w fun e w' => e = .returned (.tuple #[]) ∧ MsgAt w' g (M ++ p) ∧ w.grownBy w' (some g) := by
  have HT := Lib.hid hT
  have HV := Lib.hid hv
  have HM := Lib.hid hM
  clear hT hv hM
  go_enter Tryd.func36, Tryd.ntmps36
  go_wp2
  go_loopw [1] (fun v wr => AddR w wr g v (M ++ p)) (fun v _ => sliceLen v)
  case atStart => exact ⟨M, p, rfl, HV.out, HM.out, only_refl w g⟩
  case round =>
    obtain ⟨m, q, hall, ⟨A, c, rfl, hcap, hq⟩, ⟨b, hb, hr⟩, ho⟩ := hrel
    have HA := Lib.hid hall
    have hlen2 : m.length + q.length < 4294967296 := by rw [← List.length_append, hall]; exact hlen
    clear hall
    by_cases hne : q = []
    · subst hne
      go_wp2
      go_end0
      exact ⟨rfl, by have := HA.out; rw [List.append_nil] at this; rw [← this]; exact ⟨b, hb, hr⟩, ho⟩
    · have hpos : 0 < q.length := List.length_pos_iff.2 hne
      obtain ⟨bq, oq, rfl, hbg, hbl, hqc⟩ := hq hne
      have HC := Lib.hid hqc
      have c72 := hr.get (mcells_len _ b m.length (length_hashTo m) hb.1)
      have HB := Lib.hid hb
      clear hqc hq hb
      obtain ⟨r, hre⟩ : ∃ r, m.length % 64 = r := ⟨_, rfl⟩
      have tm : (m.length : Int).tmod 64 = (r : Int) := by rw [Int.tmod_eq_emod_of_nonneg (by omega)]; omega
      have hr64 : r < 64 := by omega
      have b0 : (0 : Int) ≤ (r : Int) := by omega
      have b1 : (r : Int) ≤ 64 := by omega
      have HR := Lib.hid hre
      clear hre
      obtain ⟨j, hj⟩ : ∃ j, Nat.min q.length (64 - r) = j := ⟨_, rfl⟩
      have hj1 : j ≤ q.length := hj ▸ Nat.min_le_left q.length (64 - r)
      have hj2 : j ≤ 64 - r := hj ▸ Nat.min_le_right q.length (64 - r)
      have hj0 : 0 < j := hj ▸ Nat.lt_min.2 ⟨hpos, (show 0 < 64 - r by omega)⟩
      have nr : ¬ 64 = r := by omega
      have HJ := Lib.hid hj
      clear hj
      have HJL : Hid ((bytesV (q.take j)).length = j) := Lib.hid (by simp [bytesV]; omega)
      go_wp2_with fail
      go_still_tail 10, (by kernel_rfl)
      change wpList _ _ _ _ _ wr.drew
      refine wpList_copy_own rfl _ _ 35 35 rfl 5 Tryd.underlying35 size_u8 g (8 + r) (64 - r) (64 - r) ⟨bq, oq, none⟩ q.length c rfl rfl (mcells (hashTo m) b m.length) 83 hr.drew (bytesV (q.take j)) (by rw [HJL.out, HJ.out]) (src HC.out) (by rw [size_mcells _ _ _ (length_hashTo m) HB.out.1, HJL.out]; omega) (one_bytesV _) ?_
      have hql : (q.take j).length = j := by rw [List.length_take]; omega
      have e1 : (List.take (8 + r) (mcells (hashTo m) b m.length).toList ++ (bytesV (List.take j q) ++ List.drop (8 + r + (bytesV (List.take j q)).length) (mcells (hashTo m) b m.length).toList)).toArray = mcells (hashTo m) (fill b (q.take j) r) m.length :=
        mcells_fill (hashTo m) b m.length (length_hashTo m) HB.out.1 (q.take j) r (by rw [hql]; omega)
      have hL : (fill b (q.take j) r).length = 64 := length_fill b (q.take j) r HB.out.1 (by rw [hql]; omega)
      rw [e1, HJL.out]
      have hr2 := hr.drew.setRow (mcells (hashTo m) (fill b (q.take j) r) m.length)
      have ho2 := only_setRow (only_drew ho) (mcells (hashTo m) (fill b (q.take j) r) m.length)
      have hbl2 : bq < (wr.drew.setRow g (mcells (hashTo m) (fill b (q.take j) r) m.length)).heap.size := by rw [size_setRow]; exact hbl
      have HC2 : Hid (∀ j' x, q[j']? = some x → (wr.drew.setRow g (mcells (hashTo m) (fill b (q.take j) r) m.length)).cell? ⟨bq, oq + j', none⟩ = some (.int .u8 (bd x))) :=
        Lib.hid fun j' x hx => (cell_setRow_other wr.drew g _ ⟨bq, oq + j', none⟩ hbg).trans (HC.out j' x hx)
      have HL := Lib.hid hL
      have HQ := Lib.hid hql
      clear e1 hL hql hbl HC hr ho c72 tm
      generalize wr.drew.setRow g (mcells (hashTo m) (fill b (q.take j) r) m.length) = w2 at *
      have c72 := hr2.get (mcells_len _ _ m.length (length_hashTo m) HL.out)
      have f72 := hr2.free 72
      have hr3 := hr2.put 72 (.int .u64 ((m.length + j : Nat) : Int))
      rw [mcells_setLen _ _ _ _ (length_hashTo m) HL.out, Int.natCast_add] at hr3
      have ho3 := only_setCell (i := 72) ho2 (.int .u64 ((m.length : Int) + (j : Int)))
      have HP : Hid (∀ (w3 : World) A' c', w2.grownBy w3 (some g) → (c ≠ j → A' = some ⟨bq, oq + j, none⟩) → q.length - j ≤ c' → Part w3 g (.slice A' (q.length - j) c') (q.drop j)) :=
        Lib.hid fun w3 A' c' h3 hA hc' => part_next HC2.out hbg hbl2 hcap h3 hA hc'
      clear hr2 HC2 hbl2 HJ HJL
      by_cases hfull : r + j = 64
      · have eb : (((m.length : Int) + (j : Int)) % 64 == 0) = true := by rw [beq_iff_eq]; have := HR.out; omega
        by_cases hcj : c = j
        all_goals
          go_wp2_with fail
          have HF := Lib.hid hfull
          clear hfull eb c72 f72
          have hs3 := only_setCell (i := 72) (only_refl w2 g) (.int .u64 ((m.length : Int) + (j : Int)))
          generalize w2.setCell ⟨g, 72, none⟩ (.int .u64 ((m.length : Int) + (j : Int))) = w3 at *
          have HTD : Hid (Tab w3.drew) := Lib.hid (Tab.only HT.out (only_drew ho3) hg)
          refine wp_region_any (by kernel_rfl) ?_
          change wpAny _ _ _ _ _ _ _ (World.drew _)
          refine wpAny_take (i := 0) (oi := { dst := some 37, op := _, type := _, pos := _, after := _, guard := none }) (v := .pointer (some ⟨g, 0, none⟩)) rfl (by kernel_rfl) (by kernel_rfl) (by kernel_rfl) (fun _ _ _ h => h) (Or.inl ⟨by rfl, fun _ => by go_simp⟩) ?_
          refine wpAny_take (i := 1) (oi := { dst := some 38, op := _, type := _, pos := _, after := _, guard := none }) (v := .pointer (some ⟨g, 0, none⟩)) rfl (by kernel_rfl) (by kernel_rfl) (by kernel_rfl) (fun _ _ _ h => h) (Or.inl ⟨by rfl, fun _ => by go_simp⟩) ?_
          refine wpAny_take (i := 2) (oi := { dst := some 39, op := _, type := _, pos := _, after := _, guard := none }) (v := .pointer (some ⟨g, 0, none⟩)) rfl (by kernel_rfl) (by kernel_rfl) (by kernel_rfl) (fun _ _ _ h => h) (Or.inl ⟨by rfl, fun _ => by go_simp⟩) ?_
          refine wpAny_take (i := 3) (oi := { dst := some 40, op := _, type := _, pos := _, after := _, guard := none }) (v := .pointer (some ⟨g, 0, none⟩)) rfl (by kernel_rfl) (by kernel_rfl) (by kernel_rfl) (fun _ _ _ h => h) (Or.inl ⟨by rfl, fun _ => by go_simp⟩) ?_
          refine wpAny_take (i := 5) (oi := { dst := some 42, op := _, type := _, pos := _, after := _, guard := none }) (v := .pointer (some ⟨g, 0, none⟩)) rfl (by kernel_rfl) (by kernel_rfl) (by kernel_rfl) (fun _ _ _ h => h) (Or.inl ⟨by rfl, fun _ => by go_simp⟩) ?_
          refine wpAny_take (i := 6) (oi := { dst := some 43, op := _, type := _, pos := _, after := _, guard := none }) (v := .pointer (some ⟨g, 0, none⟩)) rfl (by kernel_rfl) (by kernel_rfl) (by kernel_rfl) (fun _ _ _ h => h) (Or.inl ⟨by rfl, fun _ => by go_simp⟩) ?_
          refine wpAny_take (i := 7) (oi := { dst := some 44, op := _, type := _, pos := _, after := _, guard := none }) (v := .pointer (some ⟨g, 8, none⟩)) rfl (by kernel_rfl) (by kernel_rfl) (by kernel_rfl) (fun _ _ _ h => h) (Or.inl ⟨by rfl, fun _ => by go_simp⟩) ?_
          simp only [Act.put, List.setIfInBounds_toArray, List.set_cons_succ, List.set_cons_zero]
          refine wpAny_ready (rs := [4, 8]) (by kernel_rfl) (by simp) ?_
          refine AllReady.cons (o := { dst := some 41, op := .load 78 (.tmp 40), type := 78, pos := _, after := _, guard := none }) rfl (fun K hK => ?_) (AllReady.cons (o := { dst := some 45, op := .load 80 (.tmp 44), type := 80, pos := _, after := _, guard := none }) rfl (fun K hK => ?_) AllReady.nil)
          · refine step_load_mid rfl 78 _ rfl g 0 rfl (ws (hashTo m)).toList _ (range_h hr3.drew) Tryd.underlying78 rfl (by rw [len_ws, length_hashTo]; exact size_h) ?_
            refine hK _ _ ?_
            clear hK K
            refine wpAny_ready (rs := [8]) (by kernel_rfl) (by simp) ?_
            refine AllReady.cons (o := { dst := some 45, op := .load 80 (.tmp 44), type := 80, pos := _, after := _, guard := none }) rfl (fun K hK => ?_) AllReady.nil
            refine step_load_mid rfl 80 _ rfl g 8 rfl (bs (fill b (q.take j) r)).toList _ (range_b (length_hashTo m) hr3.drew) Tryd.underlying80 rfl (by rw [len_bs, HL.out]; exact size_b) ?_
            refine hK _ _ ?_
            clear hK K
            refine wpAny_ready (rs := [9]) (by kernel_rfl) (by simp) ?_
            refine AllReady.cons (o := { dst := some 46, op := .call { callee := .value (.func 49), args := #[.tmp 41, .tmp 45], argTypes := #[78, 80] }, type := 78, pos := _, after := _, guard := none }) rfl (fun K hK => ?_) AllReady.nil
            go_simp
            refine (turn_any (hashTo m) (fill b (q.take j) r) (length_hashTo m) HL.out _ HTD.out).mono ?_
            rintro e w4 ⟨rfl, hb4⟩
            refine hK _ _ ?_
            clear hK K
            refine wpAny_take (i := 10) (oi := { dst := some 47, op := _, type := _, pos := _, after := _, guard := none }) (v := .pointer (some ⟨g, 0, none⟩)) rfl (by kernel_rfl) (by kernel_rfl) (by kernel_rfl) (fun _ _ _ h => h) (Or.inl ⟨by rfl, fun _ => by go_simp⟩) ?_
            refine wpAny_take (i := 11) (oi := { dst := some 48, op := _, type := _, pos := _, after := _, guard := none }) (v := .pointer (some ⟨g, 0, none⟩)) rfl (by kernel_rfl) (by kernel_rfl) (by kernel_rfl) (fun _ _ _ h => h) (Or.inl ⟨by rfl, fun _ => by go_simp⟩) ?_
            simp only [Act.put, List.setIfInBounds_toArray, List.set_cons_succ, List.set_cons_zero]
            refine wpAny_ready (rs := [12]) (by kernel_rfl) (by simp) ?_
            refine AllReady.cons (o := { dst := none, op := .store 78 (.tmp 48) (.tmp 46), type := _, pos := _, after := _, guard := none }) rfl (fun K hK => ?_) AllReady.nil
            refine step_store_mid rfl 78 _ _ rfl g 0 (ws (turn (hashTo m) (fill b (q.take j) r))) rfl rfl (by rw [size_ws, length_turn, length_hashTo]; exact there_h (length_hashTo m) HL.out (hr3.drew.call hb4)) (by rw [size_ws, length_turn, length_hashTo]; exact size_h) (one_ws _) ?_
            refine hK _ _ ?_
            clear hK K
            refine wpAny_done (by kernel_rfl) ?_ _
            go_wp2_with fail
            have hr5 := Row.putH (length_hashTo m) (h' := turn (hashTo m) (fill b (q.take j) r)) (by rw [length_turn, length_hashTo]) (hr3.drew.call hb4)
            have ho5 := only_setCells (ws (turn (hashTo m) (fill b (q.take j) r))).toList 0 (only_call (only_drew ho3) hb4)
            have hs5 := only_setCells (ws (turn (hashTo m) (fill b (q.take j) r))).toList 0 (only_call (only_drew hs3) hb4)
            go_roundw
            case rel =>
              (repeat apply Exists.intro)
              refine ⟨⟨m ++ q.take j, q.drop j, by rw [List.append_assoc, List.take_append_drop]; exact HA.out, HP.out _ _ _ hs5 (fun hne => by first | rfl | exact absurd hcj hne) (by omega), ?_, ho5⟩, rfl⟩
              exact msg_full HB.out HR.out (by rw [HQ.out]; exact HF.out) HL.out (by rw [HQ.out]; exact hr5)
            case measure => show q.length - j < q.length; omega
          · refine step_load_mid rfl 80 _ rfl g 8 rfl (bs (fill b (q.take j) r)).toList _ (range_b (length_hashTo m) hr3.drew) Tryd.underlying80 rfl (by rw [len_bs, HL.out]; exact size_b) ?_
            refine hK _ _ ?_
            clear hK K
            refine wpAny_ready (rs := [4]) (by kernel_rfl) (by simp) ?_
            refine AllReady.cons (o := { dst := some 41, op := .load 78 (.tmp 40), type := 78, pos := _, after := _, guard := none }) rfl (fun K hK => ?_) AllReady.nil
            refine step_load_mid rfl 78 _ rfl g 0 rfl (ws (hashTo m)).toList _ (range_h hr3.drew) Tryd.underlying78 rfl (by rw [len_ws, length_hashTo]; exact size_h) ?_
            refine hK _ _ ?_
            clear hK K
            refine wpAny_ready (rs := [9]) (by kernel_rfl) (by simp) ?_
            refine AllReady.cons (o := { dst := some 46, op := .call { callee := .value (.func 49), args := #[.tmp 41, .tmp 45], argTypes := #[78, 80] }, type := 78, pos := _, after := _, guard := none }) rfl (fun K hK => ?_) AllReady.nil
            go_simp
            refine (turn_any (hashTo m) (fill b (q.take j) r) (length_hashTo m) HL.out _ HTD.out).mono ?_
            rintro e w4 ⟨rfl, hb4⟩
            refine hK _ _ ?_
            clear hK K
            refine wpAny_take (i := 10) (oi := { dst := some 47, op := _, type := _, pos := _, after := _, guard := none }) (v := .pointer (some ⟨g, 0, none⟩)) rfl (by kernel_rfl) (by kernel_rfl) (by kernel_rfl) (fun _ _ _ h => h) (Or.inl ⟨by rfl, fun _ => by go_simp⟩) ?_
            refine wpAny_take (i := 11) (oi := { dst := some 48, op := _, type := _, pos := _, after := _, guard := none }) (v := .pointer (some ⟨g, 0, none⟩)) rfl (by kernel_rfl) (by kernel_rfl) (by kernel_rfl) (fun _ _ _ h => h) (Or.inl ⟨by rfl, fun _ => by go_simp⟩) ?_
            simp only [Act.put, List.setIfInBounds_toArray, List.set_cons_succ, List.set_cons_zero]
            refine wpAny_ready (rs := [12]) (by kernel_rfl) (by simp) ?_
            refine AllReady.cons (o := { dst := none, op := .store 78 (.tmp 48) (.tmp 46), type := _, pos := _, after := _, guard := none }) rfl (fun K hK => ?_) AllReady.nil
            refine step_store_mid rfl 78 _ _ rfl g 0 (ws (turn (hashTo m) (fill b (q.take j) r))) rfl rfl (by rw [size_ws, length_turn, length_hashTo]; exact there_h (length_hashTo m) HL.out (hr3.drew.call hb4)) (by rw [size_ws, length_turn, length_hashTo]; exact size_h) (one_ws _) ?_
            refine hK _ _ ?_
            clear hK K
            refine wpAny_done (by kernel_rfl) ?_ _
            go_wp2_with fail
            have hr5 := Row.putH (length_hashTo m) (h' := turn (hashTo m) (fill b (q.take j) r)) (by rw [length_turn, length_hashTo]) (hr3.drew.call hb4)
            have ho5 := only_setCells (ws (turn (hashTo m) (fill b (q.take j) r))).toList 0 (only_call (only_drew ho3) hb4)
            have hs5 := only_setCells (ws (turn (hashTo m) (fill b (q.take j) r))).toList 0 (only_call (only_drew hs3) hb4)
            go_roundw
            case rel =>
              (repeat apply Exists.intro)
              refine ⟨⟨m ++ q.take j, q.drop j, by rw [List.append_assoc, List.take_append_drop]; exact HA.out, HP.out _ _ _ hs5 (fun hne => by first | rfl | exact absurd hcj hne) (by omega), ?_, ho5⟩, rfl⟩
              exact msg_full HB.out HR.out (by rw [HQ.out]; exact HF.out) HL.out (by rw [HQ.out]; exact hr5)
            case measure => show q.length - j < q.length; omega
      · have eb : (((m.length : Int) + (j : Int)) % 64 == 0) = false := by rw [beq_eq_false_iff_ne]; have := HR.out; omega
        go_wp2_with fail
        refine ⟨⟨m ++ q.take j, q.drop j, by rw [List.append_assoc, List.take_append_drop]; exact HA.out, ?_, ?_, ho3⟩, ?_⟩
        · exact HP.out _ _ _ (only_setCell (only_refl _ _) _) (fun hne => if_neg hne) (by omega)
        · exact msg_more HB.out HR.out (by rw [HQ.out]; omega) (by rw [HQ.out]; exact hj0) (by rw [HQ.out]; exact hr3)
        · show q.length - j < q.length; omega
end Go.Proofs.YtbhmgnhiglpmhaaDoor

set_option maxRecDepth 4000
namespace Go.Proofs.YtbhmgnhiglpmhaaDoor
open Go Go.RowKit
theorem u64_wrap (n : Int) : IntKind.u64.wrap n = n % 18446744073709551616 := by simp [IntKind.wrap, IntKind.bits, IntKind.signed]
theorem made_bytes (z : Nat) : madeCells (Value.int .u8 0).cells z = bs (zer z) := by
  apply Array.ext
  · simp [size_madeCells, size_bs, zer]
  · intro i h1 h2
    simp [madeCells, bs, zer, Value.cells, Nat.mod_one, bd]
theorem make_bytes (z : Nat) (k : Int) (hk : k = (z : Int)) (hz : z ≤ 100000) (w : World) :
    (Instr.makeSlice 35 (.int .u64 k) (.int .u64 k)).run Tryd.prog w = .ok (.slice (some ⟨w.heap.size, 0, none⟩) z z) (w.alloc (.cells (bs (zer z)) 5)) := by
  subst hk
  obtain ⟨i0, hi, hz0, hz1, hz2⟩ := info_parts info_u8
  have h := run_make (P := Tryd.prog) w 35 5 i0 (.int .u8 0) Tryd.underlying35 hi hz0 .u64 .u64 (z : Int) (z : Int) (by omega) (by omega) (by rw [hz2]; omega) (by omega)
  rw [hz1] at h
  simp only [Int.toNat_natCast, Nat.mul_one] at h
  rw [made_bytes] at h
  exact h
theorem pad_start {w : World} {z : Nat} {X : Int} (hz : 9 ≤ z) : ∃ k : Nat, k ≤ 8 ∧ Value.int .u64 0 = .int .u64 k ∧ Row (w.alloc (.cells ((bs (zer z)).setIfInBounds 0 (.int .u8 128)) 5)) w.heap.size 5 (bs (padTo z X k)) ∧ Below w.heap.size w (w.alloc (.cells ((bs (zer z)).setIfInBounds 0 (.int .u8 128)) 5)) := by
  have e : (bs (zer z)).setIfInBounds 0 (.int .u8 128) = bs (padTo z X 0) := by
    rw [show (Value.int .u8 128) = .int .u8 (bd 0x80#8) from rfl, set_bs, padTo_zero z X hz]
  rw [e]
  exact ⟨0, by omega, rfl, Row.fresh _ _ _, (Below.refl _ _).alloc (Nat.le_refl _) _⟩
theorem pad_step {w wr : World} {z k : Nat} {X : Int} (hz : 9 ≤ z) (hk : k < 8) (hr : Row wr w.heap.size 5 (bs (padTo z X k))) (hb : Below w.heap.size w wr) :
    Row (wr.setCell ⟨w.heap.size, z - 1 - k, none⟩ (.int .u8 (X / 2 ^ (8 * k) % 256))) w.heap.size 5 (bs (padTo z X (k + 1))) ∧ Below w.heap.size w (wr.setCell ⟨w.heap.size, z - 1 - k, none⟩ (.int .u8 (X / 2 ^ (8 * k) % 256))) := by
  have e : X / 2 ^ (8 * k) % 256 = bd (lenByte X k) := by rw [lenByte, ← wrap_u8_bd, IntKind.wrap_u8']
  rw [e]
  refine ⟨?_, hb.setCell (Nat.le_refl _) _⟩
  have h1 := hr.put (z - 1 - k) (.int .u8 (bd (lenByte X k)))
  rw [set_bs, padTo_set z X k hz hk] at h1
  exact h1
set_option maxHeartbeats 800000 in
theorem pad_core (n z : Nat) (X : Int) (hn : n < 18446744073709551616) (hz : 9 ≤ z) (hz2 : z ≤ 72) (w : World)
    (hX : IntKind.u64.wrap ((n : Int) * 8) = X) (_hX0 : 0 ≤ X) (_hX1 : X < 18446744073709551616)
    (hc : z = if 64 - n % 64 < 9 then 64 - n % 64 + 64 else 64 - n % 64) :
    Calls Tryd.prog 37 #[.int .u64 (n : Int)] w fun e w' => e = .returned (.slice (some ⟨w.heap.size, 0, none⟩) z z) ∧ Row w' w.heap.size 5 (bs (padTo z X 8)) ∧ Below w.heap.size w w' := by
  have hmk := make_bytes z (z : Int) rfl (by omega)
  have g0 := get_bs (zer z) 0 (by simp [zer]; omega)
  by_cases hlt : 64 - n % 64 < 9
  · rw [if_pos hlt] at hc
    have e1 : 64 - (n : Int) % 64 + 64 = (z : Int) := by omega
    have e2 : 64 - (n : Int) % 64 < 9 := by omega
    clear hc hlt
    go_enter Tryd.func37, Tryd.ntmps37
    go_wp2
    clear e1 e2
    go_loopw [20] (fun i wr => ∃ k : Nat, k ≤ 8 ∧ i = .int .u64 k ∧ Row wr w.heap.size 5 (bs (padTo z X k)) ∧ Below w.heap.size w wr) (fun i _ => 8 - (intOf i).toNat)
    case atStart => exact pad_start hz
    case round =>
      clear hmk g0
      obtain ⟨k, hk, rfl, hr, hb⟩ := hrel
      by_cases hlt : k < 8
      · have c0 := hr.get (get_bs (padTo z X k) (z - 1 - k) (by rw [length_padTo z X k hz hk]; omega))
        have f0 := hr.free (z - 1 - k)
        go_wp2
        go_roundw
        case rel => exact ⟨k + 1, by omega, by go_num, pad_step hz hlt hr hb⟩
        case measure => simp [intOf]; omega
      · obtain rfl : k = 8 := by omega
        clear hlt hk
        go_wp2
        go_ret
        exact ⟨rfl, hr, hb⟩
  · rw [if_neg hlt] at hc
    have e1 : 64 - (n : Int) % 64 = (z : Int) := by omega
    have e2 : ¬ (z : Int) < 9 := by omega
    clear hc hlt
    go_enter Tryd.func37, Tryd.ntmps37
    go_wp2
    clear e1 e2
    go_loopw [20] (fun i wr => ∃ k : Nat, k ≤ 8 ∧ i = .int .u64 k ∧ Row wr w.heap.size 5 (bs (padTo z X k)) ∧ Below w.heap.size w wr) (fun i _ => 8 - (intOf i).toNat)
    case atStart => exact pad_start hz
    case round =>
      clear hmk g0
      obtain ⟨k, hk, rfl, hr, hb⟩ := hrel
      by_cases hlt : k < 8
      · have c0 := hr.get (get_bs (padTo z X k) (z - 1 - k) (by rw [length_padTo z X k hz hk]; omega))
        have f0 := hr.free (z - 1 - k)
        go_wp2
        go_roundw
        case rel => exact ⟨k + 1, by omega, by go_num, pad_step hz hlt hr hb⟩
        case measure => simp [intOf]; omega
      · obtain rfl : k = 8 := by omega
        clear hlt hk
        go_wp2
        go_ret
        exact ⟨rfl, hr, hb⟩

theorem shapad_any (n : Nat) (hn : n < 18446744073709551616) (w : World) :
    Calls Tryd.prog 37 #[.int .u64 (n : Int)] w fun e w' => e = .returned (.slice (some ⟨w.heap.size, 0, none⟩) (padSize n) (padSize n)) ∧ Row w' w.heap.size 5 (bs (pad n)) ∧ Below w.heap.size w w' :=
  pad_core n (padSize n) (bitLen n) hn (padSize_lo n) (padSize_hi n) w (by rw [u64_wrap]; unfold bitLen; omega) (by unfold bitLen; omega) (by unfold bitLen; omega) rfl
end Go.Proofs.YtbhmgnhiglpmhaaDoor

set_option maxRecDepth 4000
namespace Go.Proofs.YtbhmgnhiglpmhaaDoor
open Go Go.RowKit
attribute [local go_sem] low_wd low24_wd low16_wd low8_wd
theorem size_d : (Tryd.prog.info? 24).map (·.size) = some 32 := by kernel_rfl
theorem info_u32 : (Tryd.prog.info? 77).map (·.size) = some 1 := by kernel_rfl
theorem index_ws (h : List (BitVec 32)) (k : Nat) (hl : h.length = 8) (hk : k < 8) (w : World) : (Instr.index 78 (.agg (ws h)) (.int .i64 k)).run Tryd.prog w = .ok (.int .u32 (wd (h.getD k 0))) w := by
  obtain ⟨i, hi, hs⟩ := Option.map_eq_some_iff.1 info_u32
  have hg := get_ws h k (by omega)
  have e1 : (0 : Int) ≤ (k : Int) ∧ (k : Int) < ((8 : Nat) : Int) := by omega
  simp only [Instr.index, asIntOf, run_underlying Tryd.underlying78, Sem.run_bind, Sem.run_pure, Result.andThen_ok]
  rw [if_pos e1]
  simp [Go.part, isAgg, run_underlying Tryd.underlying77, sizeOf, typeInfo, hi, hs, hg]
theorem start_any (w : World) : Calls Tryd.prog 35 #[] w fun e w' => e = .returned (.agg (ws [0x6a09e667#32, 0xbb67ae85#32, 0x3c6ef372#32, 0xa54ff53a#32, 0x510e527f#32, 0x9b05688c#32, 0x1f83d9ab#32, 0x5be0cd19#32])) ∧ Below w.heap.size w w' := by
  go_enter Tryd.func35, Tryd.ntmps35
  go_wp2
  refine bodyPost_ret (v := .agg (ws [0x6a09e667#32, 0xbb67ae85#32, 0x3c6ef372#32, 0xa54ff53a#32, 0x510e527f#32, 0x9b05688c#32, 0x1f83d9ab#32, 0x5be0cd19#32])) ?_ rfl ⟨rfl, (Below.refl _ _).alloc (Nat.le_refl _) _⟩
  exact results_cell_row Tryd.results35 _ _ w.heap.size 78 (ws [0x6a09e667#32, 0xbb67ae85#32, 0x3c6ef372#32, 0xa54ff53a#32, 0x510e527f#32, 0x9b05688c#32, 0x1f83d9ab#32, 0x5be0cd19#32]) (0, 0) _ rfl (Row.fresh _ _ _) Tryd.underlying78 rfl size_h
set_option maxHeartbeats 400000 in
theorem dig_any (h : List (BitVec 32)) (hh : h.length = 8) (w : World) :
    Calls Tryd.prog 38 #[.agg (ws h)] w fun e w' => e = .returned (.agg (bs (dig h))) ∧ Below w.heap.size w w' := by
  have H33 : Hid ((Tryd.prog.info? 78).map (·.size) = some (ws h).size) := Lib.hid (by rw [size_ws, hh]; exact size_h)
  have HH := Lib.hid hh
  clear hh
  go_enter Tryd.func38, Tryd.ntmps38
  go_wp2_with (refine wpList_load_row rfl 78 _ rfl w.heap.size rfl 78 (ws h) (0, 0) _ (row3a w _ _ _ _) Tryd.underlying78 rfl H33.out ?_)
  go_loopw [7] (fun i wr => ∃ k : Nat, k ≤ 8 ∧ i = .int .i64 k ∧ Row wr (w.heap.size + 1) 24 (bs (zer 32)) ∧ Row wr (w.heap.size + 1 + 1) 24 (bs (digTo h k)) ∧ Below w.heap.size w wr) (fun i _ => 8 - (intOf i).toNat)
  case atStart => exact ⟨0, by omega, rfl, row3b w 24 (bs (zer 32)) _ _, by rw [digTo_zero]; exact row3c w 24 (bs (zer 32)) _ _, below3 _ _ _ _⟩
  case round =>
    obtain ⟨k, hk, rfl, hr1, hr2, hb⟩ := hrel
    by_cases hlt : k < 8
    · have ix := index_ws h k HH.out hlt
      have c0 := hr2.get (get_bs (digTo h k) (4 * k) (by rw [length_digTo h k HH.out hk]; omega))
      have c1 := hr2.get (get_bs (digTo h k) (4 * k + 1) (by rw [length_digTo h k HH.out hk]; omega))
      have c2 := hr2.get (get_bs (digTo h k) (4 * k + 2) (by rw [length_digTo h k HH.out hk]; omega))
      have c3 := hr2.get (get_bs (digTo h k) (4 * k + 3) (by rw [length_digTo h k HH.out hk]; omega))
      have f0 := hr2.free (4 * k)
      have f1 := hr2.free (4 * k + 1)
      have f2 := hr2.free (4 * k + 2)
      have f3 := hr2.free (4 * k + 3)
      go_wp2
      go_roundw
      case rel =>
        refine ⟨k + 1, by omega, by go_num, ?_, ?_, ?_⟩
        · exact (((hr1.far (by simp) _).far (by simp) _).far (by simp) _).far (by simp) _
        · have h1 := (((hr2.put (4 * k) (.int .u8 (bd ((h.getD k 0 >>> 24).setWidth 8)))).put (4 * k + 1) (.int .u8 (bd ((h.getD k 0 >>> 16).setWidth 8)))).put (4 * k + 2) (.int .u8 (bd ((h.getD k 0 >>> 8).setWidth 8)))).put (4 * k + 3) (.int .u8 (bd ((h.getD k 0).setWidth 8)))
          rw [set_bs, set_bs, set_bs, set_bs, digTo_set h k HH.out hlt] at h1
          exact h1
        · exact (((hb.setCell (by simp; omega) _).setCell (by simp; omega) _).setCell (by simp; omega) _).setCell (by simp; omega) _
      case measure => simp [intOf]; omega
    · obtain rfl : k = 8 := by omega
      rw [digTo_all h HH.out] at hr2
      have HS : Hid ((Tryd.prog.info? 24).map (·.size) = some (bs (dig h)).size) := Lib.hid (by rw [size_bs, length_dig, HH.out]; exact size_d)
      clear hlt hk
      go_wp2_with (first | (refine wpList_load_row rfl 24 _ rfl (w.heap.size + 1 + 1) rfl 24 (bs (dig h)) (0, 0) _ hr2 Tryd.underlying24 rfl HS.out ?_) | (refine wpList_store_row rfl 24 _ _ rfl (w.heap.size + 1) (bs (dig h)) rfl rfl 24 _ hr1 HS.out (by rw [size_bs, size_bs, length_dig, HH.out]; rfl) (one_bs _) ?_))
      exact bodyPost_ret (v := .agg (bs (dig h))) (results_cell_row Tryd.results38 _ _ (w.heap.size + 1) 24 (bs (dig h)) (0, 0) _ rfl (hr1.setRow _) Tryd.underlying24 rfl HS.out) rfl ⟨rfl, below_setRow hb (by omega) _⟩
end Go.Proofs.YtbhmgnhiglpmhaaDoor

set_option maxRecDepth 4000
namespace Go.Proofs.YtbhmgnhiglpmhaaDoor
open Go Go.RowKit
theorem Slice.part {w w' : World} {g : Nat} {v : Value} {q : List (BitVec 8)} (h : Slice w v q) (hb : Below w.heap.size w w') (hg : w.heap.size ≤ g) : Part w' g v q := by
  obtain ⟨A, c, h1, h2, h3⟩ := h
  refine ⟨A, c, h1, h2, fun hne => ?_⟩
  obtain ⟨b, o, h4, h5, h6⟩ := h3 hne
  exact ⟨b, o, h4, by omega, Nat.lt_of_lt_of_le h5 hb.size, fun j x hx => (hb.cell (p := ⟨b, o + j, none⟩) h5).trans (h6 j x hx)⟩
theorem size_m : (Tryd.prog.info? 83).map (·.size) = some 73 := by kernel_rfl
theorem built_m : Tryd.prog.built 83 [(0, .agg (ws h0))] = some (mcells h0 (zer 64) 0) := by kernel_rfl
theorem zero_m (w : World) : (zeroValue 83).run Tryd.prog w = .ok (.agg (mcells (zeros 8) (zer 64) 0)) w := by kernel_rfl
theorem start_h0 (w : World) : Calls Tryd.prog 35 #[] w fun e w' => e = .returned (.agg (ws h0)) ∧ Below w.heap.size w w' := start_any w
def SumR (w wr : World) (g k : Nat) (ps : List (List (BitVec 8))) : Prop :=
  MsgAt wr g (ps.take k).flatten ∧ Row wr w.heap.size 24 (bs (zer 32)) ∧ Below w.heap.size w wr ∧ g < wr.heap.size
theorem msg_zero (w : World) : MsgAt (w.alloc (.cells (mcells h0 (zer 64) 0) 83)) w.heap.size [] :=
  ⟨zer 64, ⟨rfl, rfl⟩, Row.fresh _ _ _⟩
theorem MsgAt.call {w w' : World} {g : Nat} {M : List (BitVec 8)} (h : MsgAt w g M) (hb : Below w.heap.size w w') : MsgAt w' g M := by
  obtain ⟨b, h1, h2⟩ := h; exact ⟨b, h1, h2.call hb⟩
theorem sum_step {w wr w2 : World} {g k : Nat} {ps : List (List (BitVec 8))} (h : SumR w wr g k ps) (hk : k < ps.length) (hM : MsgAt w2 g ((ps.take k).flatten ++ ps[k])) (hO : wr.grownBy w2 (some g)) (hg : w.heap.size < g) : SumR w w2 g (k + 1) ps := by
  obtain ⟨_, h2, h3, h4⟩ := h
  refine ⟨by rw [flat_succ ps k hk]; exact hM, h2.only hO (by omega), h3.trans (only_below hO (by omega) h3.size), Nat.lt_of_lt_of_le h4 hO.size⟩
theorem pad_part {wr w2 : World} {g n : Nat} (rp : Row w2 wr.heap.size 5 (bs (pad n))) (hg : g < wr.heap.size) : Part w2 g (.slice (some ⟨wr.heap.size, 0, none⟩) (padSize n) (padSize n)) (pad n) := by
  refine ⟨some ⟨wr.heap.size, 0, none⟩, padSize n, by rw [length_pad], by rw [length_pad]; exact Nat.le_refl _, fun _ => ⟨wr.heap.size, 0, rfl, by omega, rp.lt, fun j x hx => ?_⟩⟩
  have hj := (List.getElem?_eq_some_iff.1 hx).1
  rw [Nat.zero_add, rp.get (get_bs (pad n) j hj), List.getD_eq_getElem?_getD, hx]; rfl
set_option maxHeartbeats 800000 in
theorem sum_core (ps : List (List (BitVec 8))) (M : List (BitVec 8)) (hF : ps.flatten = M) (v : Value) (w : World) (hT : Tab w) (hv : Parts w v ps) (hn : ps.length < 2147483648) (hlen : M.length < 2147483648) :
    Calls Tryd.prog 25 #[v] w fun e w' => e = .returned (.agg (bs (sha M))) ∧ Below w.heap.size w w' := by
  obtain ⟨A, c, rfl, hp⟩ := hv
  have HT := Lib.hid hT
  have HF := Lib.hid hF
  have HP := Lib.hid hp
  clear hT hp hF
  have hz := zero_m
  have hbu := built_m
  go_enter Tryd.func25, Tryd.ntmps25
  go_wp2_with fail
  refine (start_h0 _).mono ?_
  rintro e w1 ⟨rfl, hb1⟩
  have hb : Below w.heap.size w w1 := ((Below.refl _ _).alloc (Nat.le_refl _) _).trans (hb1.mono (by simp))
  have r0 : Row w1 w.heap.size 24 (bs (zer 32)) := (Row.fresh w 24 (bs (zer 32))).call hb1
  clear hb1
  go_wp2_with (first | (refine wpList_build rfl _ _ rfl (by kernel_rfl) ?_) | (refine wpList_store_row rfl 83 _ _ rfl w1.heap.size (mcells h0 (zer 64) 0) rfl rfl 83 _ (Row.fresh _ _ _) size_m (by kernel_rfl) (by kernel_rfl) ?_; rw [World.setRow_alloc_new]))
  clear hz hbu
  go_loopw [10] (fun i wr => ∃ k : Nat, k ≤ ps.length ∧ i = .int .i64 k ∧ SumR w wr w1.heap.size k ps) (fun i _ => ps.length - (intOf i).toNat)
  case atStart => exact ⟨0, by omega, rfl, msg_zero _, r0.alloc _, hb.alloc hb.size _, by simp⟩
  case round =>
    obtain ⟨k, hk, rfl, hR⟩ := hrel
    have HR := Lib.hid hR
    clear hR
    by_cases hlt : k < ps.length
    · obtain ⟨b, o, rfl, hbl, hc⟩ := HP.out (by intro h; subst h; simp at hlt)
      obtain ⟨u, hu, hs⟩ := hc k ps[k] (List.getElem?_eq_getElem hlt)
      have hu2 := (HR.out.2.2.1.cell (p := ⟨b, o + k, none⟩) hbl).trans hu
      have HS := Lib.hid hs
      clear hc hu hs
      go_wp2_with fail
      refine (shaadd_any w1.heap.size (ps.take k).flatten ps[k] u wr (HT.out.below HR.out.2.2.1 HT.out.pos) (Nat.lt_of_lt_of_le HT.out.pos hb.size) (HS.out.part HR.out.2.2.1 hb.size) HR.out.1 (by have := flat_le ps k hlt; rw [HF.out] at this; omega)).mono ?_
      rintro e w2 ⟨rfl, hM, hO⟩
      have HR2 := Lib.hid (sum_step HR.out hlt hM hO r0.lt)
      clear hM hO HR
      go_wp2_with fail
      go_roundw
      case rel => exact ⟨k + 1, by omega, by go_num, HR2.out⟩
      case measure => simp [intOf]; omega
    · obtain rfl : k = ps.length := by omega
      obtain ⟨hM, hr, hbw, hgw⟩ := HR.out
      rw [List.take_length, HF.out] at hM
      have hgN := r0.lt
      clear HR hlt hk hb r0 HP HF
      obtain ⟨b, ⟨hb1, hb2⟩, hrow⟩ := hM
      have c72 := hrow.get (mcells_len _ b M.length (length_hashTo _) hb1)
      have HM : Hid (MsgAt wr w1.heap.size M) := Lib.hid ⟨b, ⟨hb1, hb2⟩, hrow⟩
      clear hb1 hb2 hrow
      go_wp2_with fail
      refine (shapad_any M.length (by omega) wr).mono ?_
      rintro e w2 ⟨rfl, rp, hbp⟩
      go_wp2_with fail
      have hz := padSize_hi M.length
      refine (shaadd_any w1.heap.size M (pad M.length) _ w2 (HT.out.below (hbw.trans (hbp.mono hbw.size)) HT.out.pos) (by omega) (pad_part rp hgw) (HM.out.call hbp) (by rw [List.length_append, length_pad]; omega)).mono ?_
      rintro e w3 ⟨rfl, hM3, hO3⟩
      have hr3 := (hr.call hbp).only hO3 (by omega)
      have hb3 : Below w.heap.size w w3 := (hbw.trans (hbp.mono hbw.size)).trans (only_below hO3 (by omega) (Nat.le_trans hbw.size hbp.size))
      obtain ⟨b3, ⟨hb31, _⟩, hrow3⟩ := hM3
      have HD : Hid ((Tryd.prog.info? 24).map (·.size) = some (bs (sha M)).size) := Lib.hid (by rw [size_bs, sha, length_dig, length_hashTo]; exact size_d)
      have HX : Hid (sha M = dig (hashTo (M ++ pad M.length))) := Lib.hid rfl
      have HH : Hid ((hashTo (M ++ pad M.length)).length = 8) := Lib.hid (length_hashTo _)
      clear c72 HM rp hr hbw hbp hO3 hb31
      generalize hashTo (M ++ pad M.length) = H at *
      go_wp2_with (refine wpList_load_mid rfl 78 _ rfl w1.heap.size 0 rfl (ws H).toList _ (range_h hrow3) Tryd.underlying78 rfl (by rw [len_ws, HH.out]; exact size_h) ?_)
      refine (dig_any H HH.out _).mono ?_
      rintro e w4 ⟨rfl, hb4⟩
      rw [← HX.out]
      have hr4 := hr3.call hb4
      have hb5 : Below w.heap.size w w4 := hb3.trans (hb4.mono hb3.size)
      clear hr3 hb3 hb4 hrow3
      go_wp2_with (refine wpList_store_row rfl 24 _ _ rfl w.heap.size (bs (sha M)) rfl rfl 24 _ hr4 HD.out (by rw [size_bs, size_bs, sha, length_dig, length_hashTo]; rfl) (one_bs _) ?_)
      exact bodyPost_ret (v := .agg (bs (sha M))) (results_cell_row Tryd.results25 _ _ w.heap.size 24 (bs (sha M)) (0, 0) _ rfl (hr4.setRow _) Tryd.underlying24 rfl HD.out) rfl ⟨rfl, below_setRow hb5 (Nat.le_refl _) _⟩
theorem sum_any (ps : List (List (BitVec 8))) (v : Value) (w : World) (hT : Tab w) (hv : Parts w v ps) (hn : ps.length < 2147483648) (hlen : ps.flatten.length < 2147483648) :
    Calls Tryd.prog 25 #[v] w fun e w' => e = .returned (.agg (bs (sha ps.flatten))) ∧ Below w.heap.size w w' := sum_core ps _ rfl v w hT hv hn hlen
end Go.Proofs.YtbhmgnhiglpmhaaDoor

/- Arguments opened: a slice of bytes; and the last step of a law whose walk leaves all that was there as it was. -/
set_option maxRecDepth 4000
namespace Go.Proofs.YtbhmgnhiglpmhaaDoor
open Go Go.ChangeShapes Go.WideShapes Go.ChangeAt Go.RowKit
end Go.Proofs.YtbhmgnhiglpmhaaDoor

/- A region that draws its order, walked once: what each operation yields holds by what those that it waits for yielded, whichever comes up. The conditions: the theorems' own. -/
set_option maxRecDepth 4000
namespace Go.Proofs.YtbhmgnhiglpmhaaDoor
open Go Go.RowKit
/- what an operation yields -/
def Does (P : Program) (o : Oper) (a : Act) (w : World) (R : Value → World → Prop) : Prop :=
  ∀ (K : Act → World → Prop) (Q : Exit → Act → World → Prop), (∀ v w', R v w' → K (a.put o.dst v) w') → o.wp P a w K Q
def dstAt (ops : Array Oper) (i : Nat) : Option Tmp := (ops[i]?).bind (·.dst)
def waitsFor (o : Oper) (j : Nat) : Bool := o.after.any fun e => Region.binds .any e && e.on == j
def anc (ops : Array Oper) : List Nat → Array Bool → Array Bool
  | [], m => m
  | k :: ks, m => anc ops ks (if m.getD k false then ((ops[k]?).map fun o => o.after.foldl (fun m e => if Region.binds .any e then m.setIfInBounds e.on true else m) m).getD m else m)
def chk (ops : Array Oper) (n size : Nat) : Bool :=
  decide (n ≤ ops.size) &&
  (List.range ops.size).all (fun i => ((ops[i]?).map fun o => o.after.all fun e => !Region.binds .any e || decide (e.on < i)).getD false) &&
  (List.range n).all (fun i => match dstAt ops i with | some d => decide (d < size) && (List.range i).all (fun j => dstAt ops j != some d) | none => true) &&
  (List.range n).all (fun i => ((ops[i]?).map fun o => (match o.guard with | some (j, _) => decide (j < n) && waitsFor o j && (dstAt ops j).isSome | none => true)).getD false) &&
  (List.range ops.size).all (fun j => decide (j < n) || (List.range n).all fun i => (anc ops (List.range (j + 1)).reverse ((Array.replicate ops.size false).setIfInBounds j true)).getD i false)
def puts (ops : Array Oper) (x : Nat → Value) : Nat → Act → Act
  | 0, a => a
  | n + 1, a => (puts ops x n a).put (dstAt ops n) (x n)
section
variable {P : Program} {Q : Exit → Act → World → Prop} {ops : Array Oper} {n : Nat} {R : World → World → Prop} {V : Nat → Value → World → Prop} {G : Nat → Bool} {a0 : Act} {w1 : World}
def Known (ops : Array Oper) (n : Nat) (V : Nat → Value → World → Prop) (a : Act) (x : Nat → Value) (w : World) (o : Oper) : Prop :=
  ∀ j, waitsFor o j = true → j < n → V j (x j) w ∧ ∀ d, dstAt ops j = some d → a.tmps[d]? = some (x j)
def All (p : Nat → Oper → Prop) (n : Nat) : List Oper → Nat → Prop
  | [], _ => True
  | o :: l, i => (i < n → p i o) ∧ All p n l (i + 1)
theorem all_cons {p : Nat → Oper → Prop} {o : Oper} {l : List Oper} {i : Nat} (h : p i o) (t : All p n l (i + 1)) : All p n (o :: l) i := ⟨fun _ => h, t⟩
theorem all_end {p : Nat → Oper → Prop} : ∀ {l : List Oper} {i : Nat}, n ≤ i → All p n l i
  | [], _, _ => trivial
  | _ :: _, i, h => ⟨fun h' => absurd h' (by omega), all_end (l := _) (i := i + 1) (by omega)⟩
theorem all_get {p : Nat → Oper → Prop} : ∀ {l : List Oper} {i : Nat}, All p n l i → ∀ j o, l[j]? = some o → i + j < n → p (i + j) o
  | [], _, _, j, o, ho, _ => by simp at ho
  | o' :: l, i, h, 0, o, ho, hj => by obtain rfl : o' = o := by simpa using ho
                                      exact h.1 hj
  | o' :: l, i, h, j + 1, o, ho, hj => by
    have := all_get h.2 j o (by simpa using ho) (by omega)
    rwa [show i + 1 + j = i + (j + 1) by omega] at this
theorem getD_set (l : Array Bool) (i k : Nat) (hi : i < l.size) : (l.setIfInBounds i true).getD k false = (if i = k then true else l.getD k false) := by
  by_cases h : i = k
  · subst h; simp [Array.getD, hi]
  · rw [if_neg h]
    simp only [Array.getD_eq_getD_getElem?]
    rw [Array.getElem?_setIfInBounds_ne h]
theorem anc_foldl {L : Nat → Prop} (es : List Edge) (m : Array Bool) (h : ∀ e ∈ es, Region.binds .any e = true → L e.on) (hm : ∀ k, m.getD k false = true → L k) :
    ∀ k, (es.foldl (fun m e => if Region.binds .any e then m.setIfInBounds e.on true else m) m).getD k false = true → L k := by
  induction es generalizing m with
  | nil => exact hm
  | cons e es ih =>
    rw [List.foldl_cons]
    refine ih _ (fun e' he' => h e' (by simp [he'])) fun k hk => ?_
    by_cases hb : Region.binds .any e = true
    · rw [if_pos hb] at hk
      by_cases hi : e.on < m.size
      · rw [getD_set _ _ _ hi] at hk
        by_cases hek : e.on = k
        · subst hek; exact h e (by simp) hb
        · rw [if_neg hek] at hk; exact hm k hk
      · rw [Array.setIfInBounds_eq_of_size_le (by omega)] at hk; exact hm k hk
    · rw [if_neg hb] at hk; exact hm k hk
theorem anc_sound {L : Nat → Prop} (hc : ∀ k o, ops[k]? = some o → L k → ∀ e ∈ o.after, Region.binds .any e = true → L e.on) : ∀ (ks : List Nat) (m : Array Bool), (∀ k, m.getD k false = true → L k) → ∀ k, (anc ops ks m).getD k false = true → L k
  | [], m, hm => hm
  | k :: ks, m, hm => by
    refine anc_sound hc ks _ fun i hi => ?_
    by_cases hk : m.getD k false = true
    · rw [if_pos hk] at hi
      cases ho : ops[k]? with
      | none => rw [ho] at hi; exact hm i hi
      | some o =>
        rw [ho] at hi
        simp only [Option.map_some, Option.getD_some] at hi
        rw [← Array.foldl_toList] at hi
        exact anc_foldl o.after.toList m (fun e he hb => hc k o ho (hm k hk) e (by simpa using he) hb) hm i hi
    · rw [if_neg hk] at hi; exact hm i hi
theorem puts_get (x : Nat → Value) (a : Act) : ∀ m, (∀ i, i < m → ∀ j, j < i → ∀ d, dstAt ops i = some d → dstAt ops j ≠ some d) → (∀ i, i < m → ∀ d, dstAt ops i = some d → d < a.tmps.size) →
    (puts ops x m a).defers = a.defers ∧ (puts ops x m a).tmps.size = a.tmps.size ∧ (∀ i, i < m → ∀ d, dstAt ops i = some d → (puts ops x m a).tmps[d]? = some (x i)) ∧ ∀ k, (∀ i, i < m → dstAt ops i ≠ some k) → (puts ops x m a).tmps[k]? = a.tmps[k]?
  | 0, _, _ => ⟨rfl, rfl, fun i hi => by omega, fun k _ => rfl⟩
  | m + 1, hd, hb => by
    obtain ⟨h1, h2, h3, h4⟩ := puts_get x a m (fun i hi => hd i (by omega)) (fun i hi => hb i (by omega))
    unfold puts
    cases hm : dstAt ops m with
    | none =>
      refine ⟨h1, h2, fun i hi d hid => ?_, fun k hk => h4 k fun i hi => hk i (by omega)⟩
      by_cases him : i = m
      · subst him; rw [hm] at hid; cases hid
      · exact h3 i (by omega) d hid
    | some dm =>
      have hlt : dm < (puts ops x m a).tmps.size := by rw [h2]; exact hb m (by omega) dm hm
      refine ⟨h1, by simp [Act.put, h2], fun i hi d hid => ?_, fun k hk => ?_⟩
      · by_cases him : i = m
        · subst him; rw [hm] at hid; injection hid with hid; subst hid
          simp [Act.put, hlt]
        · have hne : dm ≠ d := fun e => hd m (by omega) i (by omega) dm hm (e ▸ hid)
          simp only [Act.put]
          rw [Array.getElem?_setIfInBounds_ne hne]
          exact h3 i (by omega) d hid
      · have hne : dm ≠ k := fun e => hk m (by omega) (e ▸ hm)
        simp only [Act.put]
        rw [Array.getElem?_setIfInBounds_ne hne]
        exact h4 k fun i hi => hk i (by omega)
def count (listed : Array Bool) (n : Nat) : Nat := ((List.range n).filter fun i => !listed.getD i false).length
theorem count_set (listed : Array Bool) (i : Nat) (hi : i < listed.size) (h : listed.getD i false = false) : ∀ n, i < n → count listed n = count (listed.setIfInBounds i true) n + 1
  | 0, h' => by omega
  | n + 1, h' => by
    unfold count
    rw [List.range_succ, List.filter_append, List.filter_append, List.length_append, List.length_append]
    by_cases hin : i = n
    · subst hin
      have e : (List.range i).filter (fun k => !listed.getD k false) = (List.range i).filter fun k => !(listed.setIfInBounds i true).getD k false := by
        refine List.filter_congr fun k hk => ?_
        rw [getD_set _ _ _ hi, if_neg (by have := List.mem_range.1 hk; omega)]
      rw [e]
      have e1 : (listed.setIfInBounds i true).getD i false = true := by rw [getD_set _ _ _ hi, if_pos rfl]
      simp only [List.filter_cons, List.filter_nil, h, e1]
      simp
    · have ih := count_set listed i hi h n (by omega)
      unfold count at ih
      have e : (listed.setIfInBounds i true).getD n false = listed.getD n false := by rw [getD_set _ _ _ hi, if_neg hin]
      simp only [List.filter_cons, List.filter_nil, e]
      omega
theorem count_zero (listed : Array Bool) (n : Nat) (h : count listed n = 0) (i : Nat) (hi : i < n) : listed.getD i false = true := by
  unfold count at h
  have := List.filter_eq_nil_iff.1 (List.length_eq_zero_iff.1 h) i (List.mem_range.2 hi)
  simpa using this
theorem count_pos (listed : Array Bool) (n m : Nat) (h : count listed n = m + 1) : ∃ i, i < n ∧ listed.getD i false = false ∧ ∀ j, j < i → listed.getD j false = true := by
  have hne : ∃ i, i < n ∧ listed.getD i false = false := by
    apply Decidable.byContradiction
    intro hno
    have : (List.range n).filter (fun i => !listed.getD i false) = [] := by
      refine List.filter_eq_nil_iff.2 fun i hi => ?_
      have hi' := List.mem_range.1 hi
      cases hv : listed.getD i false with
      | true => simp
      | false => exact absurd ⟨i, hi', hv⟩ hno
    unfold count at h
    rw [this] at h
    simp at h
  obtain ⟨i, hi, hv⟩ := hne
  induction i using Nat.strongRecOn with
  | _ i ih =>
    by_cases hall : ∀ j, j < i → listed.getD j false = true
    · exact ⟨i, hi, hv, hall⟩
    · have : ∃ j, j < i ∧ listed.getD j false = false := by
        apply Decidable.byContradiction
        intro hno
        refine hall fun j hj => ?_
        cases hv : listed.getD j false with
        | true => rfl
        | false => exact absurd ⟨j, hj, hv⟩ hno
      obtain ⟨j, hj, hjv⟩ := this
      exact ih j hj (by omega) hjv
theorem eval_of_get {a : Act} {d : Nat} {v : Value} (h : a.tmps[d]? = some v) : a.eval (.tmp d) = v := by simp [Act.eval, Array.getD_eq_getD_getElem?, h]
end
end Go.Proofs.YtbhmgnhiglpmhaaDoor

/- The steps of a region that is walked by what each operation yields: the plain operations; what stays of a world while blocks are made and calls come and go. -/
set_option maxRecDepth 4000
namespace Go.Proofs.YtbhmgnhiglpmhaaDoor
open Go Go.RowKit
/- below B all is as it was; every block keeps its cells -/
structure Keeps (B : Nat) (w w' : World) : Prop where
  below : Below B w w'
  rows : ∀ (g : Nat) (cs : Array Value) (t : TypeId) (fr : Nat × Nat), w.heap[g]? = some (.cells cs t fr) → ∃ fr' : Nat × Nat, w'.heap[g]? = some (.cells cs t fr')
theorem Keeps.refl (B : Nat) (w : World) : Keeps B w w := ⟨Below.refl _ _, fun _ _ _ fr h => ⟨fr, h⟩⟩
theorem Keeps.trans {B : Nat} {a b c : World} (h : Keeps B a b) (k : Keeps B b c) : Keeps B a c :=
  ⟨h.below.trans k.below, fun g cs t fr hg => by obtain ⟨fr', h'⟩ := h.rows g cs t fr hg; exact k.rows g cs t fr' h'⟩
theorem lt_of_heap {w : World} {g : Nat} {o : Obj} (h : w.heap[g]? = some o) : g < w.heap.size := (Array.getElem?_eq_some_iff.1 h).1
theorem Keeps.call {B : Nat} {w w' : World} (h : Below w.heap.size w w') (hB : B ≤ w.heap.size) : Keeps B w w' :=
  ⟨h.mono hB, fun g _ _ fr hg => ⟨fr, (h.block g (lt_of_heap hg)).trans hg⟩⟩
theorem Keeps.alloc {B : Nat} (w : World) (o : Obj) (hB : B ≤ w.heap.size) : Keeps B w (w.alloc o) := Keeps.call ((Below.refl _ _).alloc (Nat.le_refl _) o) hB
theorem Keeps.cell {B : Nat} {w w' : World} (h : Keeps B w w') {a : Addr} {v : Value} (hc : w.cell? a = some v) : w'.cell? a = some v := by
  unfold World.cell? at *
  cases hg : w.heap[a.block]? with
  | none => rw [hg] at hc; cases hc
  | some o =>
    rw [hg] at hc
    cases o with
    | cells cs t fr => obtain ⟨fr', h'⟩ := h.rows _ _ _ _ hg
                       rw [h']; exact hc
    | _ => cases hc
theorem Keeps.slice {B : Nat} {w w' : World} {v : Value} {q : List (BitVec 8)} (h : Keeps B w w') (hs : Slice w v q) : Slice w' v q := by
  obtain ⟨A, c, h1, h2, h3⟩ := hs
  refine ⟨A, c, h1, h2, fun hne => ?_⟩
  obtain ⟨b, o, h4, h5, h6⟩ := h3 hne
  exact ⟨b, o, h4, Nat.lt_of_lt_of_le h5 h.below.size, fun j x hx => h.cell (h6 j x hx)⟩
theorem Keeps.parts {B : Nat} {w w' : World} {v : Value} {ps : List (List (BitVec 8))} (h : Keeps B w w') (hs : Parts w v ps) : Parts w' v ps := by
  obtain ⟨A, c, h1, h3⟩ := hs
  refine ⟨A, c, h1, fun hne => ?_⟩
  obtain ⟨b, o, h4, h5, h6⟩ := h3 hne
  refine ⟨b, o, h4, Nat.lt_of_lt_of_le h5 h.below.size, fun k q hq => ?_⟩
  obtain ⟨u, h7, h8⟩ := h6 k q hq
  exact ⟨u, h.cell h7, h.slice h8⟩
/- what a value is known by -/
def is (c : Value) : Value → World → Prop := fun v _ => v = c
def anyV : Value → World → Prop := fun _ _ => True
/- a literal's row, frozen or not -/
def lit (B : Nat) (q : List (BitVec 8)) : Value → World → Prop := fun v w => ∃ (g : Nat) (fr : Nat × Nat), v = .slice (some ⟨g, 0, none⟩) q.length q.length ∧ B ≤ g ∧ w.heap[g]? = some (.cells (bs q) 5 fr)
def Stays (B : Nat) (V : Value → World → Prop) : Prop := ∀ v w w', V v w → Keeps B w w' → V v w'
def Vs (l : List (Value → World → Prop)) (i : Nat) : Value → World → Prop := l.getD i anyV
section
variable {P : Program} {ops : Array Oper} {n : Nat} {R : World → World → Prop} {V : Nat → Value → World → Prop} {G : Nat → Bool} {a0 a : Act} {w1 w : World} {x : Nat → Value} {o : Oper} {l : List Oper} {i : Nat}
theorem Known.get (hk : Known ops n V a x w o) (j d : Nat) (hw : waitsFor o j = true) (hj : j < n) (hd : dstAt ops j = some d) : ∃ v, a.tmps[d]? = some v ∧ V j v w := ⟨x j, (hk j hw hj).2 d hd, (hk j hw hj).1⟩
theorem Known.is (hk : Known ops n V a x w o) (j d : Nat) (hw : waitsFor o j = true) (hj : j < n) (hd : dstAt ops j = some d) (c : Value) (hV : V j = is c) : a.tmps[d]? = some c := by
  obtain ⟨h1, h2⟩ := hk j hw hj
  rw [hV] at h1
  rw [h2 d hd]; exact congrArg some h1
end
def putL : List (Option Tmp) → (Nat → Value) → Nat → Act → Act
  | [], _, _, a => a
  | d :: ds, x, i, a => putL ds x (i + 1) (a.put d (x i))
theorem putL_snoc (x : Nat → Value) (d : Option Tmp) : ∀ (ds : List (Option Tmp)) (i : Nat) (a : Act), putL (ds ++ [d]) x i a = (putL ds x i a).put d (x (i + ds.length))
  | [], i, a => rfl
  | e :: ds, i, a => by
    rw [List.cons_append, putL, putL, putL_snoc x d ds (i + 1) _, List.length_cons, show i + 1 + ds.length = i + (ds.length + 1) by omega]
theorem puts_eq (l : List Oper) (x : Nat → Value) (a : Act) : ∀ n, n ≤ l.length → puts l.toArray x n a = putL ((l.map (·.dst)).take n) x 0 a
  | 0, _ => rfl
  | n + 1, h => by
    have hl : n < (l.map (·.dst)).length := by rw [List.length_map]; exact h
    have e : dstAt l.toArray n = (l.map (·.dst))[n] := by
      have : l.toArray[n]? = some l[n] := (List.getElem?_toArray (xs := l)).trans (List.getElem?_eq_getElem h)
      simp [dstAt, this]
    rw [puts, puts_eq l x a n (by omega), List.take_succ_eq_append_getElem hl, putL_snoc, e, List.length_take, Nat.min_eq_left (by omega), Nat.zero_add]
section
variable {P : Program} {o : Oper} {a : Act} {w : World} {R : Value → World → Prop}
theorem does_run {v : Value} {w' : World} (h : (execOp a.eval o).run P w = .ok (.value v) w') (hR : R v w') : Does P o a w R := fun K Q hK => by
  unfold Oper.wp; rw [h]; exact hK v w' hR
theorem does_assign {t : Nat} {v : Value} (ho : o.op = .assign (.tmp t)) (ht : a.tmps[t]? = some v) (h : R v w) : Does P o a w R :=
  does_run (by simp only [execOp, ho, eval_of_get ht, Sem.run_pure]) h
end
end Go.Proofs.YtbhmgnhiglpmhaaDoor

/- A region that draws its order and in which some operations change what was there (calls of methods, appends, stores), one behind the other: each of them begins a new phase; what is known of the world hangs on the phase. -/
set_option maxRecDepth 4000
namespace Go.Proofs.YtbhmgnhiglpmhaaDoor
open Go Go.RowKit
def wildCount (U : Nat → Bool) (n : Nat) (m : Nat → Bool) : Nat := ((List.range n).filter fun i => U i && m i).length
def ancOf (ops : Array Oper) (j : Nat) : Array Bool := anc ops (List.range (j + 1)).reverse ((Array.replicate ops.size false).setIfInBounds j true)
def phChk (ops : Array Oper) (n : Nat) (U : Nat → Bool) (ph : Nat → Option Nat) (rig : Nat → Bool) : Bool :=
  (List.range n).all fun j => match ph j with
    | none => !U j && rig j
    | some p => (wildCount U n (fun i => i != j && (ancOf ops j).getD i false) == p) && (List.range n).all fun u => !U u || (ancOf ops j).getD u false || u == j || (ancOf ops u).getD j false
/- no operation that may come up ahead of operation i stores to slot t -/
def noDstF (ops : Array Oper) (n i t : Nat) : Bool := (List.range n).all fun j => dstAt ops j != some t || (j != i && (ancOf ops j).getD i false)
def phAfter (U : Nat → Bool) (ph : Nat → Option Nat) (i : Nat) : Option Nat := (ph i).map fun p => if U i then p + 1 else p
section
variable {P : Program} {Q : Exit → Act → World → Prop} {ops : Array Oper} {n : Nat} {K : World → World → Prop} {Φ : Nat → World → Prop} {V : Nat → Value → World → Prop} {G U rig : Nat → Bool} {ph : Nat → Option Nat} {a0 : Act} {w1 : World}
def KnownP (ops : Array Oper) (n : Nat) (V : Nat → Value → World → Prop) (U rig : Nat → Bool) (ph : Nat → Option Nat) (q : Option Nat) (a : Act) (x : Nat → Value) (w : World) (o : Oper) : Prop :=
  ∀ j, waitsFor o j = true → j < n → (rig j = true ∨ (q.isSome = true ∧ phAfter U ph j = q) → V j (x j) w) ∧ ∀ d, dstAt ops j = some d → a.tmps[d]? = some (x j)
def StepP (P : Program) (ops : Array Oper) (n : Nat) (K : World → World → Prop) (Φ : Nat → World → Prop) (V : Nat → Value → World → Prop) (G U rig : Nat → Bool) (ph : Nat → Option Nat) (a0 : Act) (i : Nat) (o : Oper) : Prop :=
  ∀ (a : Act) (x : Nat → Value) (w : World), (∀ t, noDstF ops n i t = true → a.tmps[t]? = a0.tmps[t]?) → KnownP ops n V U rig ph (ph i) a x w o →
    match ph i with
    | none => (∃ p, Φ p w) → if G i then Does P o a w (fun v w' => w' = w ∧ V i v w') else V i undef w
    | some p => Φ p w → if G i then Does P o a w (fun v w' => (if U i then Φ (p + 1) w' else K w w') ∧ V i v w') else U i = false ∧ V i undef w
def GuardP (V : Nat → Value → World → Prop) (G : Nat → Bool) (rig : Nat → Bool) (i : Nat) (o : Oper) : Prop :=
  match o.guard with
  | none => G i = true
  | some (j, want) => rig j = true ∧ ∀ v w, V j v w → v = .bool (want == G i) ∨ (v = undef ∧ G i = false)
structure InvP (ops : Array Oper) (n : Nat) (Φ : Nat → World → Prop) (V : Nat → Value → World → Prop) (U rig : Nat → Bool) (ph : Nat → Option Nat) (a0 : Act) (listed : Array Bool) (a : Act) (x : Nat → Value) (w : World) : Prop where
  size : listed.size = ops.size
  closed : ∀ k o, ops[k]? = some o → listed.getD k false = true → ∀ e ∈ o.after, Region.binds .any e = true → listed.getD e.on false = true
  rel : Φ (wildCount U n fun i => listed.getD i false) w
  le : ∀ i, i < n → listed.getD i false = true → ∀ q, phAfter U ph i = some q → q ≤ wildCount U n fun i => listed.getD i false
  defers : a.defers = a0.defers
  tsize : a.tmps.size = a0.tmps.size
  at_ : ∀ i, i < n → listed.getD i false = true → ((rig i = true ∨ phAfter U ph i = some (wildCount U n fun i => listed.getD i false)) → V i (x i) w) ∧ ∀ d, dstAt ops i = some d → a.tmps[d]? = some (x i)
  out : ∀ k, (∀ i, i < n → listed.getD i false = true → dstAt ops i ≠ some k) → a.tmps[k]? = a0.tmps[k]?
theorem wildCount_congr {n : Nat} {m m' : Nat → Bool} (h : ∀ i, i < n → U i = true → m i = m' i) : wildCount U n m = wildCount U n m' := by
  unfold wildCount
  congr 1
  refine List.filter_congr fun i hi => ?_
  have hi' := List.mem_range.1 hi
  cases hu : U i with
  | false => rfl
  | true => rw [h i hi' hu]
theorem wildCount_step {j : Nat} {m m' : Nat → Bool} (hj : m j = false) (hj' : m' j = true) (hu : U j = true) (h : ∀ i, i ≠ j → m' i = m i) : ∀ n, j < n → wildCount U n m' = wildCount U n m + 1
  | 0, hn => by omega
  | n + 1, hn => by
    unfold wildCount
    rw [List.range_succ, List.filter_append, List.filter_append, List.length_append, List.length_append]
    by_cases hjn : j = n
    · subst hjn
      have e : (List.range j).filter (fun i => U i && m' i) = (List.range j).filter fun i => U i && m i :=
        List.filter_congr fun i hi => by rw [h i (by have := List.mem_range.1 hi; omega)]
      rw [e]
      simp [hu, hj, hj']
    · have ih := wildCount_step hj hj' hu h n (by omega)
      unfold wildCount at ih
      have e : m' n = m n := h n (fun e => hjn e.symm)
      simp only [List.filter_cons, List.filter_nil, e]
      omega
theorem wildCount_same {m m' : Nat → Bool} {j : Nat} (hu : U j = false) (h : ∀ i, i ≠ j → m' i = m i) (n : Nat) : wildCount U n m' = wildCount U n m :=
  wildCount_congr fun i _ hui => h i fun e => by rw [e, hu] at hui; cases hui
theorem wp_region_ph {id : Nat} {l : List Oper} {w0 : World} (n : Nat) (hn : n = l.length) (hm : P.follows .mixedOrders = true) (hchk : chk l.toArray n a0.tmps.size = true) (hph : phChk l.toArray n U ph rig = true)
    (hKΦ : ∀ p w w', Φ p w → K w w' → Φ p w') (hKV : ∀ i, i < n → ∀ v w w', V i v w → K w w' → V i v w') (hrig : ∀ i, i < n → rig i = true → ∀ v w w', V i v w → V i v w')
    (h0 : Φ 0 w0.drew) (hguard : All (GuardP V G rig) n l 0) (hstep : All (StepP P l.toArray n K Φ V G U rig ph a0) n l 0)
    (hrest : ∀ (x : Nat → Value) (w : World), Φ (wildCount U n fun _ => true) w → (∀ i, i < n → rig i = true ∨ phAfter U ph i = some (wildCount U n fun _ => true) → V i (x i) w) → wpAnyH P .any l.toArray Q (fun _ => True) 0 (Array.replicate l.length true) (puts l.toArray x n a0) w) :
    (Code.region id l.toArray true).wp P Q a0 w0 := by
  refine wp_region_any hm ?_
  change wpAny P .any l.toArray Q l.toArray.size (Array.replicate l.toArray.size false) a0 w0.drew
  have hg0 := fun j o ho hj => all_get hguard j o ho (by simpa using hj)
  have hs0 := fun j o ho hj => all_get hstep j o ho (by simpa using hj)
  clear hguard hstep
  generalize w0.drew = w1 at *
  have hsz : l.toArray.size = l.length := by simp
  have hget : ∀ j o, l.toArray[j]? = some o → l[j]? = some o := fun j o h => (List.getElem?_toArray (xs := l)).symm.trans h
  simp only [Nat.zero_add] at hg0 hs0
  have hg : ∀ j o, l.toArray[j]? = some o → j < n → GuardP V G rig j o := fun j o ho hj => hg0 j o (hget j o ho) hj
  have hs : ∀ j o, l.toArray[j]? = some o → j < n → StepP P l.toArray n K Φ V G U rig ph a0 j o := fun j o ho hj => hs0 j o (hget j o ho) hj
  clear hg0 hs0 hget
  rw [← hsz] at hn hrest
  generalize l.toArray = ops at *
  clear hsz
  subst hn
  unfold chk at hchk
  simp only [Bool.and_eq_true, List.all_eq_true, List.mem_range] at hchk
  obtain ⟨⟨⟨⟨_, c1⟩, c2⟩, c3⟩, _⟩ := hchk
  unfold phChk at hph
  simp only [List.all_eq_true, List.mem_range] at hph
  have back : ∀ i o, ops[i]? = some o → ∀ e ∈ o.after, Region.binds .any e = true → e.on < i := fun i o ho e he hb => by
    have hi := (Array.getElem?_eq_some_iff.1 ho).1
    have h := c1 i hi
    rw [ho] at h
    simp only [Option.map_some, Option.getD_some, Array.all_eq_true_iff_forall_mem] at h
    have := h e he
    simpa [hb] using this
  have dlt : ∀ i, i < ops.size → ∀ d, dstAt ops i = some d → d < a0.tmps.size := fun i hi d hd => by
    have h := c2 i hi
    rw [hd] at h
    simp only [Bool.and_eq_true, decide_eq_true_eq] at h
    exact h.1
  have dne : ∀ i, i < ops.size → ∀ j, j < i → ∀ d, dstAt ops i = some d → dstAt ops j ≠ some d := fun i hi j hj d hd => by
    have h := c2 i hi
    rw [hd] at h
    simp only [Bool.and_eq_true, List.all_eq_true, List.mem_range] at h
    have := h.2 j hj
    simpa using this
  have dinj : ∀ i j d, i < ops.size → j < ops.size → dstAt ops i = some d → dstAt ops j = some d → i = j := fun i j d hi hj h1 h2 => by
    rcases Nat.lt_trichotomy i j with h | h | h
    · exact absurd h1 (dne j hj i h d h2)
    · exact h
    · exact absurd h2 (dne i hi j h d h1)
  have look : ∀ i o, i < ops.size → ops[i]? = some o → ∀ j want, o.guard = some (j, want) → j < ops.size ∧ waitsFor o j = true ∧ ∃ d, dstAt ops j = some d := fun i o hi ho j want hgd => by
    have h := c3 i hi
    rw [ho] at h
    simp only [Option.map_some, Option.getD_some, hgd, Bool.and_eq_true, decide_eq_true_eq] at h
    exact ⟨h.1.1, h.1.2, Option.isSome_iff_exists.1 h.2⟩
  clear c1 c2 c3
  have main : ∀ m listed a x w, count listed ops.size = m → InvP ops ops.size Φ V U rig ph a0 listed a x w → wpAny P .any ops Q m listed a w := by
    intro m
    induction m with
    | zero =>
      intro listed a x w hm0 I
      have hl : listed = Array.replicate ops.size true := by
        apply Array.ext_getElem?
        intro k
        by_cases hk : k < ops.size
        · have hks : k < listed.size := by rw [I.size]; exact hk
          rw [Array.getElem?_eq_getElem hks, Array.getElem?_replicate, if_pos hk]
          have e : listed.getD k false = listed[k] := by simp [Array.getD, hks]
          rw [← e, count_zero listed _ hm0 k hk]
        · rw [Array.getElem?_eq_none (by rw [I.size]; omega), Array.getElem?_replicate, if_neg hk]
      have hwc : (wildCount U ops.size fun i => listed.getD i false) = wildCount U ops.size fun _ => true := wildCount_congr fun i hi _ => count_zero listed _ hm0 i hi
      have ha : a = puts ops x ops.size a0 := by
        obtain ⟨p1, p2, p3, p4⟩ := puts_get x a0 ops.size dne dlt
        have ht : a.tmps = (puts ops x ops.size a0).tmps := by
          apply Array.ext_getElem?
          intro k
          by_cases hk : ∃ i, i < ops.size ∧ dstAt ops i = some k
          · obtain ⟨i, hi, hd⟩ := hk
            rw [(I.at_ i hi (count_zero listed _ hm0 i hi)).2 k hd, p3 i hi k hd]
          · rw [I.out k fun i hi _ hd => hk ⟨i, hi, hd⟩, p4 k fun i hi hd => hk ⟨i, hi, hd⟩]
        have hd : a.defers = (puts ops x ops.size a0).defers := I.defers.trans p1.symm
        generalize puts ops x ops.size a0 = b at *
        cases a; cases b; simp only at ht hd; subst ht hd; rfl
      have hat := fun i hi => (I.at_ i hi (count_zero listed _ hm0 i hi)).1
      have hrel := I.rel
      rw [hwc] at hat hrel
      rw [hl, ha]
      refine wpAny_of_held _ _ _ _ (S := fun _ => True) ?_
      exact hrest x w hrel hat
    | succ m ih =>
      intro listed a x w hm1 I
      have hgd : ∀ k, k < ops.size → listed.getD k true = listed.getD k false := fun k hk => by simp [Array.getD, show k < listed.size by rw [I.size]; exact hk]
      refine ⟨fun hr => ?_, fun i hi => ?_⟩
      · exfalso
        obtain ⟨i, hio, hif, hbelow⟩ := count_pos listed _ m hm1
        have : i ∈ Region.ready .any ops listed := mem_ready.2 ⟨by rw [hgd i hio]; exact hif, ops[i], Array.getElem?_eq_getElem hio, fun e he hb => hbelow e.on (back i _ (Array.getElem?_eq_getElem hio) e he hb)⟩
        rw [hr] at this
        cases this
      · obtain ⟨hun, o, ho, hall⟩ := mem_ready.1 hi
        have hio : i < ops.size := (Array.getElem?_eq_some_iff.1 ho).1
        have hif : listed.getD i false = false := by rw [← hgd i hio]; exact hun
        have hilt : i < listed.size := by rw [I.size]; exact hio
        have hdo : dstAt ops i = o.dst := by simp [dstAt, ho]
        -- the phase
        have hphase : ∀ p, ph i = some p → (wildCount U ops.size fun k => listed.getD k false) = p := fun p hp => by
          have h := hph i hio
          rw [hp] at h
          simp only [Bool.and_eq_true, beq_iff_eq, List.all_eq_true, List.mem_range, Bool.or_eq_true, Bool.not_eq_true'] at h
          obtain ⟨hc, hu⟩ := h
          rw [← hc]
          refine wildCount_congr fun u hul hwild => ?_
          have h2 := hu u hul
          by_cases hui : u = i
          · subst hui; rw [hif]; simp
          · have hne : (u != i) = true := bne_iff_ne.2 hui
            rw [hne, Bool.true_and]
            cases hanc : (ancOf ops i).getD u false with
            | true =>
              have hL : ∀ k, ((Array.replicate ops.size false).setIfInBounds i true).getD k false = true → k = i ∨ listed.getD k false = true := fun k hk => by
                rw [getD_set _ _ _ (by simpa using hio)] at hk
                by_cases hik : i = k
                · exact .inl hik.symm
                · rw [if_neg hik] at hk
                  simp [Array.getD] at hk
              have hcl : ∀ k o', ops[k]? = some o' → (k = i ∨ listed.getD k false = true) → ∀ e ∈ o'.after, Region.binds .any e = true → (e.on = i ∨ listed.getD e.on false = true) := fun k o' ho' hk e he hb => by
                rcases hk with rfl | hk
                · rw [ho] at ho'; injection ho' with ho'; subst ho'
                  exact .inr (hall e he hb)
                · exact .inr (I.closed k o' ho' hk e he hb)
              have := anc_sound (L := fun k => k = i ∨ listed.getD k false = true) hcl _ _ hL u hanc
              rcases this with h | h
              · exact absurd h hui
              · exact h
            | false =>
              rw [hwild, hanc] at h2
              have hju : (ancOf ops u).getD i false = true := by
                rcases h2 with ((h | h) | h) | h
                · cases h
                · cases h
                · exact absurd h hui
                · exact h
              cases hlu : listed.getD u false with
              | false => rfl
              | true =>
                have hL : ∀ k, ((Array.replicate ops.size false).setIfInBounds u true).getD k false = true → listed.getD k false = true := fun k hk => by
                  rw [getD_set _ _ _ (by simpa using hul)] at hk
                  by_cases hik : u = k
                  · subst hik; exact hlu
                  · rw [if_neg hik] at hk
                    simp [Array.getD] at hk
                have := anc_sound (L := fun k => listed.getD k false = true) I.closed _ _ hL i hju
                rw [hif] at this; cases this
        have next : ∀ v w', (match ph i with | none => w' = w | some p => if U i && G i then Φ (p + 1) w' else K w w' ∨ w' = w) → (U i = true → G i = true ∧ (ph i).isSome = true) → V i v w' → InvP ops ops.size Φ V U rig ph a0 (listed.setIfInBounds i true) (a.put o.dst v) (fun k => if k = i then v else x k) w' := by
          intro v w' hR hUG hV
          have hcnt : (wildCount U ops.size fun k => (listed.setIfInBounds i true).getD k false) = (wildCount U ops.size fun k => listed.getD k false) + if U i then 1 else 0 := by
            cases hu : U i with
            | true =>
              rw [if_pos rfl]
              exact wildCount_step (j := i) hif (by rw [getD_set _ _ _ hilt, if_pos rfl]) hu (fun k hk => by rw [getD_set _ _ _ hilt, if_neg (fun e => hk e.symm)]) _ hio
            | false =>
              rw [if_neg (by decide), Nat.add_zero]
              exact wildCount_same hu (fun k hk => by rw [getD_set _ _ _ hilt, if_neg (fun e => hk e.symm)]) _
          have hmild : U i = false → K w w' ∨ w' = w := fun hu => by
            revert hR
            cases hp : ph i with
            | none => exact fun h => .inr h
            | some p => intro h; simp only [hu, Bool.false_and] at h; simpa using h
          have hsoft : ∀ k, k < ops.size → listed.getD k false = true → k ≠ i → (rig k = true ∨ phAfter U ph k = some (wildCount U ops.size fun k => (listed.setIfInBounds i true).getD k false)) → V k (x k) w' := fun k hk hkl hki hor => by
            have hle := I.le k hk hkl
            rcases hor with h | h
            · exact hrig k hk h _ _ _ ((I.at_ k hk hkl).1 (.inl h))
            · cases hu : U i with
              | true =>
                rw [hcnt, hu, if_pos rfl] at h
                have := hle _ h
                omega
              | false =>
                rw [hcnt, hu, if_neg (by decide), Nat.add_zero] at h
                have h1 := (I.at_ k hk hkl).1 (.inr h)
                rcases hmild hu with h2 | h2
                · exact hKV k hk _ _ _ h1 h2
                · rw [h2]; exact h1
          refine ⟨by simp [I.size], fun k o' ho' hk e he hb => ?_, ?_, fun k hk hkl q hq => ?_, ?_, ?_, fun k hk hkl => ?_, fun k hk => ?_⟩
          · rw [getD_set _ _ _ hilt] at hk ⊢
            by_cases hei : i = e.on
            · rw [if_pos hei]
            · rw [if_neg hei]
              by_cases hik : i = k
              · subst hik
                rw [ho] at ho'; injection ho' with ho'; subst ho'
                exact hall e he hb
              · rw [if_neg hik] at hk
                exact I.closed k o' ho' hk e he hb
          · rw [hcnt]
            cases hu : U i with
            | true =>
              obtain ⟨hGi, hps⟩ := hUG hu
              obtain ⟨p, hp⟩ := Option.isSome_iff_exists.1 hps
              rw [hp] at hR
              simp only [hu, hGi, Bool.and_self, if_true] at hR
              rw [hphase p hp]
              exact hR
            | false =>
              rw [if_neg (by decide), Nat.add_zero]
              rcases hmild hu with h | h
              · exact hKΦ _ _ _ I.rel h
              · rw [h]; exact I.rel
          · rw [hcnt]
            rw [getD_set _ _ _ hilt] at hkl
            by_cases hki : k = i
            · subst hki
              unfold phAfter at hq
              obtain ⟨p, hp, hq⟩ := Option.map_eq_some_iff.1 hq
              rw [hphase p hp, ← hq]
              cases U k <;> simp
            · rw [if_neg (fun e => hki e.symm)] at hkl
              have := I.le k hk hkl q hq
              omega
          · cases hd : o.dst <;> simp [Act.put, I.defers]
          · cases hd : o.dst <;> simp [Act.put, I.tsize]
          · rw [getD_set _ _ _ hilt] at hkl
            by_cases hki : k = i
            · subst hki
              refine ⟨fun _ => by rw [if_pos rfl]; exact hV, fun d hd => ?_⟩
              rw [if_pos rfl]
              have hlt := dlt k hio d hd
              rw [hdo] at hd
              simp [Act.put, hd, I.tsize, hlt]
            · rw [if_neg (fun e => hki e.symm)] at hkl
              refine ⟨fun hor => by rw [if_neg hki]; exact hsoft k hk hkl hki hor, fun d hd => ?_⟩
              rw [if_neg hki]
              have h2 := (I.at_ k hk hkl).2
              cases hd2 : o.dst with
              | none => simp only [Act.put]; exact h2 d hd
              | some di =>
                have hne : di ≠ d := fun e => hki (dinj k i d hk hio hd (by rw [hdo, hd2, e]))
                simp only [Act.put]
                rw [Array.getElem?_setIfInBounds_ne hne]
                exact h2 d hd
          · have hki := hk i hio (by rw [getD_set _ _ _ hilt, if_pos rfl])
            have hout := I.out k fun j hj hl => hk j hj (by rw [getD_set _ _ _ hilt]; split <;> simp_all)
            cases hd2 : o.dst with
            | none => simp only [Act.put]; exact hout
            | some di =>
              have hne : di ≠ k := fun e => hki (by rw [hdo, hd2, e])
              simp only [Act.put]
              rw [Array.getElem?_setIfInBounds_ne hne]
              exact hout
        have hcount : count (listed.setIfInBounds i true) ops.size = m := by have := count_set listed i hilt hif ops.size hio; omega
        have waits : ∀ j, waitsFor o j = true → listed.getD j false = true := fun j hwj => by
          unfold waitsFor at hwj
          rw [Array.any_eq_true] at hwj
          obtain ⟨k, hk, he⟩ := hwj
          simp only [Bool.and_eq_true, beq_iff_eq] at he
          have hl := hall o.after[k] (Array.getElem_mem hk) he.1
          rw [he.2] at hl
          exact hl
        have known : KnownP ops ops.size V U rig ph (ph i) a x w o := fun j hwj hj => by
          obtain ⟨h1, h2⟩ := I.at_ j hj (waits j hwj)
          refine ⟨fun hor => h1 ?_, h2⟩
          rcases hor with h | ⟨hs1, h⟩
          · exact .inl h
          · obtain ⟨p, hp⟩ := Option.isSome_iff_exists.1 hs1
            rw [hphase p hp, ← hp]
            exact .inr h
        have outer : ∀ t, noDstF ops ops.size i t = true → a.tmps[t]? = a0.tmps[t]? := fun t ht => by
          unfold noDstF at ht
          simp only [List.all_eq_true, List.mem_range] at ht
          refine I.out t fun j hj hlj hd => ?_
          have h2 := ht j hj
          rw [hd] at h2
          simp only [bne_self_eq_false, Bool.false_or, Bool.and_eq_true] at h2
          have hL : ∀ k, ((Array.replicate ops.size false).setIfInBounds j true).getD k false = true → listed.getD k false = true := fun k hk => by
            rw [getD_set _ _ _ (by simpa using hj)] at hk
            by_cases hjk : j = k
            · subst hjk; exact hlj
            · rw [if_neg hjk] at hk
              simp [Array.getD] at hk
          have h3 := anc_sound (L := fun k => listed.getD k false = true) I.closed _ _ hL i h2.2
          rw [hif] at h3; cases h3
        have step := hs i o ho hio a x w outer known
        have hwant : Region.wanted o (yielded ops a.tmps) = G i := by
          have hgi := hg i o ho hio
          unfold GuardP at hgi
          unfold Region.wanted
          cases hgd2 : o.guard with
          | none => rw [hgd2] at hgi; exact hgi.symm
          | some jw =>
            obtain ⟨j, want⟩ := jw
            rw [hgd2] at hgi
            simp only at hgi ⊢
            obtain ⟨hj, hwj, d, hd⟩ := look i o hio ho j want hgd2
            obtain ⟨h1, h2⟩ := I.at_ j hj (waits j hwj)
            have hv := hgi.2 _ _ (h1 (.inl hgi.1))
            have ht := h2 d hd
            rcases hv with hv | ⟨hv, hG0⟩
            · rw [hv] at ht
              unfold dstAt at hd
              simp only [yielded, hd, Option.bind_some, ht]
              cases want <;> cases G i <;> rfl
            · rw [hv] at ht
              unfold dstAt at hd
              simp only [yielded, hd, Option.bind_some, ht]
              rw [hG0]; rfl
        unfold wpOp
        simp only [ho, hwant]
        cases hp : ph i with
        | none =>
          rw [hp] at step
          simp only at step
          have step := step ⟨_, I.rel⟩
          have hU : U i = false := by
            have h := hph i hio
            rw [hp] at h
            simp only [Bool.and_eq_true, Bool.not_eq_true'] at h
            exact h.1
          by_cases hGi : G i = true
          · rw [if_pos hGi] at step ⊢
            exact .inl (step _ _ fun v w' ⟨hR, hV⟩ => ih _ _ _ w' hcount (next v w' (by rw [hp]; exact hR) (fun h => by rw [hU] at h; cases h) hV))
          · rw [if_neg hGi] at step ⊢
            exact ih _ _ _ w hcount (next undef w (by rw [hp]) (fun h => by rw [hU] at h; cases h) step)
        | some p =>
          rw [hp] at step
          simp only at step
          have hΦ : Φ p w := by rw [← hphase p hp]; exact I.rel
          have step := step hΦ
          by_cases hGi : G i = true
          · rw [if_pos hGi] at step ⊢
            refine .inl (step _ _ fun v w' ⟨hR, hV⟩ => ih _ _ _ w' hcount (next v w' ?_ (fun _ => ⟨hGi, by rw [hp]; rfl⟩) hV))
            rw [hp, hGi, Bool.and_true]
            cases hu : U i with
            | true => rw [hu] at hR; simpa using hR
            | false => rw [hu] at hR; simp only [Bool.false_eq_true, if_false] at hR ⊢; exact .inl hR
          · rw [if_neg hGi] at step ⊢
            obtain ⟨hU, hV⟩ := step
            exact ih _ _ _ w hcount (next undef w (by rw [hp, hU]; exact .inr rfl) (fun h => by rw [hU] at h; cases h) hV)
  have hcount : count (Array.replicate ops.size false) ops.size = ops.size := by
    unfold count
    have e : (List.range ops.size).filter (fun i => !(Array.replicate ops.size false).getD i false) = List.range ops.size := by
      refine List.filter_eq_self.2 fun i hi => ?_
      simp [Array.getD]
    rw [e, List.length_range]
  have hz : (wildCount U ops.size fun i => (Array.replicate ops.size false).getD i false) = 0 := by
    unfold wildCount
    have e : (List.range ops.size).filter (fun i => U i && (Array.replicate ops.size false).getD i false) = [] := by
      refine List.filter_eq_nil_iff.2 fun i hi => ?_
      simp [Array.getD]
    rw [e]; rfl
  exact main ops.size (Array.replicate ops.size false) a0 (fun _ => undef) w1 hcount ⟨by simp, fun k o _ hk => by simp [Array.getD] at hk, by rw [hz]; exact h0, fun i _ hl => by simp [Array.getD] at hl, rfl, rfl, fun i _ hl => by simp [Array.getD] at hl, fun k _ => rfl⟩
end
end Go.Proofs.YtbhmgnhiglpmhaaDoor

/- The region whose operations change things, with lists of what is known: of the values, of the phases. -/
set_option maxRecDepth 4000
namespace Go.Proofs.YtbhmgnhiglpmhaaDoor
open Go Go.RowKit
/- all that there was is as it was -/
def Same (w w' : World) : Prop := Below w.heap.size w w'
theorem Same.refl (w : World) : Same w w := Below.refl _ _
theorem Same.alloc (w : World) (o : Obj) : Same w (w.alloc o) := (Below.refl _ _).alloc (Nat.le_refl _) o
def VOk : List (Value → World → Prop) → List Bool → Prop
  | V :: Vl, true :: rl => (∀ v w w', V v w → V v w') ∧ VOk Vl rl
  | V :: Vl, false :: rl => (∀ v w w', V v w → Same w w' → V v w') ∧ VOk Vl rl
  | [], [] => True
  | _, _ => False
theorem vok_nil : VOk [] [] := trivial
theorem vok_rig {V : Value → World → Prop} {Vl : List (Value → World → Prop)} {rl : List Bool} (h : ∀ v w w', V v w → V v w') (t : VOk Vl rl) : VOk (V :: Vl) (true :: rl) := ⟨h, t⟩
theorem vok_soft {V : Value → World → Prop} {Vl : List (Value → World → Prop)} {rl : List Bool} (h : ∀ v w w', V v w → Same w w' → V v w') (t : VOk Vl rl) : VOk (V :: Vl) (false :: rl) := ⟨h, t⟩
theorem vok_at : ∀ {Vl : List (Value → World → Prop)} {rl : List Bool}, VOk Vl rl → ∀ i, (rl.getD i false = true → ∀ v w w', Vs Vl i v w → Vs Vl i v w') ∧ ∀ v w w', Vs Vl i v w → Same w w' → Vs Vl i v w'
  | [], [], _, i => ⟨fun h => by simp at h, fun _ _ _ _ _ => by unfold Vs; simp [anyV]⟩
  | V :: Vl, true :: rl, h, 0 => ⟨fun _ => h.1, fun v w w' hv _ => h.1 v w w' hv⟩
  | V :: Vl, false :: rl, h, 0 => ⟨fun h => by simp at h, h.1⟩
  | V :: Vl, true :: rl, h, i + 1 => by have := vok_at h.2 i; unfold Vs at *; simpa using this
  | V :: Vl, false :: rl, h, i + 1 => by have := vok_at h.2 i; unfold Vs at *; simpa using this
  | [], _ :: _, h, _ => h.elim
  | _ :: _, [], h, _ => by cases h
def Wl (l : List (World → Prop)) (p : Nat) : World → Prop := l.getD p fun _ => False
def WOk : List (World → Prop) → Prop
  | [] => True
  | F :: l => (∀ w w', F w → Same w w' → F w') ∧ WOk l
theorem wok_nil : WOk [] := trivial
theorem wok_cons {F : World → Prop} {l : List (World → Prop)} (h : ∀ w w', F w → Same w w' → F w') (t : WOk l) : WOk (F :: l) := ⟨h, t⟩
theorem wok_at : ∀ {l : List (World → Prop)}, WOk l → ∀ p w w', Wl l p w → Same w w' → Wl l p w'
  | [], _, p, w, w', h, _ => by unfold Wl at h; simp at h
  | F :: l, h, 0, w, w', hw, k => h.1 w w' hw k
  | F :: l, h, p + 1, w, w', hw, k => by have := wok_at h.2 p w w'; unfold Wl at *; simp only [List.getD_cons_succ] at *; exact this hw k
section
variable {P : Program} {ops : Array Oper} {n : Nat} {K : World → World → Prop} {Φ : Nat → World → Prop} {V : Nat → Value → World → Prop} {G U rig : Nat → Bool} {ph : Nat → Option Nat} {a0 a : Act} {w : World} {x : Nat → Value} {o : Oper} {l : List Oper} {i : Nat} {q : Option Nat}
theorem KnownP.get (hk : KnownP ops n V U rig ph q a x w o) (j d : Nat) (hw : waitsFor o j = true) (hj : j < n) (hd : dstAt ops j = some d) (hor : rig j = true ∨ (q.isSome = true ∧ phAfter U ph j = q)) : ∃ v, a.tmps[d]? = some v ∧ V j v w :=
  ⟨x j, (hk j hw hj).2 d hd, (hk j hw hj).1 hor⟩
theorem KnownP.is (hk : KnownP ops n V U rig ph q a x w o) (j d : Nat) (hw : waitsFor o j = true) (hj : j < n) (hd : dstAt ops j = some d) (hor : rig j = true) (c : Value) (hV : V j = is c) : a.tmps[d]? = some c := by
  obtain ⟨h1, h2⟩ := hk j hw hj
  have h1 := h1 (.inl hor)
  rw [hV] at h1
  rw [h2 d hd]; exact congrArg some h1
theorem allp_mild (p : Nat) (hp : ph i = some p) (hU : U i = false) (hG : G i = true) (h : ∀ (a : Act) (x : Nat → Value) (w : World), (∀ t, noDstF ops n i t = true → a.tmps[t]? = a0.tmps[t]?) → KnownP ops n V U rig ph (some p) a x w o → Φ p w → Does P o a w (fun v w' => K w w' ∧ V i v w'))
    (t : All (StepP P ops n K Φ V G U rig ph a0) n l (i + 1)) : All (StepP P ops n K Φ V G U rig ph a0) n (o :: l) i :=
  all_cons (fun a x w h1 h2 => by
    rw [hp] at h2 ⊢; simp only; intro hΦ
    rw [if_pos hG, hU]
    intro k q hk
    exact h a x w h1 h2 hΦ k q fun v w' hv => hk v w' ⟨by rw [if_neg (by decide)]; exact hv.1, hv.2⟩) t
theorem allp_wild (p : Nat) (hp : ph i = some p) (hU : U i = true) (hG : G i = true) (h : ∀ (a : Act) (x : Nat → Value) (w : World), (∀ t, noDstF ops n i t = true → a.tmps[t]? = a0.tmps[t]?) → KnownP ops n V U rig ph (some p) a x w o → Φ p w → Does P o a w (fun v w' => Φ (p + 1) w' ∧ V i v w'))
    (t : All (StepP P ops n K Φ V G U rig ph a0) n l (i + 1)) : All (StepP P ops n K Φ V G U rig ph a0) n (o :: l) i :=
  all_cons (fun a x w h1 h2 => by
    rw [hp] at h2 ⊢; simp only; intro hΦ
    rw [if_pos hG, hU]
    intro k q hk
    exact h a x w h1 h2 hΦ k q fun v w' hv => hk v w' ⟨by rw [if_pos rfl]; exact hv.1, hv.2⟩) t
end
theorem wp_region_phs {P : Program} {Q : Exit → Act → World → Prop} {id : Nat} {l : List Oper} {a0 : Act} {w0 : World} (Vl : List (Value → World → Prop)) (rl : List Bool) (Fl : List (World → Prop)) (Ul : List Bool) (pl : List (Option Nat)) (ds : List (Option Tmp)) (n m : Nat) (G : Nat → Bool)
    (hN : l.length = n) (hds : l.map (·.dst) = ds) (hm : P.follows .mixedOrders = true) (hchk : chk l.toArray n a0.tmps.size = true) (hph : phChk l.toArray n (fun i => Ul.getD i false) (fun i => pl.getD i none) (fun i => rl.getD i false) = true) (hmm : wildCount (fun i => Ul.getD i false) n (fun _ => true) = m)
    (hF : WOk Fl) (hV : VOk Vl rl) (h0 : Wl Fl 0 w0.drew)
    (hguard : All (GuardP (Vs Vl) G (fun i => rl.getD i false)) n l 0) (hstep : All (StepP P l.toArray n Same (Wl Fl) (Vs Vl) G (fun i => Ul.getD i false) (fun i => rl.getD i false) (fun i => pl.getD i none) a0) n l 0)
    (hrest : ∀ (x : Nat → Value) (w : World), Wl Fl m w → (∀ i, i < n → rl.getD i false = true ∨ phAfter (fun i => Ul.getD i false) (fun i => pl.getD i none) i = some m → Vs Vl i (x i) w) → wpAnyH P .any l.toArray Q (fun _ => True) 0 (Array.replicate n true) (putL ds x 0 a0) w) :
    (Code.region id l.toArray true).wp P Q a0 w0 := by
  subst hN hds hmm
  refine wp_region_ph l.length rfl hm hchk hph (fun p w w' => wok_at hF p w w') (fun i _ => (vok_at hV i).2) (fun i _ => (vok_at hV i).1) h0 hguard hstep fun x w h1 h2 => ?_
  have e : puts l.toArray x l.length a0 = putL (l.map (·.dst)) x 0 a0 := by
    have := puts_eq l x a0 l.length (Nat.le_refl _)
    rwa [List.take_of_length_le (by simp)] at this
  rw [e]
  exact hrest x w h1 h2
end Go.Proofs.YtbhmgnhiglpmhaaDoor

/- What a call changes when it works on things that were there: a footprint; rows of elements of several cells. No function of the program is named here. -/
set_option maxRecDepth 4000
namespace Go.Proofs.YtbhmgnhiglpmhaaDoor
open Go Go.RowKit
/- all blocks but those of F are as they were -/
structure Chg (F : Nat → Prop) (w w' : World) : Prop where
  os : w'.os = w.os
  tape : w'.tape = w.tape
  output : w'.output = w.output
  size : w.heap.size ≤ w'.heap.size
  block : ∀ k, k < w.heap.size → ¬ F k → w'.heap[k]? = w.heap[k]?
section
variable {F F' : Nat → Prop} {a b c w w' : World}
theorem Chg.refl (F : Nat → Prop) (w : World) : Chg F w w := ⟨rfl, rfl, rfl, Nat.le_refl _, fun _ _ _ => rfl⟩
theorem Chg.trans (h : Chg F a b) (k : Chg F' b c) (hF : ∀ i, F' i → F i ∨ a.heap.size ≤ i) : Chg F a c :=
  ⟨k.os.trans h.os, k.tape.trans h.tape, k.output.trans h.output, Nat.le_trans h.size k.size, fun i hi hn => (k.block i (Nat.lt_of_lt_of_le hi h.size) fun hf => by rcases hF i hf with h1 | h1; exact hn h1; omega).trans (h.block i hi hn)⟩
theorem Chg.mono (h : Chg F a b) (hF : ∀ i, F i → F' i ∨ a.heap.size ≤ i) : Chg F' a b := (Chg.refl F' a).trans h hF
theorem Chg.of_below (h : Below w.heap.size w w') : Chg F w w' := ⟨h.os, h.tape, h.output, h.size, fun k hk _ => h.block k hk⟩
theorem Chg.drew (h : Chg F a w) : Chg F a w.drew := ⟨h.os, h.tape, h.output, h.size, h.block⟩
theorem Chg.alloc (h : Chg F a w) (o : Obj) : Chg F a (w.alloc o) := h.trans (F' := fun _ => False) (Chg.of_below ((Below.refl _ _).alloc (Nat.le_refl _) o)) (fun _ h => h.elim)
theorem Chg.setCell (h : Chg F a w) {p : Addr} (hp : F p.block ∨ a.heap.size ≤ p.block) (v : Value) : Chg F a (w.setCell p v) :=
  ⟨h.os, h.tape, h.output, by rw [World.size_setCell]; exact h.size, fun k hk hn => (Below.heap_setCell _ _ _ _ (fun e => by subst e; rcases hp with h1 | h1; exact hn h1; omega)).trans (h.block k hk hn)⟩
theorem Chg.setCells {g : Nat} (hp : F g ∨ a.heap.size ≤ g) : ∀ (vs : List Value) (o : Nat) {w : World}, Chg F a w → Chg F a (w.setCells g o vs)
  | [], _, _, h => h
  | v :: vs, o, _, h => Chg.setCells hp vs (o + 1) (h.setCell (p := ⟨g, o, none⟩) hp v)
theorem Chg.one (w : World) (g o : Nat) (v : Value) : Chg (fun k => k = g) w (w.setCell ⟨g, o, none⟩ v) := (Chg.refl (fun k => k = g) w).setCell (p := ⟨g, o, none⟩) (.inl rfl) v
theorem Chg.below (h : Chg F w w') {B : Nat} (hF : ∀ i, F i → B ≤ i) (hB : B ≤ w.heap.size) : Below B w w' := ⟨h.os, h.tape, h.output, h.size, fun k hk => h.block k (by omega) fun hf => by have := hF k hf; omega⟩
theorem Chg.grown (h : Chg F a w) {row : Option Nat} (hg : w.grownBy w' row) (hr : ∀ k, row = some k → F k ∨ a.heap.size ≤ k) : Chg F a w' :=
  h.trans (F' := fun k => row = some k) ⟨hg.os, hg.tape, hg.output, hg.size, fun k hk hn => hg.block k hk fun e => hn e.symm⟩ hr
theorem Row.chg {g : Nat} {t : TypeId} {cs : Array Value} (h : Row w g t cs) (k : Chg F w w') (hg : ¬ F g) : Row w' g t cs := (k.block g h.lt hg).trans h
end
/- rows of elements of several cells -/
def spl {α : Type} (L : List α) (o : Nat) (vs : List α) : List α := L.take o ++ vs ++ L.drop (o + vs.length)
theorem length_spl {α : Type} (L : List α) (o : Nat) (vs : List α) (h : o + vs.length ≤ L.length) : (spl L o vs).length = L.length := by simp [spl]; omega
theorem set_eq_spl {α : Type} (L : List α) (o : Nat) (v : α) (h : o < L.length) : L.set o v = spl L o [v] := by
  rw [spl, List.set_eq_take_append_cons_drop, if_pos h]; simp
/- an element of an owned row of elements: read and written -/
section
variable {w : World} {base e sz n cap g : Nat} {l : List (List Value)}
end
/- append: where the slice then lies: where it lay, or in a new block -/
def Where (w : World) (v v' : Value) : Prop := v'.ownBlock = v.ownBlock ∨ ∀ k, v'.ownBlock = some k → w.heap.size ≤ k
theorem Where.cases {w : World} {v v' : Value} (h : Where w v v') {k : Nat} (hk : v'.ownBlock = some k) : v.ownBlock = some k ∨ w.heap.size ≤ k := by
  rcases h with h | h
  · exact .inl (by rw [← h]; exact hk)
  · exact .inr (h k hk)
theorem run_append_where {P : Program} (w : World) (base : Nat) (t ty e : TypeId) (i : TypeInfo) (z : Value) (size bytes : Nat) (ht : P.underlying t = some (.slice e)) (hi : P.info? e = some i) (hz : i.zero = some z)
    (hsize : i.size = size) (hby : i.bytes = bytes) (hzs : z.cells.size = size) (hsz : 0 < size)
    (v : Value) (n : Nat) (xs : List Value) (hown : w.ownsRow base e size v n xs)
    (a : Addr) (m c : Nat) (news : List Value) (hl : news.length = m * size) (hnews : ∀ j u, news[j]? = some u → w.cell? (a.add j) = some u) (h1 : ∀ u ∈ news, u.oneCell' = true)
    (h63 : n + m ≤ maxLen) (hbytes : (n + m) * bytes ≤ 140737488355328) (hbase : base ≤ w.heap.size) :
    ∃ v' w', (Builtin.append_ #[t, t] ty #[v, .slice (some a) m c]).run P w = .ok v' w' ∧ w'.ownsRow base e size v' (n + m) (xs ++ news) ∧ w.grownBy w' v.ownBlock ∧ Where w v v' := by
  obtain ⟨v', w', hr, h2, h3, _⟩ := run_append_own (P := P) w base t ty e i z size bytes ht hi hz hsize hby hzs hsz v n xs hown a m c news hl hnews h1 h63 hbytes hbase
  refine ⟨v', w', hr, h2, h3, ?_⟩
  rcases hown.2 with ⟨rfl, rfl⟩ | ⟨g, cap, cur, rfl, _, _, _, _, _, _⟩
  · obtain rfl : xs = [] := List.eq_nil_of_length_eq_zero (by simpa using hown.1)
    obtain ⟨v2, w2, hr2, h4, _, _⟩ := run_append_own (P := P) w w.heap.size t ty e i z size bytes ht hi hz hsize hby hzs hsz (.slice none 0 0) 0 [] (World.ownsRow_nil _ _ _ _) a m c news hl hnews h1 h63 hbytes (Nat.le_refl _)
    rw [hr] at hr2
    injection hr2 with hr2 _
    subst hr2
    exact .inr fun k hk => (h4.lt k hk).1
  · by_cases hroom : n + m ≤ cap
    · obtain ⟨w2, hr2, _⟩ := run_append_fits (P := P) w base t ty e i size ht hi hsize g n cap xs hown a m c news hl hnews h1 hroom
      rw [hr] at hr2
      injection hr2 with hr2 _
      subst hr2
      exact .inl rfl
    · have hr2 := run_append_grow (P := P) w t ty e i z ht hi hz ⟨g, 0, none⟩ n cap xs (by rw [hsize]; exact hown.1) (hown.cells (g := g) rfl) a m c news (by rw [hsize]; exact hl) hnews (by omega) (by have := h63; simp only [maxLen] at this; omega) (growslice_fits (by omega) (by rw [hby]; exact hbytes))
      rw [hr] at hr2
      injection hr2 with hr2 _
      subst hr2
      refine .inr fun k hk => ?_
      injection hk with hk
      exact Nat.le_of_eq hk
theorem own_slice_form {w : World} {base e size n : Nat} {v : Value} {xs : List Value} (h : w.ownsRow base e size v n xs) : ∃ A c, v = .slice A n c ∧ n ≤ c := by
  rcases h.2 with ⟨rfl, rfl⟩ | ⟨g, cap, cur, rfl, _, _, h4, _⟩
  · exact ⟨none, 0, rfl, Nat.le_refl _⟩
  · exact ⟨_, cap, rfl, h4⟩
theorem len_bytesV (b : List (BitVec 8)) : (bytesV b).length = b.length := by simp [bytesV]
end Go.Proofs.YtbhmgnhiglpmhaaDoor

/- Copying bytes into a part of a row; a slice of bytes that was just built. No function of the program is named here. -/
set_option maxRecDepth 4000
namespace Go.Proofs.YtbhmgnhiglpmhaaDoor
open Go Go.RowKit
end Go.Proofs.YtbhmgnhiglpmhaaDoor

/- What a walk knows of the memory, as one list of blocks: the operations on memory as steps from list to list, each with a new world. No function of the program is named here. -/
set_option maxRecDepth 4000
namespace Go.Proofs.YtbhmgnhiglpmhaaDoor
open Go Go.RowKit
structure Blk where
  g : Nat
  t : TypeId
  cs : Array Value
/- the blocks of R are as said, apart from each other, and may be written; all else that was there at w0, but for F, is as it was -/
structure St (w0 : World) (F : Nat → Prop) (R : List Blk) (w : World) : Prop where
  chg : Chg F w0 w
  rows : ∀ (k : Nat) (r : Blk), R[k]? = some r → Row w r.g r.t r.cs
  apart : ∀ (j k : Nat) (r s : Blk), j ≠ k → R[j]? = some r → R[k]? = some s → r.g ≠ s.g
  own : ∀ (k : Nat) (r : Blk), R[k]? = some r → F r.g ∨ w0.heap.size ≤ r.g
def noF : Nat → Prop := fun _ => False
section
variable {P : Program} {w0 w w' : World} {F : Nat → Prop} {R : List Blk}
theorem St.nil (w0 : World) (F : Nat → Prop) : St w0 F [] w0 := ⟨Chg.refl _ _, fun _ _ h => by simp at h, fun _ _ _ _ _ h => by simp at h, fun _ _ h => by simp at h⟩
theorem St.row (h : St w0 F R w) (k : Nat) {r : Blk} (hk : R[k]? = some r) : Row w r.g r.t r.cs := h.rows k r hk
theorem St.below (h : St w0 noF R w) : Below w0.heap.size w0 w := ⟨h.chg.os, h.chg.tape, h.chg.output, h.chg.size, fun k hk => h.chg.block k hk (fun h => h)⟩
theorem St.same (h : St w0 F R w) (k : Below w.heap.size w w') : St w0 F R w' :=
  ⟨h.chg.trans (F' := fun _ => False) (Chg.of_below k) (fun _ h => h.elim), fun j r hj => (h.rows j r hj).call k, h.apart, h.own⟩
theorem St.drew (h : St w0 F R w) : St w0 F R w.drew := h.same (Below.refl _ _).drew
theorem St.upd (h : St w0 F R w) (k : Nat) {r : Blk} (hk : R[k]? = some r) {cs : Array Value} (hr : Row w' r.g r.t cs) (hg : w.grownBy w' (some r.g)) : St w0 F (R.set k ⟨r.g, r.t, cs⟩) w' := by
  have hlt : k < R.length := (List.getElem?_eq_some_iff.1 hk).1
  have at_ : ∀ (j : Nat) (s : Blk), (R.set k ⟨r.g, r.t, cs⟩)[j]? = some s → (j = k ∧ s = ⟨r.g, r.t, cs⟩) ∨ (j ≠ k ∧ R[j]? = some s) := fun j s hj => by
    by_cases e : j = k
    · subst e
      rw [List.getElem?_set_self hlt] at hj
      exact .inl ⟨rfl, (Option.some.inj hj).symm⟩
    · rw [List.getElem?_set_ne (fun h => e h.symm)] at hj
      exact .inr ⟨e, hj⟩
  refine ⟨h.chg.grown hg (fun g e => by injection e with e; subst e; exact h.own k r hk), fun j s hj => ?_, fun i j s u hij hi hj => ?_, fun j s hj => ?_⟩
  · rcases at_ j s hj with ⟨_, rfl⟩ | ⟨hne, hs⟩
    · exact hr
    · exact (h.rows j s hs).only hg (h.apart j k s r hne hs hk)
  · rcases at_ i s hi with ⟨rfl, rfl⟩ | ⟨hne, hs⟩ <;> rcases at_ j u hj with ⟨rfl, rfl⟩ | ⟨hne', hu⟩
    · exact (hij rfl).elim
    · exact h.apart _ _ r u (fun e => hne' e.symm) hk hu
    · exact h.apart _ _ s r hne hs hk
    · exact h.apart _ _ s u hij hs hu
  · rcases at_ j s hj with ⟨rfl, rfl⟩ | ⟨_, hs⟩
    · exact h.own _ r hk
    · exact h.own j s hs
theorem St.snoc (h : St w0 F R w) (t : TypeId) (cs : Array Value) : St w0 F (R ++ [⟨w.heap.size, t, cs⟩]) (w.alloc (.cells cs t)) := by
  have at_ : ∀ (j : Nat) (s : Blk), (R ++ [(⟨w.heap.size, t, cs⟩ : Blk)])[j]? = some s → (j < R.length ∧ R[j]? = some s) ∨ (j = R.length ∧ s = ⟨w.heap.size, t, cs⟩) := fun j s hj => by
    by_cases e : j < R.length
    · rw [List.getElem?_append_left e] at hj; exact .inl ⟨e, hj⟩
    · rw [List.getElem?_append_right (by omega)] at hj
      have e2 : j - R.length = 0 := by
        rcases Nat.eq_zero_or_pos (j - R.length) with h0 | h0
        · exact h0
        · rw [List.getElem?_eq_none (by simp; omega)] at hj; cases hj
      rw [e2] at hj
      exact .inr ⟨by omega, (Option.some.inj hj).symm⟩
  refine ⟨h.chg.alloc _, fun j s hj => ?_, fun i j s u hij hi hj => ?_, fun j s hj => ?_⟩
  · rcases at_ j s hj with ⟨_, hs⟩ | ⟨_, rfl⟩
    · exact (h.rows j s hs).alloc _
    · exact Row.fresh _ _ _
  · rcases at_ i s hi with ⟨_, hs⟩ | ⟨e1, rfl⟩ <;> rcases at_ j u hj with ⟨_, hu⟩ | ⟨e2, rfl⟩
    · exact h.apart _ _ _ _ hij hs hu
    · have := (h.rows i s hs).lt; show s.g ≠ w.heap.size; omega
    · have := (h.rows j u hu).lt; show w.heap.size ≠ u.g; omega
    · omega
  · rcases at_ j s hj with ⟨_, hs⟩ | ⟨_, rfl⟩
    · exact h.own j s hs
    · exact .inr h.chg.size
/- cells of a row -/
theorem Row.slab {g : Nat} {t : TypeId} {cs : Array Value} (h : Row w g t cs) (o : Nat) (L : List Value) (hL : (cs.toList.drop o).take L.length = L) : w.rangeAt g o L := fun j v hv => by
  have hj := (List.getElem?_eq_some_iff.1 hv).1
  rw [h.cell, ← Array.getElem?_toList]
  rw [← hL, List.getElem?_take_of_lt hj, List.getElem?_drop] at hv
  exact hv
theorem run_storeVar_at (w : World) (g o : Nat) (t ty : TypeId) (cur : Array Value) (v : Value) (hg : Row w g t cur) (hi : (P.info? ty).map (·.size) = some v.cells.size) (ho : o + v.cells.size ≤ cur.size) (h1 : v.cells.all (·.oneCell') = true) :
    (storeVar ty ⟨g, o, none⟩ v).run P w = .ok () (w.setRow g (spl cur.toList o v.cells.toList).toArray) := by
  have := run_storeCells_at P g o t v.cells.toList 0 cur w hg (by simpa using ho) (fun x hx => (Array.all_eq_true_iff_forall_mem.1 h1) x (by simpa using hx))
  cases hq : P.info? ty with
  | none => simp [hq] at hi
  | some i =>
    have hs : v.cells.size = i.size := by simp [hq] at hi; omega
    simp [storeVar, sizeOf, typeInfo, hq, hs, this, spl]
section
variable {o : Oper} {a : Act} {K : Act → World → Prop} {Q : Exit → Act → World → Prop}
theorem wp_st_alloc (hS : St w0 F R w) (e : TypeId) (cs : Array Value) (ho : o.op = .alloc e) (z : Value) (hz : (P.info? e).bind (·.zero) = some z) (hc : z.cells = cs)
    (h : ∀ g w', St w0 F (R ++ [⟨g, e, cs⟩]) w' → K (a.put o.dst (.pointer (some ⟨g, 0, none⟩))) w') : o.wp P a w K Q := by
  cases hq : P.info? e with
  | none => simp [hq] at hz
  | some i =>
    have hi : i.zero = some z := by simpa [hq] using hz
    have hrun : (Instr.alloc e true (.tuple #[])).run P w = .ok (.pointer (some ⟨w.heap.size, 0, none⟩)) (w.alloc (.cells cs e)) := by
      simp [Instr.alloc, zeroValue, typeInfo, hq, hi, newVar, newRow, hc]
    unfold Oper.wp execOp
    simp [ho, hrun]
    exact h _ _ (hS.snoc e cs)
theorem wp_st_box (hS : St w0 F R w) (e : TypeId) (x : Operand) (ho : o.op = .box e x) (v : Value) (hx : a.eval x = v) (cs : Array Value) (hc : v.cells = cs)
    (h : ∀ g w', St w0 F (R ++ [⟨g, e, cs⟩]) w' → K (a.put o.dst (.pointer (some ⟨g, 0, none⟩))) w') : o.wp P a w K Q := by
  have hrun : (Instr.box e v).run P w = .ok (.pointer (some ⟨w.heap.size, 0, none⟩)) (w.alloc (.cells cs e)) := by
    simp [Instr.box, newVar, newRow, hc]
  unfold Oper.wp execOp
  simp [ho, hx, hrun]
  exact h _ _ (hS.snoc e cs)
/- several cells -/
theorem wp_st_load (hS : St w0 F R w) (k i : Nat) (ty : TypeId) (x : Operand) (ho : o.op = .load ty x) {r : Blk} (hk : R[k]? = some r) (hx : a.eval x = .pointer (some ⟨r.g, i, none⟩)) (cs : Array Value) (hv : (r.cs.toList.drop i).take cs.size = cs.toList) (d : TypeDesc) (hu : P.underlying ty = some d) (hd : d.isRow = true) (hi : (P.info? ty).map (·.size) = some cs.size)
    (h : K (a.put o.dst (.agg cs)) w) : o.wp P a w K Q :=
  wp_load_mid ty x ho r.g i hx cs.toList d ((hS.row k hk).slab i cs.toList (by simpa using hv)) hu hd (by simpa using hi) (by simpa using h)
theorem wp_st_store (hS : St w0 F R w) (k i : Nat) (ty : TypeId) (x y : Operand) (ho : o.op = .store ty x y) {r : Blk} (hk : R[k]? = some r) (hx : a.eval x = .pointer (some ⟨r.g, i, none⟩)) (v : Value) (hy : a.eval y = v) (hi : (P.info? ty).map (·.size) = some v.cells.size) (hfit : i + v.cells.size ≤ r.cs.size) (h1 : v.cells.all (·.oneCell') = true)
    (cs : Array Value) (hcs : (spl r.cs.toList i v.cells.toList).toArray = cs)
    (h : ∀ w', St w0 F (R.set k ⟨r.g, r.t, cs⟩) w' → K (a.put o.dst undef) w') : o.wp P a w K Q := by
  have hrun := run_storeVar_at (P := P) w r.g i r.t ty r.cs v (hS.row k hk) hi hfit h1
  unfold Oper.wp execOp
  simp [ho, hx, hy, Instr.storeAt, Instr.sureAddr, hrun]
  rw [hcs]
  exact h _ (hS.upd k hk ((hS.row k hk).setRow cs) (grown_setRow w r.g cs))
end
/- at the list of a plain region's operations -/
section
variable {ops : Array Oper} {rest : List Oper} {o : Oper} {a : Act} {Q : Exit → Act → World → Prop}
end
/- the whole of a row, or a part -/
theorem slab_whole (cs : Array Value) : (cs.toList.drop 0).take cs.size = cs.toList := by rw [List.drop_zero]; exact List.take_of_length_le (by simp)
theorem spl_whole (cur cs : Array Value) (h : cur.size = cs.size) : (spl cur.toList 0 cs.toList).toArray = cs := by
  unfold spl
  rw [List.take_zero, List.nil_append, Nat.zero_add, List.drop_of_length_le (by simp [h]), List.append_nil]
theorem spl_agg (cur cs cs' : Array Value) (e : cs = cs') (h : cur.size = cs.size) : (spl cur.toList 0 (Value.agg cs).cells.toList).toArray = cs' := by
  rw [← e]; exact spl_whole cur cs h
theorem spl_at (cur : Array Value) (i : Nat) (v : Value) (h : i < cur.size) : (spl cur.toList i [v]).toArray = cur.setIfInBounds i v := by
  rw [← set_eq_spl _ _ _ (by simpa using h)]
  apply Array.ext'
  simp
theorem wp_st_put {o : Oper} {a : Act} {K : Act → World → Prop} {Q : Exit → Act → World → Prop} (hS : St w0 F R w) (k i : Nat) (ty : TypeId) (x y : Operand) (ho : o.op = .store ty x y) {r : Blk} (hk : R[k]? = some r) (hx : a.eval x = .pointer (some ⟨r.g, i, none⟩)) (v : Value) (hy : a.eval y = v) (hi : (P.info? ty).map (·.size) = some 1) (hv : v.cells = #[v]) (h1 : v.oneCell' = true) (hfit : i < r.cs.size)
    (cs : Array Value) (hcs : r.cs.setIfInBounds i v = cs)
    (h : ∀ w', St w0 F (R.set k ⟨r.g, r.t, cs⟩) w' → K (a.put o.dst undef) w') : o.wp P a w K Q :=
  wp_st_store hS k i ty x y ho hk hx v hy (by rw [hv]; exact hi) (by rw [hv]; exact hfit) (by rw [hv]; simp [h1]) cs (by rw [hv, ← hcs]; exact spl_at r.cs i v hfit) h
end
end Go.Proofs.YtbhmgnhiglpmhaaDoor

/- Blocks that come to a list of blocks. No function of the program is named here. -/
set_option maxRecDepth 4000
namespace Go.Proofs.YtbhmgnhiglpmhaaDoor
open Go Go.RowKit
section
variable {w0 W W' : World} {F : Nat → Prop} {R : List Blk}
theorem St.join (h : St w0 F R W) {g : Nat} {t : TypeId} {cs : Array Value} (hr : Row W g t cs) (hg : w0.heap.size ≤ g) (hne : ∀ b ∈ R, b.g ≠ g) : St w0 F (R ++ [⟨g, t, cs⟩]) W := by
  have at_ : ∀ (j : Nat) (s : Blk), (R ++ [(⟨g, t, cs⟩ : Blk)])[j]? = some s → (j < R.length ∧ R[j]? = some s) ∨ (j = R.length ∧ s = ⟨g, t, cs⟩) := fun j s hj => by
    by_cases e : j < R.length
    · rw [List.getElem?_append_left e] at hj; exact .inl ⟨e, hj⟩
    · rw [List.getElem?_append_right (by omega)] at hj
      have e2 : j - R.length = 0 := by
        rcases Nat.eq_zero_or_pos (j - R.length) with h0 | h0
        · exact h0
        · rw [List.getElem?_eq_none (by simp; omega)] at hj; cases hj
      rw [e2] at hj
      exact .inr ⟨by omega, (Option.some.inj hj).symm⟩
  refine ⟨h.chg, fun j s hj => ?_, fun i j s u hij hi hj => ?_, fun j s hj => ?_⟩
  · rcases at_ j s hj with ⟨_, hk⟩ | ⟨_, rfl⟩
    · exact h.rows j s hk
    · exact hr
  · rcases at_ i s hi with ⟨_, hk⟩ | ⟨e1, rfl⟩ <;> rcases at_ j u hj with ⟨_, hu⟩ | ⟨e2, rfl⟩
    · exact h.apart _ _ _ _ hij hk hu
    · exact hne s (List.mem_of_getElem? hk)
    · exact fun e => hne u (List.mem_of_getElem? hu) e.symm
    · omega
  · rcases at_ j s hj with ⟨_, hk⟩ | ⟨_, rfl⟩
    · exact h.own j s hk
    · exact .inr hg
/- a block that is none of the list's changes -/
theorem St.far (h : St w0 F R W) {g : Nat} (k : W.grownBy W' (some g)) (hg : w0.heap.size ≤ g) (hne : ∀ b ∈ R, b.g ≠ g) : St w0 F R W' :=
  ⟨h.chg.grown k (fun j e => by cases e; exact .inr hg), fun j r hj => (h.rows j r hj).only k (hne r (List.mem_of_getElem? hj)), h.apart, h.own⟩
theorem St.lt (h : St w0 F R W) {b : Blk} (hb : b ∈ R) : b.g < W.heap.size := by
  obtain ⟨k, hk⟩ := List.getElem?_of_mem hb
  exact (h.rows k b hk).lt
end
theorem own_litq (w : World) (q : List (BitVec 8)) (h : q.length ≤ maxLen) : (w.alloc (.cells (bs q) 5)).ownsRow w.heap.size 5 1 (.slice (some ⟨w.heap.size, 0, none⟩) q.length q.length) q.length (bytesV q) :=
  ⟨by rw [len_bytesV, Nat.mul_one], .inr ⟨w.heap.size, q.length, bs q, rfl, Nat.le_refl _, heap_alloc_new w _, Nat.le_refl _, h, by rw [size_bs, Nat.mul_one], by rw [bs_toList]; exact List.take_of_length_le (by rw [len_bytesV]; omega)⟩⟩
theorem own_base {w : World} {b b' e size n : Nat} {v : Value} {xs : List Value} (h : w.ownsRow b e size v n xs) (hb : b' ≤ b) : w.ownsRow b' e size v n xs := by
  refine ⟨h.1, ?_⟩
  rcases h.2 with h | ⟨g, cap, cur, h1, h2, h3⟩
  · exact .inl h
  · exact .inr ⟨g, cap, cur, h1, Nat.le_trans hb h2, h3⟩
end Go.Proofs.YtbhmgnhiglpmhaaDoor

/- The same region, with one thing more: an operation may say that its value is an earlier one's (a store names the block that it went to). -/
set_option maxRecDepth 4000
namespace Go.Proofs.YtbhmgnhiglpmhaaDoor
open Go Go.RowKit
section
variable {P : Program} {Q : Exit → Act → World → Prop} {ops : Array Oper} {n : Nat} {K : World → World → Prop} {Φ : Nat → World → Prop} {V : Nat → Value → World → Prop} {G U rig : Nat → Bool} {ph : Nat → Option Nat} {a0 : Act} {w1 : World} {al : Nat → Option Nat}
def Al (al : Nat → Option Nat) (i : Nat) (x : Nat → Value) (v : Value) : Prop := ∀ j, al i = some j → v = x j
end
section
variable {P : Program} {ops : Array Oper} {n : Nat} {K : World → World → Prop} {Φ : Nat → World → Prop} {V : Nat → Value → World → Prop} {G U rig : Nat → Bool} {ph : Nat → Option Nat} {a0 a : Act} {w : World} {x : Nat → Value} {o : Oper} {l : List Oper} {i : Nat} {al : Nat → Option Nat}
end
end Go.Proofs.YtbhmgnhiglpmhaaDoor

/- Literals of structs and of slices of structs: their cells, side by side. No function of the program is named here. -/
set_option maxRecDepth 4000
namespace Go.Proofs.YtbhmgnhiglpmhaaDoor
open Go Go.RowKit
theorem spl_spl {α : Type} (L : List α) (o : Nat) (a b : List α) (h : o + a.length + b.length ≤ L.length) : spl (spl L o a) (o + a.length) b = spl L o (a ++ b) := by
  unfold spl
  have e1 : (L.take o).length = o := by rw [List.length_take]; omega
  have e2 : (L.take o ++ a).length = o + a.length := by rw [List.length_append, e1]
  rw [← e2, List.take_left, e2, List.length_append, ← List.append_assoc, ← Nat.add_assoc]
  congr 1
  rw [show o + a.length + b.length = (L.take o ++ a).length + b.length by rw [e2], List.drop_length_add_append, List.drop_drop, e2]
theorem fill_set (off : Nat) (v : Array Value) (cells : Array Value) (h : off + v.size ≤ cells.size) : v.zipIdx.foldl (fun cs (x : Value × Nat) => cs.setIfInBounds (off + x.2) x.1) cells = (spl cells.toList off v.toList).toArray := by
  rw [← Array.foldl_toList, Array.toList_zipIdx]
  obtain ⟨h1, h2⟩ := Great.foldl_set off v.toList 0 cells
  apply Array.ext_getElem?
  intro k
  rw [h2 k, Nat.add_zero]
  have hL : cells.toList.length = cells.size := Array.length_toList
  have hv : v.toList.length = v.size := Array.length_toList
  have e1 : (cells.toList.take off).length = off := by rw [List.length_take]; omega
  rw [show (spl cells.toList off v.toList).toArray[k]? = (spl cells.toList off v.toList)[k]? from List.getElem?_toArray]
  unfold spl
  by_cases hk : off ≤ k
  · by_cases hk2 : k < off + v.size
    · rw [if_pos ⟨hk, by omega, by omega⟩, List.getElem?_append_left (by rw [List.length_append, e1]; omega), List.getElem?_append_right (by omega), e1]
    · rw [if_neg (by omega), List.getElem?_append_right (by rw [List.length_append, e1]; omega), List.getElem?_drop, List.length_append, e1, hv]
      rw [show off + v.size + (k - (off + v.size)) = k by omega]; simp
  · rw [if_neg (by omega), List.append_assoc, List.getElem?_append_left (by omega), List.getElem?_take, if_pos (by omega)]; simp
theorem fill_parts (place : Nat → Option (Nat × Nat)) : ∀ (vs : List Value) (i0 off : Nat) (cells : Array Value),
    (∀ k v, vs[k]? = some v → place (i0 + k) = some (off + ((vs.take k).map (·.cells.size)).sum, v.cells.size)) → off + (vs.map (·.cells.size)).sum ≤ cells.size →
    Instr.fill place cells ((vs.zipIdx i0).map fun x => (x.2, x.1)) = some (spl cells.toList off (vs.flatMap fun v => v.cells.toList)).toArray
  | [], _, off, cells, _, _ => by simp [Instr.fill, spl]
  | v :: vs, i0, off, cells, hp, hs => by
    simp only [List.map_cons, List.sum_cons] at hs
    have h0 := hp 0 v rfl
    simp only [List.take_zero, List.map_nil, List.sum_nil, Nat.add_zero] at h0
    have hL : cells.toList.length = cells.size := Array.length_toList
    have hv : v.cells.toList.length = v.cells.size := Array.length_toList
    have e := fill_set off v.cells cells (by omega)
    have h9 := length_spl cells.toList off v.cells.toList (by omega)
    have h8 : (spl cells.toList off v.cells.toList).toArray.size = (spl cells.toList off v.cells.toList).length := List.size_toArray
    have ih := fill_parts place vs (i0 + 1) (off + v.cells.size) (spl cells.toList off v.cells.toList).toArray (fun k u hu => by
      have := hp (k + 1) u (by simpa using hu)
      rw [show i0 + 1 + k = i0 + (k + 1) by omega, this]
      simp [Nat.add_assoc]) (by rw [h8, h9]; omega)
    simp only [List.zipIdx_cons, List.map_cons, Instr.fill, h0]
    have hno : (decide (v.cells.size ≠ v.cells.size) || decide (off + v.cells.size > cells.size)) = false := by
      rw [decide_eq_false (by simp), decide_eq_false (by omega)]; rfl
    rw [if_neg (by simp; omega), e, ih]
    congr 2
    simp only [List.flatMap_cons]
    have hfl : (vs.flatMap fun v => v.cells.toList).length = (vs.map (·.cells.size)).sum := by simp [List.length_flatMap]
    rw [← hv, spl_spl _ _ _ _ (by omega)]
/- a slice literal of one element of several cells -/
theorem wp_buildOne {P : Program} {o : Oper} {a : Act} {w : World} {K : Act → World → Prop} {Q : Exit → Act → World → Prop} (t e : TypeId) (x : Operand) (ho : o.op = .buildSlice t 1 #[(0, x)]) (cells : Array Value) (z : Value) (sz : Nat) (hx : a.eval x = .agg cells)
    (hu : P.underlying t = some (.slice e)) (hie : (P.info? e).map (fun i => (i.zero, i.size)) = some (some z, sz)) (hc : cells.size = sz) (hpos : 0 < sz) (hsmall : sz ≤ 2 ^ 24)
    (h : K (a.put o.dst (.slice (some ⟨w.heap.size, 0, none⟩) 1 1)) (w.alloc (.cells cells e))) : o.wp P a w K Q := by
  obtain ⟨ie, hi, he⟩ := Option.map_eq_some_iff.1 hie
  injection he with hz hsz
  refine wp_buildSlice t e 1 _ ho cells ie z hu hi hz (by rw [hsz]; omega) (by rw [hsz]; omega) ?_ h
  have hf := fill_parts (fun i => some (i * ie.size, ie.size)) [.agg cells] 0 0 ((Array.range (1 * ie.size)).map (z.cells[· % z.cells.size]!)) (fun k v hk => by
    match k, hk with
    | 0, hk => obtain rfl : Value.agg cells = v := by simpa using hk
               simp [Value.cells, hsz, hc]) (by simp [Value.cells, hsz, hc])
  have e1 : (#[(0, x)].map fun (i, x) => (i, a.eval x)).toList = (([Value.agg cells].zipIdx 0).map fun x => (x.2, x.1)) := by simp [hx]
  rw [e1, hf]
  congr 1
  have e2 : ([Value.agg cells].flatMap fun v => v.cells.toList) = cells.toList := by simp [Value.cells]
  rw [e2]
  apply Array.ext'
  unfold spl
  simp [hsz, hc]
def fits : Nat → List Nat → List (Nat × Nat) → Bool
  | _, [], [] => true
  | o, s :: ss, (o', s') :: ps => o == o' && s == s' && fits (o + s) ss ps
  | _, _, _ => false
theorem fits_at : ∀ (ss : List Nat) (o : Nat) (ps : List (Nat × Nat)), fits o ss ps = true → ∀ (k s : Nat), ss[k]? = some s → ps[k]? = some (o + (ss.take k).sum, s)
  | [], _, _, _, k, s, h => by simp at h
  | s0 :: ss, o, [], h, _, _, _ => by simp [fits] at h
  | s0 :: ss, o, (o', s') :: ps, h, 0, s, hk => by
    simp only [fits, Bool.and_eq_true, beq_iff_eq] at h
    obtain ⟨⟨rfl, rfl⟩, _⟩ := h
    obtain rfl : s0 = s := by simpa using hk
    simp
  | s0 :: ss, o, (o', s') :: ps, h, k + 1, s, hk => by
    simp only [fits, Bool.and_eq_true, beq_iff_eq] at h
    obtain ⟨⟨rfl, rfl⟩, h⟩ := h
    have := fits_at ss (o + s0) ps h k s (by simpa using hk)
    rw [List.getElem?_cons_succ, this]
    simp [Nat.add_assoc]
end Go.Proofs.YtbhmgnhiglpmhaaDoor

/- The lowest byte of a number. -/
set_option maxRecDepth 4000
namespace Go.Proofs.YtbhmgnhiglpmhaaDoor
open Go Go.RowKit
end Go.Proofs.YtbhmgnhiglpmhaaDoor

/- Words of 16 bits, kept shut: what the operations of Go on uint16 come to. No condition. -/
set_option maxRecDepth 4000
namespace Go.Proofs.YtbhmgnhiglpmhaaDoor
open Go Go.RowKit
def hd (x : BitVec 16) : Int := (x.toNat : Int)
theorem hd_lo (x : BitVec 16) : 0 ≤ hd x := by unfold hd; omega
theorem hd_hi (x : BitVec 16) : hd x < 65536 := by unfold hd; have := x.isLt; omega
theorem ofInt_hd (x : BitVec 16) : BitVec.ofInt 16 (hd x) = x := by
  apply BitVec.eq_of_toNat_eq; unfold hd; rw [ofInt_u16 _ x.isLt]
theorem wrap_hd (x : BitVec 16) : IntKind.u16.wrap (hd x) = hd x := by
  rw [IntKind.wrap_u16]; have := hd_lo x; have := hd_hi x; omega
theorem xor_hd (x y : BitVec 16) : bits .xor .u16 (hd x) (hd y) = hd (x ^^^ y) := by
  show IntKind.u16.wrap ((BitVec.ofInt 16 (hd x) ^^^ BitVec.ofInt 16 (hd y)).toNat : Int) = _
  rw [ofInt_hd, ofInt_hd]; exact wrap_hd _
theorem and_hd (x y : BitVec 16) : bits .and .u16 (hd x) (hd y) = hd (x &&& y) := by
  show IntKind.u16.wrap ((BitVec.ofInt 16 (hd x) &&& BitVec.ofInt 16 (hd y)).toNat : Int) = _
  rw [ofInt_hd, ofInt_hd]; exact wrap_hd _
theorem xorP_hd (x : BitVec 16) : bits .xor .u16 (hd x) 33800 = hd (x ^^^ 0x8408#16) := xor_hd x 0x8408#16
theorem not_hd (x : BitVec 16) : bits .xor .u16 IntKind.u16.max (hd x) = hd (~~~x) := by
  have e : IntKind.u16.max = hd (BitVec.allOnes 16) := by decide +kernel
  rw [e, xor_hd, BitVec.allOnes_xor]
theorem signed_u16 : (IntKind.u16.signed = true) = False := by simp [IntKind.signed]
def lowI (x : BitVec 16) : Int := if x.getLsbD 0 then 1 else 0
theorem low_hd (x : BitVec 16) : bits .and .u16 (hd x) 1 = lowI x := by
  rw [show (1 : Int) = hd 1#16 from rfl, and_hd]
  have e : x &&& 1#16 = if x.getLsbD 0 then 1#16 else 0#16 := by
    apply BitVec.eq_of_getLsbD_eq; intro i hi
    cases i with
    | zero => rw [BitVec.getLsbD_and]; cases h : x.getLsbD 0 <;> rfl
    | succ i => cases h : x.getLsbD 0 <;> simp
  rw [e]; unfold lowI; cases h : x.getLsbD 0 <;> rfl
theorem lowI_eq (x : BitVec 16) : (x.getLsbD 0 = true ∧ lowI x = 1) ∨ (x.getLsbD 0 = false ∧ lowI x = 0) := by
  unfold lowI; cases h : x.getLsbD 0 <;> simp
theorem shr1_hd (x : BitVec 16) : hd x / (2 : Int) = hd (x >>> 1) := by
  unfold hd; rw [BitVec.toNat_ushiftRight, Nat.shiftRight_eq_div_pow]; norm_cast
theorem convb_hd (x : BitVec 8) : IntKind.u16.wrap (bd x) = hd (x.setWidth 16) := by
  rw [IntKind.wrap_u16]; unfold bd hd; have := x.isLt; rw [BitVec.toNat_setWidth]; omega
theorem lowb_hd (x : BitVec 16) : IntKind.u8.wrap (hd x) = bd (x.setWidth 8) := by
  rw [IntKind.wrap_u8']; unfold bd hd; rw [BitVec.toNat_setWidth]; omega
theorem lowb8_hd (x : BitVec 16) : IntKind.u8.wrap (hd x / (256 : Int)) = bd ((x >>> 8).setWidth 8) := by
  rw [IntKind.wrap_u8']; unfold bd hd; rw [BitVec.toNat_setWidth, BitVec.toNat_ushiftRight, Nat.shiftRight_eq_div_pow]; omega
theorem or_hd (x y : BitVec 16) : bits .or .u16 (hd x) (hd y) = hd (x ||| y) := by
  show IntKind.u16.wrap ((BitVec.ofInt 16 (hd x) ||| BitVec.ofInt 16 (hd y)).toNat : Int) = _
  rw [ofInt_hd, ofInt_hd]; exact wrap_hd _
end Go.Proofs.YtbhmgnhiglpmhaaDoor

/- Literals of bytes in a region that is walked by what each operation yields. -/
set_option maxRecDepth 4000
namespace Go.Proofs.YtbhmgnhiglpmhaaDoor
open Go Go.RowKit
section
variable {o : Oper} {a : Act} {w : World} {R : Value → World → Prop}
end
end Go.Proofs.YtbhmgnhiglpmhaaDoor

/- A slice of bytes made of a constant text: its block bears a mark. No function of the program is named here. -/
set_option maxRecDepth 4000
namespace Go.Proofs.YtbhmgnhiglpmhaaDoor
open Go Go.RowKit
end Go.Proofs.YtbhmgnhiglpmhaaDoor

/- An append of so many zeros onto a slice of bytes of the call's own. -/
set_option maxRecDepth 4000
namespace Go.Proofs.YtbhmgnhiglpmhaaDoor
open Go Go.RowKit
theorem zeroCells_zer (m : Nat) : Builtin.zeroCells (Value.int .u8 0).cells m = bs (zer m) := by
  have e : bs (zer m) = (List.replicate m (Value.int .u8 0)).toArray := by simp [bs, zer, bd]
  rw [e]
  apply Array.ext_getElem?
  intro j
  by_cases hj : j < m
  · simp [Builtin.zeroCells, Value.cells, hj, Nat.mod_one]
  · simp [Builtin.zeroCells, Value.cells, hj]
section
variable (w : World)
theorem run_zeros_nil (ty : TypeId) (m : Nat) (h0 : 0 < m) (hm : m ≤ 1000000) :
    (Builtin.append_ #[35, 3] ty #[.slice none 0 0, .int .i64 (m : Int)]).run Tryd.prog w =
      .ok (.slice (some ⟨w.heap.size, 0, none⟩) m (grownCap w m 0 5)) (w.drew.alloc (.cells (bs (zer m) ++ Builtin.zeroCells (Value.int .u8 0).cells (grownCap w m 0 5 - m)) 5)) := by
  obtain ⟨i, hi, hz, hs, hby⟩ := info_parts info_u8
  have hw : IntKind.i64.wrap (m : Int) = (m : Int) := i64_id _ (by omega) (by omega)
  have h48 : ¬ (281474976710656 < (m : Int)) := by omega
  have hn : m ≠ 0 := by omega
  have h63' : ¬ (9223372036854775807 < (m : Int)) := by omega
  have h48' : ¬ (281474976710656 < Builtin.nextslicecap m 0) := by rw [nextslicecap_zero h0]; omega
  simp [Builtin.append_, run_underlying Tryd.underlying35, run_underlying Tryd.underlying3, sizeOf, typeInfo, zeroValue, hi, hz, hs, hby, hw, asInt, asIntOf, h48, hn, h63', h48', Question.forced, run_firstCells_none, newRow, grownCap, zeroCells_zer]
  intro h; omega
end
end Go.Proofs.YtbhmgnhiglpmhaaDoor

/- A sector of one byte, as the program has it. -/
set_option maxRecDepth 4000
namespace Go.Proofs.YtbhmgnhiglpmhaaDoor
open Go Go.RowKit
end Go.Proofs.YtbhmgnhiglpmhaaDoor

/- Two arrays of integers: what their comparison tells. -/
set_option maxRecDepth 4000
namespace Go.Proofs.YtbhmgnhiglpmhaaDoor
open Go
theorem forIn_until {P : Program} {w : World} {β : Type} (b r : β) (f : Nat → β → Sem (ForInStep β)) (p : Nat → Bool) : ∀ l : List Nat, (∀ i ∈ l, (f i b).run P w = .ok (if p i then .yield b else .done r) w) → (forIn l b f).run P w = .ok (if l.all p then b else r) w
  | [], _ => by simp [Sem.run_pure]
  | i :: l, h => by
    simp only [List.forIn_cons, Sem.run_bind, h i (by simp), Result.andThen]
    cases hp : p i with
    | true =>
      simp only [List.all_cons, hp, Bool.true_and, if_true]
      exact forIn_until b r f p l fun j hj => h j (by simp [hj])
    | false => simp [List.all_cons, hp, Sem.run_pure]
theorem equal_ints {P : Program} (w : World) (d : Nat) (t e : TypeId) (k : IntKind) (n : Nat) (xs ys : Array Value) (f g : Nat → Int) (ht : P.underlying t = some (.array n e)) (he : P.underlying e = some (.int k)) (hs : (P.info? e).map (·.size) = some 1)
    (hx : ∀ i, i < n → xs[i]? = some (.int k (f i))) (hy : ∀ i, i < n → ys[i]? = some (.int k (g i))) : (Op.equalIn (d + 2) t (.agg xs) (.agg ys)).run P w = .ok ((List.range n).all fun i => f i == g i) w := by
  obtain ⟨i0, hi, hs⟩ := Option.map_eq_some_iff.1 hs
  have hsz : (sizeOf e).run P w = .ok 1 w := by simp [sizeOf, typeInfo, hi, hs]
  rw [show Op.equalIn (d + 2) t (.agg xs) (.agg ys) = Op.equalIn ((d + 1) + 1) t (.agg xs) (.agg ys) from rfl]
  unfold Op.equalIn
  simp only [Sem.run_bind, run_underlying ht, Result.andThen_ok, hsz]
  rw [Std.Legacy.Range.forIn_eq_forIn_range', forIn_until (p := fun i => f i == g i) (r := ⟨some false, ()⟩)]
  · have e1 : (List.range' 0 (Std.Legacy.Range.size [:n]) 1).all (fun i => f i == g i) = (List.range n).all fun i => f i == g i := by
      rw [List.range_eq_range']; simp [Std.Legacy.Range.size]
    simp only [e1]
    cases (List.range n).all fun i => f i == g i <;> simp [Sem.run_pure]
  · intro i hi
    have hin : i < n := by simp [Std.Legacy.Range.size] at hi; omega
    have hp : (Go.part e xs (i * 1)).run P w = .ok (.int k (f i)) w := by simp [Go.part, isAgg, run_underlying he, hx i hin]
    have hq : (Go.part e ys (i * 1)).run P w = .ok (.int k (g i)) w := by simp [Go.part, isAgg, run_underlying he, hy i hin]
    simp only [Sem.run_bind, hp, hq, Result.andThen_ok, run_equalIn_int w d e k k (f i) (g i) he]
    cases f i == g i <;> simp
theorem equal_bytesD (d : Nat) (t : TypeId) (n : Nat) (p q : List (BitVec 8)) (hp : p.length = n) (hq : q.length = n) (ht : Tryd.prog.underlying t = some (.array n 5)) (w : World) : (Op.equalIn (d + 2) t (.agg (bs p)) (.agg (bs q))).run Tryd.prog w = .ok (decide (p = q)) w := by
  rw [equal_ints w d t 5 .u8 n (bs p) (bs q) (fun i => bd (p.getD i 0)) (fun i => bd (q.getD i 0)) ht Tryd.underlying5 size_u8 (fun i hi => get_bs p i (by omega)) (fun i hi => get_bs q i (by omega))]
  congr 1
  by_cases h : p = q
  · subst h; simp
  · rw [decide_eq_false h, ← Bool.not_eq_true, List.all_eq_true]
    intro hall
    refine h (List.ext_getElem (by omega) fun i h1 h2 => ?_)
    have := hall i (List.mem_range.2 (by omega))
    simp [h1, h2] at this
    exact bd_inj this
theorem equal_bytes (t : TypeId) (n : Nat) (p q : List (BitVec 8)) (hp : p.length = n) (hq : q.length = n) (ht : Tryd.prog.underlying t = some (.array n 5)) (w : World) : (Op.equalIn 10000 t (.agg (bs p)) (.agg (bs q))).run Tryd.prog w = .ok (decide (p = q)) w := by
  rw [equal_ints w 9998 t 5 .u8 n (bs p) (bs q) (fun i => bd (p.getD i 0)) (fun i => bd (q.getD i 0)) ht Tryd.underlying5 size_u8 (fun i hi => get_bs p i (by omega)) (fun i hi => get_bs q i (by omega))]
  congr 1
  by_cases h : p = q
  · subst h; simp
  · rw [decide_eq_false h, ← Bool.not_eq_true, List.all_eq_true]
    intro hall
    refine h (List.ext_getElem (by omega) fun i h1 h2 => ?_)
    have := hall i (List.mem_range.2 (by omega))
    simp [h1, h2] at this
    exact bd_inj this
end Go.Proofs.YtbhmgnhiglpmhaaDoor

/- Two sectors compared. -/
set_option maxRecDepth 4000
namespace Go.Proofs.YtbhmgnhiglpmhaaDoor
open Go Go.RowKit
end Go.Proofs.YtbhmgnhiglpmhaaDoor

/- The key's block and the tag, as plain functions on lists of bytes. No program is named here. -/
set_option maxRecDepth 4000
namespace Go.Proofs.YtbhmgnhiglpmhaaDoor
open Go Go.RowKit
theorem length_sha (M : List (BitVec 8)) : (sha M).length = 32 := by rw [sha, length_dig, length_hashTo]
end Go.Proofs.YtbhmgnhiglpmhaaDoor

/- Tags chained, and bytes compared, as plain functions on lists. No program is named here. -/
set_option maxRecDepth 4000
namespace Go.Proofs.YtbhmgnhiglpmhaaDoor
open Go Go.RowKit
/- the link behind k records, and all links -/
def linkAt (h : List (BitVec 8)) (rs : List (List (BitVec 8))) : Nat → List (BitVec 8)
  | 0 => h
  | k + 1 => sha (linkAt h rs k ++ rs.getD k [])
def chainOf (h : List (BitVec 8)) (rs : List (List (BitVec 8))) (n : Nat) : List (List (BitVec 8)) := (List.range n).map fun k => linkAt h rs (k + 1)
theorem length_chainOf (h : List (BitVec 8)) (rs : List (List (BitVec 8))) (n : Nat) : (chainOf h rs n).length = n := by simp [chainOf]
theorem length_linkAt (h : List (BitVec 8)) (rs : List (List (BitVec 8))) (hh : h.length = 32) : ∀ k, (linkAt h rs k).length = 32
  | 0 => hh
  | _ + 1 => length_sha _
theorem chainOf_succ (h : List (BitVec 8)) (rs : List (List (BitVec 8))) (n : Nat) : chainOf h rs (n + 1) = chainOf h rs n ++ [linkAt h rs (n + 1)] := by
  simp [chainOf, List.range_succ]
theorem chainOf_get (h : List (BitVec 8)) (rs : List (List (BitVec 8))) (n i : Nat) (hi : i < n) : (chainOf h rs n)[i]? = some (linkAt h rs (i + 1)) := by
  simp [chainOf, hi]
/- the cells of several hashes -/
def digsV (ds : List (List (BitVec 8))) : List Value := ds.flatMap fun d => (bs d).toList
theorem digsV_get (ds : List (List (BitVec 8))) (h : ∀ d ∈ ds, d.length = 32) (i : Nat) (d : List (BitVec 8)) (hd : ds[i]? = some d) (j : Nat) (v : Value) (hv : (bs d).toList[j]? = some v) : (digsV ds)[i * 32 + j]? = some v := by
  induction ds generalizing i with
  | nil => simp at hd
  | cons c r ih =>
    have e : digsV (c :: r) = (bs c).toList ++ digsV r := by simp [digsV]
    have hc : (bs c).toList.length = 32 := by simp [bs, h c (by simp)]
    rw [e]
    cases i with
    | zero =>
      obtain rfl : c = d := by simpa using hd
      have hj := (List.getElem?_eq_some_iff.1 hv).1
      rw [Nat.zero_mul, Nat.zero_add, List.getElem?_append_left hj]; exact hv
    | succ i =>
      rw [List.getElem?_append_right (by rw [hc]; omega), hc, show (i + 1) * 32 + j - 32 = i * 32 + j by omega]
      exact ih (fun x hx => h x (by simp [hx])) i (by simpa using hd)
end Go.Proofs.YtbhmgnhiglpmhaaDoor

/- The slices of bytes as they are handed in; and whether they are few and short enough. -/
set_option maxRecDepth 4000
namespace Go.Proofs.YtbhmgnhiglpmhaaDoor
open Go Go.RowKit
end Go.Proofs.YtbhmgnhiglpmhaaDoor

/- Copies of the slices of bytes, in memory of the call's own. -/
set_option maxRecDepth 4000
namespace Go.Proofs.YtbhmgnhiglpmhaaDoor
open Go Go.RowKit
end Go.Proofs.YtbhmgnhiglpmhaaDoor

set_option maxRecDepth 4000
namespace Go.Proofs.YtbhmgnhiglpmhaaDoor
open Go Go.RowKit
def str (q : List (BitVec 8)) : ByteArray := strOfNums (q.map bd)
theorem keep_conv {w : World} {v : Value} {q : List (BitVec 8)} (h : Slice w v q) : (convert 35 9 v).run Tryd.prog w = .ok (.string (str q)) w := by
  obtain ⟨A, c, rfl, _, h3⟩ := h
  by_cases hq : q = []
  · subst hq
    cases A with
    | none => exact run_convert_bytes_nil w 35 5 Tryd.underlying35 Tryd.underlying5 0 c 9 Tryd.underlying9
    | some a =>
      have hl : (loadCells a 0).run Tryd.prog w = .ok ((([] : List Int).map (Value.int .u8)).toArray) w := run_loadCells_list (P := Tryd.prog) w a [] (fun j v hv => by simp at hv)
      exact (run_convert_bytes_string w 35 9 5 (some a) 0 c Tryd.underlying35 Tryd.underlying5 Tryd.underlying9).trans (run_bytesToString w a 0 c [] hl)
  · obtain ⟨b, o, rfl, _, hc⟩ := h3 hq
    refine run_convert_bytes_arg w 35 5 Tryd.underlying35 Tryd.underlying5 b o q.length c (q.map bd) (by simp) (fun i hi => ?_) 9 Tryd.underlying9
    rw [hc i q[i] (List.getElem?_eq_getElem hi)]
    simp [hi]
end Go.Proofs.YtbhmgnhiglpmhaaDoor

/- Two arrays of integers that are the same are told as equal. -/
set_option maxRecDepth 4000
namespace Go.Proofs.YtbhmgnhiglpmhaaDoor
open Go
end Go.Proofs.YtbhmgnhiglpmhaaDoor

/- Arrays that are the same are told as equal. -/
set_option maxRecDepth 4000
namespace Go.Proofs.YtbhmgnhiglpmhaaDoor
open Go Go.RowKit
end Go.Proofs.YtbhmgnhiglpmhaaDoor

/- An append of bytes onto a slice of the call's own, the appended slice nil, empty or not. -/
set_option maxRecDepth 4000
namespace Go.Proofs.YtbhmgnhiglpmhaaDoor
open Go Go.RowKit
end Go.Proofs.YtbhmgnhiglpmhaaDoor

/- A block of bytes read as a slice; a conversion of a text's bytes. -/
set_option maxRecDepth 4000
namespace Go.Proofs.YtbhmgnhiglpmhaaDoor
open Go Go.RowKit
end Go.Proofs.YtbhmgnhiglpmhaaDoor

/- What stands in a pad. -/
set_option maxRecDepth 4000
namespace Go.Proofs.YtbhmgnhiglpmhaaDoor
open Go Go.RowKit
/- what stands in a pad -/
theorem lows_get (X : Int) (k i : Nat) (hi : i < k) : (lows X k)[i]? = some (lenByte X (k - 1 - i)) := by
  induction k generalizing i with
  | zero => omega
  | succ k ih =>
    cases i with
    | zero => simp [lows]
    | succ i => rw [lows, List.getElem?_cons_succ, ih i (by omega)]; congr 2; omega
theorem lenByte_val (X : Int) (k : Nat) : bd (lenByte X k) = X / 2 ^ (8 * k) % 256 := by rw [lenByte, ← wrap_u8_bd, IntKind.wrap_u8']
end Go.Proofs.YtbhmgnhiglpmhaaDoor

/- Parts laid by the call; blocks of 64 bytes of a message. -/
set_option maxRecDepth 4000
namespace Go.Proofs.YtbhmgnhiglpmhaaDoor
open Go Go.RowKit
theorem all_form {w : World} {base n : Nat} {v : Value} {q L : List (BitVec 8)} (h : w.ownsRow base 5 1 v n (bytesV q ++ bytesV (pad q.length))) (hL : q ++ pad q.length = L) :
    ∃ g cap, v = .slice (some ⟨g, 0, none⟩) L.length cap ∧ base ≤ g ∧ g < w.heap.size ∧ L.length ≤ cap ∧ ∀ j x, L[j]? = some x → w.cell? ⟨g, j, none⟩ = some (.int .u8 (bd x)) := by
  subst hL
  have e : bytesV q ++ bytesV (pad q.length) = bytesV (q ++ pad q.length) := by simp [bytesV]
  rw [e] at h
  exact owns_form h (by rw [List.length_append, length_pad]; have := padSize_lo q.length; omega)
def PR (w wr : World) (gh g g6 : Nat) (L D : List (BitVec 8)) (k : Nat) : Prop :=
  Row wr gh 78 (ws (turns L k)) ∧ Row wr g6 24 (bs D) ∧ Below w.heap.size w wr ∧ (∀ j x, L[j]? = some x → wr.cell? ⟨g, j, none⟩ = some (.int .u8 (bd x))) ∧ g < wr.heap.size
theorem PR.call {w wr w' : World} {gh g g6 k : Nat} {L D : List (BitVec 8)} (h : PR w wr gh g g6 L D k) (hb : Below wr.heap.size wr w') : PR w w' gh g g6 L D k := by
  obtain ⟨h1, h2, h3, h4, h5⟩ := h
  exact ⟨h1.call hb, h2.call hb, h3.trans (hb.mono h3.size), fun j x hx => (hb.cell (p := ⟨g, j, none⟩) h5).trans (h4 j x hx), Nat.lt_of_lt_of_le h5 hb.size⟩
theorem PR.setRow {w wx : World} {gh g g6 gy k : Nat} {L D : List (BitVec 8)} (h : PR w wx gh g g6 L D k) (h1 : gh ≠ gy) (h2 : g ≠ gy) (h3 : g6 ≠ gy) (h4 : w.heap.size ≤ gy) (cs : Array Value) : PR w (wx.drew.setRow gy cs) gh g g6 L D k := by
  obtain ⟨a1, a2, a3, a4, a5⟩ := h
  exact ⟨a1.drew.setRow_far h1 cs, a2.drew.setRow_far h3 cs, below_setRow a3.drew h4 cs, fun j x hx => (cell_setRow_other wx.drew gy cs ⟨g, j, none⟩ h2).trans (a4 j x hx), by rw [size_setRow]; exact a5⟩
theorem PR.turned {w w8 : World} {gh g g6 k : Nat} {L D : List (BitVec 8)} (h : PR w w8 gh g g6 L D k) (h1 : gh ≠ g) (h3 : gh ≠ g6) (h4 : w.heap.size ≤ gh) : PR w (w8.setRow gh (ws (turns L (k + 1)))) gh g g6 L D (k + 1) := by
  obtain ⟨a1, a2, a3, a4, a5⟩ := h
  exact ⟨a1.setRow _, a2.setRow_far (Ne.symm h3) _, below_setRow a3 h4 _, fun j x hx => (cell_setRow_other w8 gh _ ⟨g, j, none⟩ (Ne.symm h1)).trans (a4 j x hx), by rw [size_setRow]; exact a5⟩
/- a hash's first i bytes, and zeros -/
def dpart (H : List (BitVec 32)) (i : Nat) : List (BitVec 8) := (dig H).take i ++ zer (32 - i)
theorem dpart_zero (H : List (BitVec 32)) : dpart H 0 = zer 32 := by simp [dpart]
theorem dpart_all (H : List (BitVec 32)) (h : H.length = 8) : dpart H 32 = dig H := by
  rw [dpart, List.take_of_length_le (by rw [length_dig, h]; omega)]; simp [zer]
theorem length_dpart (H : List (BitVec 32)) (i : Nat) (h : H.length = 8) (hi : i ≤ 32) : (dpart H i).length = 32 := by
  simp [dpart, length_dig, h, zer]; omega
theorem dig_get (H : List (BitVec 32)) (a b : Nat) (ha : a < H.length) (hb : b < 4) : (dig H)[4 * a + b]? = some ((H.getD a 0 >>> (24 - 8 * b)).setWidth 8) := by
  induction H generalizing a with
  | nil => simp at ha
  | cons x r ih =>
    have e : dig (x :: r) = fourH x ++ dig r := by simp [dig]
    cases a with
    | zero =>
      rw [e, List.getElem?_append_left (by simp [fourH]; omega)]
      match b, hb with
      | 0, _ => rfl
      | 1, _ => rfl
      | 2, _ => rfl
      | 3, _ => simp [fourH]
    | succ a =>
      rw [e, List.getElem?_append_right (by simp [fourH]; omega), show 4 * (a + 1) + b - (fourH x).length = 4 * a + b by simp [fourH]; omega, ih a (by simpa using ha)]
      simp
theorem dpart_set (H : List (BitVec 32)) (a b : Nat) (hl : H.length = 8) (ha : a < 8) (hb : b < 4) : (dpart H (4 * a + b)).set (4 * a + b) ((H.getD a 0 >>> (24 - 8 * b)).setWidth 8) = dpart H (4 * a + b + 1) := by
  have hd := dig_get H a b (by omega) hb
  have hlen : (dig H).length = 32 := by rw [length_dig, hl]
  have h1 : ((dig H).take (4 * a + b)).length = 4 * a + b := by rw [List.length_take, hlen]; omega
  have hz : zer (32 - (4 * a + b)) = 0 :: zer (32 - (4 * a + b + 1)) := by
    rw [show 32 - (4 * a + b) = (32 - (4 * a + b + 1)) + 1 by omega]; simp [zer, List.replicate_succ]
  have he : (dig H)[4 * a + b]'(by omega) = (H.getD a 0 >>> (24 - 8 * b)).setWidth 8 := (List.getElem?_eq_some_iff.1 hd).2
  rw [dpart, dpart, List.set_append_right _ _ (by omega), h1, Nat.sub_self, hz, List.set_cons_zero, List.take_succ_eq_append_getElem (by omega), he, List.append_assoc]
  rfl
theorem d_step {w wz : World} {gd gh g6 i : Nat} {H : List (BitVec 32)} {D : List (BitVec 8)} (hl : H.length = 8) (hi : i < 32) (rd : Row wz gd 24 (bs (dpart H i))) (hr : Row wz gh 78 (ws H)) (hr6 : Row wz g6 24 (bs D)) (hb : Below w.heap.size w wz)
    (h1 : gh ≠ gd) (h2 : g6 ≠ gd) (h3 : w.heap.size ≤ gd) :
    Row (wz.setCell ⟨gd, i, none⟩ (.int .u8 (wd (H.getD (i / 4) 0) / 2 ^ (24 - 8 * (i % 4)) % 256))) gd 24 (bs (dpart H (i + 1))) ∧ Row (wz.setCell ⟨gd, i, none⟩ (.int .u8 (wd (H.getD (i / 4) 0) / 2 ^ (24 - 8 * (i % 4)) % 256))) gh 78 (ws H) ∧
      Row (wz.setCell ⟨gd, i, none⟩ (.int .u8 (wd (H.getD (i / 4) 0) / 2 ^ (24 - 8 * (i % 4)) % 256))) g6 24 (bs D) ∧ Below w.heap.size w (wz.setCell ⟨gd, i, none⟩ (.int .u8 (wd (H.getD (i / 4) 0) / 2 ^ (24 - 8 * (i % 4)) % 256))) := by
  have e : wd (H.getD (i / 4) 0) / 2 ^ (24 - 8 * (i % 4)) % 256 = bd ((H.getD (i / 4) 0 >>> (24 - 8 * (i % 4))).setWidth 8) := by
    rw [shr_wd, ← low_wd, IntKind.wrap_u8']
  rw [e]
  refine ⟨?_, hr.far h1 _, hr6.far h2 _, hb.setCell h3 _⟩
  have h := rd.put i (.int .u8 (bd ((H.getD (i / 4) 0 >>> (24 - 8 * (i % 4))).setWidth 8)))
  have hs := dpart_set H (i / 4) (i % 4) hl (by omega) (by omega)
  rw [show 4 * (i / 4) + i % 4 = i by omega] at hs
  rw [set_bs, hs] at h
  exact h
theorem src_at {w : World} {g o : Nat} {L : List (BitVec 8)} (h : ∀ j x, L[j]? = some x → w.cell? ⟨g, j, none⟩ = some (.int .u8 (bd x))) :
    ∀ j x, (L.drop o)[j]? = some x → w.cell? ⟨g, o + j, none⟩ = some (.int .u8 (bd x)) := fun j x hx => by
  rw [List.getElem?_drop] at hx; exact h _ x hx
theorem copy_block (L : List (BitVec 8)) (t : Nat) (h : 64 * t + 64 ≤ L.length) :
    ((bs (zer 64)).toList.take 0 ++ (bytesV ((L.drop (64 * t)).take 64) ++ (bs (zer 64)).toList.drop (0 + (bytesV ((L.drop (64 * t)).take 64)).length))).toArray = bs ((L.drop (64 * t)).take 64) := by
  have e : (bytesV ((L.drop (64 * t)).take 64)).length = 64 := by simp [bytesV]; omega
  have hd : (bs (zer 64)).toList.drop (0 + 64) = [] := rfl
  rw [e, hd, List.take_zero, List.nil_append, List.append_nil]
  rfl
end Go.Proofs.YtbhmgnhiglpmhaaDoor

/- The document's answer for one block: the same words. -/
set_option maxRecDepth 4000
namespace Go.Proofs.YtbhmgnhiglpmhaaDoor
open Go Go.RowKit
attribute [local go_sem] xor_wd and_wd or_wd add_wd shr_wd not_wd signed_u32 conv_bd shl24_wd shl16_wd shl8_wd
theorem or_shl (a x : BitVec 32) (m : Nat) : bits .or .u32 (wd a) (wd x * 2 ^ m % 4294967296) = wd (a ||| x <<< m) := by
  rw [← IntKind.wrap_u32', shl_wd, or_wd]
theorem wpList_build_as {P : Program} {ops : Array Oper} {rest : List Oper} {o : Oper} {a : Act} {w : World} {Q : Exit → Act → World → Prop} (hg : o.guard = none) (t : TypeId) (parts : Array (Nat × Operand)) (ho : o.op = .build t parts) (cells : Array Value)
    (hf : P.built t (parts.map fun (i, x) => (i, a.eval x)).toList = some cells) (h : wpList P ops Q rest (a.put o.dst (.agg cells)) w) : wpList P ops Q (o :: rest) a w :=
  wpList_build hg t parts ho (by rw [hf]; rfl) (by rw [hf]; exact h)
theorem ref_right (x : BitVec 32) (k : Int) (w : World) (h0 : 0 < k) (h1 : k < 32) :
    Calls Tryd.prog 50 #[.int .u32 (wd x), .int .u64 k] w fun e w' => e = .returned (.int .u32 (wd (rr x k.toNat))) ∧ w = w' := by
  obtain ⟨n, rfl⟩ := Int.eq_ofNat_of_zero_le (show 0 ≤ k by omega)
  have e1 : Op.shift .shr .u32 (wd x) .u64 (n : Int) = pure (.int .u32 (wd (x >>> n))) := by
    rw [shift_shr _ _ _ _ (by omega) (by simp [IntKind.bits]; omega), Int.toNat_natCast, shr_wd]
  have e2 : Op.shift .shl .u32 (wd x) .u64 (32 - (n : Int)) = pure (.int .u32 (wd (x <<< (32 - n)))) := by
    rw [shift_shl _ _ _ _ (by omega) (by simp [IntKind.bits]; omega), show (32 - (n : Int)).toNat = 32 - n by omega, shl_wd]
  have e3 : IntKind.u64.wrap (32 - (n : Int)) = 32 - (n : Int) := by
    rw [show IntKind.u64.wrap (32 - (n : Int)) = (32 - (n : Int)) % 18446744073709551616 from by simp [IntKind.wrap, IntKind.bits, IntKind.signed]]
    omega
  have er : Hid (rr x ((n : Int)).toNat = x >>> n ||| x <<< (32 - n)) := Lib.hid (by rw [Int.toNat_natCast, rr, BitVec.or_comm])
  go_enter Tryd.func50, Tryd.ntmps50
  go_wp2
  go_ret
  rw [er.out]
  exact ⟨ret_int (or_shl _ _ _), rfl⟩
theorem ref_table (w : World) : Calls Tryd.prog 51 #[] w fun e w' => e = .returned (.agg (ws kk)) ∧ Below w.heap.size w w' := by
  go_enter Tryd.func51, Tryd.ntmps51
  go_wp2_with (first | (refine wpList_build_as rfl _ _ rfl (ws kk) (by kernel_rfl) ?_) | (refine wpList_store_row rfl 98 _ _ rfl w.heap.size (ws kk) rfl rfl 98 _ (Row.fresh _ _ _) size_w (by kernel_rfl) (one_ws _) ?_; rw [World.setRow_alloc_new]))
  exact bodyPost_ret (v := .agg (ws kk)) (results_cell_row Tryd.results51 _ _ w.heap.size 98 (ws kk) (0, 0) _ rfl (Row.fresh _ _ _) Tryd.underlying98 rfl size_w) rfl ⟨rfl, (Below.refl _ _).alloc (Nat.le_refl _) _⟩
theorem ref_start (w : World) : Calls Tryd.prog 40 #[] w fun e w' => e = .returned (.agg (ws [0x6a09e667#32, 0xbb67ae85#32, 0x3c6ef372#32, 0xa54ff53a#32, 0x510e527f#32, 0x9b05688c#32, 0x1f83d9ab#32, 0x5be0cd19#32])) ∧ Below w.heap.size w w' := by
  go_enter Tryd.func40, Tryd.ntmps40
  go_wp2
  refine bodyPost_ret (v := .agg (ws [0x6a09e667#32, 0xbb67ae85#32, 0x3c6ef372#32, 0xa54ff53a#32, 0x510e527f#32, 0x9b05688c#32, 0x1f83d9ab#32, 0x5be0cd19#32])) ?_ rfl ⟨rfl, (Below.refl _ _).alloc (Nat.le_refl _) _⟩
  exact results_cell_row Tryd.results40 _ _ w.heap.size 78 (ws [0x6a09e667#32, 0xbb67ae85#32, 0x3c6ef372#32, 0xa54ff53a#32, 0x510e527f#32, 0x9b05688c#32, 0x1f83d9ab#32, 0x5be0cd19#32]) (0, 0) _ rfl (Row.fresh _ _ _) Tryd.underlying78 rfl size_h
end Go.Proofs.YtbhmgnhiglpmhaaDoor

/- The document's answer for H behind one more block: the plain function's. -/
set_option maxRecDepth 4000
namespace Go.Proofs.YtbhmgnhiglpmhaaDoor
open Go Go.RowKit
attribute [local go_sem] xor_wd and_wd or_wd add_wd shr_wd not_wd signed_u32 conv_bd shl24_wd shl16_wd shl8_wd
def R4 (w wr : World) (h : List (BitVec 32)) (l : List (BitVec 8)) (k : Nat) : Prop :=
  Row wr w.heap.size 78 (ws h) ∧ Row wr (w.heap.size + 1) 80 (bs l) ∧ Row wr (w.heap.size + 1 + 1) 78 (ws (zeros 8)) ∧ Row wr (w.heap.size + 1 + 1 + 1) 98 (ws (sched l k)) ∧ Below w.heap.size w wr
theorem r4_start {w : World} {h : List (BitVec 32)} {l : List (BitVec 8)} : R4 w ((((w.alloc (.cells (ws h) 78)).alloc (.cells (bs l) 80)).alloc (.cells (ws (zeros 8)) 78)).alloc (.cells (ws (zeros 64)) 98)) h l 0 := by
  refine ⟨(row3a w _ _ _ _).alloc _, (row3b w _ _ _ _).alloc _, (row3c w _ _ _ _).alloc _, ?_, (below3 w _ _ _).alloc (by simp; omega) _⟩
  have e : w.heap.size + 1 + 1 + 1 = (((w.alloc (.cells (ws h) 78)).alloc (.cells (bs l) 80)).alloc (.cells (ws (zeros 8)) 78)).heap.size := by simp
  rw [e]; exact Row.fresh _ _ _
theorem r4_step {w wr : World} {h : List (BitVec 32)} {l : List (BitVec 8)} {k : Nat} {x : BitVec 32} (hx : x = if k < 16 then wordAt l k else next (sched l k) k) (hr : R4 w wr h l k) :
    R4 w (wr.setCell ⟨w.heap.size + 1 + 1 + 1, k, none⟩ (.int .u32 (wd x))).drew h l (k + 1) := by
  obtain ⟨h1, h2, h3, h4, h5⟩ := hr
  refine ⟨(h1.far (by simp; omega) _).drew, (h2.far (by simp) _).drew, (h3.far (by simp) _).drew, ?_, (h5.setCell (by simp; omega) _).drew⟩
  have t := (h4.put k (.int .u32 (wd x))).drew
  rw [set_ws, hx] at t
  subst hx
  exact t
theorem R4.drewN {w wr : World} {h : List (BitVec 32)} {l : List (BitVec 8)} {k : Nat} (hr : R4 w wr h l k) (n : Nat) : R4 w (wr.drewN n) h l k := by
  obtain ⟨h1, h2, h3, h4, h5⟩ := hr
  exact ⟨h1, h2, h3, h4, below_drewN h5 n⟩
theorem R4.alloc {w wr : World} {h : List (BitVec 32)} {l : List (BitVec 8)} {k : Nat} (hr : R4 w wr h l k) (o : Obj) : R4 w (wr.alloc o) h l k := by
  obtain ⟨h1, h2, h3, h4, h5⟩ := hr
  exact ⟨h1.alloc o, h2.alloc o, h3.alloc o, h4.alloc o, h5.alloc h5.size o⟩
theorem R4.call {w wr w' : World} {h : List (BitVec 32)} {l : List (BitVec 8)} {k : Nat} (hr : R4 w wr h l k) (hb : Below wr.heap.size wr w') : R4 w w' h l k := by
  obtain ⟨h1, h2, h3, h4, h5⟩ := hr
  exact ⟨h1.call hb, h2.call hb, h3.call hb, h4.call hb, h5.trans (hb.mono h5.size)⟩
theorem R4.setRow {w wr : World} {h : List (BitVec 32)} {l : List (BitVec 8)} {k g : Nat} (hr : R4 w wr h l k) (hg : w.heap.size + 1 + 1 + 1 < g) (cs : Array Value) : R4 w (wr.setRow g cs) h l k := by
  obtain ⟨h1, h2, h3, h4, h5⟩ := hr
  exact ⟨h1.setRow_far (by omega) cs, h2.setRow_far (by omega) cs, h3.setRow_far (by omega) cs, h4.setRow_far (by omega) cs, below_setRow h5 (by omega) cs⟩
def R6 (w wr : World) (g : Nat) (h : List (BitVec 32)) (l : List (BitVec 8)) (k : Nat) : Prop :=
  R4 w wr h l 64 ∧ Row wr g 98 (ws kk) ∧ Row wr (g + 1) 78 (ws (rounds h (sched l 64) k))
theorem R6.drewN {w wr : World} {g : Nat} {h : List (BitVec 32)} {l : List (BitVec 8)} {k : Nat} (hr : R6 w wr g h l k) (n : Nat) : R6 w (wr.drewN n) g h l k := ⟨hr.1.drewN n, hr.2.1, hr.2.2⟩
theorem addm (x y : BitVec 32) : (wd x + wd y) % 4294967296 = wd (x + y) := by rw [← IntKind.wrap_u32', add_wd]
theorem r4_at {w wr : World} {h : List (BitVec 32)} {l : List (BitVec 8)} {k : Nat} {v : Int} (hx : v = wd (if k < 16 then wordAt l k else next (sched l k) k)) (hr : R4 w wr h l k) :
    R4 w (wr.setCell ⟨w.heap.size + 1 + 1 + 1, k, none⟩ (.int .u32 v)).drew h l (k + 1) := by
  subst hx; exact r4_step rfl hr
theorem plus_comm (a b : List (BitVec 32)) : plus a b = plus b a := List.zipWith_comm_of_comm (fun x y => BitVec.add_comm x y)
theorem ref_rnd (a b c d e f g x p q : BitVec 32) : rnd [a, b, c, d, e, f, g, x] (p + q) = [x + (rr e 6 ^^^ rr e 11 ^^^ rr e 25) + (e &&& f ^^^ ~~~e &&& g) + p + q + ((rr a 2 ^^^ rr a 13 ^^^ rr a 22) + (a &&& b ^^^ a &&& c ^^^ b &&& c)), a, b, c, d + (x + (rr e 6 ^^^ rr e 11 ^^^ rr e 25) + (e &&& f ^^^ ~~~e &&& g) + p + q), e, f, g] := by
  simp [rnd, rnd1, rnd2, bs1, bs0, BitVec.add_assoc]
theorem R4.put {w wr : World} {h : List (BitVec 32)} {l : List (BitVec 8)} {k g i : Nat} (hr : R4 w wr h l k) (hg : w.heap.size + 1 + 1 + 1 < g) (v : Value) : R4 w (wr.setCell ⟨g, i, none⟩ v) h l k := by
  obtain ⟨h1, h2, h3, h4, h5⟩ := hr
  exact ⟨h1.far (show w.heap.size ≠ g by omega) v, h2.far (show w.heap.size + 1 ≠ g by omega) v, h3.far (show w.heap.size + 1 + 1 ≠ g by omega) v, h4.far (show w.heap.size + 1 + 1 + 1 ≠ g by omega) v, h5.setCell (show w.heap.size ≤ g by omega) v⟩
theorem R4.drew {w wr : World} {h : List (BitVec 32)} {l : List (BitVec 8)} {k : Nat} (hr : R4 w wr h l k) : R4 w wr.drew h l k := by
  obtain ⟨h1, h2, h3, h4, h5⟩ := hr
  exact ⟨h1, h2, h3, h4, h5.drew⟩
theorem r6_step {w wq : World} {G k : Nat} {h : List (BitVec 32)} {l : List (BitVec 8)} {a b c d e f g x y0 y4 : BitVec 32} (hq : R6 w wq G h l k) (hG : w.heap.size + 1 + 1 + 1 < G) (hs : rounds h (sched l 64) k = [a, b, c, d, e, f, g, x])
    (hr : rnd [a, b, c, d, e, f, g, x] (kk.getD k 0 + (sched l 64).getD k 0) = [y0, a, b, c, y4, e, f, g]) :
    R6 w ((((((((wq.setCell ⟨G + 1, 0, none⟩ (.int .u32 (wd y0))).setCell ⟨G + 1, 1, none⟩ (.int .u32 (wd a))).setCell ⟨G + 1, 2, none⟩ (.int .u32 (wd b))).setCell ⟨G + 1, 3, none⟩ (.int .u32 (wd c))).setCell ⟨G + 1, 4, none⟩ (.int .u32 (wd y4))).setCell ⟨G + 1, 5, none⟩ (.int .u32 (wd e))).setCell ⟨G + 1, 6, none⟩ (.int .u32 (wd f))).setCell ⟨G + 1, 7, none⟩ (.int .u32 (wd g))).drew G h l (k + 1) := by
  obtain ⟨h1, h2, h3⟩ := hq
  have hg : w.heap.size + 1 + 1 + 1 < G + 1 := by omega
  refine ⟨((((((((h1.put hg _).put hg _).put hg _).put hg _).put hg _).put hg _).put hg _).put hg _).drew, ?_, ?_⟩
  · have hne : ∀ i, G ≠ (⟨G + 1, i, none⟩ : Addr).block := fun i => by simp
    exact ((((((((h2.far (hne 0) _).far (hne 1) _).far (hne 2) _).far (hne 3) _).far (hne 4) _).far (hne 5) _).far (hne 6) _).far (hne 7) _).drew
  · rw [hs] at h3
    have t := ((((((((h3.put 0 (.int .u32 (wd y0))).put 1 (.int .u32 (wd a))).put 2 (.int .u32 (wd b))).put 3 (.int .u32 (wd c))).put 4 (.int .u32 (wd y4))).put 5 (.int .u32 (wd e))).put 6 (.int .u32 (wd f))).put 7 (.int .u32 (wd g))).drew
    rw [set_ws, set_ws, set_ws, set_ws, set_ws, set_ws, set_ws, set_ws] at t
    rw [rounds, hs, hr]
    exact t
set_option maxRecDepth 100000 in
set_option maxHeartbeats 1600000 in
theorem ref_turn (h : List (BitVec 32)) (l : List (BitVec 8)) (hh : h.length = 8) (hl : l.length = 64) (w : World) :
    Calls Tryd.prog 41 #[.agg (ws h), .agg (bs l)] w fun e w' => e = .returned (.agg (ws (turn h l))) ∧ Below w.heap.size w w' := by
  have HH := Lib.hid hh
  have HL := Lib.hid hl
  clear hh hl
  go_enter Tryd.func41, Tryd.ntmps41
  go_wp2
  go_loopw [6] (fun i wr => ∃ k : Nat, k ≤ 64 ∧ i = .int .i64 k ∧ R4 w wr h l k) (fun i _ => 64 - (intOf i).toNat)
  case atStart => exact ⟨0, by omega, rfl, r4_start⟩
  case round =>
    obtain ⟨k, hk, rfl, hR⟩ := hrel
    have HR := Lib.hid hR
    clear hR
    by_cases hlt : k < 64
    · by_cases h16 : k < 16
      · have hl := HL.out
        have c0 := HR.out.2.1.get (get_bs l (4 * k) (by omega))
        have c1 := HR.out.2.1.get (get_bs l (4 * k + 1) (by omega))
        have c2 := HR.out.2.1.get (get_bs l (4 * k + 2) (by omega))
        have c3 := HR.out.2.1.get (get_bs l (4 * k + 3) (by omega))
        have ct := HR.out.2.2.2.1.get (get_ws (sched l k) k (by rw [length_sched]; omega))
        have cf := HR.out.2.2.2.1.free k
        clear hl
        have z0 := i64_id (4 * (k : Int)) (by omega) (by omega)
        have z1 := i64_id (4 * (k : Int) + 1) (by omega) (by omega)
        have z2 := i64_id (4 * (k : Int) + 2) (by omega) (by omega)
        have z3 := i64_id (4 * (k : Int) + 3) (by omega) (by omega)
        have t0 : (4 * (k : Int)).toNat = 4 * k := by omega
        have t1 : (4 * (k : Int) + 1).toNat = 4 * k + 1 := by omega
        have t2 : (4 * (k : Int) + 2).toNat = 4 * k + 2 := by omega
        have t3 : (4 * (k : Int) + 3).toNat = 4 * k + 3 := by omega
        go_wp2
        go_region
        go_wp2
        go_roundw
        case rel => exact ⟨k + 1, by omega, by go_num, r4_step (by rw [if_pos h16]; simp [wordAt, word]) HR.out⟩
        case measure => simp [intOf]; omega
      · have c0 := HR.out.2.2.2.1.get (get_ws (sched l k) (k - 2) (by rw [length_sched]; omega))
        have c2 := HR.out.2.2.2.1.get (get_ws (sched l k) (k - 15) (by rw [length_sched]; omega))
        have z0 := i64_id ((k : Int) - 2) (by omega) (by omega)
        have z1 := i64_id ((k : Int) - 7) (by omega) (by omega)
        have z2 := i64_id ((k : Int) - 15) (by omega) (by omega)
        have z3 := i64_id ((k : Int) - 16) (by omega) (by omega)
        have t0 : ((k : Int) - 2).toNat = k - 2 := by omega
        have t1 : ((k : Int) - 7).toNat = k - 7 := by omega
        have t2 : ((k : Int) - 15).toNat = k - 15 := by omega
        have t3 : ((k : Int) - 16).toNat = k - 16 := by omega
        have b0 : (0 : Int) ≤ (k : Int) - 2 := by omega
        have b1 : (0 : Int) ≤ (k : Int) - 7 := by omega
        have b2 : (0 : Int) ≤ (k : Int) - 15 := by omega
        have b3 : (0 : Int) ≤ (k : Int) - 16 := by omega
        have d0 : (2 : Int) ≤ (k : Int) := by omega
        have d1 : (7 : Int) ≤ (k : Int) := by omega
        have d2 : (15 : Int) ≤ (k : Int) := by omega
        have d3 : (16 : Int) ≤ (k : Int) := by omega
        have f0 : (k : Int) - 2 < 64 := by omega
        have f1 : (k : Int) - 7 < 64 := by omega
        have f2 : (k : Int) - 15 < 64 := by omega
        have f3 : (k : Int) - 16 < 64 := by omega
        have f4 : (k : Int) < 64 := by omega
        have d16 : decide ((k : Int) < 16) = false := by simp; omega
        go_wp2_with fail
        go_quiet (fail)
        have HQ := Lib.hid (HR.out.drewN nq)
        clear c0 c2 HR
        generalize wr.drewN nq = wq at *
        have c1 := HQ.out.2.2.2.1.get (get_ws (sched l k) (k - 7) (by rw [length_sched]; omega))
        have c3 := HQ.out.2.2.2.1.get (get_ws (sched l k) (k - 16) (by rw [length_sched]; omega))
        have ct := HQ.out.2.2.2.1.get (get_ws (sched l k) k (by rw [length_sched]; omega))
        have cf := HQ.out.2.2.2.1.free k
        have m1 : ¬ k - 7 = k := by omega
        have m3 : ¬ k - 16 = k := by omega
        go_wp2_with fail
        go_region_held3 (fun W => W.cell? ⟨w.heap.size + 1 + 1 + 1, k - 7, none⟩ = some (.int .u32 (wd ((sched l k).getD (k - 7) 0))) ∧ W.cell? ⟨w.heap.size + 1 + 1 + 1, k - 16, none⟩ = some (.int .u32 (wd ((sched l k).getD (k - 16) 0)))) (first | exact ⟨far4 c1 m1, far4 c3 m3⟩ | exact ⟨c1, c3⟩ | go_keep)
          (first | (go_at_call 50; refine (ref_right _ _ _ (by decide) (by decide)).mono ?_; rintro e w' ⟨rfl, rfl⟩))
        go_wp2
        go_roundw
        case rel => exact ⟨k + 1, by omega, by go_num, r4_at (by rw [if_neg h16, xor_shr10, xor_shr3, addm, addm, addm]; rfl) HQ.out⟩
        case measure => simp [intOf]; omega
    · obtain rfl : k = 64 := by omega
      clear hlt hk
      go_wp2_with fail
      refine (ref_table wr).mono ?_
      rintro e wt ⟨rfl, hbt⟩
      have HT := Lib.hid (HR.out.call hbt)
      have hwt : w.heap.size + 1 + 1 + 1 < wt.heap.size := HT.out.2.2.2.1.lt
      have H33 : Hid ((Tryd.prog.info? 78).map (·.size) = some (ws h).size) := Lib.hid (by rw [size_ws, HH.out]; exact size_h)
      clear hbt HR
      go_wp2_with (first | (refine wpList_store_row rfl 98 _ _ rfl wt.heap.size (ws kk) rfl rfl 98 _ (Row.fresh _ _ _) size_w (by kernel_rfl) (one_ws _) ?_; rw [World.setRow_alloc_new]) | (refine wpList_load_row rfl 78 _ rfl w.heap.size rfl 78 (ws h) (0, 0) _ (HT.out.1.alloc _) Tryd.underlying78 rfl H33.out ?_) | (refine wpList_store_row rfl 78 _ _ rfl (wt.heap.size + 1) (ws h) rfl rfl 78 _ (row2b _ _ _ _) H33.out (by rw [size_ws, HH.out]; rfl) (one_ws _) ?_; rw [setRow_alloc2]))
      go_loopw [11] (fun i wr => ∃ k : Nat, k ≤ 64 ∧ i = .int .i64 k ∧ R6 w wr wt.heap.size h l k) (fun i _ => 64 - (intOf i).toNat)
      case atStart => exact ⟨0, by omega, rfl, (HT.out.alloc _).alloc _, (Row.fresh _ _ _).alloc _, row2b _ _ _ _⟩
      case round =>
        clear HT
        obtain ⟨k, hk, rfl, hR⟩ := hrel
        have HR := Lib.hid hR
        clear hR
        by_cases hlt : k < 64
        · obtain ⟨a, b, c, d, e, f, g, x, hs⟩ := list8 (rounds h (sched l 64) k) (by rw [length_rounds]; exact HH.out)
          have HS := Lib.hid hs
          have rs := HR.out.2.2
          rw [hs] at rs
          clear hs
          have c0 : wr.cell? ⟨wt.heap.size + 1, 0, none⟩ = some (.int .u32 (wd a)) := rs.get rfl
          have c1 : wr.cell? ⟨wt.heap.size + 1, 1, none⟩ = some (.int .u32 (wd b)) := rs.get rfl
          have c2 : wr.cell? ⟨wt.heap.size + 1, 2, none⟩ = some (.int .u32 (wd c)) := rs.get rfl
          have c4 : wr.cell? ⟨wt.heap.size + 1, 4, none⟩ = some (.int .u32 (wd e)) := rs.get rfl
          have c5 : wr.cell? ⟨wt.heap.size + 1, 5, none⟩ = some (.int .u32 (wd f)) := rs.get rfl
          have c6 : wr.cell? ⟨wt.heap.size + 1, 6, none⟩ = some (.int .u32 (wd g)) := rs.get rfl
          have f0 : (0 : Int) ≤ (k : Int) := by omega
          have f4 : (k : Int) < 64 := by omega
          go_wp2_with fail
          go_quiet (fail)
          have HQ := Lib.hid (HR.out.drewN nq)
          have rq : Row (wr.drewN nq) (wt.heap.size + 1) 78 (ws [a, b, c, d, e, f, g, x]) := rs
          clear c0 c1 c2 c4 c5 c6 HR rs
          generalize wr.drewN nq = wq at *
          have c7 : wq.cell? ⟨wt.heap.size + 1, 7, none⟩ = some (.int .u32 (wd x)) := rq.get rfl
          have ck := HQ.out.2.1.get (get_ws kk k (by rw [length_kk]; exact hlt))
          have cw := HQ.out.1.2.2.2.1.get (get_ws (sched l 64) k (by rw [length_sched]; exact hlt))
          go_wp2_with fail
          go_region_held3 (fun W => W.cell? ⟨wt.heap.size + 1, 7, none⟩ = some (.int .u32 (wd x)) ∧ W.cell? ⟨wt.heap.size, k, none⟩ = some (.int .u32 (wd (kk.getD k 0))) ∧ W.cell? ⟨w.heap.size + 1 + 1 + 1, k, none⟩ = some (.int .u32 (wd ((sched l 64).getD k 0)))) (first | exact ⟨c7, ck, cw⟩ | go_keep)
            (first | (go_at_call 50; refine (ref_right _ _ _ (by decide) (by decide)).mono ?_; rintro e w' ⟨rfl, rfl⟩))
          clear c7 ck cw
          have c0 : wq.cell? ⟨wt.heap.size + 1, 0, none⟩ = some (.int .u32 (wd a)) := rq.get rfl
          have q0 := rq.free 0
          have c1 : wq.cell? ⟨wt.heap.size + 1, 1, none⟩ = some (.int .u32 (wd b)) := rq.get rfl
          have q1 := rq.free 1
          have c2 : wq.cell? ⟨wt.heap.size + 1, 2, none⟩ = some (.int .u32 (wd c)) := rq.get rfl
          have q2 := rq.free 2
          have c3 : wq.cell? ⟨wt.heap.size + 1, 3, none⟩ = some (.int .u32 (wd d)) := rq.get rfl
          have q3 := rq.free 3
          have c4 : wq.cell? ⟨wt.heap.size + 1, 4, none⟩ = some (.int .u32 (wd e)) := rq.get rfl
          have q4 := rq.free 4
          have c5 : wq.cell? ⟨wt.heap.size + 1, 5, none⟩ = some (.int .u32 (wd f)) := rq.get rfl
          have q5 := rq.free 5
          have c6 : wq.cell? ⟨wt.heap.size + 1, 6, none⟩ = some (.int .u32 (wd g)) := rq.get rfl
          have q6 := rq.free 6
          have c7 : wq.cell? ⟨wt.heap.size + 1, 7, none⟩ = some (.int .u32 (wd x)) := rq.get rfl
          have q7 := rq.free 7
          go_wp2_with (first | (go_at_call 50; refine (ref_right _ _ _ (by decide) (by decide)).mono ?_; rintro e w' ⟨rfl, rfl⟩))
          go_roundw
          case rel =>
            exact ⟨k + 1, by omega, by go_num, r6_step HQ.out hwt HS.out (ref_rnd a b c d e f g x _ _)⟩
          case measure => simp [intOf]; omega
        · obtain rfl : k = 64 := by omega
          clear hlt hk
          have HV : Hid ((rounds h (sched l 64) 64).length = 8) := Lib.hid (by rw [length_rounds]; exact HH.out)
          have HF : Hid (turn h l = plus (rounds h (sched l 64) 64) h) := Lib.hid (plus_comm _ _)
          obtain ⟨⟨hr0, _, hr2, _, hbr⟩, _, hrv⟩ := HR.out
          clear HR
          generalize rounds h (sched l 64) 64 = v at *
          go_wp2
          go_loopw [20] (fun i wr => ∃ k : Nat, k ≤ 8 ∧ i = .int .i64 k ∧ Row wr w.heap.size 78 (ws h) ∧ Row wr (w.heap.size + 1 + 1) 78 (ws (zeros 8)) ∧ Row wr (wt.heap.size + 1) 78 (ws (part v h k)) ∧ Below w.heap.size w wr) (fun i _ => 8 - (intOf i).toNat)
          case atStart => exact ⟨0, by omega, rfl, hr0, hr2, by rw [part_zero]; exact hrv, hbr⟩
          case round =>
            clear hr0 hr2 hrv hbr
            obtain ⟨k, hk, rfl, hr0, hr2, hrv, hbr⟩ := hrel
            by_cases hlt : k < 8
            · have c0 := hrv.get (get_ws (part v h k) k (by rw [length_part v h k HV.out HH.out hk]; exact hlt))
              rw [part_get v h k HV.out HH.out hlt] at c0
              have cf := hrv.free k
              have c1 := hr0.get (get_ws h k (by rw [HH.out]; exact hlt))
              go_wp2
              go_region
              go_wp2
              go_roundw
              case rel =>
                refine ⟨k + 1, by omega, by go_num, (hr0.far (by simp; omega) _).drew, (hr2.far (by simp; omega) _).drew, ?_, (hbr.setCell (by simp; omega) _).drew⟩
                have h1 := (hrv.put k (.int .u32 (wd (v.getD k 0 + h.getD k 0)))).drew
                rw [set_ws, part_set v h k HV.out HH.out hlt] at h1
                exact h1
              case measure => simp [intOf]; omega
            · obtain rfl : k = 8 := by omega
              rw [part_all v h HV.out HH.out] at hrv
              have HS8 : Hid ((Tryd.prog.info? 78).map (·.size) = some (ws (plus v h)).size) := Lib.hid (by rw [size_ws, length_plus v h HV.out HH.out]; exact size_h)
              clear hlt hk hr0
              go_wp2_with (first | (refine wpList_load_row rfl 78 _ rfl (wt.heap.size + 1) rfl 78 (ws (plus v h)) (0, 0) _ hrv Tryd.underlying78 rfl HS8.out ?_) | (refine wpList_store_row rfl 78 _ _ rfl (w.heap.size + 1 + 1) (ws (plus v h)) rfl rfl 78 _ hr2 HS8.out (by rw [size_ws, size_ws, length_plus v h HV.out HH.out]; rfl) (one_ws _) ?_))
              rw [HF.out]
              exact bodyPost_ret (v := .agg (ws (plus v h))) (results_cell_row Tryd.results41 _ _ (w.heap.size + 1 + 1) 78 (ws (plus v h)) (0, 0) _ rfl (hr2.setRow _) Tryd.underlying78 rfl HS8.out) rfl ⟨rfl, below_setRow hbr (by omega) _⟩
end Go.Proofs.YtbhmgnhiglpmhaaDoor

/- The document's pad: the plain function's. -/
set_option maxRecDepth 4000
namespace Go.Proofs.YtbhmgnhiglpmhaaDoor
open Go Go.RowKit
theorem own_one (w : World) (x : BitVec 8) : (w.alloc (.cells #[.int .u8 (bd x)] 5)).ownsRow w.heap.size 5 1 (.slice (some ⟨w.heap.size, 0, none⟩) 1 1) 1 (bytesV [x]) :=
  ⟨rfl, .inr ⟨w.heap.size, 1, #[.int .u8 (bd x)], rfl, Nat.le_refl _, heap_alloc_new w _, Nat.le_refl _, by unfold maxLen; omega, rfl, rfl⟩⟩
/- a slice of the call's own, of these bytes -/
def Own (w wr : World) (v : Value) (q : List (BitVec 8)) : Prop := ∃ g cap, v = .slice (some ⟨g, 0, none⟩) q.length cap ∧ wr.ownsRow w.heap.size 5 1 v q.length (bytesV q) ∧ Below w.heap.size w wr
theorem Own.slice {w wr : World} {v : Value} {q : List (BitVec 8)} (h : Own w wr v q) (hq : 0 < q.length) : Slice wr v q := by
  obtain ⟨g, cap, rfl, h1, _⟩ := h
  obtain ⟨g', cap', e, _, h3, h4, h5⟩ := owns_form h1 hq
  injection e with e1 _ e3
  injection e1 with e1
  injection e1 with e1
  subst e1 e3
  exact ⟨_, cap, rfl, h4, fun _ => ⟨g, 0, rfl, h3, fun j x hx => by rw [Nat.zero_add]; exact h5 j x hx⟩⟩
theorem own_of {w w0 wr : World} {v : Value} {q : List (BitVec 8)} {n : Nat} {xs : List Value} (h : wr.ownsRow w.heap.size 5 1 v n xs) (hx : xs = bytesV q) (hq : 0 < q.length) (h0 : Below w.heap.size w w0) (hb : Below w.heap.size w0 wr) : Own w wr v q := by
  subst hx
  have hn : q.length = n := by have := h.1; simp [bytesV] at this; omega
  subst hn
  obtain ⟨g, cap, rfl, _⟩ := owns_form h hq
  exact ⟨g, cap, rfl, h, h0.trans hb⟩
theorem one_slice (w : World) (x : BitVec 8) : Slice (w.alloc (.cells #[.int .u8 (bd x)] 5)) (.slice (some ⟨w.heap.size, 0, none⟩) 1 1) [x] := bytes_slice (q := [x]) (c := 1) (heap_alloc_new w _) (by simp)
theorem one_slice_at (w : World) {x : BitVec 8} {i : Int} (hi : bd x = i) : Slice (w.alloc (.cells #[.int .u8 i] 5)) (.slice (some ⟨w.heap.size, 0, none⟩) 1 1) [x] := by
  subst hi; exact one_slice w x
set_option maxHeartbeats 800000 in
theorem refpad_core (n z : Nat) (X : Int) (w : World) (_hn : n < 18446744073709551616) (hz9 : 9 ≤ z) (hz72 : z ≤ 72) (hzm : (n + z) % 64 = 0) (hX : IntKind.u64.wrap ((n : Int) * 8) = X) :
    Calls Tryd.prog 39 #[.int .u64 (n : Int)] w fun e w' => ∃ v, e = .returned v ∧ Own w w' v (padTo z X 8) := by
  go_enter Tryd.func39, Tryd.ntmps39
  go_wp2_with fail
  go_loopw [3] (fun v wr => ∃ j : Nat, j + 9 ≤ z ∧ Own w wr v (0x80#8 :: zer j)) (fun v _ => 100 - sliceLen v)
  case atStart => exact ⟨0, hz9, _, 1, rfl, own_one w 0x80#8, (Below.refl _ _).alloc (Nat.le_refl _) _⟩
  case round =>
    obtain ⟨j, hj, g, cap, rfl, hown, hb⟩ := hrel
    have hl : (0x80#8 :: zer j).length = j + 1 := by simp [zer]
    rw [hl] at hown ⊢
    have hS : ∃ S : Nat, IntKind.u64.wrap ((n : Int) + ((j : Int) + 1)) = (S : Int) ∧ S % 64 = (n + (j + 1)) % 64 := ⟨(n + (j + 1)) % 18446744073709551616, by rw [u64_wrap]; omega, by omega⟩
    obtain ⟨S, hS1, hS2⟩ := hS
    have hS3 : (S : Int).tmod 64 = ((S % 64 : Nat) : Int) := by rw [Int.tmod_eq_emod_of_nonneg (by omega)]; omega
    by_cases hlt : j + 9 < z
    · have e1 : (((IntKind.u64.wrap ((n : Int) + ((j : Int) + 1))).tmod 64) != 56) = true := by rw [hS1, hS3, bne_iff_ne]; omega
      clear hS1 hS2 hS3
      go_wp2_with (first | (at_builtin; refine wpList_append_slice rfl _ _ rfl w.heap.size _ (j + 1) (bytesV (0x80#8 :: zer j)) rfl (hown.alloc _) _ 1 1 [0#8] rfl (one_slice wr 0#8) (fun h => by cases h) (by omega) (Nat.le_trans hb.size (by simp)) ?_; intro v1 w4 own1 hb4))
      have HO : Own w w4 v1 (0x80#8 :: zer (j + 1)) := own_of own1 (by simp [bytesV, zer, List.replicate_succ']) (by simp) (hb.alloc hb.size _) hb4
      refine ⟨⟨j + 1, by omega, HO⟩, ?_⟩
      obtain ⟨_, _, e, _⟩ := HO
      rw [e]
      simp only [sliceLen, List.length_cons, zer, List.length_replicate]
      omega
    · have e1 : (((IntKind.u64.wrap ((n : Int) + ((j : Int) + 1))).tmod 64) != 56) = false := by rw [hS1, hS3, bne_eq_false_iff_eq]; omega
      have hjz : j = z - 9 := by omega
      have HO : Own w wr (.slice (some ⟨g, 0, none⟩) (j + 1) cap) (0x80#8 :: (zer (z - 9) ++ (lows X 8).take 0)) := ⟨g, cap, by simp [zer]; omega, by simpa [zer, ← hjz] using hown, hb⟩
      have HO1 := Lib.hid HO
      clear hS1 hS2 hS3 HO hown hb hl hjz
      go_wp2_with fail
      clear e1 hlt hj
      generalize Value.slice (some ⟨g, 0, none⟩) (j + 1) cap = v0 at *
      go_loopw [3, 4] (fun v i wr => ∃ k : Nat, k ≤ 8 ∧ i = .int .i64 (7 - (k : Int)) ∧ Own w wr v (0x80#8 :: (zer (z - 9) ++ (lows X 8).take k))) (fun _ i _ => (intOf i + 1).toNat)
      case atStart => exact ⟨0, by omega, rfl, HO1.out⟩
      case round =>
        clear HO1
        obtain ⟨k, hk, rfl, g, cap, rfl, hown, hb⟩ := hrel
        have hl : (0x80#8 :: (zer (z - 9) ++ (lows X 8).take k)).length = z - 8 + k := by simp [zer, length_lows]; omega
        by_cases hlt : k < 8
        · have HB : Hid (bd (lenByte X (7 - k)) = X / 2 ^ (8 * (7 - k)) % 256) := Lib.hid (lenByte_val X (7 - k))
          have HT : Hid ((lows X 8).take (k + 1) = (lows X 8).take k ++ [lenByte X (7 - k)]) := Lib.hid (by rw [List.take_succ_eq_append_getElem (by rw [length_lows]; exact hlt)]; congr 2; have := lows_get X 8 k hlt; rw [List.getElem?_eq_getElem (by rw [length_lows]; exact hlt)] at this; injection this)
          rw [hl] at hown ⊢
          go_wp2_with (first | (at_builtin; refine wpList_append_slice rfl _ _ rfl w.heap.size _ (z - 8 + k) (bytesV (0x80#8 :: (zer (z - 9) ++ (lows X 8).take k))) rfl (hown.alloc _) _ 1 1 [lenByte X (7 - k)] rfl (one_slice_at wr HB.out) (fun h => by cases h) (by omega) (Nat.le_trans hb.size (by simp)) ?_; intro v1 w4 own1 hb4))
          refine ⟨⟨k + 1, by omega, by go_num, ?_⟩, by simp [intOf]; omega⟩
          exact own_of own1 (by rw [HT.out]; simp [bytesV]) (by simp) (hb.alloc hb.size _) hb4
        · obtain rfl : k = 8 := by omega
          have HO : Hid (Own w wr (.slice (some ⟨g, 0, none⟩) (z - 8 + 8) cap) (padTo z X 8)) := Lib.hid (by
            have e : padTo z X 8 = 0x80#8 :: (zer (z - 9) ++ (lows X 8).take 8) := by rw [padTo, List.take_of_length_le (by rw [length_lows]; omega)]; rfl
            rw [e]
            exact ⟨g, cap, by rw [hl], by rw [← hl]; exact hown, hb⟩)
          rw [hl]
          clear hown hb hl hlt hk
          go_wp2_with fail
          go_ret
          exact ⟨_, rfl, HO.out⟩
/- the post of the document's pad -/
def PadPost (w : World) (n : Nat) (e : Ending) (w' : World) : Prop := ∃ g cap, e = .returned (.slice (some ⟨g, 0, none⟩) (padSize n) cap) ∧ Slice w' (.slice (some ⟨g, 0, none⟩) (padSize n) cap) (pad n) ∧ Below w.heap.size w w'
theorem refshapad_any (n : Nat) (hn : n < 18446744073709551616) (w : World) : Calls Tryd.prog 39 #[.int .u64 (n : Int)] w (PadPost w n) := by
  refine (refpad_core n (padSize n) (bitLen n) w hn (padSize_lo n) (padSize_hi n) (padSize_whole n) (by rw [u64_wrap]; unfold bitLen; omega)).mono fun e w' ⟨v, he, hO⟩ => ?_
  have hs := hO.slice (by rw [length_padTo _ _ _ (padSize_lo n) (Nat.le_refl _)]; have := padSize_lo n; omega)
  obtain ⟨g, cap, rfl, _, hb⟩ := hO
  rw [length_padTo _ _ _ (padSize_lo n) (Nat.le_refl _)] at he hs
  exact ⟨g, cap, he, hs, hb⟩
end Go.Proofs.YtbhmgnhiglpmhaaDoor

/- The document's start; one operation of a region that draws its order. -/
set_option maxRecDepth 4000
namespace Go.Proofs.YtbhmgnhiglpmhaaDoor
open Go Go.RowKit
theorem ref_h0 (w : World) : Calls Tryd.prog 40 #[] w fun e w' => e = .returned (.agg (ws h0)) ∧ Below w.heap.size w w' := ref_start w
end Go.Proofs.YtbhmgnhiglpmhaaDoor

/- The document's hash of any parts: the plain function's. -/
set_option maxRecDepth 4000
namespace Go.Proofs.YtbhmgnhiglpmhaaDoor
open Go Go.RowKit
def RS (w wr : World) (v : Value) (M : List (BitVec 8)) : Prop :=
  wr.ownsRow (w.heap.size + 1) 5 1 v M.length (bytesV M) ∧ Row wr w.heap.size 24 (bs (zer 32)) ∧ Below w.heap.size w wr
theorem RS.step {w wr w4 : World} {v v1 : Value} {M q L : List (BitVec 8)} (h : RS w wr v M) (hL : L = M ++ q) (own : w4.ownsRow (w.heap.size + 1) 5 1 v1 (M.length + q.length) (bytesV M ++ bytesV q)) (hb : Below (w.heap.size + 1) wr w4) : RS w w4 v1 L := by
  subst hL
  obtain ⟨_, h2, h3⟩ := h
  exact ⟨by simpa [bytesV] using own, h2.below hb (by omega), h3.trans (hb.mono (by omega))⟩
theorem RS.start (w : World) : RS w (w.alloc (.cells (bs (zer 32)) 24)) (.slice none 0 0) [] :=
  ⟨World.ownsRow_nil _ _ _ _, Row.fresh _ _ _, (Below.refl _ _).alloc (Nat.le_refl _) _⟩
set_option maxHeartbeats 1600000 in
theorem refsum_core (ps : List (List (BitVec 8))) (M : List (BitVec 8)) (hF : ps.flatten = M) (v : Value) (w : World) (hv : Hand w v ps) (hn : ps.length ≤ 1000) (hM : M.length ≤ 100000) :
    Calls Tryd.prog 27 #[v] w fun e w' => e = .returned (.agg (bs (sha M))) ∧ Below w.heap.size w w' := by
  obtain ⟨A, c, rfl, hp⟩ := hv
  have HP := Lib.hid hp
  have HF := Lib.hid hF
  have HS0 := Lib.hid (RS.start w)
  clear hp hF
  go_enter Tryd.func27, Tryd.ntmps27
  go_wp2_with fail
  go_loopw [3, 4] (fun v i wr => ∃ k : Nat, k ≤ ps.length ∧ i = .int .i64 k ∧ RS w wr v (ps.take k).flatten) (fun _ i _ => ps.length - (intOf i).toNat)
  case atStart => exact ⟨0, by omega, rfl, HS0.out⟩
  case round =>
    clear HS0
    obtain ⟨k, hk, rfl, hR⟩ := hrel
    have hbr := hR.2.2
    by_cases hlt : k < ps.length
    · obtain ⟨b, o, rfl, hbl, hc⟩ := HP.out (by intro h; subst h; simp at hlt)
      obtain ⟨u, hu, hI⟩ := hc k ps[k] (List.getElem?_eq_getElem hlt)
      obtain ⟨Ai, ci, rfl, hS, hA, _⟩ := hI.below hbr (Nat.le_refl _)
      have hu2 := (hbr.cell (p := ⟨b, o + k, none⟩) hbl).trans hu
      have hfl := flat_le ps k hlt
      rw [HF.out, List.length_append] at hfl
      have HFS := Lib.hid (flat_succ ps k hlt)
      have hsz : w.heap.size + 1 ≤ wr.heap.size := hR.2.1.lt
      clear hc hu hI
      generalize (ps.take k).flatten = N at *
      have own := hR.1
      go_wp2_with (first | (at_builtin; refine wpList_append_slice rfl (.tmp 16) (.tmp 20) rfl (w.heap.size + 1) _ N.length (bytesV N) rfl own Ai ps[k].length ci ps[k] rfl hS hA (by omega) hsz ?_; intro v1 w4 own1 hb4))
      refine ⟨⟨k + 1, by omega, by go_num, hR.step HFS.out own1 hb4⟩, by simp [intOf]; omega⟩
    · obtain rfl : k = ps.length := by omega
      rw [List.take_length, HF.out] at hR
      obtain ⟨own, hr, _⟩ := hR
      clear HP HF hlt
      obtain ⟨A1, c1, rfl⟩ := own_form own
      go_wp2_with fail
      refine (refshapad_any M.length (by omega) wr).mono ?_
      rintro e w5 ⟨gp, cp, rfl, sp, hb5⟩
      have hpz := padSize_hi M.length
      have hpw := padSize_whole M.length
      have own5 := owns_call own hb5
      have r5 := hr.call hb5
      have hb05 : Below w.heap.size w w5 := hbr.trans (hb5.mono hbr.size)
      clear own hr hb5 hbr
      obtain ⟨L, hL⟩ : ∃ L, M ++ pad M.length = L := ⟨_, rfl⟩
      have HL := Lib.hid hL
      have HDL : Hid (sha M = dig (hashTo L)) := Lib.hid (by rw [← hL]; rfl)
      clear hL
      have hLn : L.length = M.length + padSize M.length := by rw [← HL.out, List.length_append, length_pad]
      have hL64 : L.length % 64 = 0 := by rw [hLn]; exact hpw
      have hLhi : L.length ≤ 100072 := by omega
      have HL64 := Lib.hid hL64
      have hsz5 : w.heap.size + 1 ≤ w5.heap.size := r5.lt
      clear hLn hL64 hpw
      go_wp2_with (first | (at_builtin; refine wpList_append_slice rfl (.tmp 22) (.tmp 26) rfl (w.heap.size + 1) _ M.length (bytesV M) rfl own5 (some ⟨gp, 0, none⟩) (padSize M.length) cp (pad M.length) rfl sp (fun h => by cases h) (by omega) hsz5 ?_; intro v2 w6 own6 hb6; obtain ⟨g, cap, rfl, hg, hgl, hcap2, hcell⟩ := all_form own6 HL.out; clear own6))
      have hb06 : Below w.heap.size w w6 := hb05.trans (hb6.mono (by omega))
      have r66 := r5.below hb6 (by omega)
      have HC := Lib.hid hcell
      clear own5 hb05 hb6 r5 sp hcell hpz
      refine (ref_h0 w6).mono ?_
      rintro e w7 ⟨rfl, hb7⟩
      have r67 := r66.call hb7
      have hb07 : Below w.heap.size w w7 := hb06.trans (hb7.mono hb06.size)
      have HC7 : Hid (∀ j x, L[j]? = some x → w7.cell? ⟨g, j, none⟩ = some (.int .u8 (bd x))) := Lib.hid fun j x hx => (hb7.cell (p := ⟨g, j, none⟩) hgl).trans (HC.out j x hx)
      have hgl7 : g < w7.heap.size := Nat.lt_of_lt_of_le hgl hb7.size
      clear r66 hb06 HC hgl hb7
      go_wp2_with (first | (refine wpList_store_row rfl 78 _ _ rfl w7.heap.size (ws h0) rfl rfl 78 _ (Row.fresh _ _ _) size_h (by kernel_rfl) (one_ws _) ?_; rw [World.setRow_alloc_new]))
      go_loopw [6] (fun i wr => ∃ k : Nat, 64 * k ≤ L.length ∧ i = .int .i64 (64 * (k : Int)) ∧ PR w wr w7.heap.size g w.heap.size L (zer 32) k) (fun i _ => L.length - (intOf i).toNat)
      case atStart => exact ⟨0, by omega, rfl, Row.fresh _ _ _, r67.alloc _, hb07.alloc hb07.size _, fun j x hx => (World.cell?_alloc_lt w7 _ ⟨g, j, none⟩ hgl7).trans (HC7.out j x hx), Nat.lt_of_lt_of_le hgl7 (by simp)⟩
      case round =>
        have h07 := r67.lt
        clear r67 hb07 HC7
        obtain ⟨t, ht, rfl, hR⟩ := hrel
        have HR := Lib.hid hR
        clear hR
        by_cases hlt : 64 * t < L.length
        · have h64 : 64 * t + 64 ≤ L.length := by have := HL64.out; omega
          have z1 := i64_id (64 * (t : Int) + 64) (by omega) (by omega)
          have i0 : (0 : Int) ≤ 64 * (t : Int) := by omega
          have i1 : 64 * (t : Int) + 64 ≤ (cap : Int) := by omega
          have i2 : 64 * (t : Int) ≤ (cap : Int) := by omega
          have i3 : 64 * (t : Int) ≤ 64 * (t : Int) + 64 := by omega
          have i4 : (0 : Int) ≤ 64 * (t : Int) + 64 := by omega
          have i5 : 64 * (t : Int) + 64 ≤ (L.length : Int) := by omega
          have t0 : (64 * (t : Int)).toNat = 64 * t := by omega
          have t1 : (64 * (t : Int) + 64).toNat = 64 * t + 64 := by omega
          have n0 : ¬ cap = 64 * t := by omega
          go_wp2_with fail
          change Code.wp _ _ _ _ (wr.alloc (.cells (bs (zer 64)) 80))
          have rx := Row.fresh wr 80 (bs (zer 64))
          have HX := Lib.hid (PR.call HR.out ((Below.refl wr.heap.size wr).alloc (Nat.le_refl _) (.cells (bs (zer 64)) 80)))
          have hgx : g < wr.heap.size := HR.out.2.2.2.2
          have hg6x : w.heap.size < wr.heap.size := HR.out.2.1.lt
          have hhx : w7.heap.size < wr.heap.size := HR.out.1.lt
          have hwr : w.heap.size ≤ wr.heap.size := HR.out.2.2.1.size
          clear HR
          generalize wr.alloc (.cells (bs (zer 64)) 80) = wx at *
          have HBL : Hid ((bytesV ((L.drop (64 * t)).take 64)).length = 64) := Lib.hid (by simp [bytesV]; omega)
          go_still_tail 6, (by kernel_rfl)
          change wpList _ _ _ _ _ wx.drew
          refine wpList_copy_own rfl _ _ 35 35 rfl 5 Tryd.underlying35 size_u8 wr.heap.size 0 64 64 ⟨g, 64 * t, none⟩ 64 (cap - 64 * t) rfl rfl (bs (zer 64)) 80 rx.drew (bytesV ((L.drop (64 * t)).take 64)) (by rw [HBL.out]; rfl) (src (src_at HX.out.2.2.2.1)) (by rw [size_bs, HBL.out]; simp [zer]) (one_bytesV _) ?_
          rw [copy_block L t h64]
          have HB : Hid (((L.drop (64 * t)).take 64).length = 64) := Lib.hid (by simp; omega)
          have ry := rx.drew.setRow (bs ((L.drop (64 * t)).take 64))
          have HY := Lib.hid (PR.setRow HX.out (gy := wr.heap.size) (by omega) (by omega) (by omega) hwr (bs ((L.drop (64 * t)).take 64)))
          clear rx HX z1 i0 i1 i2 i3 i4 i5 t0 t1 n0 HBL
          generalize wx.drew.setRow wr.heap.size (bs ((L.drop (64 * t)).take 64)) = wy at *
          have hz2 : 64 * (t : Int) + 64 ≤ 200000 := by omega
          go_wp2_with (first | (refine wpList_load_row rfl 78 _ rfl w7.heap.size rfl 78 (ws (turns L t)) (0, 0) _ HY.out.1 Tryd.underlying78 rfl (by rw [size_ws, length_turns]; exact size_h) ?_) | (refine wpList_load_row rfl 80 _ rfl wr.heap.size rfl 80 (bs ((L.drop (64 * t)).take 64)) (0, 0) _ ry Tryd.underlying80 rfl (by rw [size_bs, HB.out]; exact size_b) ?_))
          refine (ref_turn (turns L t) ((L.drop (64 * t)).take 64) (length_turns L t) HB.out wy).mono ?_
          rintro e w8 ⟨rfl, hb8⟩
          have HZ := Lib.hid (PR.call HY.out hb8)
          have HTN : Hid (turn (turns L t) ((L.drop (64 * t)).take 64) = turns L (t + 1)) := Lib.hid rfl
          rw [HTN.out]
          go_wp2_with (first | (refine wpList_store_row rfl 78 _ _ rfl w7.heap.size (ws (turns L (t + 1))) rfl rfl 78 _ HZ.out.1 (by rw [size_ws, length_turns]; exact size_h) (by rw [size_ws, size_ws, length_turns, length_turns]) (one_ws _) ?_))
          go_roundw
          case rel =>
            exact ⟨t + 1, by omega, by go_num, PR.turned HZ.out (by omega) (by omega) (by omega)⟩
          case measure => simp [intOf]; omega
        · obtain ⟨hr, hr6, hbr, _, _⟩ := HR.out
          have htl : 64 * t = L.length := by omega
          have HTL : Hid (turns L t = hashTo L) := Lib.hid (by rw [hashTo, ← htl, Nat.mul_div_cancel_left t (by omega)])
          have HH : Hid ((hashTo L).length = 8) := Lib.hid (length_hashTo L)
          have hle : ¬ 64 * (t : Int) + 64 ≤ (L.length : Int) := by omega
          rw [HTL.out] at hr
          clear HR htl HTL
          generalize hashTo L = H at *
          go_wp2_with fail
          have rd := Row.fresh wr 24 (bs (zer 32))
          go_loopw [9] (fun x wz => ∃ i : Nat, i ≤ 32 ∧ x = .int .i64 (i : Int) ∧ Row wz wr.heap.size 24 (bs (dpart H i)) ∧ Row wz w7.heap.size 78 (ws H) ∧ Row wz w.heap.size 24 (bs (zer 32)) ∧ Below w.heap.size w wz) (fun x _ => 32 - (intOf x).toNat)
          case atStart => exact ⟨0, by omega, rfl, by rw [dpart_zero]; exact rd, hr.alloc _, hr6.alloc _, hbr.alloc hbr.size _⟩
          case round =>
            have hwr := hbr.size
            have hhx := hr.lt
            have hg6x := hr6.lt
            clear rd hr hr6 hbr
            obtain ⟨i, hi, rfl, rd, hr, hr6, hbz⟩ := hrel
            by_cases hlti : i < 32
            · have ha8 : i / 4 < 8 := by omega
              have ch := hr.get (get_ws H (i / 4) (by rw [HH.out]; exact ha8))
              have cd := rd.get (get_bs (dpart H i) i (by rw [length_dpart H _ HH.out hi]; omega))
              have fd := rd.free i
              go_wp2_with fail
              exact ⟨⟨i + 1, by omega, by go_num, d_step HH.out hlti rd hr hr6 hbz (by omega) (by omega) (by omega)⟩, by simp [intOf]; omega⟩
            · obtain rfl : i = 32 := by omega
              rw [dpart_all H HH.out, ← HDL.out] at rd
              have HD : Hid ((sha M).length = 32) := Lib.hid (by rw [HDL.out, length_dig, HH.out])
              have HS : Hid ((Tryd.prog.info? 24).map (·.size) = some (bs (sha M)).size) := Lib.hid (by rw [size_bs, HD.out]; exact size_d)
              clear hlti hi hr
              go_wp2_with (first | (refine wpList_load_row rfl 24 (.tmp 8) rfl _ rfl 24 (bs (sha M)) (0, 0) _ rd Tryd.underlying24 rfl HS.out ?_) | (refine wpList_store_row rfl 24 _ _ rfl w.heap.size (bs (sha M)) rfl rfl 24 _ hr6 HS.out (by rw [size_bs, size_bs, HD.out]; rfl) (one_bs _) ?_))
              exact bodyPost_ret (v := .agg (bs (sha M))) (results_cell_row Tryd.results27 _ _ w.heap.size 24 (bs (sha M)) (0, 0) _ rfl (hr6.setRow _) Tryd.underlying24 rfl HS.out) rfl ⟨rfl, below_setRow hbz (Nat.le_refl _) _⟩
theorem refsum_any (ps : List (List (BitVec 8))) (v : Value) (w : World) (hv : Hand w v ps) (hn : ps.length ≤ 1000) (hM : ps.flatten.length ≤ 100000) :
    Calls Tryd.prog 27 #[v] w fun e w' => e = .returned (.agg (bs (sha ps.flatten))) ∧ Below w.heap.size w w' := refsum_core ps _ rfl v w hv hn hM
end Go.Proofs.YtbhmgnhiglpmhaaDoor

/- Lists of slices: as a list of values, of the call's own, handed on. -/
set_option maxRecDepth 4000
namespace Go.Proofs.YtbhmgnhiglpmhaaDoor
open Go Go.RowKit
theorem sum_one (q : List (BitVec 8)) (v : Value) (w : World) (hT : Tab w) (hv : Parts w v [q]) (h : q.length < 2147483648) :
    Calls Tryd.prog 25 #[v] w fun e w' => e = .returned (.agg (bs (sha q))) ∧ Below w.heap.size w w' := by
  have h := sum_any [q] v w hT hv (by simp) (by simpa using h)
  rwa [show ([q] : List (List (BitVec 8))).flatten = q by simp] at h
end Go.Proofs.YtbhmgnhiglpmhaaDoor
