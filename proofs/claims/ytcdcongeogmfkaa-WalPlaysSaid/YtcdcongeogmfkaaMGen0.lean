/- Merged: Words Mem Sl OpenB Inv Does Ph Phs Obj CopyR St StMore PhA Fill ByteI Half Lit MarkB Blk ZerosB EqI BlkE GoodB Puts RefGd At2 PutsEq KeepPuts Read PutsOpen ReadW TwoI. -/
import Derived.WalkKit
import Derived.Laws.BitsAllLaws
import Derived.Laws.BitsLemmas
import Derived.Laws.Rows
import Derived.Laws.OwnMore
import Derived.Below
import Derived.Deep.Draws
import Derived.Laws.CopyOwn
import Derived.Laws.AppendOwn
import Derived.Deep.MidRow
import Derived.Deep.WholeRow
import Derived.Test.YtcdcongeogmfkaaProg
import Derived.Still
import Derived.Laws.AppendOwnNone
import Derived.Laws.MakeOwn
import Derived.OwnWalk
import Derived.Maps.AppendAt
import Derived.Maps.RangeWalk
import Derived.Lib.SlBytesConst
import Derived.Lib.Hide
import Derived.ProofKit
import Derived.OpenShut
import Derived.Carry
import Derived.Deep.DeepHandedRow
import Derived.Deep.Slices
import Derived.OrdersHeld
import Derived.Great.BuildSlice
import Derived.Laws.IdiomStrings
import Derived.Laws.StructEq
import Derived.KernelRfl
import Derived.Deep.Cut
/- Plain facts on machine words as bit vectors, in the walk's own spelling: what the operations of Go on uint8, uint32 and uint64 come to. No condition. -/
set_option maxRecDepth 4000
namespace Go.Proofs.Ytcdcongeogmfkaa
open Go Go.RowKit

/- a word's number, kept shut: the walk does not look into it -/
def wd (x : BitVec 32) : Int := (x.toNat : Int)
def bd (x : BitVec 8) : Int := (x.toNat : Int)

theorem wd_lo (x : BitVec 32) : 0 ≤ wd x := by unfold wd; omega
theorem wd_hi (x : BitVec 32) : wd x < 4294967296 := by unfold wd; have := x.isLt; omega
theorem bd_lo (x : BitVec 8) : 0 ≤ bd x := by unfold bd; omega
theorem bd_inj {x y : BitVec 8} (h : bd x = bd y) : x = y := by unfold bd at h; exact BitVec.eq_of_toNat_eq (by omega)
theorem wd_of (n : Int) (h0 : 0 ≤ n) (h1 : n < 4294967296) : n = wd (BitVec.ofInt 32 n) := by
  unfold wd; obtain ⟨m, rfl⟩ := Int.eq_ofNat_of_zero_le h0
  rw [ofInt_u32 m (by omega)]
theorem bd_of (n : Int) (h0 : 0 ≤ n) (h1 : n < 256) : n = bd (BitVec.ofInt 8 n) := by
  unfold bd; obtain ⟨m, rfl⟩ := Int.eq_ofNat_of_zero_le h0
  rw [ofInt_u8 m (by omega)]

theorem ofInt_wd (x : BitVec 32) : BitVec.ofInt 32 (wd x) = x := by
  apply BitVec.eq_of_toNat_eq; unfold wd; rw [ofInt_u32 _ x.isLt]
theorem wrap_wd (x : BitVec 32) : IntKind.u32.wrap (wd x) = wd x := by
  rw [IntKind.wrap_u32']; have := wd_lo x; have := wd_hi x; omega
theorem or_wd (x y : BitVec 32) : bits .or .u32 (wd x) (wd y) = wd (x ||| y) := by
  show IntKind.u32.wrap ((BitVec.ofInt 32 (wd x) ||| BitVec.ofInt 32 (wd y)).toNat : Int) = _
  rw [ofInt_wd, ofInt_wd]; exact wrap_wd _
theorem add_wd (x y : BitVec 32) : IntKind.u32.wrap (wd x + wd y) = wd (x + y) := by
  rw [IntKind.wrap_u32']; unfold wd; rw [BitVec.toNat_add]; omega
theorem shr_wd (x : BitVec 32) (n : Nat) : wd x / 2 ^ n = wd (x >>> n) := by
  unfold wd; rw [BitVec.toNat_ushiftRight, Nat.shiftRight_eq_div_pow]; norm_cast
theorem shl_wd (x : BitVec 32) (n : Nat) : IntKind.u32.wrap (wd x * 2 ^ n) = wd (x <<< n) := by
  rw [IntKind.wrap_u32']; unfold wd; rw [BitVec.toNat_shiftLeft, Nat.shiftLeft_eq]
  have e : (2 : Int) ^ n = ((2 ^ n : Nat) : Int) := by norm_cast
  rw [e, ← Int.natCast_mul]
  generalize x.toNat * 2 ^ n = m
  show (m : Int) % 4294967296 = ((m % 4294967296 : Nat) : Int)
  omega
theorem conv_bd (x : BitVec 8) : IntKind.u32.wrap (bd x) = wd (x.setWidth 32) := by
  rw [IntKind.wrap_u32']; unfold bd wd; have := x.isLt; rw [BitVec.toNat_setWidth]; omega
theorem shl16_wd (x : BitVec 32) : IntKind.u32.wrap (wd x * (65536 : Int)) = wd (x <<< 16) := shl_wd x 16
theorem shl8_wd (x : BitVec 32) : IntKind.u32.wrap (wd x * (256 : Int)) = wd (x <<< 8) := shl_wd x 8
theorem low_wd (x : BitVec 32) : IntKind.u8.wrap (wd x) = bd (x.setWidth 8) := by
  rw [IntKind.wrap_u8']; unfold bd wd; rw [BitVec.toNat_setWidth]; omega
theorem low24_wd (x : BitVec 32) : IntKind.u8.wrap (wd x / (16777216 : Int)) = bd ((x >>> 24).setWidth 8) := by rw [show wd x / (16777216 : Int) = wd (x >>> 24) from shr_wd x 24, low_wd]
theorem low16_wd (x : BitVec 32) : IntKind.u8.wrap (wd x / (65536 : Int)) = bd ((x >>> 16).setWidth 8) := by rw [show wd x / (65536 : Int) = wd (x >>> 16) from shr_wd x 16, low_wd]
theorem low8_wd (x : BitVec 32) : IntKind.u8.wrap (wd x / (256 : Int)) = bd ((x >>> 8).setWidth 8) := by rw [show wd x / (256 : Int) = wd (x >>> 8) from shr_wd x 8, low_wd]
theorem wrap_u8_bd (z : Int) : IntKind.u8.wrap z = bd (BitVec.ofInt 8 z) := by
  rw [IntKind.wrap_u8']; unfold bd; rw [BitVec.toNat_ofInt]; omega
def zer (n : Nat) : List (BitVec 8) := List.replicate n 0
theorem length_zer (n : Nat) : (zer n).length = n := by simp [zer]
end Go.Proofs.Ytcdcongeogmfkaa

/- A block of memory that is known whole, and how it lasts through draws, new blocks, stores elsewhere and calls. No condition beyond the theorems' own. -/
set_option maxRecDepth 4000
namespace Go.Proofs.Ytcdcongeogmfkaa
open Go Go.RowKit

def Row (w : World) (g : Nat) (t : TypeId) (cs : Array Value) : Prop := w.heap[g]? = some (.cells cs t (0, 0))

section
variable {w w' : World} {g : Nat} {t : TypeId} {cs : Array Value}
theorem Row.lt (h : Row w g t cs) : g < w.heap.size := by
  by_cases hl : g < w.heap.size
  · exact hl
  · unfold Row at h; rw [Array.getElem?_eq_none (by omega)] at h; cases h
theorem Row.cell (h : Row w g t cs) (i : Nat) : w.cell? ⟨g, i, none⟩ = cs[i]? := cell_of_row w g i cs t (0, 0) h
theorem Row.free (h : Row w g t cs) (i : Nat) : w.frozen? ⟨g, i, none⟩ = false := frozen_of_row w g i cs t h
theorem Row.fresh (w : World) (t : TypeId) (cs : Array Value) : Row (w.alloc (.cells cs t)) w.heap.size t cs := heap_alloc_new w _
theorem Row.drew (h : Row w g t cs) : Row w.drew g t cs := h
theorem Row.alloc (h : Row w g t cs) (o : Obj) : Row (w.alloc o) g t cs := (Below.heap_alloc w o g h.lt).trans h
theorem Row.put (h : Row w g t cs) (i : Nat) (v : Value) : Row (w.setCell ⟨g, i, none⟩ v) g t (cs.setIfInBounds i v) := heap_setCell_same w g i cs t v h
theorem Row.far (h : Row w g t cs) {p : Addr} (hp : g ≠ p.block) (v : Value) : Row (w.setCell p v) g t cs := (heap_setCell_other w p g v hp).trans h
theorem Row.setRow (h : Row w g t cs) (ds : Array Value) : Row (w.setRow g ds) g t ds := setRow_heap w g cs ds t (0, 0) h
theorem Row.setRow_far (h : Row w g t cs) {k : Nat} (hk : g ≠ k) (ds : Array Value) : Row (w.setRow k ds) g t cs := (setRow_other w k g ds hk).trans h
theorem Row.below {B : Nat} (h : Row w g t cs) (hb : Below B w w') (hg : g < B) : Row w' g t cs := (hb.block g hg).trans h
theorem Row.call (h : Row w g t cs) (hb : Below w.heap.size w w') : Row w' g t cs := h.below hb h.lt
theorem Row.get (h : Row w g t cs) {i : Nat} {v : Value} (hi : cs[i]? = some v) : w.cell? ⟨g, i, none⟩ = some v := (h.cell i).trans hi
end

theorem row2b (w : World) (t : TypeId) (cs : Array Value) (o1 : Obj) : Row ((w.alloc o1).alloc (.cells cs t)) (w.heap.size + 1) t cs := by
  have e : w.heap.size + 1 = (w.alloc o1).heap.size := by simp
  rw [e]; exact Row.fresh _ _ _
theorem setRow_alloc2 (w : World) (o1 : Obj) (c c' : Array Value) (t : TypeId) : ((w.alloc o1).alloc (.cells c t)).setRow (w.heap.size + 1) c' = (w.alloc o1).alloc (.cells c' t) := by
  have e : w.heap.size + 1 = (w.alloc o1).heap.size := by simp
  rw [e]; exact World.setRow_alloc_new _ _ _ _

/- arrays of words, as values -/
def ws (l : List (BitVec 32)) : Array Value := (l.map fun x => Value.int .u32 (wd x)).toArray
def bs (l : List (BitVec 8)) : Array Value := (l.map fun x => Value.int .u8 (bd x)).toArray
theorem size_bs (l : List (BitVec 8)) : (bs l).size = l.length := by simp [bs]
theorem get_bs (l : List (BitVec 8)) (i : Nat) (h : i < l.length) : (bs l)[i]? = some (.int .u8 (bd (l.getD i 0))) := by simp [bs, h]
theorem set_bs (l : List (BitVec 8)) (i : Nat) (x : BitVec 8) : (bs l).setIfInBounds i (.int .u8 (bd x)) = bs (l.set i x) := by
  simp [bs, List.map_set]
theorem one_bs (l : List (BitVec 8)) : (bs l).all (·.oneCell') = true := by simp [bs, Value.oneCell']
theorem len_bs (b : List (BitVec 8)) : (bs b).toList.length = b.length := by simp [bs]
theorem only_below {a w : World} {g B : Nat} (h : a.grownBy w (some g)) (hB : B ≤ g) (hs : B ≤ a.heap.size) : Below B a w :=
  ⟨h.os, h.tape, h.output, h.size, fun k hk => h.block k (by omega) (fun e => by injection e with e; omega)⟩
theorem Row.only {w w' : World} {g k : Nat} {t : TypeId} {cs : Array Value} (h : Row w k t cs) (hw : w.grownBy w' (some g)) (hne : k ≠ g) : Row w' k t cs :=
  (hw.block k h.lt (fun e => hne (by injection e))).trans h

end Go.Proofs.Ytcdcongeogmfkaa

/- Slices of bytes and lists of them: what they read as, how they are appended, taken apart and handed on. No function of the program is named here. -/
set_option maxRecDepth 4000
namespace Go.Proofs.Ytcdcongeogmfkaa
open Go Go.RowKit
theorem i64_id (n : Int) (h0 : 0 ≤ n) (h1 : n < 9223372036854775808) : IntKind.i64.wrap n = n := by
  rw [IntKind.wrap_i64]; omega
def bytesV (q : List (BitVec 8)) : List Value := q.map fun x => Value.int .u8 (bd x)
theorem size_u8 : (Try.prog.info? 5).map (·.size) = some 1 := by kernel_rfl
theorem one_bytesV (q : List (BitVec 8)) : ∀ v ∈ bytesV q, v.oneCell' = true := by
  intro v hv; simp only [bytesV, List.mem_map] at hv; obtain ⟨x, _, rfl⟩ := hv; rfl
theorem info_u8 : (Try.prog.info? 5).map (fun i => (i.zero, i.size, i.bytes)) = some (some (.int .u8 0), 1, 1) := by kernel_rfl
/- a slice value that reads as the bytes q -/
def Slice (w : World) (v : Value) (q : List (BitVec 8)) : Prop :=
  ∃ A c, v = .slice A q.length c ∧ q.length ≤ c ∧ (q ≠ [] → ∃ b o, A = some ⟨b, o, none⟩ ∧ b < w.heap.size ∧ ∀ j x, q[j]? = some x → w.cell? ⟨b, o + j, none⟩ = some (.int .u8 (bd x)))
/- a slice value that reads as these slices of bytes -/
def Parts (w : World) (v : Value) (ps : List (List (BitVec 8))) : Prop :=
  ∃ A c, v = .slice A ps.length c ∧ (ps ≠ [] → ∃ b o, A = some ⟨b, o, none⟩ ∧ b < w.heap.size ∧ ∀ k q, ps[k]? = some q → ∃ u, w.cell? ⟨b, o + k, none⟩ = some u ∧ Slice w u q)
theorem Slice.below {w w' : World} {B : Nat} {v : Value} {q : List (BitVec 8)} (h : Slice w v q) (hb : Below B w w') (hB : w.heap.size ≤ B) : Slice w' v q := by
  obtain ⟨A, c, h1, h2, h3⟩ := h
  refine ⟨A, c, h1, h2, fun hne => ?_⟩
  obtain ⟨b, o, h4, h5, h6⟩ := h3 hne
  exact ⟨b, o, h4, Nat.lt_of_lt_of_le h5 hb.size, fun j x hx => (hb.cell (p := ⟨b, o + j, none⟩) (Nat.lt_of_lt_of_le h5 hB)).trans (h6 j x hx)⟩
theorem flat_succ (ps : List (List (BitVec 8))) (k : Nat) (hk : k < ps.length) : (ps.take (k + 1)).flatten = (ps.take k).flatten ++ ps[k] := by
  rw [List.take_succ_eq_append_getElem hk, List.flatten_append]; simp
theorem bytes_slice {w : World} {g c : Nat} {q : List (BitVec 8)} {t : TypeId} {fr : Nat × Nat} (hg : w.heap[g]? = some (.cells (bs q) t fr)) (hc : q.length ≤ c) : Slice w (.slice (some ⟨g, 0, none⟩) q.length c) q := by
  refine ⟨_, c, rfl, hc, fun _ => ⟨g, 0, rfl, ?_, fun j x hx => ?_⟩⟩
  · by_cases hl : g < w.heap.size
    · exact hl
    · rw [Array.getElem?_eq_none (by omega)] at hg; cases hg
  · have hj := (List.getElem?_eq_some_iff.1 hx).1
    rw [Nat.zero_add, cell_of_row w g j _ _ _ hg, get_bs q j hj, List.getD_eq_getElem?_getD, hx]; rfl
theorem row_slice {w : World} {g c : Nat} {q : List (BitVec 8)} {t : TypeId} (hg : Row w g t (bs q)) (hc : q.length ≤ c) : Slice w (.slice (some ⟨g, 0, none⟩) q.length c) q := bytes_slice hg hc
theorem owns_refl (w : World) (row : Option Nat) : w.grownBy w row := ⟨rfl, rfl, rfl, Nat.le_refl _, fun _ _ _ => rfl⟩
theorem grown_of_below {w w' : World} (hb : Below w.heap.size w w') (row : Option Nat) : w.grownBy w' row := ⟨hb.os, hb.tape, hb.output, hb.size, fun k hk _ => hb.block k hk⟩
theorem below_of_grown {w w' : World} {base : Nat} {row : Option Nat} (h : w.grownBy w' row) (hr : ∀ g, row = some g → base ≤ g) (hs : base ≤ w.heap.size) : Below base w w' :=
  ⟨h.os, h.tape, h.output, h.size, fun k hk => h.block k (by omega) (fun e => by have := hr k e.symm; omega)⟩
theorem wpList_append_slice {w : World} {ops : Array Oper} {rest : List Oper} {o : Oper} {a : Act} {Q : Exit → Act → World → Prop} (hgd : o.guard = none) (s x : Operand)
    (ho : o.op = .call { callee := .builtin .append, args := #[s, x], argTypes := #[37, 37] }) (base : Nat)
    (v : Value) (n : Nat) (xs : List Value) (hs : a.eval s = v) (hown : w.ownsRow base 5 1 v n xs)
    (A : Option Addr) (m c : Nat) (q : List (BitVec 8)) (hx : a.eval x = .slice A m c) (hq : Slice w (.slice A m c) q) (hA : A = none → c = 0)
    (hnm : n + m ≤ 1000000000) (hbase : base ≤ w.heap.size)
    (h : ∀ v' w', w'.ownsRow base 5 1 v' (n + m) (xs ++ bytesV q) → Below base w w' → wpList Try.prog ops Q rest (a.put o.dst v') w') : wpList Try.prog ops Q (o :: rest) a w := by
  obtain ⟨i0, hi, hz0, hz1, hz2⟩ := info_parts info_u8
  have hblk : ∀ g, v.ownBlock = some g → base ≤ g := fun g hg => (hown.lt g hg).1
  obtain ⟨A', c', e1, _, h3⟩ := hq
  injection e1 with e1 e2 e3
  subst e1 e2 e3
  cases A with
  | none =>
    have hq0 : q = [] := by
      apply Decidable.byContradiction
      intro hne
      obtain ⟨_, _, h4, _⟩ := h3 hne
      cases h4
    subst hq0
    obtain rfl := hA rfl
    refine wpList_append_own_none hgd s x 37 ho base 5 i0 1 Try.underlying37 hi v n xs hs hown hx ?_
    exact h v w (by simpa [bytesV] using hown) (Below.refl _ _)
  | some ad =>
    refine wpList_append_own w hgd s x 37 ho base 5 i0 (.int .u8 0) 1 1 Try.underlying37 hi hz0 hz1 hz2 rfl (by omega) v n xs hs hown ad q.length c (bytesV q) hx (by simp [bytesV]) ?_ (one_bytesV q) (by unfold maxLen; omega) (by omega) hbase ?_
    · intro j u hu
      have hne : q ≠ [] := by rintro rfl; simp [bytesV] at hu
      obtain ⟨b, o, h4, _, h6⟩ := h3 hne
      have h4 := Option.some.inj h4
      subst h4
      rw [Addr.add_mid]
      simp only [bytesV, List.getElem?_map, Option.map_eq_some_iff] at hu
      obtain ⟨y, hy, rfl⟩ := hu
      exact h6 j y hy
    · intro v' w' h1 h2 _
      exact h v' w' h1 (below_of_grown h2 hblk hbase)
theorem own_empty (w : World) : (w.alloc (.cells #[] 5)).ownsRow w.heap.size 5 1 (.slice (some ⟨w.heap.size, 0, none⟩) 0 0) 0 [] :=
  ⟨rfl, .inr ⟨w.heap.size, 0, #[], rfl, Nat.le_refl _, heap_alloc_new w _, Nat.le_refl _, by unfold maxLen; omega, rfl, rfl⟩⟩
theorem owns_call {w w' : World} {base e size n : Nat} {v : Value} {xs : List Value} (h : w.ownsRow base e size v n xs) (hb : Below w.heap.size w w') : w'.ownsRow base e size v n xs := by
  refine h.kept (row := none) (grown_of_below hb none) ?_
  cases hv : v.ownBlock with
  | none => exact .inl rfl
  | some g => exact .inr (by simp)
/- a slice of the call's own that is not empty: where it lies and what it holds -/
theorem owns_form {w : World} {base n : Nat} {e : TypeId} {v : Value} {q : List (BitVec 8)} (h : w.ownsRow base e 1 v n (bytesV q)) (hq : 0 < q.length) :
    ∃ g cap, v = .slice (some ⟨g, 0, none⟩) q.length cap ∧ base ≤ g ∧ g < w.heap.size ∧ q.length ≤ cap ∧ ∀ j x, q[j]? = some x → w.cell? ⟨g, j, none⟩ = some (.int .u8 (bd x)) := by
  have hn : q.length = n := by have := h.1; simp [bytesV] at this; omega
  subst hn
  rcases h.2 with ⟨_, h0⟩ | ⟨g, cap, cur, rfl, hg, hh, hc, _⟩
  · omega
  · refine ⟨g, cap, rfl, hg, (h.lt g rfl).2, hc, fun j x hx => ?_⟩
    have hj := (List.getElem?_eq_some_iff.1 hx).1
    have := h.cellAt j (by omega)
    rw [this]
    simp [bytesV, hx]
theorem parts1 {w : World} {v : Value} {q : List (BitVec 8)} (h : Slice w v q) : Parts (w.alloc (.cells #[v] 37)) (.slice (some ⟨w.heap.size, 0, none⟩) 1 1) [q] := by
  have r := Row.fresh w 37 #[v]
  refine ⟨_, 1, rfl, fun _ => ⟨w.heap.size, 0, rfl, r.lt, fun k p hp => ?_⟩⟩
  match k, hp with
  | 0, hp => obtain rfl : q = p := by simpa using hp
             exact ⟨v, r.get rfl, h.below ((Below.refl _ _).alloc (Nat.le_refl _) _) (Nat.le_refl _)⟩
theorem slice_nil (w : World) : Slice w (.slice none 0 0) [] := ⟨none, 0, rfl, by simp, fun h => absurd rfl h⟩
theorem Slice.take {w : World} {A : Option Addr} {c k : Nat} {q : List (BitVec 8)} (h : Slice w (.slice A q.length c) q) (hk : k ≤ q.length) : Slice w (.slice A k c) (q.take k) := by
  obtain ⟨A', c', h1, h2, h3⟩ := h
  injection h1 with h1 _ h1c
  subst h1 h1c
  refine ⟨A, c, by rw [List.length_take, Nat.min_eq_left hk], by rw [List.length_take]; omega, fun hne => ?_⟩
  obtain ⟨b, o, h4, h5, h6⟩ := h3 (by intro e; subst e; simp at hne)
  refine ⟨b, o, h4, h5, fun j x hx => h6 j x ?_⟩
  rw [List.getElem?_take] at hx
  split at hx
  · exact hx
  · cases hx
theorem Slice.drop {w : World} {A : Option Addr} {c k : Nat} {q : List (BitVec 8)} (h : Slice w (.slice A q.length c) q) (hk : k ≤ q.length) : Slice w (.slice (if c = k then A else A.map (·.add k)) (q.length - k) (c - k)) (q.drop k) := by
  obtain ⟨A', c', h1, h2, h3⟩ := h
  injection h1 with h1 _ h1c
  subst h1 h1c
  refine ⟨_, c - k, by rw [List.length_drop], by rw [List.length_drop]; omega, fun hne => ?_⟩
  have hl : 0 < (q.drop k).length := List.length_pos_iff.2 hne
  rw [List.length_drop] at hl
  obtain ⟨b, o, h4, h5, h6⟩ := h3 (by intro e; subst e; simp at hne)
  subst h4
  refine ⟨b, o + k, ?_, h5, fun j x hx => ?_⟩
  · rw [if_neg (by omega)]; simp [Addr.add_mid]
  · rw [List.getElem?_drop] at hx
    rw [Nat.add_assoc]; exact h6 _ x hx
theorem Parts.below {w w' : World} {B : Nat} {v : Value} {ps : List (List (BitVec 8))} (h : Parts w v ps) (hb : Below B w w') (hB : w.heap.size ≤ B) : Parts w' v ps := by
  obtain ⟨A, c, h1, h3⟩ := h
  refine ⟨A, c, h1, fun hne => ?_⟩
  obtain ⟨b, o, h4, h5, h6⟩ := h3 hne
  refine ⟨b, o, h4, Nat.lt_of_lt_of_le h5 hb.size, fun k q hq => ?_⟩
  obtain ⟨u, h7, h8⟩ := h6 k q hq
  exact ⟨u, (hb.cell (p := ⟨b, o + k, none⟩) (Nat.lt_of_lt_of_le h5 hB)).trans h7, h8.below hb hB⟩
/- a slice of bytes that may be appended: nil has no room -/
def Item (w : World) (u : Value) (q : List (BitVec 8)) : Prop := ∃ A c, u = .slice A q.length c ∧ Slice w (.slice A q.length c) q ∧ (A = none → c = 0) ∧ q.length ≤ maxLen
def Hand (w : World) (v : Value) (ps : List (List (BitVec 8))) : Prop :=
  ∃ A c, v = .slice A ps.length c ∧ (ps ≠ [] → ∃ b o, A = some ⟨b, o, none⟩ ∧ b < w.heap.size ∧ ∀ k q, ps[k]? = some q → ∃ u, w.cell? ⟨b, o + k, none⟩ = some u ∧ Item w u q)
theorem Item.below {w w' : World} {B : Nat} {u : Value} {q : List (BitVec 8)} (h : Item w u q) (hb : Below B w w') (hB : w.heap.size ≤ B) : Item w' u q := by
  obtain ⟨A, c, h1, h2, h3⟩ := h
  exact ⟨A, c, h1, h2.below hb hB, h3⟩
theorem Item.slice {w : World} {u : Value} {q : List (BitVec 8)} (h : Item w u q) : Slice w u q := by
  obtain ⟨A, c, rfl, h2, h3⟩ := h
  exact h2
theorem Hand.below {w w' : World} {B : Nat} {v : Value} {ps : List (List (BitVec 8))} (h : Hand w v ps) (hb : Below B w w') (hB : w.heap.size ≤ B) : Hand w' v ps := by
  obtain ⟨A, c, h1, h3⟩ := h
  refine ⟨A, c, h1, fun hne => ?_⟩
  obtain ⟨b, o, h4, h5, h6⟩ := h3 hne
  refine ⟨b, o, h4, Nat.lt_of_lt_of_le h5 hb.size, fun k q hq => ?_⟩
  obtain ⟨u, h7, h8⟩ := h6 k q hq
  exact ⟨u, (hb.cell (p := ⟨b, o + k, none⟩) (Nat.lt_of_lt_of_le h5 hB)).trans h7, h8.below hb hB⟩
theorem own_mono {w : World} {base base' e size n : Nat} {v : Value} {xs : List Value} (h : w.ownsRow base e size v n xs) (hb : base' ≤ base) : w.ownsRow base' e size v n xs := by
  refine ⟨h.1, ?_⟩
  rcases h.2 with hn | ⟨g, cap, cur, h1, h2, h3⟩
  · exact .inl hn
  · exact .inr ⟨g, cap, cur, h1, Nat.le_trans hb h2, h3⟩
theorem own_ne {w : World} {b b' n m : Nat} {v u : Value} {xs ys : List Value} (h : w.ownsRow b 37 1 v n xs) (h' : w.ownsRow b' 5 1 u m ys) : u.ownBlock = none ∨ u.ownBlock ≠ v.ownBlock := by
  rcases h'.2 with ⟨rfl, _⟩ | ⟨g', cap', cur', rfl, _, h3', _⟩
  · exact .inl rfl
  · refine .inr fun e => ?_
    rcases h.2 with ⟨rfl, _⟩ | ⟨g, cap, cur, rfl, _, h3, _⟩
    · cases e
    · injection e with e
      change g' = g at e
      subst e
      rw [h3] at h3'
      injection h3' with h3'
      injection h3' with _ h3'
      cases h3'
theorem own_slice {w : World} {base : Nat} {v : Value} {q : List (BitVec 8)} (h : w.ownsRow base 5 1 v q.length (bytesV q)) : Slice w v q := by
  by_cases hq : q = []
  · subst hq
    rcases h.2 with ⟨rfl, _⟩ | ⟨g, cap, cur, rfl, _⟩
    · exact ⟨none, 0, rfl, by simp, fun h => absurd rfl h⟩
    · exact ⟨_, cap, rfl, by simp, fun h => absurd rfl h⟩
  · obtain ⟨g, cap, rfl, _, h3, h4, h5⟩ := owns_form h (List.length_pos_iff.2 hq)
    exact ⟨_, cap, rfl, h4, fun _ => ⟨g, 0, rfl, h3, fun j x hx => by rw [Nat.zero_add]; exact h5 j x hx⟩⟩
/- slices of the call's own, in a slice of the call's own -/
def Owns (w wr : World) (v : Value) (ps : List (List (BitVec 8))) : Prop :=
  ∃ vs : List Value, wr.ownsRow w.heap.size 37 1 v ps.length vs ∧ Below w.heap.size w wr ∧ ∀ (j : Nat) (q : List (BitVec 8)), ps[j]? = some q → ∃ u, vs[j]? = some u ∧ wr.ownsRow w.heap.size 5 1 u q.length (bytesV q)
theorem Owns.parts {w wr : World} {v : Value} {ps : List (List (BitVec 8))} (h : Owns w wr v ps) : Parts wr v ps := by
  obtain ⟨vs, h1, _, h3⟩ := h
  rcases h1.2 with ⟨rfl, h0⟩ | ⟨g, cap, cur, rfl, hg, hh, hc, _⟩
  · obtain rfl : ps = [] := List.length_eq_zero_iff.1 h0
    exact ⟨none, 0, rfl, fun h => absurd rfl h⟩
  · refine ⟨_, cap, rfl, fun _ => ⟨g, 0, rfl, (h1.lt g rfl).2, fun k q hq => ?_⟩⟩
    obtain ⟨u, hu, ho⟩ := h3 k q hq
    have hk := (List.getElem?_eq_some_iff.1 hq).1
    exact ⟨u, by rw [Nat.zero_add, h1.cellAt k (by omega), hu], own_slice ho⟩
theorem Owns.step {w wr w4 w6 : World} {v v1 v2 : Value} {ps : List (List (BitVec 8))} {k : Nat} {vs : List Value} (hk : k < ps.length)
    (h1 : wr.ownsRow w.heap.size 37 1 v k vs) (hb : Below w.heap.size w wr) (h3 : ∀ (j : Nat) (q : List (BitVec 8)), (ps.take k)[j]? = some q → ∃ u, vs[j]? = some u ∧ wr.ownsRow w.heap.size 5 1 u q.length (bytesV q))
    (own1 : w4.ownsRow wr.heap.size 5 1 v1 ps[k].length (bytesV ps[k])) (hb4 : Below wr.heap.size (wr.alloc (.cells #[] 5)) w4)
    (own2 : w6.ownsRow w.heap.size 37 1 v2 (k + 1) (vs ++ [v1])) (hg : (w4.alloc (.cells #[v1] 37)).grownBy w6 v.ownBlock) : Owns w w6 v2 (ps.take (k + 1)) := by
  have hb5 : Below wr.heap.size wr (w4.alloc (.cells #[v1] 37)) := (((Below.refl wr.heap.size wr).alloc (Nat.le_refl _) _).trans hb4).alloc (Nat.le_trans (by simp) hb4.size) _
  have o5 := owns_call h1 hb5
  have hl : vs.length = k := by simpa using h1.1
  refine ⟨vs ++ [v1], by rw [List.length_take, Nat.min_eq_left (by omega)]; exact own2, ?_, fun j q hq => ?_⟩
  · refine (hb.trans (hb5.mono hb.size)).trans (below_of_grown hg (fun g e => (o5.lt g e).1) (Nat.le_trans hb.size hb5.size))
  · have hj := (List.getElem?_eq_some_iff.1 hq).1
    rw [List.length_take] at hj
    by_cases hjk : j < k
    · obtain ⟨u, hu, ho⟩ := h3 j q (by rw [List.getElem?_take, if_pos (by omega)] at hq; rw [List.getElem?_take, if_pos hjk]; exact hq)
      have ho5 := owns_call ho hb5
      exact ⟨u, by rw [List.getElem?_append_left (by omega)]; exact hu, ho5.kept hg (own_ne o5 ho5)⟩
    · obtain rfl : j = k := by omega
      obtain rfl : ps[j] = q := by rw [List.getElem?_take, if_pos (by omega), List.getElem?_eq_getElem hk] at hq; injection hq
      have ho5 := (own_mono own1 hb.size).alloc (.cells #[v1] 37)
      exact ⟨v1, by rw [List.getElem?_append_right (by omega), hl]; simp, ho5.kept hg (own_ne o5 ho5)⟩
/- the slices of a slice of slices, as a list -/
theorem Parts.list {w : World} {v : Value} {ps : List (List (BitVec 8))} (h : Parts w v ps) : ∃ A c, ∃ us : List Value, v = .slice A ps.length c ∧ us.length = ps.length ∧ (∀ ad, A = some ad → ∀ (j : Nat) (u : Value), us[j]? = some u → w.cell? (ad.add j) = some u) ∧ (A = none → ps = []) ∧
    (∀ u ∈ us, Value.oneCell' u = true) ∧ ∀ (k : Nat) (q : List (BitVec 8)), ps[k]? = some q → ∃ u, us[k]? = some u ∧ Slice w u q := by
  obtain ⟨A, c, rfl, h3⟩ := h
  by_cases hne : ps = []
  · subst hne
    exact ⟨A, c, [], rfl, rfl, fun _ _ j u hu => (by simp at hu), fun _ => rfl, fun u hu => (by cases hu), fun k q hq => (by simp at hq)⟩
  · obtain ⟨b, o, rfl, _, hc⟩ := h3 hne
    have hk : ∀ k, k < ps.length → ∃ u, w.cell? ⟨b, o + k, none⟩ = some u ∧ Slice w u (ps.getD k []) := fun k hk => hc k _ (by rw [List.getD_eq_getElem?_getD, List.getElem?_eq_getElem hk]; rfl)
    refine ⟨some ⟨b, o, none⟩, c, (List.range ps.length).map fun k => (w.cell? ⟨b, o + k, none⟩).getD undef, rfl, by simp, ?_, fun h => (by cases h), ?_, ?_⟩
    · rintro ad e j u hu
      injection e with e
      subst e
      simp only [List.getElem?_map, Option.map_eq_some_iff] at hu
      obtain ⟨k, hk1, rfl⟩ := hu
      have hlt : j < ps.length := by have := (List.getElem?_eq_some_iff.1 hk1).1; simpa using this
      obtain rfl : j = k := by simpa [hlt] using hk1
      obtain ⟨u, hu, _⟩ := hk _ hlt
      rw [Addr.add_mid, hu]; rfl
    · intro u hu
      simp only [List.mem_map, List.mem_range] at hu
      obtain ⟨k, hlt, rfl⟩ := hu
      obtain ⟨u, hu, A', c', rfl, _⟩ := hk k hlt
      rw [hu]; rfl
    · intro k q hq
      have hlt := (List.getElem?_eq_some_iff.1 hq).1
      obtain ⟨u, hu, hs⟩ := hk k hlt
      rw [List.getD_eq_getElem?_getD, hq] at hs
      exact ⟨u, by simp [hlt, hu], hs⟩
theorem parts2 {w : World} {a b : Value} {p q : List (BitVec 8)} (ha : Slice w a p) (hb : Slice w b q) : Parts (w.alloc (.cells #[a, b] 37)) (.slice (some ⟨w.heap.size, 0, none⟩) 2 2) [p, q] := by
  have t := Row.fresh w 37 #[a, b]
  have hx := (Below.refl w.heap.size w).alloc (Nat.le_refl _) (.cells #[a, b] 37)
  refine ⟨_, 2, rfl, fun _ => ⟨w.heap.size, 0, rfl, t.lt, fun k s hs => ?_⟩⟩
  match k, hs with
  | 0, hs => obtain rfl : p = s := by simpa using hs
             exact ⟨a, t.get rfl, ha.below hx (Nat.le_refl _)⟩
  | 1, hs => obtain rfl : q = s := by simpa using hs
             exact ⟨b, t.get rfl, hb.below hx (Nat.le_refl _)⟩
/- the slices of a slice of slices that was handed in, as a list -/
theorem Hand.list {w : World} {v : Value} {ps : List (List (BitVec 8))} (h : Hand w v ps) : ∃ A c, ∃ us : List Value, v = .slice A ps.length c ∧ us.length = ps.length ∧ (∀ ad, A = some ad → ∀ (j : Nat) (u : Value), us[j]? = some u → w.cell? (ad.add j) = some u) ∧ (A = none → ps = []) ∧
    (∀ u ∈ us, Value.oneCell' u = true) ∧ ∀ (k : Nat) (q : List (BitVec 8)), ps[k]? = some q → ∃ u, us[k]? = some u ∧ Item w u q := by
  obtain ⟨A, c, rfl, h3⟩ := h
  by_cases hne : ps = []
  · subst hne
    exact ⟨A, c, [], rfl, rfl, fun _ _ j u hu => (by simp at hu), fun _ => rfl, fun u hu => (by cases hu), fun k q hq => (by simp at hq)⟩
  · obtain ⟨b, o, rfl, _, hc⟩ := h3 hne
    have hk : ∀ k, k < ps.length → ∃ u, w.cell? ⟨b, o + k, none⟩ = some u ∧ Item w u (ps.getD k []) := fun k hk => hc k _ (by rw [List.getD_eq_getElem?_getD, List.getElem?_eq_getElem hk]; rfl)
    refine ⟨some ⟨b, o, none⟩, c, (List.range ps.length).map fun k => (w.cell? ⟨b, o + k, none⟩).getD undef, rfl, by simp, ?_, fun h => (by cases h), ?_, ?_⟩
    · rintro ad e j u hu
      injection e with e
      subst e
      simp only [List.getElem?_map, Option.map_eq_some_iff] at hu
      obtain ⟨k, hk1, rfl⟩ := hu
      have hlt : j < ps.length := by have := (List.getElem?_eq_some_iff.1 hk1).1; simpa using this
      obtain rfl : j = k := by simpa [hlt] using hk1
      obtain ⟨u, hu, _⟩ := hk _ hlt
      rw [Addr.add_mid, hu]; rfl
    · intro u hu
      simp only [List.mem_map, List.mem_range] at hu
      obtain ⟨k, hlt, rfl⟩ := hu
      obtain ⟨u, hu, A', c', rfl, _⟩ := hk k hlt
      rw [hu]; rfl
    · intro k q hq
      have hlt := (List.getElem?_eq_some_iff.1 hq).1
      obtain ⟨u, hu, hs⟩ := hk k hlt
      rw [List.getD_eq_getElem?_getD, hq] at hs
      exact ⟨u, by simp [hlt, hu], hs⟩
theorem row_range {w W : World} {B g : Nat} {t : TypeId} {l : List (BitVec 8)} (h : Row w g t (bs l)) (hb : Below B w W) (hg : g < B) : W.rangeAt g 0 (bs l).toList := fun j v hv => by
  rw [Nat.zero_add, (h.below hb hg).cell]; simpa using hv
theorem bs_toList (l : List (BitVec 8)) : (bs l).toList = bytesV l := by simp [bs, bytesV]
theorem wp_append_slice {w : World} {o : Oper} {a : Act} {K : Act → World → Prop} {Q : Exit → Act → World → Prop} (s x : Operand)
    (ho : o.op = .call { callee := .builtin .append, args := #[s, x], argTypes := #[37, 37] }) (base : Nat)
    (v : Value) (n : Nat) (xs : List Value) (hs : a.eval s = v) (hown : w.ownsRow base 5 1 v n xs)
    (A : Option Addr) (m c : Nat) (q : List (BitVec 8)) (hx : a.eval x = .slice A m c) (hq : Slice w (.slice A m c) q) (hA : A = none → c = 0)
    (hnm : n + m ≤ 1000000000) (hbase : base ≤ w.heap.size)
    (h : ∀ v' w', w'.ownsRow base 5 1 v' (n + m) (xs ++ bytesV q) → Below base w w' → K (a.put o.dst v') w') : o.wp Try.prog a w K Q := by
  obtain ⟨i0, hi, hz0, hz1, hz2⟩ := info_parts info_u8
  have hblk : ∀ g, v.ownBlock = some g → base ≤ g := fun g hg => (hown.lt g hg).1
  obtain ⟨A', c', e1, _, h3⟩ := hq
  injection e1 with e1 e2 e3
  subst e1 e2 e3
  cases A with
  | none =>
    have hq0 : q = [] := by
      apply Decidable.byContradiction
      intro hne
      obtain ⟨_, _, h4, _⟩ := h3 hne
      cases h4
    subst hq0
    obtain rfl := hA rfl
    have hrun := run_append_owned_none (P := Try.prog) (w := w) base 37 o.type 5 i0 1 Try.underlying37 hi v n xs hown
    unfold Oper.wp
    simp only [List.length_nil] at hx
    simp [execOp, ho, resolve, invoke, builtin, hs, hx, hrun, Result.andThen]
    exact h v w (by simpa [bytesV] using hown) (Below.refl _ _)
  | some ad =>
    refine wp_append_own w s x 37 ho base 5 i0 (.int .u8 0) 1 1 Try.underlying37 hi hz0 hz1 hz2 rfl (by omega) v n xs hs hown ad q.length c (bytesV q) hx (by simp [bytesV]) ?_ (one_bytesV q) (by unfold maxLen; omega) (by omega) hbase ?_
    · intro j u hu
      have hne : q ≠ [] := by rintro rfl; simp [bytesV] at hu
      obtain ⟨b, o, h4, _, h6⟩ := h3 hne
      have h4 := Option.some.inj h4
      subst h4
      rw [Addr.add_mid]
      simp only [bytesV, List.getElem?_map, Option.map_eq_some_iff] at hu
      obtain ⟨y, hy, rfl⟩ := hu
      exact h6 j y hy
    · intro v' w' h1 h2 _
      exact h v' w' h1 (below_of_grown h2 hblk hbase)
theorem grown_setRow (w : World) (g : Nat) (cs : Array Value) : w.grownBy (w.setRow g cs) (some g) :=
  ⟨rfl, rfl, rfl, by rw [size_setRow]; exact Nat.le_refl _, fun k _ hk => setRow_other w g k cs (fun e => hk (by rw [e]))⟩
theorem wpList_guarded {P : Program} {ops : Array Oper} {Q : Exit → Act → World → Prop} {a : Act} {w : World} {rest : List Oper} {o : Oper} (hw : Region.wanted o (yielded ops a.tmps) = true)
    (h : ∀ K : Act → World → Prop, (∀ a w, wpList P ops Q rest a w → K a w) → o.wp P a w K Q) : wpList P ops Q (o :: rest) a w :=
  wpList_step fun K hK => by rw [if_pos hw]; exact h K hK
theorem Hand.parts {w : World} {v : Value} {ps : List (List (BitVec 8))} (h : Hand w v ps) : Parts w v ps := by
  obtain ⟨A, c, h1, h3⟩ := h
  refine ⟨A, c, h1, fun hne => ?_⟩
  obtain ⟨b, o, h4, h5, h6⟩ := h3 hne
  refine ⟨b, o, h4, h5, fun k q hq => ?_⟩
  obtain ⟨u, h7, h8⟩ := h6 k q hq
  exact ⟨u, h7, h8.slice⟩
end Go.Proofs.Ytcdcongeogmfkaa

/- Arguments opened: a slice of bytes, a list of them, an array of integers. -/
set_option maxRecDepth 4000
namespace Go.Proofs.Ytcdcongeogmfkaa
open Go Go.ChangeShapes Go.WideShapes Go.ChangeAt Go.RowKit
theorem ownK : ownKnob Try.prog.godebug = none := by kernel_rfl
theorem laidOutT : laidOutB Try.prog = true := by kernel_rfl
theorem okWide_arr {P : Program} {w : World} {r : Reach} {base n : Nat} {t e : TypeId} {v : Value} (ht : P.underlying t = some (.array n e)) (h : Value.okWide P w r base t v) : ∃ cs, v = .agg cs := by
  simp only [Value.okWide, ht] at h
  cases v <;> simp_all
def intIn : Value → Int
  | .int _ z => z
  | _ => 0
theorem open_row {H : Type} {enc : TypeId × Value → H} {P : Program} {W : World} {t e : TypeId} {n : Nat} {k : IntKind} {cs : Array Value} {d : DataW H} {ps : List MemPlace} (ht : P.underlying t = some (.array n e)) (he : P.underlying e = some (.int k)) (hce : P.cellsOf e = 1) (hct : P.cellsOf t = n)
    (h : DataW.Trod enc P W 0 (fun _ => true) true t (.agg cs) d ps) : cs.size = n ∧ ∀ i, i < n → ∃ z, cs[i]? = some (.int k z) ∧ (Lit.int k z).wf = true := by
  obtain ⟨fuel, hf⟩ := h
  obtain ⟨xs, m, _, _, hl, hx, hi⟩ := DataW.trod_array ht hf
  have hs : cs.size = n := by simpa [Value.cells, hct] using hl
  refine ⟨hs, fun i hin => ?_⟩
  have h1 := hi i hin
  rw [List.getElem?_eq_getElem (by omega)] at h1
  obtain ⟨z, hz, _, hw⟩ := DataW.trod_int he h1
  refine ⟨z, ?_, hw⟩
  have hin' : i < cs.size := by omega
  simp only [hce, Nat.mul_one, Value.cells] at hz
  rw [List.take_one, List.head?_drop] at hz
  rw [Array.getElem?_eq_getElem hin']
  have e1 : cs.toList[i]? = some cs[i] := by simp [hin']
  rw [e1] at hz
  simpa using hz
end Go.Proofs.Ytcdcongeogmfkaa

/- A region that draws its order, walked once: what each operation yields holds by what those that it waits for yielded, whichever comes up. The conditions: the theorems' own. -/
set_option maxRecDepth 4000
namespace Go.Proofs.Ytcdcongeogmfkaa
open Go Go.RowKit
/- what an operation yields -/
def Does (P : Program) (o : Oper) (a : Act) (w : World) (R : Value → World → Prop) : Prop :=
  ∀ (K : Act → World → Prop) (Q : Exit → Act → World → Prop), (∀ v w', R v w' → K (a.put o.dst v) w') → o.wp P a w K Q
def dstAt (ops : Array Oper) (i : Nat) : Option Tmp := (ops[i]?).bind (·.dst)
def waitsFor (o : Oper) (j : Nat) : Bool := o.after.any fun e => Region.binds .any e && e.on == j
def anc (ops : Array Oper) : List Nat → Array Bool → Array Bool
  | [], m => m
  | k :: ks, m => anc ops ks (if m.getD k false then ((ops[k]?).map fun o => o.after.foldl (fun m e => if Region.binds .any e then m.setIfInBounds e.on true else m) m).getD m else m)
def chk (ops : Array Oper) (n size : Nat) : Bool :=
  decide (n ≤ ops.size) &&
  (List.range ops.size).all (fun i => ((ops[i]?).map fun o => o.after.all fun e => !Region.binds .any e || decide (e.on < i)).getD false) &&
  (List.range n).all (fun i => match dstAt ops i with | some d => decide (d < size) && (List.range i).all (fun j => dstAt ops j != some d) | none => true) &&
  (List.range n).all (fun i => ((ops[i]?).map fun o => (match o.guard with | some (j, _) => decide (j < n) && waitsFor o j && (dstAt ops j).isSome | none => true)).getD false) &&
  (List.range ops.size).all (fun j => decide (j < n) || (List.range n).all fun i => (anc ops (List.range (j + 1)).reverse ((Array.replicate ops.size false).setIfInBounds j true)).getD i false)
def puts (ops : Array Oper) (x : Nat → Value) : Nat → Act → Act
  | 0, a => a
  | n + 1, a => (puts ops x n a).put (dstAt ops n) (x n)
section
variable {P : Program} {Q : Exit → Act → World → Prop} {ops : Array Oper} {n : Nat} {R : World → World → Prop} {V : Nat → Value → World → Prop} {G : Nat → Bool} {a0 : Act} {w1 : World}
def Known (ops : Array Oper) (n : Nat) (V : Nat → Value → World → Prop) (a : Act) (x : Nat → Value) (w : World) (o : Oper) : Prop :=
  ∀ j, waitsFor o j = true → j < n → V j (x j) w ∧ ∀ d, dstAt ops j = some d → a.tmps[d]? = some (x j)
def All (p : Nat → Oper → Prop) (n : Nat) : List Oper → Nat → Prop
  | [], _ => True
  | o :: l, i => (i < n → p i o) ∧ All p n l (i + 1)
theorem all_cons {p : Nat → Oper → Prop} {o : Oper} {l : List Oper} {i : Nat} (h : p i o) (t : All p n l (i + 1)) : All p n (o :: l) i := ⟨fun _ => h, t⟩
theorem all_end {p : Nat → Oper → Prop} : ∀ {l : List Oper} {i : Nat}, n ≤ i → All p n l i
  | [], _, _ => trivial
  | _ :: _, i, h => ⟨fun h' => absurd h' (by omega), all_end (l := _) (i := i + 1) (by omega)⟩
theorem all_get {p : Nat → Oper → Prop} : ∀ {l : List Oper} {i : Nat}, All p n l i → ∀ j o, l[j]? = some o → i + j < n → p (i + j) o
  | [], _, _, j, o, ho, _ => by simp at ho
  | o' :: l, i, h, 0, o, ho, hj => by obtain rfl : o' = o := by simpa using ho
                                      exact h.1 hj
  | o' :: l, i, h, j + 1, o, ho, hj => by
    have := all_get h.2 j o (by simpa using ho) (by omega)
    rwa [show i + 1 + j = i + (j + 1) by omega] at this
theorem getD_set (l : Array Bool) (i k : Nat) (hi : i < l.size) : (l.setIfInBounds i true).getD k false = (if i = k then true else l.getD k false) := by
  by_cases h : i = k
  · subst h; simp [Array.getD, hi]
  · rw [if_neg h]
    simp only [Array.getD_eq_getD_getElem?]
    rw [Array.getElem?_setIfInBounds_ne h]
theorem anc_foldl {L : Nat → Prop} (es : List Edge) (m : Array Bool) (h : ∀ e ∈ es, Region.binds .any e = true → L e.on) (hm : ∀ k, m.getD k false = true → L k) :
    ∀ k, (es.foldl (fun m e => if Region.binds .any e then m.setIfInBounds e.on true else m) m).getD k false = true → L k := by
  induction es generalizing m with
  | nil => exact hm
  | cons e es ih =>
    rw [List.foldl_cons]
    refine ih _ (fun e' he' => h e' (by simp [he'])) fun k hk => ?_
    by_cases hb : Region.binds .any e = true
    · rw [if_pos hb] at hk
      by_cases hi : e.on < m.size
      · rw [getD_set _ _ _ hi] at hk
        by_cases hek : e.on = k
        · subst hek; exact h e (by simp) hb
        · rw [if_neg hek] at hk; exact hm k hk
      · rw [Array.setIfInBounds_eq_of_size_le (by omega)] at hk; exact hm k hk
    · rw [if_neg hb] at hk; exact hm k hk
theorem anc_sound {L : Nat → Prop} (hc : ∀ k o, ops[k]? = some o → L k → ∀ e ∈ o.after, Region.binds .any e = true → L e.on) : ∀ (ks : List Nat) (m : Array Bool), (∀ k, m.getD k false = true → L k) → ∀ k, (anc ops ks m).getD k false = true → L k
  | [], m, hm => hm
  | k :: ks, m, hm => by
    refine anc_sound hc ks _ fun i hi => ?_
    by_cases hk : m.getD k false = true
    · rw [if_pos hk] at hi
      cases ho : ops[k]? with
      | none => rw [ho] at hi; exact hm i hi
      | some o =>
        rw [ho] at hi
        simp only [Option.map_some, Option.getD_some] at hi
        rw [← Array.foldl_toList] at hi
        exact anc_foldl o.after.toList m (fun e he hb => hc k o ho (hm k hk) e (by simpa using he) hb) hm i hi
    · rw [if_neg hk] at hi; exact hm i hi
theorem puts_get (x : Nat → Value) (a : Act) : ∀ m, (∀ i, i < m → ∀ j, j < i → ∀ d, dstAt ops i = some d → dstAt ops j ≠ some d) → (∀ i, i < m → ∀ d, dstAt ops i = some d → d < a.tmps.size) →
    (puts ops x m a).defers = a.defers ∧ (puts ops x m a).tmps.size = a.tmps.size ∧ (∀ i, i < m → ∀ d, dstAt ops i = some d → (puts ops x m a).tmps[d]? = some (x i)) ∧ ∀ k, (∀ i, i < m → dstAt ops i ≠ some k) → (puts ops x m a).tmps[k]? = a.tmps[k]?
  | 0, _, _ => ⟨rfl, rfl, fun i hi => by omega, fun k _ => rfl⟩
  | m + 1, hd, hb => by
    obtain ⟨h1, h2, h3, h4⟩ := puts_get x a m (fun i hi => hd i (by omega)) (fun i hi => hb i (by omega))
    unfold puts
    cases hm : dstAt ops m with
    | none =>
      refine ⟨h1, h2, fun i hi d hid => ?_, fun k hk => h4 k fun i hi => hk i (by omega)⟩
      by_cases him : i = m
      · subst him; rw [hm] at hid; cases hid
      · exact h3 i (by omega) d hid
    | some dm =>
      have hlt : dm < (puts ops x m a).tmps.size := by rw [h2]; exact hb m (by omega) dm hm
      refine ⟨h1, by simp [Act.put, h2], fun i hi d hid => ?_, fun k hk => ?_⟩
      · by_cases him : i = m
        · subst him; rw [hm] at hid; injection hid with hid; subst hid
          simp [Act.put, hlt]
        · have hne : dm ≠ d := fun e => hd m (by omega) i (by omega) dm hm (e ▸ hid)
          simp only [Act.put]
          rw [Array.getElem?_setIfInBounds_ne hne]
          exact h3 i (by omega) d hid
      · have hne : dm ≠ k := fun e => hk m (by omega) (e ▸ hm)
        simp only [Act.put]
        rw [Array.getElem?_setIfInBounds_ne hne]
        exact h4 k fun i hi => hk i (by omega)
def count (listed : Array Bool) (n : Nat) : Nat := ((List.range n).filter fun i => !listed.getD i false).length
theorem count_set (listed : Array Bool) (i : Nat) (hi : i < listed.size) (h : listed.getD i false = false) : ∀ n, i < n → count listed n = count (listed.setIfInBounds i true) n + 1
  | 0, h' => by omega
  | n + 1, h' => by
    unfold count
    rw [List.range_succ, List.filter_append, List.filter_append, List.length_append, List.length_append]
    by_cases hin : i = n
    · subst hin
      have e : (List.range i).filter (fun k => !listed.getD k false) = (List.range i).filter fun k => !(listed.setIfInBounds i true).getD k false := by
        refine List.filter_congr fun k hk => ?_
        rw [getD_set _ _ _ hi, if_neg (by have := List.mem_range.1 hk; omega)]
      rw [e]
      have e1 : (listed.setIfInBounds i true).getD i false = true := by rw [getD_set _ _ _ hi, if_pos rfl]
      simp only [List.filter_cons, List.filter_nil, h, e1]
      simp
    · have ih := count_set listed i hi h n (by omega)
      unfold count at ih
      have e : (listed.setIfInBounds i true).getD n false = listed.getD n false := by rw [getD_set _ _ _ hi, if_neg hin]
      simp only [List.filter_cons, List.filter_nil, e]
      omega
theorem count_zero (listed : Array Bool) (n : Nat) (h : count listed n = 0) (i : Nat) (hi : i < n) : listed.getD i false = true := by
  unfold count at h
  have := List.filter_eq_nil_iff.1 (List.length_eq_zero_iff.1 h) i (List.mem_range.2 hi)
  simpa using this
theorem count_pos (listed : Array Bool) (n m : Nat) (h : count listed n = m + 1) : ∃ i, i < n ∧ listed.getD i false = false ∧ ∀ j, j < i → listed.getD j false = true := by
  have hne : ∃ i, i < n ∧ listed.getD i false = false := by
    apply Decidable.byContradiction
    intro hno
    have : (List.range n).filter (fun i => !listed.getD i false) = [] := by
      refine List.filter_eq_nil_iff.2 fun i hi => ?_
      have hi' := List.mem_range.1 hi
      cases hv : listed.getD i false with
      | true => simp
      | false => exact absurd ⟨i, hi', hv⟩ hno
    unfold count at h
    rw [this] at h
    simp at h
  obtain ⟨i, hi, hv⟩ := hne
  induction i using Nat.strongRecOn with
  | _ i ih =>
    by_cases hall : ∀ j, j < i → listed.getD j false = true
    · exact ⟨i, hi, hv, hall⟩
    · have : ∃ j, j < i ∧ listed.getD j false = false := by
        apply Decidable.byContradiction
        intro hno
        refine hall fun j hj => ?_
        cases hv : listed.getD j false with
        | true => rfl
        | false => exact absurd ⟨j, hj, hv⟩ hno
      obtain ⟨j, hj, hjv⟩ := this
      exact ih j hj (by omega) hjv
theorem eval_of_get {a : Act} {d : Nat} {v : Value} (h : a.tmps[d]? = some v) : a.eval (.tmp d) = v := by simp [Act.eval, Array.getD_eq_getD_getElem?, h]
end
end Go.Proofs.Ytcdcongeogmfkaa

/- The steps of a region that is walked by what each operation yields: the plain operations; what stays of a world while blocks are made and calls come and go. -/
set_option maxRecDepth 4000
namespace Go.Proofs.Ytcdcongeogmfkaa
open Go Go.RowKit
/- below B all is as it was; every block keeps its cells -/
structure Keeps (B : Nat) (w w' : World) : Prop where
  below : Below B w w'
  rows : ∀ (g : Nat) (cs : Array Value) (t : TypeId) (fr : Nat × Nat), w.heap[g]? = some (.cells cs t fr) → ∃ fr' : Nat × Nat, w'.heap[g]? = some (.cells cs t fr')
theorem Keeps.refl (B : Nat) (w : World) : Keeps B w w := ⟨Below.refl _ _, fun _ _ _ fr h => ⟨fr, h⟩⟩
theorem Keeps.trans {B : Nat} {a b c : World} (h : Keeps B a b) (k : Keeps B b c) : Keeps B a c :=
  ⟨h.below.trans k.below, fun g cs t fr hg => by obtain ⟨fr', h'⟩ := h.rows g cs t fr hg; exact k.rows g cs t fr' h'⟩
theorem lt_of_heap {w : World} {g : Nat} {o : Obj} (h : w.heap[g]? = some o) : g < w.heap.size := (Array.getElem?_eq_some_iff.1 h).1
theorem Keeps.call {B : Nat} {w w' : World} (h : Below w.heap.size w w') (hB : B ≤ w.heap.size) : Keeps B w w' :=
  ⟨h.mono hB, fun g _ _ fr hg => ⟨fr, (h.block g (lt_of_heap hg)).trans hg⟩⟩
theorem Keeps.alloc {B : Nat} (w : World) (o : Obj) (hB : B ≤ w.heap.size) : Keeps B w (w.alloc o) := Keeps.call ((Below.refl _ _).alloc (Nat.le_refl _) o) hB
theorem Keeps.cell {B : Nat} {w w' : World} (h : Keeps B w w') {a : Addr} {v : Value} (hc : w.cell? a = some v) : w'.cell? a = some v := by
  unfold World.cell? at *
  cases hg : w.heap[a.block]? with
  | none => rw [hg] at hc; cases hc
  | some o =>
    rw [hg] at hc
    cases o with
    | cells cs t fr => obtain ⟨fr', h'⟩ := h.rows _ _ _ _ hg
                       rw [h']; exact hc
    | _ => cases hc
theorem Keeps.slice {B : Nat} {w w' : World} {v : Value} {q : List (BitVec 8)} (h : Keeps B w w') (hs : Slice w v q) : Slice w' v q := by
  obtain ⟨A, c, h1, h2, h3⟩ := hs
  refine ⟨A, c, h1, h2, fun hne => ?_⟩
  obtain ⟨b, o, h4, h5, h6⟩ := h3 hne
  exact ⟨b, o, h4, Nat.lt_of_lt_of_le h5 h.below.size, fun j x hx => h.cell (h6 j x hx)⟩
theorem Keeps.parts {B : Nat} {w w' : World} {v : Value} {ps : List (List (BitVec 8))} (h : Keeps B w w') (hs : Parts w v ps) : Parts w' v ps := by
  obtain ⟨A, c, h1, h3⟩ := hs
  refine ⟨A, c, h1, fun hne => ?_⟩
  obtain ⟨b, o, h4, h5, h6⟩ := h3 hne
  refine ⟨b, o, h4, Nat.lt_of_lt_of_le h5 h.below.size, fun k q hq => ?_⟩
  obtain ⟨u, h7, h8⟩ := h6 k q hq
  exact ⟨u, h.cell h7, h.slice h8⟩
/- what a value is known by -/
def is (c : Value) : Value → World → Prop := fun v _ => v = c
def anyV : Value → World → Prop := fun _ _ => True
def sl (q : List (BitVec 8)) : Value → World → Prop := fun v w => Slice w v q
def pts (ps : List (List (BitVec 8))) : Value → World → Prop := fun v w => Parts w v ps
def Stays (B : Nat) (V : Value → World → Prop) : Prop := ∀ v w w', V v w → Keeps B w w' → V v w'
def Vs (l : List (Value → World → Prop)) (i : Nat) : Value → World → Prop := l.getD i anyV
section
variable {P : Program} {ops : Array Oper} {n : Nat} {R : World → World → Prop} {V : Nat → Value → World → Prop} {G : Nat → Bool} {a0 a : Act} {w1 w : World} {x : Nat → Value} {o : Oper} {l : List Oper} {i : Nat}
theorem Known.get (hk : Known ops n V a x w o) (j d : Nat) (hw : waitsFor o j = true) (hj : j < n) (hd : dstAt ops j = some d) : ∃ v, a.tmps[d]? = some v ∧ V j v w := ⟨x j, (hk j hw hj).2 d hd, (hk j hw hj).1⟩
theorem Known.is (hk : Known ops n V a x w o) (j d : Nat) (hw : waitsFor o j = true) (hj : j < n) (hd : dstAt ops j = some d) (c : Value) (hV : V j = is c) : a.tmps[d]? = some c := by
  obtain ⟨h1, h2⟩ := hk j hw hj
  rw [hV] at h1
  rw [h2 d hd]; exact congrArg some h1
end
def putL : List (Option Tmp) → (Nat → Value) → Nat → Act → Act
  | [], _, _, a => a
  | d :: ds, x, i, a => putL ds x (i + 1) (a.put d (x i))
theorem putL_snoc (x : Nat → Value) (d : Option Tmp) : ∀ (ds : List (Option Tmp)) (i : Nat) (a : Act), putL (ds ++ [d]) x i a = (putL ds x i a).put d (x (i + ds.length))
  | [], i, a => rfl
  | e :: ds, i, a => by
    rw [List.cons_append, putL, putL, putL_snoc x d ds (i + 1) _, List.length_cons, show i + 1 + ds.length = i + (ds.length + 1) by omega]
theorem puts_eq (l : List Oper) (x : Nat → Value) (a : Act) : ∀ n, n ≤ l.length → puts l.toArray x n a = putL ((l.map (·.dst)).take n) x 0 a
  | 0, _ => rfl
  | n + 1, h => by
    have hl : n < (l.map (·.dst)).length := by rw [List.length_map]; exact h
    have e : dstAt l.toArray n = (l.map (·.dst))[n] := by
      have : l.toArray[n]? = some l[n] := (List.getElem?_toArray (xs := l)).trans (List.getElem?_eq_getElem h)
      simp [dstAt, this]
    rw [puts, puts_eq l x a n (by omega), List.take_succ_eq_append_getElem hl, putL_snoc, e, List.length_take, Nat.min_eq_left (by omega), Nat.zero_add]
section
variable {P : Program} {o : Oper} {a : Act} {w : World} {R : Value → World → Prop}
theorem does_run {v : Value} {w' : World} (h : (execOp a.eval o).run P w = .ok (.value v) w') (hR : R v w') : Does P o a w R := fun K Q hK => by
  unfold Oper.wp; rw [h]; exact hK v w' hR
theorem does_move {t : Nat} {v : Value} (ho : o.op = .move (.tmp t)) (ht : a.tmps[t]? = some v) (h : R v w) : Does P o a w R :=
  does_run (by simp only [execOp, ho, eval_of_get ht, Sem.run_pure]) h
theorem does_assign {t : Nat} {v : Value} (ho : o.op = .assign (.tmp t)) (ht : a.tmps[t]? = some v) (h : R v w) : Does P o a w R :=
  does_run (by simp only [execOp, ho, eval_of_get ht, Sem.run_pure]) h
theorem does_pick {t : Nat} {x y : Operand} {b : Bool} (ho : o.op = .pick (.tmp t) x y) (ht : a.tmps[t]? = some (.bool b)) (h : R (a.eval (if b then x else y)) w) : Does P o a w R :=
  does_run (v := a.eval (if b then x else y)) (by cases b <;> simp [execOp, ho, eval_of_get ht, asBool]) h
theorem does_not {t : Nat} {ty : TypeId} {b : Bool} (ho : o.op = .unOp .not ty (.tmp t)) (ht : a.tmps[t]? = some (.bool b)) (h : R (.bool !b) w) : Does P o a w R :=
  does_run (v := .bool !b) (by simp [execOp, ho, eval_of_get ht, Op.unary]) h
end
end Go.Proofs.Ytcdcongeogmfkaa

/- A region that draws its order and in which some operations change what was there (calls of methods, appends, stores), one behind the other: each of them begins a new phase; what is known of the world hangs on the phase. -/
set_option maxRecDepth 4000
namespace Go.Proofs.Ytcdcongeogmfkaa
open Go Go.RowKit
def wildCount (U : Nat → Bool) (n : Nat) (m : Nat → Bool) : Nat := ((List.range n).filter fun i => U i && m i).length
def ancOf (ops : Array Oper) (j : Nat) : Array Bool := anc ops (List.range (j + 1)).reverse ((Array.replicate ops.size false).setIfInBounds j true)
def phChk (ops : Array Oper) (n : Nat) (U : Nat → Bool) (ph : Nat → Option Nat) (rig : Nat → Bool) : Bool :=
  (List.range n).all fun j => match ph j with
    | none => !U j && rig j
    | some p => (wildCount U n (fun i => i != j && (ancOf ops j).getD i false) == p) && (List.range n).all fun u => !U u || (ancOf ops j).getD u false || u == j || (ancOf ops u).getD j false
/- no operation that may come up ahead of operation i stores to slot t -/
def noDstF (ops : Array Oper) (n i t : Nat) : Bool := (List.range n).all fun j => dstAt ops j != some t || (j != i && (ancOf ops j).getD i false)
def phAfter (U : Nat → Bool) (ph : Nat → Option Nat) (i : Nat) : Option Nat := (ph i).map fun p => if U i then p + 1 else p
section
variable {P : Program} {Q : Exit → Act → World → Prop} {ops : Array Oper} {n : Nat} {K : World → World → Prop} {Φ : Nat → World → Prop} {V : Nat → Value → World → Prop} {G U rig : Nat → Bool} {ph : Nat → Option Nat} {a0 : Act} {w1 : World}
def KnownP (ops : Array Oper) (n : Nat) (V : Nat → Value → World → Prop) (U rig : Nat → Bool) (ph : Nat → Option Nat) (q : Option Nat) (a : Act) (x : Nat → Value) (w : World) (o : Oper) : Prop :=
  ∀ j, waitsFor o j = true → j < n → (rig j = true ∨ (q.isSome = true ∧ phAfter U ph j = q) → V j (x j) w) ∧ ∀ d, dstAt ops j = some d → a.tmps[d]? = some (x j)
def StepP (P : Program) (ops : Array Oper) (n : Nat) (K : World → World → Prop) (Φ : Nat → World → Prop) (V : Nat → Value → World → Prop) (G U rig : Nat → Bool) (ph : Nat → Option Nat) (a0 : Act) (i : Nat) (o : Oper) : Prop :=
  ∀ (a : Act) (x : Nat → Value) (w : World), (∀ t, noDstF ops n i t = true → a.tmps[t]? = a0.tmps[t]?) → KnownP ops n V U rig ph (ph i) a x w o →
    match ph i with
    | none => (∃ p, Φ p w) → if G i then Does P o a w (fun v w' => w' = w ∧ V i v w') else V i undef w
    | some p => Φ p w → if G i then Does P o a w (fun v w' => (if U i then Φ (p + 1) w' else K w w') ∧ V i v w') else U i = false ∧ V i undef w
def GuardP (V : Nat → Value → World → Prop) (G : Nat → Bool) (rig : Nat → Bool) (i : Nat) (o : Oper) : Prop :=
  match o.guard with
  | none => G i = true
  | some (j, want) => rig j = true ∧ ∀ v w, V j v w → v = .bool (want == G i) ∨ (v = undef ∧ G i = false)
structure InvP (ops : Array Oper) (n : Nat) (Φ : Nat → World → Prop) (V : Nat → Value → World → Prop) (U rig : Nat → Bool) (ph : Nat → Option Nat) (a0 : Act) (listed : Array Bool) (a : Act) (x : Nat → Value) (w : World) : Prop where
  size : listed.size = ops.size
  closed : ∀ k o, ops[k]? = some o → listed.getD k false = true → ∀ e ∈ o.after, Region.binds .any e = true → listed.getD e.on false = true
  rel : Φ (wildCount U n fun i => listed.getD i false) w
  le : ∀ i, i < n → listed.getD i false = true → ∀ q, phAfter U ph i = some q → q ≤ wildCount U n fun i => listed.getD i false
  defers : a.defers = a0.defers
  tsize : a.tmps.size = a0.tmps.size
  at_ : ∀ i, i < n → listed.getD i false = true → ((rig i = true ∨ phAfter U ph i = some (wildCount U n fun i => listed.getD i false)) → V i (x i) w) ∧ ∀ d, dstAt ops i = some d → a.tmps[d]? = some (x i)
  out : ∀ k, (∀ i, i < n → listed.getD i false = true → dstAt ops i ≠ some k) → a.tmps[k]? = a0.tmps[k]?
theorem wildCount_congr {n : Nat} {m m' : Nat → Bool} (h : ∀ i, i < n → U i = true → m i = m' i) : wildCount U n m = wildCount U n m' := by
  unfold wildCount
  congr 1
  refine List.filter_congr fun i hi => ?_
  have hi' := List.mem_range.1 hi
  cases hu : U i with
  | false => rfl
  | true => rw [h i hi' hu]
theorem wildCount_step {j : Nat} {m m' : Nat → Bool} (hj : m j = false) (hj' : m' j = true) (hu : U j = true) (h : ∀ i, i ≠ j → m' i = m i) : ∀ n, j < n → wildCount U n m' = wildCount U n m + 1
  | 0, hn => by omega
  | n + 1, hn => by
    unfold wildCount
    rw [List.range_succ, List.filter_append, List.filter_append, List.length_append, List.length_append]
    by_cases hjn : j = n
    · subst hjn
      have e : (List.range j).filter (fun i => U i && m' i) = (List.range j).filter fun i => U i && m i :=
        List.filter_congr fun i hi => by rw [h i (by have := List.mem_range.1 hi; omega)]
      rw [e]
      simp [hu, hj, hj']
    · have ih := wildCount_step hj hj' hu h n (by omega)
      unfold wildCount at ih
      have e : m' n = m n := h n (fun e => hjn e.symm)
      simp only [List.filter_cons, List.filter_nil, e]
      omega
theorem wildCount_same {m m' : Nat → Bool} {j : Nat} (hu : U j = false) (h : ∀ i, i ≠ j → m' i = m i) (n : Nat) : wildCount U n m' = wildCount U n m :=
  wildCount_congr fun i _ hui => h i fun e => by rw [e, hu] at hui; cases hui
theorem wp_region_ph {id : Nat} {l : List Oper} {w0 : World} (n : Nat) (hn : n = l.length) (hm : P.follows .mixedOrders = true) (hchk : chk l.toArray n a0.tmps.size = true) (hph : phChk l.toArray n U ph rig = true)
    (hKΦ : ∀ p w w', Φ p w → K w w' → Φ p w') (hKV : ∀ i, i < n → ∀ v w w', V i v w → K w w' → V i v w') (hrig : ∀ i, i < n → rig i = true → ∀ v w w', V i v w → V i v w')
    (h0 : Φ 0 w0.drew) (hguard : All (GuardP V G rig) n l 0) (hstep : All (StepP P l.toArray n K Φ V G U rig ph a0) n l 0)
    (hrest : ∀ (x : Nat → Value) (w : World), Φ (wildCount U n fun _ => true) w → (∀ i, i < n → rig i = true ∨ phAfter U ph i = some (wildCount U n fun _ => true) → V i (x i) w) → wpAnyH P .any l.toArray Q (fun _ => True) 0 (Array.replicate l.length true) (puts l.toArray x n a0) w) :
    (Code.region id l.toArray true).wp P Q a0 w0 := by
  refine wp_region_any hm ?_
  change wpAny P .any l.toArray Q l.toArray.size (Array.replicate l.toArray.size false) a0 w0.drew
  have hg0 := fun j o ho hj => all_get hguard j o ho (by simpa using hj)
  have hs0 := fun j o ho hj => all_get hstep j o ho (by simpa using hj)
  clear hguard hstep
  generalize w0.drew = w1 at *
  have hsz : l.toArray.size = l.length := by simp
  have hget : ∀ j o, l.toArray[j]? = some o → l[j]? = some o := fun j o h => (List.getElem?_toArray (xs := l)).symm.trans h
  simp only [Nat.zero_add] at hg0 hs0
  have hg : ∀ j o, l.toArray[j]? = some o → j < n → GuardP V G rig j o := fun j o ho hj => hg0 j o (hget j o ho) hj
  have hs : ∀ j o, l.toArray[j]? = some o → j < n → StepP P l.toArray n K Φ V G U rig ph a0 j o := fun j o ho hj => hs0 j o (hget j o ho) hj
  clear hg0 hs0 hget
  rw [← hsz] at hn hrest
  generalize l.toArray = ops at *
  clear hsz
  subst hn
  unfold chk at hchk
  simp only [Bool.and_eq_true, List.all_eq_true, List.mem_range] at hchk
  obtain ⟨⟨⟨⟨_, c1⟩, c2⟩, c3⟩, _⟩ := hchk
  unfold phChk at hph
  simp only [List.all_eq_true, List.mem_range] at hph
  have back : ∀ i o, ops[i]? = some o → ∀ e ∈ o.after, Region.binds .any e = true → e.on < i := fun i o ho e he hb => by
    have hi := (Array.getElem?_eq_some_iff.1 ho).1
    have h := c1 i hi
    rw [ho] at h
    simp only [Option.map_some, Option.getD_some, Array.all_eq_true_iff_forall_mem] at h
    have := h e he
    simpa [hb] using this
  have dlt : ∀ i, i < ops.size → ∀ d, dstAt ops i = some d → d < a0.tmps.size := fun i hi d hd => by
    have h := c2 i hi
    rw [hd] at h
    simp only [Bool.and_eq_true, decide_eq_true_eq] at h
    exact h.1
  have dne : ∀ i, i < ops.size → ∀ j, j < i → ∀ d, dstAt ops i = some d → dstAt ops j ≠ some d := fun i hi j hj d hd => by
    have h := c2 i hi
    rw [hd] at h
    simp only [Bool.and_eq_true, List.all_eq_true, List.mem_range] at h
    have := h.2 j hj
    simpa using this
  have dinj : ∀ i j d, i < ops.size → j < ops.size → dstAt ops i = some d → dstAt ops j = some d → i = j := fun i j d hi hj h1 h2 => by
    rcases Nat.lt_trichotomy i j with h | h | h
    · exact absurd h1 (dne j hj i h d h2)
    · exact h
    · exact absurd h2 (dne i hi j h d h1)
  have look : ∀ i o, i < ops.size → ops[i]? = some o → ∀ j want, o.guard = some (j, want) → j < ops.size ∧ waitsFor o j = true ∧ ∃ d, dstAt ops j = some d := fun i o hi ho j want hgd => by
    have h := c3 i hi
    rw [ho] at h
    simp only [Option.map_some, Option.getD_some, hgd, Bool.and_eq_true, decide_eq_true_eq] at h
    exact ⟨h.1.1, h.1.2, Option.isSome_iff_exists.1 h.2⟩
  clear c1 c2 c3
  have main : ∀ m listed a x w, count listed ops.size = m → InvP ops ops.size Φ V U rig ph a0 listed a x w → wpAny P .any ops Q m listed a w := by
    intro m
    induction m with
    | zero =>
      intro listed a x w hm0 I
      have hl : listed = Array.replicate ops.size true := by
        apply Array.ext_getElem?
        intro k
        by_cases hk : k < ops.size
        · have hks : k < listed.size := by rw [I.size]; exact hk
          rw [Array.getElem?_eq_getElem hks, Array.getElem?_replicate, if_pos hk]
          have e : listed.getD k false = listed[k] := by simp [Array.getD, hks]
          rw [← e, count_zero listed _ hm0 k hk]
        · rw [Array.getElem?_eq_none (by rw [I.size]; omega), Array.getElem?_replicate, if_neg hk]
      have hwc : (wildCount U ops.size fun i => listed.getD i false) = wildCount U ops.size fun _ => true := wildCount_congr fun i hi _ => count_zero listed _ hm0 i hi
      have ha : a = puts ops x ops.size a0 := by
        obtain ⟨p1, p2, p3, p4⟩ := puts_get x a0 ops.size dne dlt
        have ht : a.tmps = (puts ops x ops.size a0).tmps := by
          apply Array.ext_getElem?
          intro k
          by_cases hk : ∃ i, i < ops.size ∧ dstAt ops i = some k
          · obtain ⟨i, hi, hd⟩ := hk
            rw [(I.at_ i hi (count_zero listed _ hm0 i hi)).2 k hd, p3 i hi k hd]
          · rw [I.out k fun i hi _ hd => hk ⟨i, hi, hd⟩, p4 k fun i hi hd => hk ⟨i, hi, hd⟩]
        have hd : a.defers = (puts ops x ops.size a0).defers := I.defers.trans p1.symm
        generalize puts ops x ops.size a0 = b at *
        cases a; cases b; simp only at ht hd; subst ht hd; rfl
      have hat := fun i hi => (I.at_ i hi (count_zero listed _ hm0 i hi)).1
      have hrel := I.rel
      rw [hwc] at hat hrel
      rw [hl, ha]
      refine wpAny_of_held _ _ _ _ (S := fun _ => True) ?_
      exact hrest x w hrel hat
    | succ m ih =>
      intro listed a x w hm1 I
      have hgd : ∀ k, k < ops.size → listed.getD k true = listed.getD k false := fun k hk => by simp [Array.getD, show k < listed.size by rw [I.size]; exact hk]
      refine ⟨fun hr => ?_, fun i hi => ?_⟩
      · exfalso
        obtain ⟨i, hio, hif, hbelow⟩ := count_pos listed _ m hm1
        have : i ∈ Region.ready .any ops listed := mem_ready.2 ⟨by rw [hgd i hio]; exact hif, ops[i], Array.getElem?_eq_getElem hio, fun e he hb => hbelow e.on (back i _ (Array.getElem?_eq_getElem hio) e he hb)⟩
        rw [hr] at this
        cases this
      · obtain ⟨hun, o, ho, hall⟩ := mem_ready.1 hi
        have hio : i < ops.size := (Array.getElem?_eq_some_iff.1 ho).1
        have hif : listed.getD i false = false := by rw [← hgd i hio]; exact hun
        have hilt : i < listed.size := by rw [I.size]; exact hio
        have hdo : dstAt ops i = o.dst := by simp [dstAt, ho]
        -- the phase
        have hphase : ∀ p, ph i = some p → (wildCount U ops.size fun k => listed.getD k false) = p := fun p hp => by
          have h := hph i hio
          rw [hp] at h
          simp only [Bool.and_eq_true, beq_iff_eq, List.all_eq_true, List.mem_range, Bool.or_eq_true, Bool.not_eq_true'] at h
          obtain ⟨hc, hu⟩ := h
          rw [← hc]
          refine wildCount_congr fun u hul hwild => ?_
          have h2 := hu u hul
          by_cases hui : u = i
          · subst hui; rw [hif]; simp
          · have hne : (u != i) = true := bne_iff_ne.2 hui
            rw [hne, Bool.true_and]
            cases hanc : (ancOf ops i).getD u false with
            | true =>
              have hL : ∀ k, ((Array.replicate ops.size false).setIfInBounds i true).getD k false = true → k = i ∨ listed.getD k false = true := fun k hk => by
                rw [getD_set _ _ _ (by simpa using hio)] at hk
                by_cases hik : i = k
                · exact .inl hik.symm
                · rw [if_neg hik] at hk
                  simp [Array.getD] at hk
              have hcl : ∀ k o', ops[k]? = some o' → (k = i ∨ listed.getD k false = true) → ∀ e ∈ o'.after, Region.binds .any e = true → (e.on = i ∨ listed.getD e.on false = true) := fun k o' ho' hk e he hb => by
                rcases hk with rfl | hk
                · rw [ho] at ho'; injection ho' with ho'; subst ho'
                  exact .inr (hall e he hb)
                · exact .inr (I.closed k o' ho' hk e he hb)
              have := anc_sound (L := fun k => k = i ∨ listed.getD k false = true) hcl _ _ hL u hanc
              rcases this with h | h
              · exact absurd h hui
              · exact h
            | false =>
              rw [hwild, hanc] at h2
              have hju : (ancOf ops u).getD i false = true := by
                rcases h2 with ((h | h) | h) | h
                · cases h
                · cases h
                · exact absurd h hui
                · exact h
              cases hlu : listed.getD u false with
              | false => rfl
              | true =>
                have hL : ∀ k, ((Array.replicate ops.size false).setIfInBounds u true).getD k false = true → listed.getD k false = true := fun k hk => by
                  rw [getD_set _ _ _ (by simpa using hul)] at hk
                  by_cases hik : u = k
                  · subst hik; exact hlu
                  · rw [if_neg hik] at hk
                    simp [Array.getD] at hk
                have := anc_sound (L := fun k => listed.getD k false = true) I.closed _ _ hL i hju
                rw [hif] at this; cases this
        have next : ∀ v w', (match ph i with | none => w' = w | some p => if U i && G i then Φ (p + 1) w' else K w w' ∨ w' = w) → (U i = true → G i = true ∧ (ph i).isSome = true) → V i v w' → InvP ops ops.size Φ V U rig ph a0 (listed.setIfInBounds i true) (a.put o.dst v) (fun k => if k = i then v else x k) w' := by
          intro v w' hR hUG hV
          have hcnt : (wildCount U ops.size fun k => (listed.setIfInBounds i true).getD k false) = (wildCount U ops.size fun k => listed.getD k false) + if U i then 1 else 0 := by
            cases hu : U i with
            | true =>
              rw [if_pos rfl]
              exact wildCount_step (j := i) hif (by rw [getD_set _ _ _ hilt, if_pos rfl]) hu (fun k hk => by rw [getD_set _ _ _ hilt, if_neg (fun e => hk e.symm)]) _ hio
            | false =>
              rw [if_neg (by decide), Nat.add_zero]
              exact wildCount_same hu (fun k hk => by rw [getD_set _ _ _ hilt, if_neg (fun e => hk e.symm)]) _
          have hmild : U i = false → K w w' ∨ w' = w := fun hu => by
            revert hR
            cases hp : ph i with
            | none => exact fun h => .inr h
            | some p => intro h; simp only [hu, Bool.false_and] at h; simpa using h
          have hsoft : ∀ k, k < ops.size → listed.getD k false = true → k ≠ i → (rig k = true ∨ phAfter U ph k = some (wildCount U ops.size fun k => (listed.setIfInBounds i true).getD k false)) → V k (x k) w' := fun k hk hkl hki hor => by
            have hle := I.le k hk hkl
            rcases hor with h | h
            · exact hrig k hk h _ _ _ ((I.at_ k hk hkl).1 (.inl h))
            · cases hu : U i with
              | true =>
                rw [hcnt, hu, if_pos rfl] at h
                have := hle _ h
                omega
              | false =>
                rw [hcnt, hu, if_neg (by decide), Nat.add_zero] at h
                have h1 := (I.at_ k hk hkl).1 (.inr h)
                rcases hmild hu with h2 | h2
                · exact hKV k hk _ _ _ h1 h2
                · rw [h2]; exact h1
          refine ⟨by simp [I.size], fun k o' ho' hk e he hb => ?_, ?_, fun k hk hkl q hq => ?_, ?_, ?_, fun k hk hkl => ?_, fun k hk => ?_⟩
          · rw [getD_set _ _ _ hilt] at hk ⊢
            by_cases hei : i = e.on
            · rw [if_pos hei]
            · rw [if_neg hei]
              by_cases hik : i = k
              · subst hik
                rw [ho] at ho'; injection ho' with ho'; subst ho'
                exact hall e he hb
              · rw [if_neg hik] at hk
                exact I.closed k o' ho' hk e he hb
          · rw [hcnt]
            cases hu : U i with
            | true =>
              obtain ⟨hGi, hps⟩ := hUG hu
              obtain ⟨p, hp⟩ := Option.isSome_iff_exists.1 hps
              rw [hp] at hR
              simp only [hu, hGi, Bool.and_self, if_true] at hR
              rw [hphase p hp]
              exact hR
            | false =>
              rw [if_neg (by decide), Nat.add_zero]
              rcases hmild hu with h | h
              · exact hKΦ _ _ _ I.rel h
              · rw [h]; exact I.rel
          · rw [hcnt]
            rw [getD_set _ _ _ hilt] at hkl
            by_cases hki : k = i
            · subst hki
              unfold phAfter at hq
              obtain ⟨p, hp, hq⟩ := Option.map_eq_some_iff.1 hq
              rw [hphase p hp, ← hq]
              cases U k <;> simp
            · rw [if_neg (fun e => hki e.symm)] at hkl
              have := I.le k hk hkl q hq
              omega
          · cases hd : o.dst <;> simp [Act.put, I.defers]
          · cases hd : o.dst <;> simp [Act.put, I.tsize]
          · rw [getD_set _ _ _ hilt] at hkl
            by_cases hki : k = i
            · subst hki
              refine ⟨fun _ => by rw [if_pos rfl]; exact hV, fun d hd => ?_⟩
              rw [if_pos rfl]
              have hlt := dlt k hio d hd
              rw [hdo] at hd
              simp [Act.put, hd, I.tsize, hlt]
            · rw [if_neg (fun e => hki e.symm)] at hkl
              refine ⟨fun hor => by rw [if_neg hki]; exact hsoft k hk hkl hki hor, fun d hd => ?_⟩
              rw [if_neg hki]
              have h2 := (I.at_ k hk hkl).2
              cases hd2 : o.dst with
              | none => simp only [Act.put]; exact h2 d hd
              | some di =>
                have hne : di ≠ d := fun e => hki (dinj k i d hk hio hd (by rw [hdo, hd2, e]))
                simp only [Act.put]
                rw [Array.getElem?_setIfInBounds_ne hne]
                exact h2 d hd
          · have hki := hk i hio (by rw [getD_set _ _ _ hilt, if_pos rfl])
            have hout := I.out k fun j hj hl => hk j hj (by rw [getD_set _ _ _ hilt]; split <;> simp_all)
            cases hd2 : o.dst with
            | none => simp only [Act.put]; exact hout
            | some di =>
              have hne : di ≠ k := fun e => hki (by rw [hdo, hd2, e])
              simp only [Act.put]
              rw [Array.getElem?_setIfInBounds_ne hne]
              exact hout
        have hcount : count (listed.setIfInBounds i true) ops.size = m := by have := count_set listed i hilt hif ops.size hio; omega
        have waits : ∀ j, waitsFor o j = true → listed.getD j false = true := fun j hwj => by
          unfold waitsFor at hwj
          rw [Array.any_eq_true] at hwj
          obtain ⟨k, hk, he⟩ := hwj
          simp only [Bool.and_eq_true, beq_iff_eq] at he
          have hl := hall o.after[k] (Array.getElem_mem hk) he.1
          rw [he.2] at hl
          exact hl
        have known : KnownP ops ops.size V U rig ph (ph i) a x w o := fun j hwj hj => by
          obtain ⟨h1, h2⟩ := I.at_ j hj (waits j hwj)
          refine ⟨fun hor => h1 ?_, h2⟩
          rcases hor with h | ⟨hs1, h⟩
          · exact .inl h
          · obtain ⟨p, hp⟩ := Option.isSome_iff_exists.1 hs1
            rw [hphase p hp, ← hp]
            exact .inr h
        have outer : ∀ t, noDstF ops ops.size i t = true → a.tmps[t]? = a0.tmps[t]? := fun t ht => by
          unfold noDstF at ht
          simp only [List.all_eq_true, List.mem_range] at ht
          refine I.out t fun j hj hlj hd => ?_
          have h2 := ht j hj
          rw [hd] at h2
          simp only [bne_self_eq_false, Bool.false_or, Bool.and_eq_true] at h2
          have hL : ∀ k, ((Array.replicate ops.size false).setIfInBounds j true).getD k false = true → listed.getD k false = true := fun k hk => by
            rw [getD_set _ _ _ (by simpa using hj)] at hk
            by_cases hjk : j = k
            · subst hjk; exact hlj
            · rw [if_neg hjk] at hk
              simp [Array.getD] at hk
          have h3 := anc_sound (L := fun k => listed.getD k false = true) I.closed _ _ hL i h2.2
          rw [hif] at h3; cases h3
        have step := hs i o ho hio a x w outer known
        have hwant : Region.wanted o (yielded ops a.tmps) = G i := by
          have hgi := hg i o ho hio
          unfold GuardP at hgi
          unfold Region.wanted
          cases hgd2 : o.guard with
          | none => rw [hgd2] at hgi; exact hgi.symm
          | some jw =>
            obtain ⟨j, want⟩ := jw
            rw [hgd2] at hgi
            simp only at hgi ⊢
            obtain ⟨hj, hwj, d, hd⟩ := look i o hio ho j want hgd2
            obtain ⟨h1, h2⟩ := I.at_ j hj (waits j hwj)
            have hv := hgi.2 _ _ (h1 (.inl hgi.1))
            have ht := h2 d hd
            rcases hv with hv | ⟨hv, hG0⟩
            · rw [hv] at ht
              unfold dstAt at hd
              simp only [yielded, hd, Option.bind_some, ht]
              cases want <;> cases G i <;> rfl
            · rw [hv] at ht
              unfold dstAt at hd
              simp only [yielded, hd, Option.bind_some, ht]
              rw [hG0]; rfl
        unfold wpOp
        simp only [ho, hwant]
        cases hp : ph i with
        | none =>
          rw [hp] at step
          simp only at step
          have step := step ⟨_, I.rel⟩
          have hU : U i = false := by
            have h := hph i hio
            rw [hp] at h
            simp only [Bool.and_eq_true, Bool.not_eq_true'] at h
            exact h.1
          by_cases hGi : G i = true
          · rw [if_pos hGi] at step ⊢
            exact .inl (step _ _ fun v w' ⟨hR, hV⟩ => ih _ _ _ w' hcount (next v w' (by rw [hp]; exact hR) (fun h => by rw [hU] at h; cases h) hV))
          · rw [if_neg hGi] at step ⊢
            exact ih _ _ _ w hcount (next undef w (by rw [hp]) (fun h => by rw [hU] at h; cases h) step)
        | some p =>
          rw [hp] at step
          simp only at step
          have hΦ : Φ p w := by rw [← hphase p hp]; exact I.rel
          have step := step hΦ
          by_cases hGi : G i = true
          · rw [if_pos hGi] at step ⊢
            refine .inl (step _ _ fun v w' ⟨hR, hV⟩ => ih _ _ _ w' hcount (next v w' ?_ (fun _ => ⟨hGi, by rw [hp]; rfl⟩) hV))
            rw [hp, hGi, Bool.and_true]
            cases hu : U i with
            | true => rw [hu] at hR; simpa using hR
            | false => rw [hu] at hR; simp only [Bool.false_eq_true, if_false] at hR ⊢; exact .inl hR
          · rw [if_neg hGi] at step ⊢
            obtain ⟨hU, hV⟩ := step
            exact ih _ _ _ w hcount (next undef w (by rw [hp, hU]; exact .inr rfl) (fun h => by rw [hU] at h; cases h) hV)
  have hcount : count (Array.replicate ops.size false) ops.size = ops.size := by
    unfold count
    have e : (List.range ops.size).filter (fun i => !(Array.replicate ops.size false).getD i false) = List.range ops.size := by
      refine List.filter_eq_self.2 fun i hi => ?_
      simp [Array.getD]
    rw [e, List.length_range]
  have hz : (wildCount U ops.size fun i => (Array.replicate ops.size false).getD i false) = 0 := by
    unfold wildCount
    have e : (List.range ops.size).filter (fun i => U i && (Array.replicate ops.size false).getD i false) = [] := by
      refine List.filter_eq_nil_iff.2 fun i hi => ?_
      simp [Array.getD]
    rw [e]; rfl
  exact main ops.size (Array.replicate ops.size false) a0 (fun _ => undef) w1 hcount ⟨by simp, fun k o _ hk => by simp [Array.getD] at hk, by rw [hz]; exact h0, fun i _ hl => by simp [Array.getD] at hl, rfl, rfl, fun i _ hl => by simp [Array.getD] at hl, fun k _ => rfl⟩
end
end Go.Proofs.Ytcdcongeogmfkaa

/- The region whose operations change things, with lists of what is known: of the values, of the phases. -/
set_option maxRecDepth 4000
namespace Go.Proofs.Ytcdcongeogmfkaa
open Go Go.RowKit
/- all that there was is as it was -/
def Same (w w' : World) : Prop := Below w.heap.size w w'
theorem Same.refl (w : World) : Same w w := Below.refl _ _
theorem Same.alloc (w : World) (o : Obj) : Same w (w.alloc o) := (Below.refl _ _).alloc (Nat.le_refl _) o
def VOk : List (Value → World → Prop) → List Bool → Prop
  | V :: Vl, true :: rl => (∀ v w w', V v w → V v w') ∧ VOk Vl rl
  | V :: Vl, false :: rl => (∀ v w w', V v w → Same w w' → V v w') ∧ VOk Vl rl
  | [], [] => True
  | _, _ => False
theorem vok_nil : VOk [] [] := trivial
theorem vok_rig {V : Value → World → Prop} {Vl : List (Value → World → Prop)} {rl : List Bool} (h : ∀ v w w', V v w → V v w') (t : VOk Vl rl) : VOk (V :: Vl) (true :: rl) := ⟨h, t⟩
theorem vok_soft {V : Value → World → Prop} {Vl : List (Value → World → Prop)} {rl : List Bool} (h : ∀ v w w', V v w → Same w w' → V v w') (t : VOk Vl rl) : VOk (V :: Vl) (false :: rl) := ⟨h, t⟩
theorem vok_at : ∀ {Vl : List (Value → World → Prop)} {rl : List Bool}, VOk Vl rl → ∀ i, (rl.getD i false = true → ∀ v w w', Vs Vl i v w → Vs Vl i v w') ∧ ∀ v w w', Vs Vl i v w → Same w w' → Vs Vl i v w'
  | [], [], _, i => ⟨fun h => by simp at h, fun _ _ _ _ _ => by unfold Vs; simp [anyV]⟩
  | V :: Vl, true :: rl, h, 0 => ⟨fun _ => h.1, fun v w w' hv _ => h.1 v w w' hv⟩
  | V :: Vl, false :: rl, h, 0 => ⟨fun h => by simp at h, h.1⟩
  | V :: Vl, true :: rl, h, i + 1 => by have := vok_at h.2 i; unfold Vs at *; simpa using this
  | V :: Vl, false :: rl, h, i + 1 => by have := vok_at h.2 i; unfold Vs at *; simpa using this
  | [], _ :: _, h, _ => h.elim
  | _ :: _, [], h, _ => by cases h
def Wl (l : List (World → Prop)) (p : Nat) : World → Prop := l.getD p fun _ => False
def WOk : List (World → Prop) → Prop
  | [] => True
  | F :: l => (∀ w w', F w → Same w w' → F w') ∧ WOk l
theorem wok_nil : WOk [] := trivial
theorem wok_cons {F : World → Prop} {l : List (World → Prop)} (h : ∀ w w', F w → Same w w' → F w') (t : WOk l) : WOk (F :: l) := ⟨h, t⟩
theorem wok_at : ∀ {l : List (World → Prop)}, WOk l → ∀ p w w', Wl l p w → Same w w' → Wl l p w'
  | [], _, p, w, w', h, _ => by unfold Wl at h; simp at h
  | F :: l, h, 0, w, w', hw, k => h.1 w w' hw k
  | F :: l, h, p + 1, w, w', hw, k => by have := wok_at h.2 p w w'; unfold Wl at *; simp only [List.getD_cons_succ] at *; exact this hw k
section
variable {P : Program} {ops : Array Oper} {n : Nat} {K : World → World → Prop} {Φ : Nat → World → Prop} {V : Nat → Value → World → Prop} {G U rig : Nat → Bool} {ph : Nat → Option Nat} {a0 a : Act} {w : World} {x : Nat → Value} {o : Oper} {l : List Oper} {i : Nat} {q : Option Nat}
theorem KnownP.get (hk : KnownP ops n V U rig ph q a x w o) (j d : Nat) (hw : waitsFor o j = true) (hj : j < n) (hd : dstAt ops j = some d) (hor : rig j = true ∨ (q.isSome = true ∧ phAfter U ph j = q)) : ∃ v, a.tmps[d]? = some v ∧ V j v w :=
  ⟨x j, (hk j hw hj).2 d hd, (hk j hw hj).1 hor⟩
theorem KnownP.is (hk : KnownP ops n V U rig ph q a x w o) (j d : Nat) (hw : waitsFor o j = true) (hj : j < n) (hd : dstAt ops j = some d) (hor : rig j = true) (c : Value) (hV : V j = is c) : a.tmps[d]? = some c := by
  obtain ⟨h1, h2⟩ := hk j hw hj
  have h1 := h1 (.inl hor)
  rw [hV] at h1
  rw [h2 d hd]; exact congrArg some h1
theorem allp_pure (hp : ph i = none) (hG : G i = true) (h : ∀ (a : Act) (x : Nat → Value) (w : World), (∀ t, noDstF ops n i t = true → a.tmps[t]? = a0.tmps[t]?) → KnownP ops n V U rig ph none a x w o → Does P o a w (fun v w' => w' = w ∧ V i v w'))
    (t : All (StepP P ops n K Φ V G U rig ph a0) n l (i + 1)) : All (StepP P ops n K Φ V G U rig ph a0) n (o :: l) i :=
  all_cons (fun a x w h1 h2 => by rw [hp] at h2 ⊢; simp only; intro _; rw [if_pos hG]; exact h a x w h1 h2) t
theorem allp_mild (p : Nat) (hp : ph i = some p) (hU : U i = false) (hG : G i = true) (h : ∀ (a : Act) (x : Nat → Value) (w : World), (∀ t, noDstF ops n i t = true → a.tmps[t]? = a0.tmps[t]?) → KnownP ops n V U rig ph (some p) a x w o → Φ p w → Does P o a w (fun v w' => K w w' ∧ V i v w'))
    (t : All (StepP P ops n K Φ V G U rig ph a0) n l (i + 1)) : All (StepP P ops n K Φ V G U rig ph a0) n (o :: l) i :=
  all_cons (fun a x w h1 h2 => by
    rw [hp] at h2 ⊢; simp only; intro hΦ
    rw [if_pos hG, hU]
    intro k q hk
    exact h a x w h1 h2 hΦ k q fun v w' hv => hk v w' ⟨by rw [if_neg (by decide)]; exact hv.1, hv.2⟩) t
theorem allp_wild (p : Nat) (hp : ph i = some p) (hU : U i = true) (hG : G i = true) (h : ∀ (a : Act) (x : Nat → Value) (w : World), (∀ t, noDstF ops n i t = true → a.tmps[t]? = a0.tmps[t]?) → KnownP ops n V U rig ph (some p) a x w o → Φ p w → Does P o a w (fun v w' => Φ (p + 1) w' ∧ V i v w'))
    (t : All (StepP P ops n K Φ V G U rig ph a0) n l (i + 1)) : All (StepP P ops n K Φ V G U rig ph a0) n (o :: l) i :=
  all_cons (fun a x w h1 h2 => by
    rw [hp] at h2 ⊢; simp only; intro hΦ
    rw [if_pos hG, hU]
    intro k q hk
    exact h a x w h1 h2 hΦ k q fun v w' hv => hk v w' ⟨by rw [if_pos rfl]; exact hv.1, hv.2⟩) t
theorem allp_skip (hG : G i = false) (hU : U i = false) (h : ∀ w, V i undef w)
    (t : All (StepP P ops n K Φ V G U rig ph a0) n l (i + 1)) : All (StepP P ops n K Φ V G U rig ph a0) n (o :: l) i :=
  all_cons (fun a x w h1 _ => by
    cases hp : ph i with
    | none => simp only; intro _; rw [if_neg (by rw [hG]; decide)]; exact h w
    | some p => simp only; intro _; rw [if_neg (by rw [hG]; decide)]; exact ⟨hU, h w⟩) t
end
theorem wp_region_phs {P : Program} {Q : Exit → Act → World → Prop} {id : Nat} {l : List Oper} {a0 : Act} {w0 : World} (Vl : List (Value → World → Prop)) (rl : List Bool) (Fl : List (World → Prop)) (Ul : List Bool) (pl : List (Option Nat)) (ds : List (Option Tmp)) (n m : Nat) (G : Nat → Bool)
    (hN : l.length = n) (hds : l.map (·.dst) = ds) (hm : P.follows .mixedOrders = true) (hchk : chk l.toArray n a0.tmps.size = true) (hph : phChk l.toArray n (fun i => Ul.getD i false) (fun i => pl.getD i none) (fun i => rl.getD i false) = true) (hmm : wildCount (fun i => Ul.getD i false) n (fun _ => true) = m)
    (hF : WOk Fl) (hV : VOk Vl rl) (h0 : Wl Fl 0 w0.drew)
    (hguard : All (GuardP (Vs Vl) G (fun i => rl.getD i false)) n l 0) (hstep : All (StepP P l.toArray n Same (Wl Fl) (Vs Vl) G (fun i => Ul.getD i false) (fun i => rl.getD i false) (fun i => pl.getD i none) a0) n l 0)
    (hrest : ∀ (x : Nat → Value) (w : World), Wl Fl m w → (∀ i, i < n → rl.getD i false = true ∨ phAfter (fun i => Ul.getD i false) (fun i => pl.getD i none) i = some m → Vs Vl i (x i) w) → wpAnyH P .any l.toArray Q (fun _ => True) 0 (Array.replicate n true) (putL ds x 0 a0) w) :
    (Code.region id l.toArray true).wp P Q a0 w0 := by
  subst hN hds hmm
  refine wp_region_ph l.length rfl hm hchk hph (fun p w w' => wok_at hF p w w') (fun i _ => (vok_at hV i).2) (fun i _ => (vok_at hV i).1) h0 hguard hstep fun x w h1 h2 => ?_
  have e : puts l.toArray x l.length a0 = putL (l.map (·.dst)) x 0 a0 := by
    have := puts_eq l x a0 l.length (Nat.le_refl _)
    rwa [List.take_of_length_le (by simp)] at this
  rw [e]
  exact hrest x w h1 h2
end Go.Proofs.Ytcdcongeogmfkaa

/- What a call changes when it works on things that were there: a footprint; rows of elements of several cells. No function of the program is named here. -/
set_option maxRecDepth 4000
namespace Go.Proofs.Ytcdcongeogmfkaa
open Go Go.RowKit
/- all blocks but those of F are as they were -/
structure Chg (F : Nat → Prop) (w w' : World) : Prop where
  os : w'.os = w.os
  tape : w'.tape = w.tape
  output : w'.output = w.output
  size : w.heap.size ≤ w'.heap.size
  block : ∀ k, k < w.heap.size → ¬ F k → w'.heap[k]? = w.heap[k]?
section
variable {F F' : Nat → Prop} {a b c w w' : World}
theorem Chg.refl (F : Nat → Prop) (w : World) : Chg F w w := ⟨rfl, rfl, rfl, Nat.le_refl _, fun _ _ _ => rfl⟩
theorem Chg.trans (h : Chg F a b) (k : Chg F' b c) (hF : ∀ i, F' i → F i ∨ a.heap.size ≤ i) : Chg F a c :=
  ⟨k.os.trans h.os, k.tape.trans h.tape, k.output.trans h.output, Nat.le_trans h.size k.size, fun i hi hn => (k.block i (Nat.lt_of_lt_of_le hi h.size) fun hf => by rcases hF i hf with h1 | h1; exact hn h1; omega).trans (h.block i hi hn)⟩
theorem Chg.mono (h : Chg F a b) (hF : ∀ i, F i → F' i ∨ a.heap.size ≤ i) : Chg F' a b := (Chg.refl F' a).trans h hF
theorem Chg.of_below (h : Below w.heap.size w w') : Chg F w w' := ⟨h.os, h.tape, h.output, h.size, fun k hk _ => h.block k hk⟩
theorem Chg.drew (h : Chg F a w) : Chg F a w.drew := ⟨h.os, h.tape, h.output, h.size, h.block⟩
theorem Chg.alloc (h : Chg F a w) (o : Obj) : Chg F a (w.alloc o) := h.trans (F' := fun _ => False) (Chg.of_below ((Below.refl _ _).alloc (Nat.le_refl _) o)) (fun _ h => h.elim)
theorem Chg.setCell (h : Chg F a w) {p : Addr} (hp : F p.block ∨ a.heap.size ≤ p.block) (v : Value) : Chg F a (w.setCell p v) :=
  ⟨h.os, h.tape, h.output, by rw [World.size_setCell]; exact h.size, fun k hk hn => (Below.heap_setCell _ _ _ _ (fun e => by subst e; rcases hp with h1 | h1; exact hn h1; omega)).trans (h.block k hk hn)⟩
theorem Chg.setCells {g : Nat} (hp : F g ∨ a.heap.size ≤ g) : ∀ (vs : List Value) (o : Nat) {w : World}, Chg F a w → Chg F a (w.setCells g o vs)
  | [], _, _, h => h
  | v :: vs, o, _, h => Chg.setCells hp vs (o + 1) (h.setCell (p := ⟨g, o, none⟩) hp v)
theorem Chg.one (w : World) (g o : Nat) (v : Value) : Chg (fun k => k = g) w (w.setCell ⟨g, o, none⟩ v) := (Chg.refl (fun k => k = g) w).setCell (p := ⟨g, o, none⟩) (.inl rfl) v
theorem Chg.below (h : Chg F w w') {B : Nat} (hF : ∀ i, F i → B ≤ i) (hB : B ≤ w.heap.size) : Below B w w' := ⟨h.os, h.tape, h.output, h.size, fun k hk => h.block k (by omega) fun hf => by have := hF k hf; omega⟩
theorem Chg.grown (h : Chg F a w) {row : Option Nat} (hg : w.grownBy w' row) (hr : ∀ k, row = some k → F k ∨ a.heap.size ≤ k) : Chg F a w' :=
  h.trans (F' := fun k => row = some k) ⟨hg.os, hg.tape, hg.output, hg.size, fun k hk hn => hg.block k hk fun e => hn e.symm⟩ hr
theorem Row.chg {g : Nat} {t : TypeId} {cs : Array Value} (h : Row w g t cs) (k : Chg F w w') (hg : ¬ F g) : Row w' g t cs := (k.block g h.lt hg).trans h
theorem own_chg {base e size n : Nat} {v : Value} {xs : List Value} (h : w.ownsRow base e size v n xs) (k : Chg F w w') (hg : ∀ g, v.ownBlock = some g → ¬ F g) : w'.ownsRow base e size v n xs := by
  refine ⟨h.1, ?_⟩
  rcases h.2 with hn | ⟨g, cap, cur, rfl, h2, h3, h4⟩
  · exact .inl hn
  · refine .inr ⟨g, cap, cur, rfl, h2, ?_, h4⟩
    have hlt : g < w.heap.size := (Array.getElem?_eq_some_iff.1 h3).1
    rw [k.block g hlt (hg g rfl)]; exact h3
end
/- rows of elements of several cells -/
def spl {α : Type} (L : List α) (o : Nat) (vs : List α) : List α := L.take o ++ vs ++ L.drop (o + vs.length)
theorem length_spl {α : Type} (L : List α) (o : Nat) (vs : List α) (h : o + vs.length ≤ L.length) : (spl L o vs).length = L.length := by simp [spl]; omega
theorem set_eq_spl {α : Type} (L : List α) (o : Nat) (v : α) (h : o < L.length) : L.set o v = spl L o [v] := by
  rw [spl, List.set_eq_take_append_cons_drop, if_pos h]; simp
theorem spl_cons {α : Type} (L : List α) (o : Nat) (v : α) (vs : List α) (h : o + (vs.length + 1) ≤ L.length) : spl (L.set o v) (o + 1) vs = spl L o (v :: vs) := by
  unfold spl
  rw [List.take_set, List.drop_set_of_lt (by omega), List.length_cons, show o + 1 + vs.length = o + (vs.length + 1) by omega]
  congr 1
  rw [List.take_succ_eq_append_getElem (by omega), List.set_append_right _ _ (by rw [List.length_take]; exact Nat.min_le_left _ _), List.length_take, Nat.min_eq_left (by omega), Nat.sub_self]
  simp
theorem row_setCells {g : Nat} {t : TypeId} : ∀ (vs : List Value) (o : Nat) (w : World) (cs : Array Value), Row w g t cs → o + vs.length ≤ cs.size → Row (w.setCells g o vs) g t (spl cs.toList o vs).toArray
  | [], o, w, cs, h, _ => by
    have e : (spl cs.toList o []).toArray = cs := by simp [spl]
    rw [e]; exact h
  | v :: vs, o, w, cs, h, hl => by
    simp only [List.length_cons] at hl
    have h2 := row_setCells vs (o + 1) _ _ (h.put o v) (by simp; omega)
    rw [Array.toList_setIfInBounds, spl_cons cs.toList o v vs (by simpa using hl)] at h2
    exact h2
theorem flat_get {α : Type} {sz : Nat} : ∀ (l : List (List α)), (∀ c ∈ l, c.length = sz) → ∀ (k j : Nat) (c : List α), l[k]? = some c → j < sz → l.flatten[k * sz + j]? = c[j]?
  | [], _, k, j, c, hk, _ => by simp at hk
  | d :: l, h, 0, j, c, hk, hj => by
    obtain rfl : d = c := by simpa using hk
    have hd := h d (by simp)
    rw [List.flatten_cons, Nat.zero_mul, Nat.zero_add, List.getElem?_append_left (by omega)]
  | d :: l, h, k + 1, j, c, hk, hj => by
    have hd := h d (by simp)
    have ih := flat_get l (fun c hc => h c (by simp [hc])) k j c (by simpa using hk) hj
    have e : (k + 1) * sz + j = d.length + (k * sz + j) := by rw [hd, Nat.succ_mul]; omega
    rw [List.flatten_cons, e, List.getElem?_append_right (by omega), Nat.add_sub_cancel_left]
    exact ih
theorem flat_length {α : Type} {sz : Nat} : ∀ (l : List (List α)), (∀ c ∈ l, c.length = sz) → l.flatten.length = l.length * sz
  | [], _ => by simp
  | d :: l, h => by
    rw [List.flatten_cons, List.length_append, flat_length l (fun c hc => h c (by simp [hc])), h d (by simp), List.length_cons, Nat.succ_mul]; omega
theorem flat_spl {α : Type} {sz : Nat} : ∀ (l : List (List α)), (∀ c ∈ l, c.length = sz) → ∀ (k : Nat) (c : List α), k < l.length → c.length = sz → spl l.flatten (k * sz) c = (l.set k c).flatten
  | [], _, k, c, hk, _ => by simp at hk
  | d :: l, h, 0, c, hk, hc => by
    have hd := h d (by simp)
    simp only [spl, Nat.zero_mul, List.take_zero, List.nil_append, Nat.zero_add, List.flatten_cons, List.set_cons_zero]
    rw [List.drop_append_of_le_length (by omega), hc, ← hd, List.drop_length, List.nil_append]
  | d :: l, h, k + 1, c, hk, hc => by
    have hd := h d (by simp)
    have ih := flat_spl l (fun c hc => h c (by simp [hc])) k c (by simpa using hk) hc
    rw [List.set_cons_succ, List.flatten_cons, List.flatten_cons, ← ih]
    have e : (k + 1) * sz = d.length + k * sz := by rw [hd, Nat.succ_mul]; omega
    unfold spl
    rw [e, List.take_length_add_append, show d.length + k * sz + c.length = d.length + (k * sz + c.length) by omega, List.drop_length_add_append]
    simp
/- an element of an owned row of elements: read and written -/
section
variable {w : World} {base e sz n cap g : Nat} {l : List (List Value)}
theorem own_elem (h : w.ownsRow base e sz (.slice (some ⟨g, 0, none⟩) n cap) n l.flatten) (hl : ∀ c ∈ l, c.length = sz) {k : Nat} {c : List Value} (hk : l[k]? = some c) : w.rangeAt g (k * sz) c := fun j v hv => by
  have hkl := (List.getElem?_eq_some_iff.1 hk).1
  have hc : c.length = sz := hl c (List.mem_of_getElem? hk)
  have hj : j < sz := by have := (List.getElem?_eq_some_iff.1 hv).1; omega
  have hn : l.length * sz = n * sz := by rw [← flat_length l hl]; exact h.1
  have hb : k * sz + j < n * sz := by
    rw [← hn]
    have := Nat.mul_le_mul_right sz (Nat.succ_le_of_lt hkl)
    rw [Nat.succ_mul] at this
    omega
  rw [h.cellAt _ hb, flat_get l hl k j c hk hj]
  exact hv
theorem own_there (h : w.ownsRow base e sz (.slice (some ⟨g, 0, none⟩) n cap) n l.flatten) (hl : ∀ c ∈ l, c.length = sz) {k : Nat} (hk : k < l.length) : w.there g (k * sz) sz := fun j hj => by
  have hr := own_elem h hl (List.getElem?_eq_getElem hk)
  have hc : l[k].length = sz := hl _ (List.getElem_mem hk)
  exact ⟨by rw [hr j _ (List.getElem?_eq_getElem (show j < l[k].length by omega))]; rfl, h.frozenAt _⟩
theorem own_store (h : w.ownsRow base e sz (.slice (some ⟨g, 0, none⟩) n cap) n l.flatten) (hl : ∀ c ∈ l, c.length = sz) {k : Nat} (hk : k < l.length) {c : List Value} (hc : c.length = sz) :
    (w.setCells g (k * sz) c).ownsRow base e sz (.slice (some ⟨g, 0, none⟩) n cap) n (l.set k c).flatten := by
  obtain ⟨h1, h2⟩ := h
  rcases h2 with ⟨h3, _⟩ | ⟨g', cap', cur, h3, h4, h5, h6, h7, h8, h9⟩
  · cases h3
  · injection h3 with h3 _ h3'
    injection h3 with h3
    injection h3 with h3
    subst h3 h3'
    have hll : l.flatten.length = l.length * sz := flat_length l hl
    have hkk : k * sz + sz ≤ l.length * sz := by
      have := Nat.mul_le_mul_right sz (Nat.succ_le_of_lt hk)
      rw [Nat.succ_mul] at this
      omega
    have hnc : n * sz ≤ cur.size := by rw [h8]; exact Nat.mul_le_mul_right sz h6
    have hr := row_setCells c (k * sz) w cur h5 (by omega)
    have hL : cur.toList.length = cur.size := Array.length_toList
    refine ⟨?_, .inr ⟨g, cap, _, rfl, h4, hr, h6, h7, ?_, ?_⟩⟩
    · rw [flat_length (l.set k c) (fun d hd => by rcases List.mem_or_eq_of_mem_set hd with h | h; exact hl d h; rw [h]; exact hc), List.length_set, ← hll]; exact h1
    · rw [List.size_toArray, length_spl cur.toList (k * sz) c (by omega), hL]; exact h8
    · rw [← flat_spl l hl k c hk hc, ← h9]
      unfold spl
      rw [List.take_append, List.take_append, List.take_take, List.length_append, List.length_take, List.take_of_length_le (l := c) (by simp; omega), Nat.min_eq_right (by omega), List.take_take, Nat.min_eq_left (by omega), Nat.min_eq_left (by omega)]
      congr 1
      rw [List.drop_take]
end
/- append: where the slice then lies: where it lay, or in a new block -/
def Where (w : World) (v v' : Value) : Prop := v'.ownBlock = v.ownBlock ∨ ∀ k, v'.ownBlock = some k → w.heap.size ≤ k
theorem Where.cases {w : World} {v v' : Value} (h : Where w v v') {k : Nat} (hk : v'.ownBlock = some k) : v.ownBlock = some k ∨ w.heap.size ≤ k := by
  rcases h with h | h
  · exact .inl (by rw [← h]; exact hk)
  · exact .inr (h k hk)
theorem run_append_where {P : Program} (w : World) (base : Nat) (t ty e : TypeId) (i : TypeInfo) (z : Value) (size bytes : Nat) (ht : P.underlying t = some (.slice e)) (hi : P.info? e = some i) (hz : i.zero = some z)
    (hsize : i.size = size) (hby : i.bytes = bytes) (hzs : z.cells.size = size) (hsz : 0 < size)
    (v : Value) (n : Nat) (xs : List Value) (hown : w.ownsRow base e size v n xs)
    (a : Addr) (m c : Nat) (news : List Value) (hl : news.length = m * size) (hnews : ∀ j u, news[j]? = some u → w.cell? (a.add j) = some u) (h1 : ∀ u ∈ news, u.oneCell' = true)
    (h63 : n + m ≤ maxLen) (hbytes : (n + m) * bytes ≤ 140737488355328) (hbase : base ≤ w.heap.size) :
    ∃ v' w', (Builtin.append_ #[t, t] ty #[v, .slice (some a) m c]).run P w = .ok v' w' ∧ w'.ownsRow base e size v' (n + m) (xs ++ news) ∧ w.grownBy w' v.ownBlock ∧ Where w v v' := by
  obtain ⟨v', w', hr, h2, h3, _⟩ := run_append_own (P := P) w base t ty e i z size bytes ht hi hz hsize hby hzs hsz v n xs hown a m c news hl hnews h1 h63 hbytes hbase
  refine ⟨v', w', hr, h2, h3, ?_⟩
  rcases hown.2 with ⟨rfl, rfl⟩ | ⟨g, cap, cur, rfl, _, _, _, _, _, _⟩
  · obtain rfl : xs = [] := List.eq_nil_of_length_eq_zero (by simpa using hown.1)
    obtain ⟨v2, w2, hr2, h4, _, _⟩ := run_append_own (P := P) w w.heap.size t ty e i z size bytes ht hi hz hsize hby hzs hsz (.slice none 0 0) 0 [] (World.ownsRow_nil _ _ _ _) a m c news hl hnews h1 h63 hbytes (Nat.le_refl _)
    rw [hr] at hr2
    injection hr2 with hr2 _
    subst hr2
    exact .inr fun k hk => (h4.lt k hk).1
  · by_cases hroom : n + m ≤ cap
    · obtain ⟨w2, hr2, _⟩ := run_append_fits (P := P) w base t ty e i size ht hi hsize g n cap xs hown a m c news hl hnews h1 hroom
      rw [hr] at hr2
      injection hr2 with hr2 _
      subst hr2
      exact .inl rfl
    · have hr2 := run_append_grow (P := P) w t ty e i z ht hi hz ⟨g, 0, none⟩ n cap xs (by rw [hsize]; exact hown.1) (hown.cells (g := g) rfl) a m c news (by rw [hsize]; exact hl) hnews (by omega) (by have := h63; simp only [maxLen] at this; omega) (growslice_fits (by omega) (by rw [hby]; exact hbytes))
      rw [hr] at hr2
      injection hr2 with hr2 _
      subst hr2
      refine .inr fun k hk => ?_
      injection hk with hk
      exact Nat.le_of_eq hk
theorem wp_append_where {P : Program} {w : World} {o : Oper} {a : Act} {K : Act → World → Prop} {Q : Exit → Act → World → Prop} (s x : Operand) (t : TypeId)
    (ho : o.op = .call { callee := .builtin .append, args := #[s, x], argTypes := #[t, t] })
    (base : Nat) (e : TypeId) (size bytes : Nat) (z : Value) (ht : P.underlying t = some (.slice e)) (hi : (P.info? e).map (fun i => (i.zero, i.size, i.bytes)) = some (some z, size, bytes)) (hzs : z.cells.size = size) (hsz : 0 < size)
    (v : Value) (n : Nat) (xs : List Value) (hs : a.eval s = v) (hown : w.ownsRow base e size v n xs)
    (ad : Addr) (m c : Nat) (news : List Value) (hx : a.eval x = .slice (some ad) m c) (hl : news.length = m * size) (hnews : ∀ j u, news[j]? = some u → w.cell? (ad.add j) = some u) (h1 : ∀ u ∈ news, u.oneCell' = true)
    (h63 : n + m ≤ maxLen) (hbytes : (n + m) * bytes ≤ 140737488355328) (hbase : base ≤ w.heap.size)
    (h : ∀ v' w', w'.ownsRow base e size v' (n + m) (xs ++ news) → w.grownBy w' v.ownBlock → Where w v v' → K (a.put o.dst v') w') : o.wp P a w K Q := by
  obtain ⟨i, hi1, hz1, hz2, hz3⟩ := info_parts hi
  obtain ⟨v', w', hr, h2, h3, h4⟩ := run_append_where (P := P) w base t o.type e i z size bytes ht hi1 hz1 hz2 hz3 hzs hsz v n xs hown ad m c news hl hnews h1 h63 hbytes hbase
  unfold Oper.wp execOp
  simp only [ho, resolve, invoke, builtin, Sem.run_bind, Sem.run_pure, Result.andThen_ok, List.map_toArray, List.map_cons, List.map_nil, hs, hx, hr]
  exact h v' w' h2 h3 h4
theorem results_cell_tmp {P : Program} {fn : Func} {p u : Tmp} {ty : TypeId} (h : fn.results = #[.cell p ty, .tmp u]) (tmps : Array Value) (w : World) (g : Nat) (t : TypeId) (cs : Array Value) (fr : Nat × Nat) (d : TypeDesc)
    (hp : tmps.getD p undef = .pointer (some ⟨g, 0, none⟩)) (hg : w.heap[g]? = some (.cells cs t fr))
    (hu : P.underlying ty = some d) (hd : (match d with | .struct _ | .array _ _ => true | _ => false) = true) (hi : (P.info? ty).map (·.size) = some cs.size) :
    (results fn tmps).run P w = .ok (.tuple #[.agg cs, tmps.getD u undef]) w := by
  have hp' : tmps[p]?.getD undef = .pointer (some ⟨g, 0, none⟩) := by simpa using hp
  simp [results, h, hp', asAddr, run_loadVar_row w g t ty cs fr d hg hu hd hi]
theorem own_apart {w : World} {base e size n g : Nat} {t : TypeId} {v : Value} {xs : List Value} {cs : Array Value} (h : w.ownsRow base e size v n xs) (r : Row w g t cs) (hne : e ≠ t) : ∀ k, v.ownBlock = some k → k ≠ g := by
  intro k hk e0
  subst e0
  rcases h.2 with ⟨rfl, _⟩ | ⟨g', cap, cur, rfl, _, h3, _⟩
  · cases hk
  · injection hk with hk
    change g' = k at hk
    subst hk
    unfold Row at r
    rw [h3] at r
    injection r with r
    injection r with _ r _
    exact hne r
theorem own_apart2 {w : World} {base base' e e' size size' n n' : Nat} {v v' : Value} {xs xs' : List Value} (h : w.ownsRow base e size v n xs) (h' : w.ownsRow base' e' size' v' n' xs') (hne : e ≠ e') : ∀ k, v.ownBlock = some k → v'.ownBlock ≠ some k := by
  intro k hk hk'
  rcases h'.2 with ⟨rfl, _⟩ | ⟨g', cap, cur, rfl, _, h3, _⟩
  · cases hk'
  · injection hk' with hk'
    change g' = k at hk'
    subst hk'
    exact own_apart h (show Row w g' e' cur from h3) hne g' hk rfl
theorem own_slice_form {w : World} {base e size n : Nat} {v : Value} {xs : List Value} (h : w.ownsRow base e size v n xs) : ∃ A c, v = .slice A n c ∧ n ≤ c := by
  rcases h.2 with ⟨rfl, rfl⟩ | ⟨g, cap, cur, rfl, _, _, h4, _⟩
  · exact ⟨none, 0, rfl, Nat.le_refl _⟩
  · exact ⟨_, cap, rfl, h4⟩
theorem len_bytesV (b : List (BitVec 8)) : (bytesV b).length = b.length := by simp [bytesV]
theorem own_n {w : World} {base e size n m c : Nat} {A : Option Addr} {xs : List Value} (h : w.ownsRow base e size (.slice A n c) m xs) : m = n := by
  rcases h.2 with ⟨e, hn⟩ | ⟨_, _, _, e, _⟩
  · injection e with _ e _; rw [e]; exact hn
  · injection e with _ e _; exact e.symm
end Go.Proofs.Ytcdcongeogmfkaa

/- Copying bytes into a part of a row; a slice of bytes that was just built. No function of the program is named here. -/
set_option maxRecDepth 4000
namespace Go.Proofs.Ytcdcongeogmfkaa
open Go Go.RowKit
theorem wp_copy_any {w : World} {o : Oper} {a : Act} {K : Act → World → Prop} {Q : Exit → Act → World → Prop} (d s : Operand)
    (ho : o.op = .call { callee := .builtin .copy, args := #[d, s], argTypes := #[37, 37] })
    (g off n m : Nat) (hd : a.eval d = .slice (some ⟨g, off, none⟩) n m) (v : Value) (hs : a.eval s = v) (q : List (BitVec 8)) (hq : Slice w v q) (t : TypeId) (cur : Array Value) (hg : Row w g t cur) (hfit : off + q.length ≤ cur.size) (hle : q.length ≤ n)
    (h : ∀ w', Row w' g t (spl cur.toList off (bytesV q)).toArray → w.grownBy w' (some g) → K (a.put o.dst (goInt q.length)) w') : o.wp Try.prog a w K Q := by
  obtain ⟨A, c, rfl, _, h3⟩ := hq
  by_cases hne : q = []
  · subst hne
    have hrun := run_copy_none (P := Try.prog) w 37 37 o.type 5 (some ⟨g, off, none⟩) A n m 0 c Try.underlying37 size_u8 (Nat.zero_min _)
    have e : spl cur.toList off (bytesV []) = cur.toList := by
      show cur.toList.take off ++ [] ++ cur.toList.drop (off + 0) = _
      rw [List.append_nil, Nat.add_zero, List.take_append_drop]
    have := h w (by rw [e]; simpa using hg) (owns_refl w _)
    unfold Oper.wp
    simp [execOp, ho, resolve, invoke, builtin, hd, hs, hrun, Result.andThen]
    exact this
  · obtain ⟨b, o', rfl, hbl, hc⟩ := h3 hne
    have hrun := run_copy_row (P := Try.prog) w 37 37 o.type 5 g off n m ⟨b, o', none⟩ q.length c cur t (bytesV q) Try.underlying37 size_u8 hg (by rw [len_bytesV]; exact (Nat.min_eq_left hle).symm) (by
      intro j u hu
      rw [Addr.add_mid]
      simp only [bytesV, List.getElem?_map, Option.map_eq_some_iff] at hu
      obtain ⟨y, hy, rfl⟩ := hu
      exact hc j y hy) (by rw [len_bytesV]; exact hfit) (one_bytesV q)
    have := h _ (hg.setRow _) (grown_setRow w g (spl cur.toList off (bytesV q)).toArray)
    rw [← len_bytesV q] at this
    unfold Oper.wp
    simp [execOp, ho, resolve, invoke, builtin, hd, hs, hrun, Result.andThen]
    unfold spl at this
    rw [List.append_assoc] at this
    exact this
theorem wpList_copy_any {w : World} {ops : Array Oper} {rest : List Oper} {o : Oper} {a : Act} {Q : Exit → Act → World → Prop} (hgd : o.guard = none) (d s : Operand)
    (ho : o.op = .call { callee := .builtin .copy, args := #[d, s], argTypes := #[37, 37] })
    (g off n m : Nat) (hd : a.eval d = .slice (some ⟨g, off, none⟩) n m) (v : Value) (hs : a.eval s = v) (q : List (BitVec 8)) (hq : Slice w v q) (t : TypeId) (cur : Array Value) (hg : Row w g t cur) (hfit : off + q.length ≤ cur.size) (hle : q.length ≤ n)
    (h : ∀ w', Row w' g t (spl cur.toList off (bytesV q)).toArray → w.grownBy w' (some g) → wpList Try.prog ops Q rest (a.put o.dst (goInt q.length)) w') : wpList Try.prog ops Q (o :: rest) a w :=
  wpList_plain hgd fun _ hK => wp_copy_any d s ho g off n m hd v hs q hq t cur hg hfit hle fun w' h1 h2 => hK _ _ (h w' h1 h2)
/- bytes behind bytes -/
theorem spl_bs (p q : List (BitVec 8)) (off : Nat) : (spl (bs p).toList off (bytesV q)).toArray = bs (spl p off q) := by
  simp [spl, bs, bytesV]
theorem own_built (w : World) (q : List (BitVec 8)) (hq : q.length ≤ maxLen) : (w.alloc (.cells (bs q) 5)).ownsRow w.heap.size 5 1 (.slice (some ⟨w.heap.size, 0, none⟩) q.length q.length) q.length (bytesV q) :=
  ⟨by simp [bytesV], .inr ⟨w.heap.size, q.length, bs q, rfl, Nat.le_refl _, heap_alloc_new w _, Nat.le_refl _, hq, by rw [size_bs, Nat.mul_one], by rw [Nat.mul_one, bs_toList]; exact List.take_of_length_le (by rw [len_bytesV]; exact Nat.le_refl _)⟩⟩
/- a piece of a row of bytes -/
theorem row_piece {w : World} {g c off n : Nat} {t : TypeId} {p : List (BitVec 8)} (h : Row w g t (bs p)) (hn : off + n ≤ p.length) (hc : n ≤ c) : Slice w (.slice (some ⟨g, off, none⟩) n c) ((p.drop off).take n) := by
  have hl : ((p.drop off).take n).length = n := by rw [List.length_take, List.length_drop]; omega
  refine ⟨some ⟨g, off, none⟩, c, by rw [hl], by rw [hl]; exact hc, fun _ => ⟨g, off, rfl, h.lt, fun j x hx => ?_⟩⟩
  have hj : j < n := by have := (List.getElem?_eq_some_iff.1 hx).1; omega
  rw [List.getElem?_take_of_lt hj, List.getElem?_drop] at hx
  exact h.get (by simp [bs, hx])
end Go.Proofs.Ytcdcongeogmfkaa

/- What a walk knows of the memory, as one list of blocks: the operations on memory as steps from list to list, each with a new world. No function of the program is named here. -/
set_option maxRecDepth 4000
namespace Go.Proofs.Ytcdcongeogmfkaa
open Go Go.RowKit
structure Blk where
  g : Nat
  t : TypeId
  cs : Array Value
/- the blocks of R are as said, apart from each other, and may be written; all else that was there at w0, but for F, is as it was -/
structure St (w0 : World) (F : Nat → Prop) (R : List Blk) (w : World) : Prop where
  chg : Chg F w0 w
  rows : ∀ (k : Nat) (r : Blk), R[k]? = some r → Row w r.g r.t r.cs
  apart : ∀ (j k : Nat) (r s : Blk), j ≠ k → R[j]? = some r → R[k]? = some s → r.g ≠ s.g
  own : ∀ (k : Nat) (r : Blk), R[k]? = some r → F r.g ∨ w0.heap.size ≤ r.g
def noF : Nat → Prop := fun _ => False
section
variable {P : Program} {w0 w w' : World} {F : Nat → Prop} {R : List Blk}
theorem St.nil (w0 : World) (F : Nat → Prop) : St w0 F [] w0 := ⟨Chg.refl _ _, fun _ _ h => by simp at h, fun _ _ _ _ _ h => by simp at h, fun _ _ h => by simp at h⟩
theorem St.row (h : St w0 F R w) (k : Nat) {r : Blk} (hk : R[k]? = some r) : Row w r.g r.t r.cs := h.rows k r hk
theorem St.below (h : St w0 noF R w) : Below w0.heap.size w0 w := ⟨h.chg.os, h.chg.tape, h.chg.output, h.chg.size, fun k hk => h.chg.block k hk (fun h => h)⟩
theorem St.same (h : St w0 F R w) (k : Below w.heap.size w w') : St w0 F R w' :=
  ⟨h.chg.trans (F' := fun _ => False) (Chg.of_below k) (fun _ h => h.elim), fun j r hj => (h.rows j r hj).call k, h.apart, h.own⟩
theorem St.drew (h : St w0 F R w) : St w0 F R w.drew := h.same (Below.refl _ _).drew
theorem St.upd (h : St w0 F R w) (k : Nat) {r : Blk} (hk : R[k]? = some r) {cs : Array Value} (hr : Row w' r.g r.t cs) (hg : w.grownBy w' (some r.g)) : St w0 F (R.set k ⟨r.g, r.t, cs⟩) w' := by
  have hlt : k < R.length := (List.getElem?_eq_some_iff.1 hk).1
  have at_ : ∀ (j : Nat) (s : Blk), (R.set k ⟨r.g, r.t, cs⟩)[j]? = some s → (j = k ∧ s = ⟨r.g, r.t, cs⟩) ∨ (j ≠ k ∧ R[j]? = some s) := fun j s hj => by
    by_cases e : j = k
    · subst e
      rw [List.getElem?_set_self hlt] at hj
      exact .inl ⟨rfl, (Option.some.inj hj).symm⟩
    · rw [List.getElem?_set_ne (fun h => e h.symm)] at hj
      exact .inr ⟨e, hj⟩
  refine ⟨h.chg.grown hg (fun g e => by injection e with e; subst e; exact h.own k r hk), fun j s hj => ?_, fun i j s u hij hi hj => ?_, fun j s hj => ?_⟩
  · rcases at_ j s hj with ⟨_, rfl⟩ | ⟨hne, hs⟩
    · exact hr
    · exact (h.rows j s hs).only hg (h.apart j k s r hne hs hk)
  · rcases at_ i s hi with ⟨rfl, rfl⟩ | ⟨hne, hs⟩ <;> rcases at_ j u hj with ⟨rfl, rfl⟩ | ⟨hne', hu⟩
    · exact (hij rfl).elim
    · exact h.apart _ _ r u (fun e => hne' e.symm) hk hu
    · exact h.apart _ _ s r hne hs hk
    · exact h.apart _ _ s u hij hs hu
  · rcases at_ j s hj with ⟨rfl, rfl⟩ | ⟨_, hs⟩
    · exact h.own _ r hk
    · exact h.own j s hs
theorem St.snoc (h : St w0 F R w) (t : TypeId) (cs : Array Value) : St w0 F (R ++ [⟨w.heap.size, t, cs⟩]) (w.alloc (.cells cs t)) := by
  have at_ : ∀ (j : Nat) (s : Blk), (R ++ [(⟨w.heap.size, t, cs⟩ : Blk)])[j]? = some s → (j < R.length ∧ R[j]? = some s) ∨ (j = R.length ∧ s = ⟨w.heap.size, t, cs⟩) := fun j s hj => by
    by_cases e : j < R.length
    · rw [List.getElem?_append_left e] at hj; exact .inl ⟨e, hj⟩
    · rw [List.getElem?_append_right (by omega)] at hj
      have e2 : j - R.length = 0 := by
        rcases Nat.eq_zero_or_pos (j - R.length) with h0 | h0
        · exact h0
        · rw [List.getElem?_eq_none (by simp; omega)] at hj; cases hj
      rw [e2] at hj
      exact .inr ⟨by omega, (Option.some.inj hj).symm⟩
  refine ⟨h.chg.alloc _, fun j s hj => ?_, fun i j s u hij hi hj => ?_, fun j s hj => ?_⟩
  · rcases at_ j s hj with ⟨_, hs⟩ | ⟨_, rfl⟩
    · exact (h.rows j s hs).alloc _
    · exact Row.fresh _ _ _
  · rcases at_ i s hi with ⟨_, hs⟩ | ⟨e1, rfl⟩ <;> rcases at_ j u hj with ⟨_, hu⟩ | ⟨e2, rfl⟩
    · exact h.apart _ _ _ _ hij hs hu
    · have := (h.rows i s hs).lt; show s.g ≠ w.heap.size; omega
    · have := (h.rows j u hu).lt; show w.heap.size ≠ u.g; omega
    · omega
  · rcases at_ j s hj with ⟨_, hs⟩ | ⟨_, rfl⟩
    · exact h.own j s hs
    · exact .inr h.chg.size
/- cells of a row -/
theorem Row.slab {g : Nat} {t : TypeId} {cs : Array Value} (h : Row w g t cs) (o : Nat) (L : List Value) (hL : (cs.toList.drop o).take L.length = L) : w.rangeAt g o L := fun j v hv => by
  have hj := (List.getElem?_eq_some_iff.1 hv).1
  rw [h.cell, ← Array.getElem?_toList]
  rw [← hL, List.getElem?_take_of_lt hj, List.getElem?_drop] at hv
  exact hv
theorem run_storeVar_at (w : World) (g o : Nat) (t ty : TypeId) (cur : Array Value) (v : Value) (hg : Row w g t cur) (hi : (P.info? ty).map (·.size) = some v.cells.size) (ho : o + v.cells.size ≤ cur.size) (h1 : v.cells.all (·.oneCell') = true) :
    (storeVar ty ⟨g, o, none⟩ v).run P w = .ok () (w.setRow g (spl cur.toList o v.cells.toList).toArray) := by
  have := run_storeCells_at P g o t v.cells.toList 0 cur w hg (by simpa using ho) (fun x hx => (Array.all_eq_true_iff_forall_mem.1 h1) x (by simpa using hx))
  cases hq : P.info? ty with
  | none => simp [hq] at hi
  | some i =>
    have hs : v.cells.size = i.size := by simp [hq] at hi; omega
    simp [storeVar, sizeOf, typeInfo, hq, hs, this, spl]
section
variable {o : Oper} {a : Act} {K : Act → World → Prop} {Q : Exit → Act → World → Prop}
theorem wp_st_alloc (hS : St w0 F R w) (e : TypeId) (cs : Array Value) (ho : o.op = .alloc e) (z : Value) (hz : (P.info? e).bind (·.zero) = some z) (hc : z.cells = cs)
    (h : ∀ g w', St w0 F (R ++ [⟨g, e, cs⟩]) w' → K (a.put o.dst (.pointer (some ⟨g, 0, none⟩))) w') : o.wp P a w K Q := by
  cases hq : P.info? e with
  | none => simp [hq] at hz
  | some i =>
    have hi : i.zero = some z := by simpa [hq] using hz
    have hrun : (Instr.alloc e true (.tuple #[])).run P w = .ok (.pointer (some ⟨w.heap.size, 0, none⟩)) (w.alloc (.cells cs e)) := by
      simp [Instr.alloc, zeroValue, typeInfo, hq, hi, newVar, newRow, hc]
    unfold Oper.wp execOp
    simp [ho, hrun]
    exact h _ _ (hS.snoc e cs)
theorem wp_st_box (hS : St w0 F R w) (e : TypeId) (x : Operand) (ho : o.op = .box e x) (v : Value) (hx : a.eval x = v) (cs : Array Value) (hc : v.cells = cs)
    (h : ∀ g w', St w0 F (R ++ [⟨g, e, cs⟩]) w' → K (a.put o.dst (.pointer (some ⟨g, 0, none⟩))) w') : o.wp P a w K Q := by
  have hrun : (Instr.box e v).run P w = .ok (.pointer (some ⟨w.heap.size, 0, none⟩)) (w.alloc (.cells cs e)) := by
    simp [Instr.box, newVar, newRow, hc]
  unfold Oper.wp execOp
  simp [ho, hx, hrun]
  exact h _ _ (hS.snoc e cs)
/- one cell -/
theorem wp_st_get (hS : St w0 F R w) (k i : Nat) (ty : TypeId) (x : Operand) (ho : o.op = .load ty x) {r : Blk} (hk : R[k]? = some r) (hx : a.eval x = .pointer (some ⟨r.g, i, none⟩)) (v : Value) (hv : r.cs[i]? = some v) (d : TypeDesc) (hu : P.underlying ty = some d) (hd : d.isRow = false)
    (h : K (a.put o.dst v) w) : o.wp P a w K Q := by
  have hc : w.cell? ⟨r.g, i, none⟩ = some v := (hS.row k hk).get hv
  have hagg : (isAgg ty).run P w = .ok false w := by
    unfold isAgg
    rw [Sem.run_bind, run_underlying hu w]
    cases d <;> simp_all
  have hrun : (Instr.loadAt ty (.pointer (some ⟨r.g, i, none⟩))).run P w = .ok v w := by
    simp [Instr.loadAt, Instr.sureAddr, loadVar, Sem.run_bind, hagg, hc]
  unfold Oper.wp execOp
  simp [ho, hx, hrun]
  exact h
/- several cells -/
theorem wp_st_load (hS : St w0 F R w) (k i : Nat) (ty : TypeId) (x : Operand) (ho : o.op = .load ty x) {r : Blk} (hk : R[k]? = some r) (hx : a.eval x = .pointer (some ⟨r.g, i, none⟩)) (cs : Array Value) (hv : (r.cs.toList.drop i).take cs.size = cs.toList) (d : TypeDesc) (hu : P.underlying ty = some d) (hd : d.isRow = true) (hi : (P.info? ty).map (·.size) = some cs.size)
    (h : K (a.put o.dst (.agg cs)) w) : o.wp P a w K Q :=
  wp_load_mid ty x ho r.g i hx cs.toList d ((hS.row k hk).slab i cs.toList (by simpa using hv)) hu hd (by simpa using hi) (by simpa using h)
theorem wp_st_store (hS : St w0 F R w) (k i : Nat) (ty : TypeId) (x y : Operand) (ho : o.op = .store ty x y) {r : Blk} (hk : R[k]? = some r) (hx : a.eval x = .pointer (some ⟨r.g, i, none⟩)) (v : Value) (hy : a.eval y = v) (hi : (P.info? ty).map (·.size) = some v.cells.size) (hfit : i + v.cells.size ≤ r.cs.size) (h1 : v.cells.all (·.oneCell') = true)
    (cs : Array Value) (hcs : (spl r.cs.toList i v.cells.toList).toArray = cs)
    (h : ∀ w', St w0 F (R.set k ⟨r.g, r.t, cs⟩) w' → K (a.put o.dst undef) w') : o.wp P a w K Q := by
  have hrun := run_storeVar_at (P := P) w r.g i r.t ty r.cs v (hS.row k hk) hi hfit h1
  unfold Oper.wp execOp
  simp [ho, hx, hy, Instr.storeAt, Instr.sureAddr, hrun]
  rw [hcs]
  exact h _ (hS.upd k hk ((hS.row k hk).setRow cs) (grown_setRow w r.g cs))
end
/- at the list of a plain region's operations -/
section
variable {ops : Array Oper} {rest : List Oper} {o : Oper} {a : Act} {Q : Exit → Act → World → Prop}
end
/- the whole of a row, or a part -/
theorem slab_whole (cs : Array Value) : (cs.toList.drop 0).take cs.size = cs.toList := by rw [List.drop_zero]; exact List.take_of_length_le (by simp)
theorem spl_whole (cur cs : Array Value) (h : cur.size = cs.size) : (spl cur.toList 0 cs.toList).toArray = cs := by
  unfold spl
  rw [List.take_zero, List.nil_append, Nat.zero_add, List.drop_of_length_le (by simp [h]), List.append_nil]
theorem spl_agg (cur cs cs' : Array Value) (e : cs = cs') (h : cur.size = cs.size) : (spl cur.toList 0 (Value.agg cs).cells.toList).toArray = cs' := by
  rw [← e]; exact spl_whole cur cs h
theorem spl_at (cur : Array Value) (i : Nat) (v : Value) (h : i < cur.size) : (spl cur.toList i [v]).toArray = cur.setIfInBounds i v := by
  rw [← set_eq_spl _ _ _ (by simpa using h)]
  apply Array.ext'
  simp
theorem wp_st_put {o : Oper} {a : Act} {K : Act → World → Prop} {Q : Exit → Act → World → Prop} (hS : St w0 F R w) (k i : Nat) (ty : TypeId) (x y : Operand) (ho : o.op = .store ty x y) {r : Blk} (hk : R[k]? = some r) (hx : a.eval x = .pointer (some ⟨r.g, i, none⟩)) (v : Value) (hy : a.eval y = v) (hi : (P.info? ty).map (·.size) = some 1) (hv : v.cells = #[v]) (h1 : v.oneCell' = true) (hfit : i < r.cs.size)
    (cs : Array Value) (hcs : r.cs.setIfInBounds i v = cs)
    (h : ∀ w', St w0 F (R.set k ⟨r.g, r.t, cs⟩) w' → K (a.put o.dst undef) w') : o.wp P a w K Q :=
  wp_st_store hS k i ty x y ho hk hx v hy (by rw [hv]; exact hi) (by rw [hv]; exact hfit) (by rw [hv]; simp [h1]) cs (by rw [hv, ← hcs]; exact spl_at r.cs i v hfit) h
end
end Go.Proofs.Ytcdcongeogmfkaa

/- Blocks that come to a list of blocks. No function of the program is named here. -/
set_option maxRecDepth 4000
namespace Go.Proofs.Ytcdcongeogmfkaa
open Go Go.RowKit
section
variable {w0 W W' : World} {F : Nat → Prop} {R : List Blk}
theorem St.join (h : St w0 F R W) {g : Nat} {t : TypeId} {cs : Array Value} (hr : Row W g t cs) (hg : w0.heap.size ≤ g) (hne : ∀ b ∈ R, b.g ≠ g) : St w0 F (R ++ [⟨g, t, cs⟩]) W := by
  have at_ : ∀ (j : Nat) (s : Blk), (R ++ [(⟨g, t, cs⟩ : Blk)])[j]? = some s → (j < R.length ∧ R[j]? = some s) ∨ (j = R.length ∧ s = ⟨g, t, cs⟩) := fun j s hj => by
    by_cases e : j < R.length
    · rw [List.getElem?_append_left e] at hj; exact .inl ⟨e, hj⟩
    · rw [List.getElem?_append_right (by omega)] at hj
      have e2 : j - R.length = 0 := by
        rcases Nat.eq_zero_or_pos (j - R.length) with h0 | h0
        · exact h0
        · rw [List.getElem?_eq_none (by simp; omega)] at hj; cases hj
      rw [e2] at hj
      exact .inr ⟨by omega, (Option.some.inj hj).symm⟩
  refine ⟨h.chg, fun j s hj => ?_, fun i j s u hij hi hj => ?_, fun j s hj => ?_⟩
  · rcases at_ j s hj with ⟨_, hk⟩ | ⟨_, rfl⟩
    · exact h.rows j s hk
    · exact hr
  · rcases at_ i s hi with ⟨_, hk⟩ | ⟨e1, rfl⟩ <;> rcases at_ j u hj with ⟨_, hu⟩ | ⟨e2, rfl⟩
    · exact h.apart _ _ _ _ hij hk hu
    · exact hne s (List.mem_of_getElem? hk)
    · exact fun e => hne u (List.mem_of_getElem? hu) e.symm
    · omega
  · rcases at_ j s hj with ⟨_, hk⟩ | ⟨_, rfl⟩
    · exact h.own j s hk
    · exact .inr hg
/- a block that is none of the list's changes -/
theorem St.far (h : St w0 F R W) {g : Nat} (k : W.grownBy W' (some g)) (hg : w0.heap.size ≤ g) (hne : ∀ b ∈ R, b.g ≠ g) : St w0 F R W' :=
  ⟨h.chg.grown k (fun j e => by cases e; exact .inr hg), fun j r hj => (h.rows j r hj).only k (hne r (List.mem_of_getElem? hj)), h.apart, h.own⟩
theorem St.lt (h : St w0 F R W) {b : Blk} (hb : b ∈ R) : b.g < W.heap.size := by
  obtain ⟨k, hk⟩ := List.getElem?_of_mem hb
  exact (h.rows k b hk).lt
end
theorem row_ne {w : World} {g k : Nat} {t u : TypeId} {cs ds : Array Value} (h : Row w g t cs) (h' : Row w k u ds) (hne : t ≠ u) : g ≠ k := by
  rintro rfl
  have := h.symm.trans h'
  injection this with this
  injection this with _ this _
  exact hne this
end Go.Proofs.Ytcdcongeogmfkaa

/- The same region, with one thing more: an operation may say that its value is an earlier one's (a store names the block that it went to). -/
set_option maxRecDepth 4000
namespace Go.Proofs.Ytcdcongeogmfkaa
open Go Go.RowKit
section
variable {P : Program} {Q : Exit → Act → World → Prop} {ops : Array Oper} {n : Nat} {K : World → World → Prop} {Φ : Nat → World → Prop} {V : Nat → Value → World → Prop} {G U rig : Nat → Bool} {ph : Nat → Option Nat} {a0 : Act} {w1 : World} {al : Nat → Option Nat}
def Al (al : Nat → Option Nat) (i : Nat) (x : Nat → Value) (v : Value) : Prop := ∀ j, al i = some j → v = x j
def alChk (ops : Array Oper) (n : Nat) (al : Nat → Option Nat) : Bool := (List.range n).all fun i => match al i, ops[i]? with
  | some j, some o => decide (j < n) && waitsFor o j
  | some _, none => false
  | none, _ => true
def StepPA (P : Program) (ops : Array Oper) (n : Nat) (K : World → World → Prop) (Φ : Nat → World → Prop) (V : Nat → Value → World → Prop) (G U rig : Nat → Bool) (ph : Nat → Option Nat) (al : Nat → Option Nat) (a0 : Act) (i : Nat) (o : Oper) : Prop :=
  ∀ (a : Act) (x : Nat → Value) (w : World), (∀ t, noDstF ops n i t = true → a.tmps[t]? = a0.tmps[t]?) → KnownP ops n V U rig ph (ph i) a x w o →
    match ph i with
    | none => (∃ p, Φ p w) → if G i then Does P o a w (fun v w' => w' = w ∧ V i v w' ∧ Al al i x v) else V i undef w ∧ Al al i x undef
    | some p => Φ p w → if G i then Does P o a w (fun v w' => (if U i then Φ (p + 1) w' else K w w') ∧ V i v w' ∧ Al al i x v) else U i = false ∧ V i undef w ∧ Al al i x undef
structure InvPA (ops : Array Oper) (n : Nat) (Φ : Nat → World → Prop) (V : Nat → Value → World → Prop) (U rig : Nat → Bool) (ph : Nat → Option Nat) (al : Nat → Option Nat) (a0 : Act) (listed : Array Bool) (a : Act) (x : Nat → Value) (w : World) : Prop where
  size : listed.size = ops.size
  closed : ∀ k o, ops[k]? = some o → listed.getD k false = true → ∀ e ∈ o.after, Region.binds .any e = true → listed.getD e.on false = true
  rel : Φ (wildCount U n fun i => listed.getD i false) w
  le : ∀ i, i < n → listed.getD i false = true → ∀ q, phAfter U ph i = some q → q ≤ wildCount U n fun i => listed.getD i false
  defers : a.defers = a0.defers
  tsize : a.tmps.size = a0.tmps.size
  at_ : ∀ i, i < n → listed.getD i false = true → ((rig i = true ∨ phAfter U ph i = some (wildCount U n fun i => listed.getD i false)) → V i (x i) w) ∧ ∀ d, dstAt ops i = some d → a.tmps[d]? = some (x i)
  out : ∀ k, (∀ i, i < n → listed.getD i false = true → dstAt ops i ≠ some k) → a.tmps[k]? = a0.tmps[k]?
  ali : ∀ i, i < n → listed.getD i false = true → ∀ j, al i = some j → x i = x j
theorem wp_region_pha {id : Nat} {l : List Oper} {w0 : World} (n : Nat) (hn : n = l.length) (hm : P.follows .mixedOrders = true) (hchk : chk l.toArray n a0.tmps.size = true) (hph : phChk l.toArray n U ph rig = true) (hal : alChk l.toArray n al = true)
    (hKΦ : ∀ p w w', Φ p w → K w w' → Φ p w') (hKV : ∀ i, i < n → ∀ v w w', V i v w → K w w' → V i v w') (hrig : ∀ i, i < n → rig i = true → ∀ v w w', V i v w → V i v w')
    (h0 : Φ 0 w0.drew) (hguard : All (GuardP V G rig) n l 0) (hstep : All (StepPA P l.toArray n K Φ V G U rig ph al a0) n l 0)
    (hrest : ∀ (x : Nat → Value) (w : World), Φ (wildCount U n fun _ => true) w → (∀ i, i < n → rig i = true ∨ phAfter U ph i = some (wildCount U n fun _ => true) → V i (x i) w) → (∀ i, i < n → ∀ j, al i = some j → x i = x j) → wpAnyH P .any l.toArray Q (fun _ => True) 0 (Array.replicate l.length true) (puts l.toArray x n a0) w) :
    (Code.region id l.toArray true).wp P Q a0 w0 := by
  refine wp_region_any hm ?_
  change wpAny P .any l.toArray Q l.toArray.size (Array.replicate l.toArray.size false) a0 w0.drew
  have hg0 := fun j o ho hj => all_get hguard j o ho (by simpa using hj)
  have hs0 := fun j o ho hj => all_get hstep j o ho (by simpa using hj)
  clear hguard hstep
  generalize w0.drew = w1 at *
  have hsz : l.toArray.size = l.length := by simp
  have hget : ∀ j o, l.toArray[j]? = some o → l[j]? = some o := fun j o h => (List.getElem?_toArray (xs := l)).symm.trans h
  simp only [Nat.zero_add] at hg0 hs0
  have hg : ∀ j o, l.toArray[j]? = some o → j < n → GuardP V G rig j o := fun j o ho hj => hg0 j o (hget j o ho) hj
  have hs : ∀ j o, l.toArray[j]? = some o → j < n → StepPA P l.toArray n K Φ V G U rig ph al a0 j o := fun j o ho hj => hs0 j o (hget j o ho) hj
  clear hg0 hs0 hget
  rw [← hsz] at hn hrest
  generalize l.toArray = ops at *
  clear hsz
  subst hn
  unfold chk at hchk
  simp only [Bool.and_eq_true, List.all_eq_true, List.mem_range] at hchk
  obtain ⟨⟨⟨⟨_, c1⟩, c2⟩, c3⟩, _⟩ := hchk
  have hal2 : ∀ i o, ops[i]? = some o → ∀ j, al i = some j → j < ops.size ∧ waitsFor o j = true := fun i o ho j hj => by
    have hi := (Array.getElem?_eq_some_iff.1 ho).1
    unfold alChk at hal
    have h := (List.all_eq_true.1 hal) i (List.mem_range.2 hi)
    rw [hj, ho] at h
    simp only [Bool.and_eq_true, decide_eq_true_eq] at h
    exact h
  clear hal
  unfold phChk at hph
  simp only [List.all_eq_true, List.mem_range] at hph
  have back : ∀ i o, ops[i]? = some o → ∀ e ∈ o.after, Region.binds .any e = true → e.on < i := fun i o ho e he hb => by
    have hi := (Array.getElem?_eq_some_iff.1 ho).1
    have h := c1 i hi
    rw [ho] at h
    simp only [Option.map_some, Option.getD_some, Array.all_eq_true_iff_forall_mem] at h
    have := h e he
    simpa [hb] using this
  have dlt : ∀ i, i < ops.size → ∀ d, dstAt ops i = some d → d < a0.tmps.size := fun i hi d hd => by
    have h := c2 i hi
    rw [hd] at h
    simp only [Bool.and_eq_true, decide_eq_true_eq] at h
    exact h.1
  have dne : ∀ i, i < ops.size → ∀ j, j < i → ∀ d, dstAt ops i = some d → dstAt ops j ≠ some d := fun i hi j hj d hd => by
    have h := c2 i hi
    rw [hd] at h
    simp only [Bool.and_eq_true, List.all_eq_true, List.mem_range] at h
    have := h.2 j hj
    simpa using this
  have dinj : ∀ i j d, i < ops.size → j < ops.size → dstAt ops i = some d → dstAt ops j = some d → i = j := fun i j d hi hj h1 h2 => by
    rcases Nat.lt_trichotomy i j with h | h | h
    · exact absurd h1 (dne j hj i h d h2)
    · exact h
    · exact absurd h2 (dne i hi j h d h1)
  have look : ∀ i o, i < ops.size → ops[i]? = some o → ∀ j want, o.guard = some (j, want) → j < ops.size ∧ waitsFor o j = true ∧ ∃ d, dstAt ops j = some d := fun i o hi ho j want hgd => by
    have h := c3 i hi
    rw [ho] at h
    simp only [Option.map_some, Option.getD_some, hgd, Bool.and_eq_true, decide_eq_true_eq] at h
    exact ⟨h.1.1, h.1.2, Option.isSome_iff_exists.1 h.2⟩
  clear c1 c2 c3
  have main : ∀ m listed a x w, count listed ops.size = m → InvPA ops ops.size Φ V U rig ph al a0 listed a x w → wpAny P .any ops Q m listed a w := by
    intro m
    induction m with
    | zero =>
      intro listed a x w hm0 I
      have hl : listed = Array.replicate ops.size true := by
        apply Array.ext_getElem?
        intro k
        by_cases hk : k < ops.size
        · have hks : k < listed.size := by rw [I.size]; exact hk
          rw [Array.getElem?_eq_getElem hks, Array.getElem?_replicate, if_pos hk]
          have e : listed.getD k false = listed[k] := by simp [Array.getD, hks]
          rw [← e, count_zero listed _ hm0 k hk]
        · rw [Array.getElem?_eq_none (by rw [I.size]; omega), Array.getElem?_replicate, if_neg hk]
      have hwc : (wildCount U ops.size fun i => listed.getD i false) = wildCount U ops.size fun _ => true := wildCount_congr fun i hi _ => count_zero listed _ hm0 i hi
      have ha : a = puts ops x ops.size a0 := by
        obtain ⟨p1, p2, p3, p4⟩ := puts_get x a0 ops.size dne dlt
        have ht : a.tmps = (puts ops x ops.size a0).tmps := by
          apply Array.ext_getElem?
          intro k
          by_cases hk : ∃ i, i < ops.size ∧ dstAt ops i = some k
          · obtain ⟨i, hi, hd⟩ := hk
            rw [(I.at_ i hi (count_zero listed _ hm0 i hi)).2 k hd, p3 i hi k hd]
          · rw [I.out k fun i hi _ hd => hk ⟨i, hi, hd⟩, p4 k fun i hi hd => hk ⟨i, hi, hd⟩]
        have hd : a.defers = (puts ops x ops.size a0).defers := I.defers.trans p1.symm
        generalize puts ops x ops.size a0 = b at *
        cases a; cases b; simp only at ht hd; subst ht hd; rfl
      have hat := fun i hi => (I.at_ i hi (count_zero listed _ hm0 i hi)).1
      have hrel := I.rel
      rw [hwc] at hat hrel
      rw [hl, ha]
      refine wpAny_of_held _ _ _ _ (S := fun _ => True) ?_
      exact hrest x w hrel hat fun i hi => I.ali i hi (count_zero listed _ hm0 i hi)
    | succ m ih =>
      intro listed a x w hm1 I
      have hgd : ∀ k, k < ops.size → listed.getD k true = listed.getD k false := fun k hk => by simp [Array.getD, show k < listed.size by rw [I.size]; exact hk]
      refine ⟨fun hr => ?_, fun i hi => ?_⟩
      · exfalso
        obtain ⟨i, hio, hif, hbelow⟩ := count_pos listed _ m hm1
        have : i ∈ Region.ready .any ops listed := mem_ready.2 ⟨by rw [hgd i hio]; exact hif, ops[i], Array.getElem?_eq_getElem hio, fun e he hb => hbelow e.on (back i _ (Array.getElem?_eq_getElem hio) e he hb)⟩
        rw [hr] at this
        cases this
      · obtain ⟨hun, o, ho, hall⟩ := mem_ready.1 hi
        have hio : i < ops.size := (Array.getElem?_eq_some_iff.1 ho).1
        have hif : listed.getD i false = false := by rw [← hgd i hio]; exact hun
        have hilt : i < listed.size := by rw [I.size]; exact hio
        have hdo : dstAt ops i = o.dst := by simp [dstAt, ho]
        -- the phase
        have hphase : ∀ p, ph i = some p → (wildCount U ops.size fun k => listed.getD k false) = p := fun p hp => by
          have h := hph i hio
          rw [hp] at h
          simp only [Bool.and_eq_true, beq_iff_eq, List.all_eq_true, List.mem_range, Bool.or_eq_true, Bool.not_eq_true'] at h
          obtain ⟨hc, hu⟩ := h
          rw [← hc]
          refine wildCount_congr fun u hul hwild => ?_
          have h2 := hu u hul
          by_cases hui : u = i
          · subst hui; rw [hif]; simp
          · have hne : (u != i) = true := bne_iff_ne.2 hui
            rw [hne, Bool.true_and]
            cases hanc : (ancOf ops i).getD u false with
            | true =>
              have hL : ∀ k, ((Array.replicate ops.size false).setIfInBounds i true).getD k false = true → k = i ∨ listed.getD k false = true := fun k hk => by
                rw [getD_set _ _ _ (by simpa using hio)] at hk
                by_cases hik : i = k
                · exact .inl hik.symm
                · rw [if_neg hik] at hk
                  simp [Array.getD] at hk
              have hcl : ∀ k o', ops[k]? = some o' → (k = i ∨ listed.getD k false = true) → ∀ e ∈ o'.after, Region.binds .any e = true → (e.on = i ∨ listed.getD e.on false = true) := fun k o' ho' hk e he hb => by
                rcases hk with rfl | hk
                · rw [ho] at ho'; injection ho' with ho'; subst ho'
                  exact .inr (hall e he hb)
                · exact .inr (I.closed k o' ho' hk e he hb)
              have := anc_sound (L := fun k => k = i ∨ listed.getD k false = true) hcl _ _ hL u hanc
              rcases this with h | h
              · exact absurd h hui
              · exact h
            | false =>
              rw [hwild, hanc] at h2
              have hju : (ancOf ops u).getD i false = true := by
                rcases h2 with ((h | h) | h) | h
                · cases h
                · cases h
                · exact absurd h hui
                · exact h
              cases hlu : listed.getD u false with
              | false => rfl
              | true =>
                have hL : ∀ k, ((Array.replicate ops.size false).setIfInBounds u true).getD k false = true → listed.getD k false = true := fun k hk => by
                  rw [getD_set _ _ _ (by simpa using hul)] at hk
                  by_cases hik : u = k
                  · subst hik; exact hlu
                  · rw [if_neg hik] at hk
                    simp [Array.getD] at hk
                have := anc_sound (L := fun k => listed.getD k false = true) I.closed _ _ hL i hju
                rw [hif] at this; cases this
        have next : ∀ v w', (match ph i with | none => w' = w | some p => if U i && G i then Φ (p + 1) w' else K w w' ∨ w' = w) → (U i = true → G i = true ∧ (ph i).isSome = true) → V i v w' → Al al i x v → InvPA ops ops.size Φ V U rig ph al a0 (listed.setIfInBounds i true) (a.put o.dst v) (fun k => if k = i then v else x k) w' := by
          intro v w' hR hUG hV hA
          have hcnt : (wildCount U ops.size fun k => (listed.setIfInBounds i true).getD k false) = (wildCount U ops.size fun k => listed.getD k false) + if U i then 1 else 0 := by
            cases hu : U i with
            | true =>
              rw [if_pos rfl]
              exact wildCount_step (j := i) hif (by rw [getD_set _ _ _ hilt, if_pos rfl]) hu (fun k hk => by rw [getD_set _ _ _ hilt, if_neg (fun e => hk e.symm)]) _ hio
            | false =>
              rw [if_neg (by decide), Nat.add_zero]
              exact wildCount_same hu (fun k hk => by rw [getD_set _ _ _ hilt, if_neg (fun e => hk e.symm)]) _
          have hmild : U i = false → K w w' ∨ w' = w := fun hu => by
            revert hR
            cases hp : ph i with
            | none => exact fun h => .inr h
            | some p => intro h; simp only [hu, Bool.false_and] at h; simpa using h
          have hsoft : ∀ k, k < ops.size → listed.getD k false = true → k ≠ i → (rig k = true ∨ phAfter U ph k = some (wildCount U ops.size fun k => (listed.setIfInBounds i true).getD k false)) → V k (x k) w' := fun k hk hkl hki hor => by
            have hle := I.le k hk hkl
            rcases hor with h | h
            · exact hrig k hk h _ _ _ ((I.at_ k hk hkl).1 (.inl h))
            · cases hu : U i with
              | true =>
                rw [hcnt, hu, if_pos rfl] at h
                have := hle _ h
                omega
              | false =>
                rw [hcnt, hu, if_neg (by decide), Nat.add_zero] at h
                have h1 := (I.at_ k hk hkl).1 (.inr h)
                rcases hmild hu with h2 | h2
                · exact hKV k hk _ _ _ h1 h2
                · rw [h2]; exact h1
          refine ⟨by simp [I.size], fun k o' ho' hk e he hb => ?_, ?_, fun k hk hkl q hq => ?_, ?_, ?_, fun k hk hkl => ?_, fun k hk => ?_, fun k hk hkl j hj => ?_⟩
          · rw [getD_set _ _ _ hilt] at hk ⊢
            by_cases hei : i = e.on
            · rw [if_pos hei]
            · rw [if_neg hei]
              by_cases hik : i = k
              · subst hik
                rw [ho] at ho'; injection ho' with ho'; subst ho'
                exact hall e he hb
              · rw [if_neg hik] at hk
                exact I.closed k o' ho' hk e he hb
          · rw [hcnt]
            cases hu : U i with
            | true =>
              obtain ⟨hGi, hps⟩ := hUG hu
              obtain ⟨p, hp⟩ := Option.isSome_iff_exists.1 hps
              rw [hp] at hR
              simp only [hu, hGi, Bool.and_self, if_true] at hR
              rw [hphase p hp]
              exact hR
            | false =>
              rw [if_neg (by decide), Nat.add_zero]
              rcases hmild hu with h | h
              · exact hKΦ _ _ _ I.rel h
              · rw [h]; exact I.rel
          · rw [hcnt]
            rw [getD_set _ _ _ hilt] at hkl
            by_cases hki : k = i
            · subst hki
              unfold phAfter at hq
              obtain ⟨p, hp, hq⟩ := Option.map_eq_some_iff.1 hq
              rw [hphase p hp, ← hq]
              cases U k <;> simp
            · rw [if_neg (fun e => hki e.symm)] at hkl
              have := I.le k hk hkl q hq
              omega
          · cases hd : o.dst <;> simp [Act.put, I.defers]
          · cases hd : o.dst <;> simp [Act.put, I.tsize]
          · rw [getD_set _ _ _ hilt] at hkl
            by_cases hki : k = i
            · subst hki
              refine ⟨fun _ => by rw [if_pos rfl]; exact hV, fun d hd => ?_⟩
              rw [if_pos rfl]
              have hlt := dlt k hio d hd
              rw [hdo] at hd
              simp [Act.put, hd, I.tsize, hlt]
            · rw [if_neg (fun e => hki e.symm)] at hkl
              refine ⟨fun hor => by rw [if_neg hki]; exact hsoft k hk hkl hki hor, fun d hd => ?_⟩
              rw [if_neg hki]
              have h2 := (I.at_ k hk hkl).2
              cases hd2 : o.dst with
              | none => simp only [Act.put]; exact h2 d hd
              | some di =>
                have hne : di ≠ d := fun e => hki (dinj k i d hk hio hd (by rw [hdo, hd2, e]))
                simp only [Act.put]
                rw [Array.getElem?_setIfInBounds_ne hne]
                exact h2 d hd
          · have hki := hk i hio (by rw [getD_set _ _ _ hilt, if_pos rfl])
            have hout := I.out k fun j hj hl => hk j hj (by rw [getD_set _ _ _ hilt]; split <;> simp_all)
            cases hd2 : o.dst with
            | none => simp only [Act.put]; exact hout
            | some di =>
              have hne : di ≠ k := fun e => hki (by rw [hdo, hd2, e])
              simp only [Act.put]
              rw [Array.getElem?_setIfInBounds_ne hne]
              exact hout
          · rw [getD_set _ _ _ hilt] at hkl
            have hjl : ∀ o', ops[k]? = some o' → (∀ e ∈ o'.after, Region.binds .any e = true → listed.getD e.on false = true) → listed.getD j false = true := fun o' ho' hcl => by
              have hw := (hal2 k o' ho' j hj).2
              unfold waitsFor at hw
              rw [Array.any_eq_true] at hw
              obtain ⟨t, ht, he⟩ := hw
              simp only [Bool.and_eq_true, beq_iff_eq] at he
              have hl := hcl o'.after[t] (Array.getElem_mem ht) he.1
              rw [he.2] at hl
              exact hl
            by_cases hki : k = i
            · subst hki
              have hji : j ≠ k := fun e => by have := hjl o ho hall; rw [e, hif] at this; cases this
              rw [if_pos rfl, if_neg hji]
              exact hA j hj
            · rw [if_neg (fun e => hki e.symm)] at hkl
              obtain ⟨o', ho'⟩ : ∃ o', ops[k]? = some o' := ⟨_, Array.getElem?_eq_getElem hk⟩
              have hji : j ≠ i := fun e => by have := hjl o' ho' (I.closed k o' ho' hkl); rw [e, hif] at this; cases this
              rw [if_neg hki, if_neg hji]
              exact I.ali k hk hkl j hj
        have hcount : count (listed.setIfInBounds i true) ops.size = m := by have := count_set listed i hilt hif ops.size hio; omega
        have waits : ∀ j, waitsFor o j = true → listed.getD j false = true := fun j hwj => by
          unfold waitsFor at hwj
          rw [Array.any_eq_true] at hwj
          obtain ⟨k, hk, he⟩ := hwj
          simp only [Bool.and_eq_true, beq_iff_eq] at he
          have hl := hall o.after[k] (Array.getElem_mem hk) he.1
          rw [he.2] at hl
          exact hl
        have known : KnownP ops ops.size V U rig ph (ph i) a x w o := fun j hwj hj => by
          obtain ⟨h1, h2⟩ := I.at_ j hj (waits j hwj)
          refine ⟨fun hor => h1 ?_, h2⟩
          rcases hor with h | ⟨hs1, h⟩
          · exact .inl h
          · obtain ⟨p, hp⟩ := Option.isSome_iff_exists.1 hs1
            rw [hphase p hp, ← hp]
            exact .inr h
        have outer : ∀ t, noDstF ops ops.size i t = true → a.tmps[t]? = a0.tmps[t]? := fun t ht => by
          unfold noDstF at ht
          simp only [List.all_eq_true, List.mem_range] at ht
          refine I.out t fun j hj hlj hd => ?_
          have h2 := ht j hj
          rw [hd] at h2
          simp only [bne_self_eq_false, Bool.false_or, Bool.and_eq_true] at h2
          have hL : ∀ k, ((Array.replicate ops.size false).setIfInBounds j true).getD k false = true → listed.getD k false = true := fun k hk => by
            rw [getD_set _ _ _ (by simpa using hj)] at hk
            by_cases hjk : j = k
            · subst hjk; exact hlj
            · rw [if_neg hjk] at hk
              simp [Array.getD] at hk
          have h3 := anc_sound (L := fun k => listed.getD k false = true) I.closed _ _ hL i h2.2
          rw [hif] at h3; cases h3
        have step := hs i o ho hio a x w outer known
        have hwant : Region.wanted o (yielded ops a.tmps) = G i := by
          have hgi := hg i o ho hio
          unfold GuardP at hgi
          unfold Region.wanted
          cases hgd2 : o.guard with
          | none => rw [hgd2] at hgi; exact hgi.symm
          | some jw =>
            obtain ⟨j, want⟩ := jw
            rw [hgd2] at hgi
            simp only at hgi ⊢
            obtain ⟨hj, hwj, d, hd⟩ := look i o hio ho j want hgd2
            obtain ⟨h1, h2⟩ := I.at_ j hj (waits j hwj)
            have hv := hgi.2 _ _ (h1 (.inl hgi.1))
            have ht := h2 d hd
            rcases hv with hv | ⟨hv, hG0⟩
            · rw [hv] at ht
              unfold dstAt at hd
              simp only [yielded, hd, Option.bind_some, ht]
              cases want <;> cases G i <;> rfl
            · rw [hv] at ht
              unfold dstAt at hd
              simp only [yielded, hd, Option.bind_some, ht]
              rw [hG0]; rfl
        unfold wpOp
        simp only [ho, hwant]
        cases hp : ph i with
        | none =>
          rw [hp] at step
          simp only at step
          have step := step ⟨_, I.rel⟩
          have hU : U i = false := by
            have h := hph i hio
            rw [hp] at h
            simp only [Bool.and_eq_true, Bool.not_eq_true'] at h
            exact h.1
          by_cases hGi : G i = true
          · rw [if_pos hGi] at step ⊢
            exact .inl (step _ _ fun v w' ⟨hR, hV, hA⟩ => ih _ _ _ w' hcount (next v w' (by rw [hp]; exact hR) (fun h => by rw [hU] at h; cases h) hV hA))
          · rw [if_neg hGi] at step ⊢
            exact ih _ _ _ w hcount (next undef w (by rw [hp]) (fun h => by rw [hU] at h; cases h) step.1 step.2)
        | some p =>
          rw [hp] at step
          simp only at step
          have hΦ : Φ p w := by rw [← hphase p hp]; exact I.rel
          have step := step hΦ
          by_cases hGi : G i = true
          · rw [if_pos hGi] at step ⊢
            refine .inl (step _ _ fun v w' ⟨hR, hV, hA⟩ => ih _ _ _ w' hcount (next v w' ?_ (fun _ => ⟨hGi, by rw [hp]; rfl⟩) hV hA))
            rw [hp, hGi, Bool.and_true]
            cases hu : U i with
            | true => rw [hu] at hR; simpa using hR
            | false => rw [hu] at hR; simp only [Bool.false_eq_true, if_false] at hR ⊢; exact .inl hR
          · rw [if_neg hGi] at step ⊢
            obtain ⟨hU, hV, hA⟩ := step
            exact ih _ _ _ w hcount (next undef w (by rw [hp, hU]; exact .inr rfl) (fun h => by rw [hU] at h; cases h) hV hA)
  have hcount : count (Array.replicate ops.size false) ops.size = ops.size := by
    unfold count
    have e : (List.range ops.size).filter (fun i => !(Array.replicate ops.size false).getD i false) = List.range ops.size := by
      refine List.filter_eq_self.2 fun i hi => ?_
      simp [Array.getD]
    rw [e, List.length_range]
  have hz : (wildCount U ops.size fun i => (Array.replicate ops.size false).getD i false) = 0 := by
    unfold wildCount
    have e : (List.range ops.size).filter (fun i => U i && (Array.replicate ops.size false).getD i false) = [] := by
      refine List.filter_eq_nil_iff.2 fun i hi => ?_
      simp [Array.getD]
    rw [e]; rfl
  exact main ops.size (Array.replicate ops.size false) a0 (fun _ => undef) w1 hcount ⟨by simp, fun k o _ hk => by simp [Array.getD] at hk, by rw [hz]; exact h0, fun i _ hl => by simp [Array.getD] at hl, rfl, rfl, fun i _ hl => by simp [Array.getD] at hl, fun k _ => rfl, fun i _ hl => by simp [Array.getD] at hl⟩
end
section
variable {P : Program} {ops : Array Oper} {n : Nat} {K : World → World → Prop} {Φ : Nat → World → Prop} {V : Nat → Value → World → Prop} {G U rig : Nat → Bool} {ph : Nat → Option Nat} {a0 a : Act} {w : World} {x : Nat → Value} {o : Oper} {l : List Oper} {i : Nat} {al : Nat → Option Nat}
theorem alla_old (ha : al i = none) (h : StepP P ops n K Φ V G U rig ph a0 i o) (t : All (StepPA P ops n K Φ V G U rig ph al a0) n l (i + 1)) : All (StepPA P ops n K Φ V G U rig ph al a0) n (o :: l) i :=
  all_cons (fun a x w h1 h2 => by
    have hA : ∀ v, Al al i x v := fun v j hj => by rw [ha] at hj; cases hj
    have h3 := h a x w h1 h2
    cases hp : ph i with
    | none =>
      rw [hp] at h3
      simp only at h3 ⊢
      intro hΦ
      have h4 := h3 hΦ
      by_cases hG : G i = true
      · rw [if_pos hG] at h4 ⊢
        intro k q hk
        exact h4 k q fun v w' hv => hk v w' ⟨hv.1, hv.2, hA v⟩
      · rw [if_neg hG] at h4 ⊢
        exact ⟨h4, hA _⟩
    | some p =>
      rw [hp] at h3
      simp only at h3 ⊢
      intro hΦ
      have h4 := h3 hΦ
      by_cases hG : G i = true
      · rw [if_pos hG] at h4 ⊢
        intro k q hk
        exact h4 k q fun v w' hv => hk v w' ⟨hv.1, hv.2, hA v⟩
      · rw [if_neg hG] at h4 ⊢
        exact ⟨h4.1, h4.2, hA _⟩) t
theorem step_pure (hp : ph i = none) (hG : G i = true) (h : ∀ (a : Act) (x : Nat → Value) (w : World), (∀ t, noDstF ops n i t = true → a.tmps[t]? = a0.tmps[t]?) → KnownP ops n V U rig ph none a x w o → Does P o a w (fun v w' => w' = w ∧ V i v w')) : StepP P ops n K Φ V G U rig ph a0 i o :=
  fun a x w h1 h2 => by rw [hp] at h2 ⊢; simp only; intro _; rw [if_pos hG]; exact h a x w h1 h2
theorem step_mild (p : Nat) (hp : ph i = some p) (hU : U i = false) (hG : G i = true) (h : ∀ (a : Act) (x : Nat → Value) (w : World), (∀ t, noDstF ops n i t = true → a.tmps[t]? = a0.tmps[t]?) → KnownP ops n V U rig ph (some p) a x w o → Φ p w → Does P o a w (fun v w' => K w w' ∧ V i v w')) : StepP P ops n K Φ V G U rig ph a0 i o :=
  fun a x w h1 h2 => by
    rw [hp] at h2 ⊢; simp only; intro hΦ
    rw [if_pos hG, hU]
    intro k q hk
    exact h a x w h1 h2 hΦ k q fun v w' hv => hk v w' ⟨by rw [if_neg (by decide)]; exact hv.1, hv.2⟩
theorem alla_wild (p : Nat) (hp : ph i = some p) (hU : U i = true) (hG : G i = true) (h : ∀ (a : Act) (x : Nat → Value) (w : World), (∀ t, noDstF ops n i t = true → a.tmps[t]? = a0.tmps[t]?) → KnownP ops n V U rig ph (some p) a x w o → Φ p w → Does P o a w (fun v w' => Φ (p + 1) w' ∧ V i v w' ∧ Al al i x v))
    (t : All (StepPA P ops n K Φ V G U rig ph al a0) n l (i + 1)) : All (StepPA P ops n K Φ V G U rig ph al a0) n (o :: l) i :=
  all_cons (fun a x w h1 h2 => by
    rw [hp] at h2 ⊢; simp only; intro hΦ
    rw [if_pos hG, hU]
    intro k q hk
    exact h a x w h1 h2 hΦ k q fun v w' hv => hk v w' ⟨by rw [if_pos rfl]; exact hv.1, hv.2⟩) t
theorem al_one {j : Nat} (ha : al i = some j) {v : Value} (h : v = x j) : Al al i x v := fun k hk => by rw [ha] at hk; injection hk with hk; rw [← hk]; exact h
end
theorem wp_region_phas {P : Program} {Q : Exit → Act → World → Prop} {id : Nat} {l : List Oper} {a0 : Act} {w0 : World} (Vl : List (Value → World → Prop)) (rl : List Bool) (Fl : List (World → Prop)) (Ul : List Bool) (pl : List (Option Nat)) (al : List (Option Nat)) (ds : List (Option Tmp)) (n m : Nat) (G : Nat → Bool)
    (hN : l.length = n) (hds : l.map (·.dst) = ds) (hm : P.follows .mixedOrders = true) (hchk : chk l.toArray n a0.tmps.size = true) (hph : phChk l.toArray n (fun i => Ul.getD i false) (fun i => pl.getD i none) (fun i => rl.getD i false) = true) (hal : alChk l.toArray n (fun i => al.getD i none) = true) (hmm : wildCount (fun i => Ul.getD i false) n (fun _ => true) = m)
    (hF : WOk Fl) (hV : VOk Vl rl) (h0 : Wl Fl 0 w0.drew)
    (hguard : All (GuardP (Vs Vl) G (fun i => rl.getD i false)) n l 0) (hstep : All (StepPA P l.toArray n Same (Wl Fl) (Vs Vl) G (fun i => Ul.getD i false) (fun i => rl.getD i false) (fun i => pl.getD i none) (fun i => al.getD i none) a0) n l 0)
    (hrest : ∀ (x : Nat → Value) (w : World), Wl Fl m w → (∀ i, i < n → rl.getD i false = true ∨ phAfter (fun i => Ul.getD i false) (fun i => pl.getD i none) i = some m → Vs Vl i (x i) w) → (∀ i, i < n → ∀ j, al.getD i none = some j → x i = x j) → wpAnyH P .any l.toArray Q (fun _ => True) 0 (Array.replicate n true) (putL ds x 0 a0) w) :
    (Code.region id l.toArray true).wp P Q a0 w0 := by
  subst hN hds hmm
  refine wp_region_pha l.length rfl hm hchk hph hal (fun p w w' => wok_at hF p w w') (fun i _ => (vok_at hV i).2) (fun i _ => (vok_at hV i).1) h0 hguard hstep fun x w h1 h2 h3 => ?_
  have e : puts l.toArray x l.length a0 = putL (l.map (·.dst)) x 0 a0 := by
    have := puts_eq l x a0 l.length (Nat.le_refl _)
    rwa [List.take_of_length_le (by simp)] at this
  rw [e]
  exact hrest x w h1 h2 h3
end Go.Proofs.Ytcdcongeogmfkaa

/- Literals of structs and of slices of structs: their cells, side by side. No function of the program is named here. -/
set_option maxRecDepth 4000
namespace Go.Proofs.Ytcdcongeogmfkaa
open Go Go.RowKit
theorem spl_spl {α : Type} (L : List α) (o : Nat) (a b : List α) (h : o + a.length + b.length ≤ L.length) : spl (spl L o a) (o + a.length) b = spl L o (a ++ b) := by
  unfold spl
  have e1 : (L.take o).length = o := by rw [List.length_take]; omega
  have e2 : (L.take o ++ a).length = o + a.length := by rw [List.length_append, e1]
  rw [← e2, List.take_left, e2, List.length_append, ← List.append_assoc, ← Nat.add_assoc]
  congr 1
  rw [show o + a.length + b.length = (L.take o ++ a).length + b.length by rw [e2], List.drop_length_add_append, List.drop_drop, e2]
theorem fill_set (off : Nat) (v : Array Value) (cells : Array Value) (h : off + v.size ≤ cells.size) : v.zipIdx.foldl (fun cs (x : Value × Nat) => cs.setIfInBounds (off + x.2) x.1) cells = (spl cells.toList off v.toList).toArray := by
  rw [← Array.foldl_toList, Array.toList_zipIdx]
  obtain ⟨h1, h2⟩ := Great.foldl_set off v.toList 0 cells
  apply Array.ext_getElem?
  intro k
  rw [h2 k, Nat.add_zero]
  have hL : cells.toList.length = cells.size := Array.length_toList
  have hv : v.toList.length = v.size := Array.length_toList
  have e1 : (cells.toList.take off).length = off := by rw [List.length_take]; omega
  rw [show (spl cells.toList off v.toList).toArray[k]? = (spl cells.toList off v.toList)[k]? from List.getElem?_toArray]
  unfold spl
  by_cases hk : off ≤ k
  · by_cases hk2 : k < off + v.size
    · rw [if_pos ⟨hk, by omega, by omega⟩, List.getElem?_append_left (by rw [List.length_append, e1]; omega), List.getElem?_append_right (by omega), e1]
    · rw [if_neg (by omega), List.getElem?_append_right (by rw [List.length_append, e1]; omega), List.getElem?_drop, List.length_append, e1, hv]
      rw [show off + v.size + (k - (off + v.size)) = k by omega]; simp
  · rw [if_neg (by omega), List.append_assoc, List.getElem?_append_left (by omega), List.getElem?_take, if_pos (by omega)]; simp
theorem fill_parts (place : Nat → Option (Nat × Nat)) : ∀ (vs : List Value) (i0 off : Nat) (cells : Array Value),
    (∀ k v, vs[k]? = some v → place (i0 + k) = some (off + ((vs.take k).map (·.cells.size)).sum, v.cells.size)) → off + (vs.map (·.cells.size)).sum ≤ cells.size →
    Instr.fill place cells ((vs.zipIdx i0).map fun x => (x.2, x.1)) = some (spl cells.toList off (vs.flatMap fun v => v.cells.toList)).toArray
  | [], _, off, cells, _, _ => by simp [Instr.fill, spl]
  | v :: vs, i0, off, cells, hp, hs => by
    simp only [List.map_cons, List.sum_cons] at hs
    have h0 := hp 0 v rfl
    simp only [List.take_zero, List.map_nil, List.sum_nil, Nat.add_zero] at h0
    have hL : cells.toList.length = cells.size := Array.length_toList
    have hv : v.cells.toList.length = v.cells.size := Array.length_toList
    have e := fill_set off v.cells cells (by omega)
    have h9 := length_spl cells.toList off v.cells.toList (by omega)
    have h8 : (spl cells.toList off v.cells.toList).toArray.size = (spl cells.toList off v.cells.toList).length := List.size_toArray
    have ih := fill_parts place vs (i0 + 1) (off + v.cells.size) (spl cells.toList off v.cells.toList).toArray (fun k u hu => by
      have := hp (k + 1) u (by simpa using hu)
      rw [show i0 + 1 + k = i0 + (k + 1) by omega, this]
      simp [Nat.add_assoc]) (by rw [h8, h9]; omega)
    simp only [List.zipIdx_cons, List.map_cons, Instr.fill, h0]
    have hno : (decide (v.cells.size ≠ v.cells.size) || decide (off + v.cells.size > cells.size)) = false := by
      rw [decide_eq_false (by simp), decide_eq_false (by omega)]; rfl
    rw [if_neg (by simp; omega), e, ih]
    congr 2
    simp only [List.flatMap_cons]
    have hfl : (vs.flatMap fun v => v.cells.toList).length = (vs.map (·.cells.size)).sum := by simp [List.length_flatMap]
    rw [← hv, spl_spl _ _ _ _ (by omega)]
/- a slice literal of one element of several cells -/
theorem wp_buildOne {P : Program} {o : Oper} {a : Act} {w : World} {K : Act → World → Prop} {Q : Exit → Act → World → Prop} (t e : TypeId) (x : Operand) (ho : o.op = .buildSlice t 1 #[(0, x)]) (cells : Array Value) (z : Value) (sz : Nat) (hx : a.eval x = .agg cells)
    (hu : P.underlying t = some (.slice e)) (hie : (P.info? e).map (fun i => (i.zero, i.size)) = some (some z, sz)) (hc : cells.size = sz) (hpos : 0 < sz) (hsmall : sz ≤ 2 ^ 24)
    (h : K (a.put o.dst (.slice (some ⟨w.heap.size, 0, none⟩) 1 1)) (w.alloc (.cells cells e))) : o.wp P a w K Q := by
  obtain ⟨ie, hi, he⟩ := Option.map_eq_some_iff.1 hie
  injection he with hz hsz
  refine wp_buildSlice t e 1 _ ho cells ie z hu hi hz (by rw [hsz]; omega) (by rw [hsz]; omega) ?_ h
  have hf := fill_parts (fun i => some (i * ie.size, ie.size)) [.agg cells] 0 0 ((Array.range (1 * ie.size)).map (z.cells[· % z.cells.size]!)) (fun k v hk => by
    match k, hk with
    | 0, hk => obtain rfl : Value.agg cells = v := by simpa using hk
               simp [Value.cells, hsz, hc]) (by simp [Value.cells, hsz, hc])
  have e1 : (#[(0, x)].map fun (i, x) => (i, a.eval x)).toList = (([Value.agg cells].zipIdx 0).map fun x => (x.2, x.1)) := by simp [hx]
  rw [e1, hf]
  congr 1
  have e2 : ([Value.agg cells].flatMap fun v => v.cells.toList) = cells.toList := by simp [Value.cells]
  rw [e2]
  apply Array.ext'
  unfold spl
  simp [hsz, hc]
/- of two -/
theorem wp_buildTwo {P : Program} {o : Oper} {a : Act} {w : World} {K : Act → World → Prop} {Q : Exit → Act → World → Prop} (t e : TypeId) (x y : Operand) (ho : o.op = .buildSlice t 2 #[(0, x), (1, y)]) (c1 c2 : Array Value) (z : Value) (sz : Nat) (hx : a.eval x = .agg c1) (hy : a.eval y = .agg c2)
    (hu : P.underlying t = some (.slice e)) (hie : (P.info? e).map (fun i => (i.zero, i.size)) = some (some z, sz)) (hc1 : c1.size = sz) (hc2 : c2.size = sz) (hpos : 0 < sz) (hsmall : sz ≤ 2 ^ 20)
    (h : K (a.put o.dst (.slice (some ⟨w.heap.size, 0, none⟩) 2 2)) (w.alloc (.cells (c1.toList ++ c2.toList).toArray e))) : o.wp P a w K Q := by
  obtain ⟨ie, hi, he⟩ := Option.map_eq_some_iff.1 hie
  injection he with hz hsz
  refine wp_buildSlice t e 2 _ ho (c1.toList ++ c2.toList).toArray ie z hu hi hz (by rw [hsz]; omega) (by rw [hsz]; omega) ?_ h
  have hf := fill_parts (fun i => some (i * ie.size, ie.size)) [.agg c1, .agg c2] 0 0 ((Array.range (2 * ie.size)).map (z.cells[· % z.cells.size]!)) (fun k v hk => by
    match k, hk with
    | 0, hk => obtain rfl : Value.agg c1 = v := by simpa using hk
               simp [Value.cells, hsz, hc1]
    | 1, hk => obtain rfl : Value.agg c2 = v := by simpa using hk
               simp [Value.cells, hsz, hc1, hc2]) (by simp [Value.cells, hsz, hc1, hc2]; omega)
  have e1 : (#[(0, x), (1, y)].map fun (i, x) => (i, a.eval x)).toList = (([Value.agg c1, Value.agg c2].zipIdx 0).map fun x => (x.2, x.1)) := by simp [hx, hy]
  rw [e1, hf]
  congr 1
  have e2 : ([Value.agg c1, Value.agg c2].flatMap fun v => v.cells.toList) = c1.toList ++ c2.toList := by simp [Value.cells]
  rw [e2]
  apply Array.ext'
  unfold spl
  have h4 : (c1.toList ++ c2.toList).length = 2 * ie.size := by rw [List.length_append, Array.length_toList, Array.length_toList, hc1, hc2, hsz]; omega
  rw [List.take_zero, List.nil_append, List.drop_of_length_le (by rw [h4]; simp), List.append_nil]
/- a struct literal of which every field is given, in order -/
def placesOf (P : Program) (t : TypeId) : Option (Nat × List (Nat × Nat)) :=
  match P.info? t, P.underlying t with
  | some it, some (.struct fields) =>
    match it.zero, fields.toList.mapM (fun f => (P.info? f.type).map fun i => (f.offset, i.size)) with
    | some z, some places => some (z.cells.size, places)
    | _, _ => none
  | _, _ => none
def fits : Nat → List Nat → List (Nat × Nat) → Bool
  | _, [], [] => true
  | o, s :: ss, (o', s') :: ps => o == o' && s == s' && fits (o + s) ss ps
  | _, _, _ => false
theorem fits_at : ∀ (ss : List Nat) (o : Nat) (ps : List (Nat × Nat)), fits o ss ps = true → ∀ (k s : Nat), ss[k]? = some s → ps[k]? = some (o + (ss.take k).sum, s)
  | [], _, _, _, k, s, h => by simp at h
  | s0 :: ss, o, [], h, _, _, _ => by simp [fits] at h
  | s0 :: ss, o, (o', s') :: ps, h, 0, s, hk => by
    simp only [fits, Bool.and_eq_true, beq_iff_eq] at h
    obtain ⟨⟨rfl, rfl⟩, _⟩ := h
    obtain rfl : s0 = s := by simpa using hk
    simp
  | s0 :: ss, o, (o', s') :: ps, h, k + 1, s, hk => by
    simp only [fits, Bool.and_eq_true, beq_iff_eq] at h
    obtain ⟨⟨rfl, rfl⟩, h⟩ := h
    have := fits_at ss (o + s0) ps h k s (by simpa using hk)
    rw [List.getElem?_cons_succ, this]
    simp [Nat.add_assoc]
theorem built_struct {P : Program} {t : TypeId} {n : Nat} {places : List (Nat × Nat)} (hp : placesOf P t = some (n, places)) (vs : List Value) (hf : fits 0 (vs.map (·.cells.size)) places = true) (hn : (vs.map (·.cells.size)).sum = n) :
    P.built t ((vs.zipIdx 0).map fun x => (x.2, x.1)) = some (vs.flatMap fun v => v.cells.toList).toArray := by
  unfold placesOf at hp
  unfold Program.built
  cases hit : P.info? t with
  | none => simp [hit] at hp
  | some it =>
    cases hu : P.underlying t with
    | none => simp [hit, hu] at hp
    | some d =>
      cases d <;> try (simp [hit, hu] at hp; done)
      case struct fields =>
        simp only [hit, hu] at hp ⊢
        cases hz : it.zero with
        | none => simp [hz] at hp
        | some z =>
          cases hm : fields.toList.mapM (fun f => (P.info? f.type).map fun i => (f.offset, i.size)) with
          | none => simp [hz, hm] at hp
          | some pl =>
            simp only [hz, hm, Option.some.injEq, Prod.mk.injEq] at hp ⊢
            obtain ⟨hzn, rfl⟩ := hp
            have h := fill_parts (fun i => pl.toArray[i]?) vs 0 0 z.cells (fun k v hk => by
              rw [Nat.zero_add]
              have := fits_at _ 0 pl hf k v.cells.size (by simp [hk])
              rw [List.getElem?_toArray, this, List.map_take]) (by omega)
            rw [h]
            congr 1
            apply Array.ext'
            have hl : (vs.flatMap fun v => v.cells.toList).length = z.cells.toList.length := by
              have hL : z.cells.toList.length = z.cells.size := Array.length_toList
              rw [hL, hzn, ← hn]; simp [List.length_flatMap]
            unfold spl
            rw [List.take_zero, List.nil_append, Nat.zero_add, hl, List.drop_length, List.append_nil]
theorem wp_buildStruct {P : Program} {o : Oper} {a : Act} {w : World} {K : Act → World → Prop} {Q : Exit → Act → World → Prop} (t : TypeId) (parts : Array (Nat × Operand)) (ho : o.op = .build t parts) {n : Nat} {places : List (Nat × Nat)} (hp : placesOf P t = some (n, places))
    (vs : List Value) (hv : (parts.map fun (i, x) => (i, a.eval x)).toList = (vs.zipIdx 0).map fun x => (x.2, x.1)) (hf : fits 0 (vs.map (·.cells.size)) places = true) (hn : (vs.map (·.cells.size)).sum = n)
    (h : K (a.put o.dst (.agg (vs.flatMap fun v => v.cells.toList).toArray)) w) : o.wp P a w K Q := by
  have hb := built_struct hp vs hf hn
  rw [← hv] at hb
  exact wp_build t parts ho (by rw [hb]; rfl) (by rw [hb]; exact h)
end Go.Proofs.Ytcdcongeogmfkaa

/- The lowest byte of a number. -/
set_option maxRecDepth 4000
namespace Go.Proofs.Ytcdcongeogmfkaa
open Go Go.RowKit
end Go.Proofs.Ytcdcongeogmfkaa

/- Words of 16 bits, kept shut: what the operations of Go on uint16 come to. No condition. -/
set_option maxRecDepth 4000
namespace Go.Proofs.Ytcdcongeogmfkaa
open Go Go.RowKit
def hd (x : BitVec 16) : Int := (x.toNat : Int)
theorem hd_lo (x : BitVec 16) : 0 ≤ hd x := by unfold hd; omega
theorem hd_hi (x : BitVec 16) : hd x < 65536 := by unfold hd; have := x.isLt; omega
theorem hd_inj {x y : BitVec 16} (h : hd x = hd y) : x = y := by unfold hd at h; exact BitVec.eq_of_toNat_eq (by omega)
theorem ofInt_hd (x : BitVec 16) : BitVec.ofInt 16 (hd x) = x := by
  apply BitVec.eq_of_toNat_eq; unfold hd; rw [ofInt_u16 _ x.isLt]
theorem wrap_hd (x : BitVec 16) : IntKind.u16.wrap (hd x) = hd x := by
  rw [IntKind.wrap_u16]; have := hd_lo x; have := hd_hi x; omega
theorem xor_hd (x y : BitVec 16) : bits .xor .u16 (hd x) (hd y) = hd (x ^^^ y) := by
  show IntKind.u16.wrap ((BitVec.ofInt 16 (hd x) ^^^ BitVec.ofInt 16 (hd y)).toNat : Int) = _
  rw [ofInt_hd, ofInt_hd]; exact wrap_hd _
theorem and_hd (x y : BitVec 16) : bits .and .u16 (hd x) (hd y) = hd (x &&& y) := by
  show IntKind.u16.wrap ((BitVec.ofInt 16 (hd x) &&& BitVec.ofInt 16 (hd y)).toNat : Int) = _
  rw [ofInt_hd, ofInt_hd]; exact wrap_hd _
theorem xorP_hd (x : BitVec 16) : bits .xor .u16 (hd x) 33800 = hd (x ^^^ 0x8408#16) := xor_hd x 0x8408#16
theorem not_hd (x : BitVec 16) : bits .xor .u16 IntKind.u16.max (hd x) = hd (~~~x) := by
  have e : IntKind.u16.max = hd (BitVec.allOnes 16) := by decide +kernel
  rw [e, xor_hd, BitVec.allOnes_xor]
theorem signed_u16 : (IntKind.u16.signed = true) = False := by simp [IntKind.signed]
def lowI (x : BitVec 16) : Int := if x.getLsbD 0 then 1 else 0
theorem low_hd (x : BitVec 16) : bits .and .u16 (hd x) 1 = lowI x := by
  rw [show (1 : Int) = hd 1#16 from rfl, and_hd]
  have e : x &&& 1#16 = if x.getLsbD 0 then 1#16 else 0#16 := by
    apply BitVec.eq_of_getLsbD_eq; intro i hi
    cases i with
    | zero => rw [BitVec.getLsbD_and]; cases h : x.getLsbD 0 <;> rfl
    | succ i => cases h : x.getLsbD 0 <;> simp
  rw [e]; unfold lowI; cases h : x.getLsbD 0 <;> rfl
theorem lowI_eq (x : BitVec 16) : (x.getLsbD 0 = true ∧ lowI x = 1) ∨ (x.getLsbD 0 = false ∧ lowI x = 0) := by
  unfold lowI; cases h : x.getLsbD 0 <;> simp
theorem shr1_hd (x : BitVec 16) : hd x / (2 : Int) = hd (x >>> 1) := by
  unfold hd; rw [BitVec.toNat_ushiftRight, Nat.shiftRight_eq_div_pow]; norm_cast
theorem convb_hd (x : BitVec 8) : IntKind.u16.wrap (bd x) = hd (x.setWidth 16) := by
  rw [IntKind.wrap_u16]; unfold bd hd; have := x.isLt; rw [BitVec.toNat_setWidth]; omega
theorem lowb_hd (x : BitVec 16) : IntKind.u8.wrap (hd x) = bd (x.setWidth 8) := by
  rw [IntKind.wrap_u8']; unfold bd hd; rw [BitVec.toNat_setWidth]; omega
theorem lowb8_hd (x : BitVec 16) : IntKind.u8.wrap (hd x / (256 : Int)) = bd ((x >>> 8).setWidth 8) := by
  rw [IntKind.wrap_u8']; unfold bd hd; rw [BitVec.toNat_setWidth, BitVec.toNat_ushiftRight, Nat.shiftRight_eq_div_pow]; omega
theorem or_hd (x y : BitVec 16) : bits .or .u16 (hd x) (hd y) = hd (x ||| y) := by
  show IntKind.u16.wrap ((BitVec.ofInt 16 (hd x) ||| BitVec.ofInt 16 (hd y)).toNat : Int) = _
  rw [ofInt_hd, ofInt_hd]; exact wrap_hd _
end Go.Proofs.Ytcdcongeogmfkaa

/- Literals of bytes in a region that is walked by what each operation yields. -/
set_option maxRecDepth 4000
namespace Go.Proofs.Ytcdcongeogmfkaa
open Go Go.RowKit
section
variable {o : Oper} {a : Act} {w : World} {R : Value → World → Prop}
end
end Go.Proofs.Ytcdcongeogmfkaa

/- A slice of bytes made of a constant text: its block bears a mark. No function of the program is named here. -/
set_option maxRecDepth 4000
namespace Go.Proofs.Ytcdcongeogmfkaa
open Go Go.RowKit
end Go.Proofs.Ytcdcongeogmfkaa

/- A sector of one byte, as the program has it. -/
set_option maxRecDepth 4000
namespace Go.Proofs.Ytcdcongeogmfkaa
open Go Go.RowKit
def blk (x : BitVec 8) : List (BitVec 8) := List.replicate 32 x
theorem length_blk (x : BitVec 8) : (blk x).length = 32 := by simp [blk]
theorem size_blk : (Try.prog.info? 52).map (·.size) = some 32 := by kernel_rfl
theorem zeros_blk : (#[.int .u8 0, .int .u8 0, .int .u8 0, .int .u8 0, .int .u8 0, .int .u8 0, .int .u8 0, .int .u8 0, .int .u8 0, .int .u8 0, .int .u8 0, .int .u8 0, .int .u8 0, .int .u8 0, .int .u8 0, .int .u8 0, .int .u8 0, .int .u8 0, .int .u8 0, .int .u8 0, .int .u8 0, .int .u8 0, .int .u8 0, .int .u8 0, .int .u8 0, .int .u8 0, .int .u8 0, .int .u8 0, .int .u8 0, .int .u8 0, .int .u8 0, .int .u8 0] : Array Value) = bs (blk 0#8) := by rfl
end Go.Proofs.Ytcdcongeogmfkaa

/- An append of so many zeros onto a slice of bytes of the call's own. -/
set_option maxRecDepth 4000
namespace Go.Proofs.Ytcdcongeogmfkaa
open Go Go.RowKit
theorem zeroCells_zer (m : Nat) : Builtin.zeroCells (Value.int .u8 0).cells m = bs (zer m) := by
  have e : bs (zer m) = (List.replicate m (Value.int .u8 0)).toArray := by simp [bs, zer, bd]
  rw [e]
  apply Array.ext_getElem?
  intro j
  by_cases hj : j < m
  · simp [Builtin.zeroCells, Value.cells, hj, Nat.mod_one]
  · simp [Builtin.zeroCells, Value.cells, hj]
section
variable (w : World)
theorem run_zeros_room (ty : TypeId) (g n cap m : Nat) (cur : Array Value) (hg : w.heap[g]? = some (.cells cur 5 (0, 0))) (hroom : n + m ≤ cap) (hfit : n + m ≤ cur.size) (hm : m ≤ 1000000) :
    (Builtin.append_ #[37, 3] ty #[.slice (some ⟨g, 0, none⟩) n cap, .int .i64 (m : Int)]).run Try.prog w =
      .ok (.slice (some ⟨g, 0, none⟩) (n + m) cap) (w.setRow g (cur.toList.take n ++ bytesV (zer m) ++ cur.toList.drop (n + (bytesV (zer m)).length)).toArray) := by
  obtain ⟨i, hi, hz, hs, hby⟩ := info_parts info_u8
  have hw : IntKind.i64.wrap (m : Int) = (m : Int) := i64_id _ (by omega) (by omega)
  have hst := run_storeCells_at Try.prog g n 5 (bytesV (zer m)) 0 cur w hg (by simp [bytesV, zer]; omega) (one_bytesV _)
  simp only [Nat.add_zero] at hst
  have h48 : ¬ (281474976710656 < (m : Int)) := by omega
  by_cases h0 : m = 0
  · subst h0
    rw [show bytesV (zer 0) = [] from rfl] at hst ⊢
    simp only [Int.natCast_zero] at hw
    simp [Builtin.append_, run_underlying Try.underlying37, run_underlying Try.underlying3, sizeOf, typeInfo, hi, hs, hby, hw, asInt, asIntOf, Addr.add_lit, hst]
    omega
  · simp [Builtin.append_, run_underlying Try.underlying37, run_underlying Try.underlying3, sizeOf, typeInfo, zeroValue, hi, hz, hs, hby, hw, asInt, asIntOf, hroom, h48, h0, zeroCells_zer, bs_toList, Addr.add_lit, hst]
    intro h; omega
theorem run_zeros_nil (ty : TypeId) (m : Nat) (h0 : 0 < m) (hm : m ≤ 1000000) :
    (Builtin.append_ #[37, 3] ty #[.slice none 0 0, .int .i64 (m : Int)]).run Try.prog w =
      .ok (.slice (some ⟨w.heap.size, 0, none⟩) m (grownCap w m 0 5)) (w.drew.alloc (.cells (bs (zer m) ++ Builtin.zeroCells (Value.int .u8 0).cells (grownCap w m 0 5 - m)) 5)) := by
  obtain ⟨i, hi, hz, hs, hby⟩ := info_parts info_u8
  have hw : IntKind.i64.wrap (m : Int) = (m : Int) := i64_id _ (by omega) (by omega)
  have h48 : ¬ (281474976710656 < (m : Int)) := by omega
  have hn : m ≠ 0 := by omega
  have h63' : ¬ (9223372036854775807 < (m : Int)) := by omega
  have h48' : ¬ (281474976710656 < Builtin.nextslicecap m 0) := by rw [nextslicecap_zero h0]; omega
  simp [Builtin.append_, run_underlying Try.underlying37, run_underlying Try.underlying3, sizeOf, typeInfo, zeroValue, hi, hz, hs, hby, hw, asInt, asIntOf, h48, hn, h63', h48', Question.forced, run_firstCells_none, newRow, grownCap, zeroCells_zer]
  intro h; omega
theorem run_zeros_grow (ty : TypeId) (b : Addr) (n cap m : Nat) (olds : List Value) (hlo : olds.length = n) (holds : ∀ j v, olds[j]? = some v → w.cell? (b.add j) = some v) (hg : cap < n + m) (hm : n + m ≤ 1000000) :
    (Builtin.append_ #[37, 3] ty #[.slice (some b) n cap, .int .i64 (m : Int)]).run Try.prog w =
      .ok (.slice (some ⟨w.heap.size, 0, none⟩) (n + m) (grownCap w (n + m) cap 5)) (w.drew.alloc (.cells (olds.toArray ++ (bs (zer m) ++ Builtin.zeroCells (Value.int .u8 0).cells (grownCap w (n + m) cap 5 - (n + m)))) 5)) := by
  obtain ⟨i, hi, hz, hs, hby⟩ := info_parts info_u8
  have hw : IntKind.i64.wrap (m : Int) = (m : Int) := i64_id _ (by omega) (by omega)
  have h48 : ¬ (281474976710656 < (m : Int)) := by omega
  have hn : ¬ (n + m ≤ cap) := by omega
  have h63' : ¬ (9223372036854775807 < ((n : Int) + (m : Int))) := by omega
  have h48' : ¬ (281474976710656 < Builtin.nextslicecap (n + m) cap) := by have := nextslicecap_le hg; omega
  have hfo := run_firstCells_some (P := Try.prog) w.drew 1 n b n cap olds (by omega) (by simpa using holds)
  by_cases h0 : m = 0
  · subst h0
    rw [show bs (zer 0) = #[] from rfl]
    simp only [Int.natCast_zero] at hw
    simp only [Nat.add_zero] at hn h48'
    have h63n : ¬ (9223372036854775807 < (n : Int)) := by omega
    simp [Builtin.append_, run_underlying Try.underlying37, run_underlying Try.underlying3, sizeOf, typeInfo, zeroValue, hi, hz, hs, hby, hw, asInt, asIntOf, hn, h63n, h48', Question.forced, hfo, newRow, grownCap]
  · simp [Builtin.append_, run_underlying Try.underlying37, run_underlying Try.underlying3, sizeOf, typeInfo, zeroValue, hi, hz, hs, hby, hw, asInt, asIntOf, h48, h0, hn, h63', h48', Question.forced, hfo, newRow, grownCap, zeroCells_zer]
    intro h; omega
theorem run_append_zeros (ty : TypeId) (base : Nat) (v : Value) (n : Nat) (xs : List Value) (hown : w.ownsRow base 5 1 v n xs) (m : Nat) (hm : n + m ≤ 1000000) (hbase : base ≤ w.heap.size) :
    ∃ v' w', (Builtin.append_ #[37, 3] ty #[v, .int .i64 (m : Int)]).run Try.prog w = .ok v' w' ∧ w'.ownsRow base 5 1 v' (n + m) (xs ++ bytesV (zer m)) ∧ w.grownBy w' v.ownBlock := by
  have hlz : (bytesV (zer m)).length = m := by simp [bytesV, zer]
  have hxl : xs.length = n := by simpa using hown.1
  have hlen : (xs ++ bytesV (zer m)).length = (n + m) * 1 := by rw [List.length_append, hxl, hlz, Nat.mul_one]
  have grown : ∀ (old : Nat), ∀ (row : Option Nat),
      (w.drew.alloc (.cells (xs.toArray ++ (bs (zer m) ++ Builtin.zeroCells (Value.int .u8 0).cells (grownCap w (n + m) old 5 - (n + m)))) 5)).ownsRow base 5 1
        (.slice (some ⟨w.heap.size, 0, none⟩) (n + m) (grownCap w (n + m) old 5)) (n + m) (xs ++ bytesV (zer m)) ∧
      w.grownBy (w.drew.alloc (.cells (xs.toArray ++ (bs (zer m) ++ Builtin.zeroCells (Value.int .u8 0).cells (grownCap w (n + m) old 5 - (n + m)))) 5)) row := by
    intro old row
    have hge := grownCap_ge w (n + m) old 5
    have hcm : grownCap w (n + m) old 5 ≤ maxLen := grownCap_le_maxLen w (n + m) old 5 (by unfold maxLen; omega)
    refine ⟨⟨hlen, .inr ⟨w.heap.size, _, _, rfl, hbase, heap_alloc_new w.drew _, hge, hcm, ?_, ?_⟩⟩, ⟨rfl, rfl, rfl, by simp, fun k hk _ => Below.heap_alloc w.drew _ k hk⟩⟩
    · simp only [Array.size_append, List.size_toArray, size_zeroCells, size_bs, length_zer, Value.cells, hxl]
      simp
      omega
    · simp only [Array.toList_append, bs_toList]
      rw [← List.append_assoc, ← hlen]
      exact List.take_left
  rcases hown.2 with ⟨rfl, rfl⟩ | ⟨g, cap, cur, rfl, hbg, hg, hnc, hcm, hcs, htake⟩
  · obtain rfl : xs = [] := List.length_eq_zero_iff.1 hxl
    by_cases h0 : m = 0
    · subst h0
      refine ⟨.slice none 0 0, w, ?_, World.ownsRow_nil w base _ _, ⟨rfl, rfl, rfl, Nat.le_refl _, fun _ _ _ => rfl⟩⟩
      obtain ⟨i, hi, _, _, hby⟩ := info_parts info_u8
      have hw : IntKind.i64.wrap 0 = 0 := i64_id _ (by omega) (by omega)
      simp [Builtin.append_, run_underlying Try.underlying37, run_underlying Try.underlying3, sizeOf, typeInfo, hi, hby, hw, asInt, asIntOf]
    · have hgr := grown 0 (Value.ownBlock (.slice none 0 0))
      have hr := run_zeros_nil w ty m (by omega) (by omega)
      simp only [Nat.zero_add, List.nil_append] at hgr ⊢
      rw [show (([] : List Value).toArray ++ (bs (zer m) ++ Builtin.zeroCells (Value.int .u8 0).cells (grownCap w m 0 5 - m))) = bs (zer m) ++ Builtin.zeroCells (Value.int .u8 0).cells (grownCap w m 0 5 - m) by simp] at hgr
      exact ⟨_, _, hr, hgr.1, hgr.2⟩
  · by_cases hroom : n + m ≤ cap
    · have hr := run_zeros_room w ty g n cap m cur hg hroom (by omega) (by omega)
      refine ⟨_, _, hr, ⟨hlen, .inr ⟨g, cap, _, rfl, hbg, setRow_heap w g cur _ _ _ hg, hroom, hcm, ?_, ?_⟩⟩, ⟨rfl, rfl, rfl, by simp, fun k _ hk => setRow_other w g k _ (fun e => hk (by simp [Value.ownBlock, e]))⟩⟩
      · simp only [List.size_toArray, List.length_append, List.length_take, List.length_drop, Array.length_toList, hlz]
        omega
      · rw [Nat.mul_one] at htake
        rw [htake, ← hlen]
        exact List.take_left
    · have hr := run_zeros_grow w ty ⟨g, 0, none⟩ n cap m xs hxl (hown.cells (g := g) rfl) (by omega) hm
      have hgr := grown cap (Value.ownBlock (.slice (some ⟨g, 0, none⟩) n cap))
      exact ⟨_, _, hr, hgr.1, hgr.2⟩
end
theorem wpList_append_zeros {w : World} {ops : Array Oper} {rest : List Oper} {o : Oper} {a : Act} {Q : Exit → Act → World → Prop} (hgd : o.guard = none) (s x : Operand)
    (ho : o.op = .call { callee := .builtin .append, args := #[s, x], argTypes := #[37, 3] }) (base : Nat)
    (v : Value) (n : Nat) (xs : List Value) (hs : a.eval s = v) (hown : w.ownsRow base 5 1 v n xs) (M : Int) (m : Nat) (hx : a.eval x = .int .i64 M) (hM : M = (m : Int))
    (hnm : n + m ≤ 1000000) (hbase : base ≤ w.heap.size)
    (h : ∀ v' w', w'.ownsRow base 5 1 v' (n + m) (xs ++ bytesV (zer m)) → Below base w w' → wpList Try.prog ops Q rest (a.put o.dst v') w') : wpList Try.prog ops Q (o :: rest) a w := by
  subst hM
  refine wpList_plain hgd fun K hK => ?_
  obtain ⟨v', w', hr, h2, h3⟩ := run_append_zeros w o.type base v n xs hown m hnm hbase
  unfold Oper.wp execOp
  simp only [ho, resolve, invoke, builtin, Sem.run_bind, Sem.run_pure, Result.andThen_ok, List.map_toArray, List.map_cons, List.map_nil, hs, hx, hr]
  exact hK _ _ (h v' w' h2 (below_of_grown h3 (fun g hg => (hown.lt g hg).1) hbase))
end Go.Proofs.Ytcdcongeogmfkaa

/- Two arrays of integers: what their comparison tells. -/
set_option maxRecDepth 4000
namespace Go.Proofs.Ytcdcongeogmfkaa
open Go
theorem forIn_until {P : Program} {w : World} {β : Type} (b r : β) (f : Nat → β → Sem (ForInStep β)) (p : Nat → Bool) : ∀ l : List Nat, (∀ i ∈ l, (f i b).run P w = .ok (if p i then .yield b else .done r) w) → (forIn l b f).run P w = .ok (if l.all p then b else r) w
  | [], _ => by simp [Sem.run_pure]
  | i :: l, h => by
    simp only [List.forIn_cons, Sem.run_bind, h i (by simp), Result.andThen]
    cases hp : p i with
    | true =>
      simp only [List.all_cons, hp, Bool.true_and, if_true]
      exact forIn_until b r f p l fun j hj => h j (by simp [hj])
    | false => simp [List.all_cons, hp, Sem.run_pure]
theorem equal_ints {P : Program} (w : World) (d : Nat) (t e : TypeId) (k : IntKind) (n : Nat) (xs ys : Array Value) (f g : Nat → Int) (ht : P.underlying t = some (.array n e)) (he : P.underlying e = some (.int k)) (hs : (P.info? e).map (·.size) = some 1)
    (hx : ∀ i, i < n → xs[i]? = some (.int k (f i))) (hy : ∀ i, i < n → ys[i]? = some (.int k (g i))) : (Op.equalIn (d + 2) t (.agg xs) (.agg ys)).run P w = .ok ((List.range n).all fun i => f i == g i) w := by
  obtain ⟨i0, hi, hs⟩ := Option.map_eq_some_iff.1 hs
  have hsz : (sizeOf e).run P w = .ok 1 w := by simp [sizeOf, typeInfo, hi, hs]
  rw [show Op.equalIn (d + 2) t (.agg xs) (.agg ys) = Op.equalIn ((d + 1) + 1) t (.agg xs) (.agg ys) from rfl]
  unfold Op.equalIn
  simp only [Sem.run_bind, run_underlying ht, Result.andThen_ok, hsz]
  rw [Std.Legacy.Range.forIn_eq_forIn_range', forIn_until (p := fun i => f i == g i) (r := ⟨some false, ()⟩)]
  · have e1 : (List.range' 0 (Std.Legacy.Range.size [:n]) 1).all (fun i => f i == g i) = (List.range n).all fun i => f i == g i := by
      rw [List.range_eq_range']; simp [Std.Legacy.Range.size]
    simp only [e1]
    cases (List.range n).all fun i => f i == g i <;> simp [Sem.run_pure]
  · intro i hi
    have hin : i < n := by simp [Std.Legacy.Range.size] at hi; omega
    have hp : (Go.part e xs (i * 1)).run P w = .ok (.int k (f i)) w := by simp [Go.part, isAgg, run_underlying he, hx i hin]
    have hq : (Go.part e ys (i * 1)).run P w = .ok (.int k (g i)) w := by simp [Go.part, isAgg, run_underlying he, hy i hin]
    simp only [Sem.run_bind, hp, hq, Result.andThen_ok, run_equalIn_int w d e k k (f i) (g i) he]
    cases f i == g i <;> simp
theorem equal_bytesD (d : Nat) (t : TypeId) (n : Nat) (p q : List (BitVec 8)) (hp : p.length = n) (hq : q.length = n) (ht : Try.prog.underlying t = some (.array n 5)) (w : World) : (Op.equalIn (d + 2) t (.agg (bs p)) (.agg (bs q))).run Try.prog w = .ok (decide (p = q)) w := by
  rw [equal_ints w d t 5 .u8 n (bs p) (bs q) (fun i => bd (p.getD i 0)) (fun i => bd (q.getD i 0)) ht Try.underlying5 size_u8 (fun i hi => get_bs p i (by omega)) (fun i hi => get_bs q i (by omega))]
  congr 1
  by_cases h : p = q
  · subst h; simp
  · rw [decide_eq_false h, ← Bool.not_eq_true, List.all_eq_true]
    intro hall
    refine h (List.ext_getElem (by omega) fun i h1 h2 => ?_)
    have := hall i (List.mem_range.2 (by omega))
    simp [h1, h2] at this
    exact bd_inj this
theorem equal_bytes (t : TypeId) (n : Nat) (p q : List (BitVec 8)) (hp : p.length = n) (hq : q.length = n) (ht : Try.prog.underlying t = some (.array n 5)) (w : World) : (Op.equalIn 10000 t (.agg (bs p)) (.agg (bs q))).run Try.prog w = .ok (decide (p = q)) w := by
  rw [equal_ints w 9998 t 5 .u8 n (bs p) (bs q) (fun i => bd (p.getD i 0)) (fun i => bd (q.getD i 0)) ht Try.underlying5 size_u8 (fun i hi => get_bs p i (by omega)) (fun i hi => get_bs q i (by omega))]
  congr 1
  by_cases h : p = q
  · subst h; simp
  · rw [decide_eq_false h, ← Bool.not_eq_true, List.all_eq_true]
    intro hall
    refine h (List.ext_getElem (by omega) fun i h1 h2 => ?_)
    have := hall i (List.mem_range.2 (by omega))
    simp [h1, h2] at this
    exact bd_inj this
end Go.Proofs.Ytcdcongeogmfkaa

/- Two sectors compared. -/
set_option maxRecDepth 4000
namespace Go.Proofs.Ytcdcongeogmfkaa
open Go Go.RowKit
theorem eql_blk (p q : List (BitVec 8)) (hp : p.length = 32) (hq : q.length = 32) (w : World) : (Op.equalIn 10000 52 (.agg (bs p)) (.agg (bs q))).run Try.prog w = .ok (decide (p = q)) w := equal_bytes _ 32 p q hp hq Try.underlying52 w
end Go.Proofs.Ytcdcongeogmfkaa

/- Which puts may be an op's, plainly. No function of the program is named here. -/
set_option maxRecDepth 4000
namespace Go.Proofs.Ytcdcongeogmfkaa
/- the k-th is of a block that there is, and none ahead of it is of the same -/
def okAt (l : List Int) (k : Nat) : Prop := 0 ≤ l.getD k 0 ∧ l.getD k 0 < 12 ∧ ∀ i < k, l.getD i 0 ≠ l.getD k 0
instance (l : List Int) (k : Nat) : Decidable (okAt l k) := by unfold okAt; infer_instance
def goodB (l : List Int) : Bool := decide (∀ k < l.length, okAt l k) && (decide (1 ≤ l.length) && decide (l.length ≤ 5))
end Go.Proofs.Ytcdcongeogmfkaa

/- Puts as they lie in memory; puts appended to a slice of none. No function of the program is named here. -/
set_option maxRecDepth 4000
namespace Go.Proofs.Ytcdcongeogmfkaa
open Go Go.RowKit
def pcell (x : Int × List (BitVec 8)) : List Value := .int .i64 x.1 :: bytesV x.2
def PutsAt (w : World) (v : Value) (l : List (Int × List (BitVec 8))) : Prop := ∃ A c, v = .slice A l.length c ∧ l.length ≤ c ∧ (∀ x ∈ l, x.2.length = 32 ∧ -9223372036854775808 ≤ x.1 ∧ x.1 < 9223372036854775808) ∧
  (l ≠ [] → ∃ b o, A = some ⟨b, o, none⟩ ∧ b < w.heap.size ∧ ∀ k x, l[k]? = some x → w.rangeAt b (o + k * 33) (pcell x))
theorem PutsAt.below {w w' : World} {v : Value} {l : List (Int × List (BitVec 8))} {B : Nat} (h : PutsAt w v l) (hb : Below B w w') (hB : w.heap.size ≤ B) : PutsAt w' v l := by
  obtain ⟨A, c, h1, h2, h3, h4⟩ := h
  refine ⟨A, c, h1, h2, h3, fun hne => ?_⟩
  obtain ⟨b, o, h5, h6, h7⟩ := h4 hne
  exact ⟨b, o, h5, Nat.lt_of_lt_of_le h6 hb.size, fun k x hx j v hv => (hb.cell (p := ⟨b, o + k * 33 + j, none⟩) (Nat.lt_of_lt_of_le h6 hB)).trans (h7 k x hx j v hv)⟩
theorem len_pcell {x : Int × List (BitVec 8)} (h : x.2.length = 32) : (pcell x).length = 33 := by simp [pcell, bytesV, h]
theorem puts_row {w : World} {g c : Nat} {t : TypeId} {l : List (Int × List (BitVec 8))} (h : Row w g t (l.map pcell).flatten.toArray) (hc : l.length ≤ c) (hl : ∀ x ∈ l, x.2.length = 32 ∧ -9223372036854775808 ≤ x.1 ∧ x.1 < 9223372036854775808) : PutsAt w (.slice (some ⟨g, 0, none⟩) l.length c) l :=
  ⟨_, c, rfl, hc, hl, fun _ => ⟨g, 0, rfl, h.lt, fun k x hx j v hv => by
    rw [Nat.zero_add]
    refine h.get ?_
    have hj : j < 33 := by have := (List.getElem?_eq_some_iff.1 hv).1; rw [len_pcell (hl x (List.mem_of_getElem? hx)).1] at this; exact this
    rw [List.getElem?_toArray, flat_get (sz := 33) (l.map pcell) (fun c hc => by
      obtain ⟨y, hy, rfl⟩ := List.mem_map.1 hc
      exact len_pcell (hl y hy).1) k j (pcell x) (by simp [hx]) hj]
    exact hv⟩⟩
/- puts appended to a slice of none: they lie elsewhere -/
def zput0 : Array Value := (pcell (0, zer 32)).toArray
theorem info_put : (Try.prog.info? 70).map (fun i => (i.zero, i.size, i.bytes)) = some (some (.agg zput0), 33, 40) := by kernel_rfl
theorem one_pcell0 {x : Int × List (BitVec 8)} : ∀ v ∈ pcell x, v.oneCell' = true := by
  intro v hv
  rcases List.mem_cons.1 hv with rfl | hv
  · rfl
  · exact one_bytesV _ v hv
theorem len_puts {l : List (Int × List (BitVec 8))} (h : ∀ x ∈ l, x.2.length = 32) : (l.map pcell).flatten.length = l.length * 33 := by
  induction l with
  | nil => rfl
  | cons x l ih =>
    rw [List.map_cons, List.flatten_cons, List.length_append, ih (fun y hy => h y (List.mem_cons_of_mem _ hy)), len_pcell (h x (List.mem_cons_self ..)), List.length_cons]
    omega
theorem puts_own {w : World} {base : Nat} {v : Value} {l : List (Int × List (BitVec 8))} (h : w.ownsRow base 70 33 v l.length (l.map pcell).flatten) (hl : ∀ x ∈ l, x.2.length = 32 ∧ -9223372036854775808 ≤ x.1 ∧ x.1 < 9223372036854775808) : PutsAt w v l := by
  rcases h.2 with ⟨rfl, hn⟩ | ⟨g, cap, cur, rfl, _, hg, hcap, _, _, ht⟩
  · obtain rfl : l = [] := List.eq_nil_of_length_eq_zero hn
    exact ⟨none, 0, rfl, Nat.le_refl _, hl, fun h => absurd rfl h⟩
  · refine ⟨_, cap, rfl, hcap, hl, fun _ => ⟨g, 0, rfl, (Array.getElem?_eq_some_iff.1 hg).1, fun k x hx j u hu => ?_⟩⟩
    have hk : k < l.length := (List.getElem?_eq_some_iff.1 hx).1
    have hj : j < 33 := by have := (List.getElem?_eq_some_iff.1 hu).1; rwa [len_pcell (hl x (List.mem_of_getElem? hx)).1] at this
    have hfl := flat_get (sz := 33) (l.map pcell) (fun c hc => by
      obtain ⟨y, hy, rfl⟩ := List.mem_map.1 hc
      exact len_pcell (hl y hy).1) k j (pcell x) (by simp [hx]) hj
    rw [Nat.zero_add]
    refine Row.get (cs := cur) (t := 70) hg ?_
    rw [← Array.getElem?_toList, ← List.getElem?_take_of_lt (show k * 33 + j < l.length * 33 by omega), ht, hfl]
    exact hu
theorem append_puts {w : World} {g c : Nat} {A : Option Addr} {l : List (Int × List (BitVec 8))} (ty : TypeId) (hg : Row w g 70 #[]) (h : PutsAt w (.slice A l.length c) l) (hl : l.length ≤ 1000000) :
    ∃ v' w', (Builtin.append_ #[34, 34] ty #[.slice (some ⟨g, 0, none⟩) 0 0, .slice A l.length c]).run Try.prog w = .ok v' w' ∧ PutsAt w' v' l ∧ Same w w' ∧ (∃ B n2 c2, v' = .slice B n2 c2) ∧ ∀ k, v'.ownBlock = some k → k = g ∨ k = w.heap.size := by
  obtain ⟨i0, hi, hz0, hz1, hz2⟩ := info_parts info_put
  obtain ⟨A', c', e1, h2, h3, h4⟩ := h
  injection e1 with e1 _ e3
  subst e1 e3
  have hown : w.ownsRow 0 70 33 (.slice (some ⟨g, 0, none⟩) 0 0) 0 [] := ⟨rfl, .inr ⟨g, 0, #[], rfl, Nat.zero_le _, hg, Nat.le_refl _, Nat.zero_le _, rfl, rfl⟩⟩
  have hlen := len_puts (fun x hx => (h3 x hx).1)
  cases A with
  | none =>
    have hl0 : l = [] := by
      apply Decidable.byContradiction
      intro hne
      obtain ⟨_, _, h5, _⟩ := h4 hne
      cases h5
    subst hl0
    refine ⟨.slice (some ⟨g, 0, none⟩) 0 0, w, ?_, ⟨_, 0, rfl, Nat.le_refl _, h3, fun h => absurd rfl h⟩, Same.refl _, ⟨_, _, _, rfl⟩, fun k hk => by cases hk; exact .inl rfl⟩
    simp [Builtin.append_, run_underlying Try.underlying34, sizeOf, typeInfo, hi, Builtin.lenOf, Builtin.firstCells, storeCells]
  | some ad =>
    have hnews : ∀ j u, (l.map pcell).flatten[j]? = some u → w.cell? (ad.add j) = some u := by
      intro j u hu
      have hj : j < l.length * 33 := by rw [← hlen]; exact (List.getElem?_eq_some_iff.1 hu).1
      obtain ⟨k, m, hm, rfl⟩ : ∃ k m, m < 33 ∧ j = k * 33 + m := ⟨j / 33, j % 33, Nat.mod_lt _ (by decide), by omega⟩
      have hk : k < l.length := by omega
      obtain ⟨x, hx⟩ : ∃ x, l[k]? = some x := ⟨_, List.getElem?_eq_getElem hk⟩
      obtain ⟨b, o, h5, _, h7⟩ := h4 (by rintro rfl; simp at hk)
      injection h5 with h5
      subst h5
      rw [flat_get (sz := 33) (l.map pcell) (fun c hc => by
        obtain ⟨y, hy, rfl⟩ := List.mem_map.1 hc
        exact len_pcell (h3 y hy).1) k m (pcell x) (by simp [hx]) hm] at hu
      rw [Addr.add_mid, ← Nat.add_assoc]
      exact h7 k x hx m u hu
    have h1 : ∀ u ∈ (l.map pcell).flatten, u.oneCell' = true := by
      intro u hu
      obtain ⟨p, hp, hu⟩ := List.mem_flatten.1 hu
      obtain ⟨y, _, rfl⟩ := List.mem_map.1 hp
      exact one_pcell0 u hu
    obtain ⟨v', w', hr, ho, _, _⟩ := run_append_own (P := Try.prog) w 0 34 ty 70 i0 (.agg zput0) 33 40 Try.underlying34 hi hz0 hz1 hz2 (by rfl) (by decide) (.slice (some ⟨g, 0, none⟩) 0 0) 0 [] hown ad l.length c (l.map pcell).flatten hlen hnews h1 (by unfold maxLen; omega) (by omega) (Nat.zero_le _)
    refine ⟨v', w', hr, puts_own (base := 0) (by simpa using ho) h3, ?_⟩
    by_cases h0 : l.length = 0
    · have hl0 : l = [] := List.eq_nil_of_length_eq_zero h0
      subst hl0
      have hr2 := run_append_room (P := Try.prog) (w := w) 34 ty 70 i0 Try.underlying34 hi g 0 0 #[] hg ad 0 c [] (by rw [hz1]; rfl) (fun j u hu => by simp at hu) (fun u hu => by simp at hu) (by decide) (by simp)
      have hr3 : Result.ok v' w' = _ := hr.symm.trans hr2
      injection hr3 with hv9 hw
      subst hw
      refine ⟨?_, ⟨_, _, _, hv9⟩, fun k hk => by rw [hv9] at hk; cases hk; exact .inl rfl⟩
      refine ⟨rfl, rfl, rfl, by simp [World.setRow], fun k hk => ?_⟩
      by_cases hkg : k = g
      · subst hkg
        rw [setRow_heap w k #[] _ 70 (0, 0) hg]
        exact (hg.trans (by simp)).symm
      · exact setRow_other w g k _ hkg
    · have hr2 := run_append_grow (P := Try.prog) w 34 ty 70 i0 (.agg zput0) Try.underlying34 hi hz0 ⟨g, 0, none⟩ 0 0 [] (by simp) (fun j u hu => by simp at hu) ad l.length c (l.map pcell).flatten (by rw [hz1]; exact hlen) hnews (by omega) (by omega) (growslice_fits (by omega) (by rw [hz2]; omega))
      have hr3 : Result.ok v' w' = _ := hr.symm.trans hr2
      injection hr3 with hv9 hw
      rw [hw]
      exact ⟨((Below.refl _ _).drew).alloc (Nat.le_refl _) _, ⟨_, _, _, hv9⟩, fun k hk => by rw [hv9] at hk; cases hk; exact .inr rfl⟩
/- the same, and where they lie -/
theorem wp_append_puts_own {w : World} {o : Oper} {a : Act} {K : Act → World → Prop} {Q : Exit → Act → World → Prop} (s x : Operand)
    (ho : o.op = .call { callee := .builtin .append, args := #[s, x], argTypes := #[34, 34] }) (g : Nat) (hs : a.eval s = .slice (some ⟨g, 0, none⟩) 0 0) (hg : Row w g 70 #[])
    (A : Option Addr) (c : Nat) (l : List (Int × List (BitVec 8))) (hx : a.eval x = .slice A l.length c) (h : PutsAt w (.slice A l.length c) l) (hl : l.length ≤ 1000000)
    (hK : ∀ v' w', PutsAt w' v' l → Same w w' → (∃ B n2 c2, v' = .slice B n2 c2) → (∀ k, v'.ownBlock = some k → k = g ∨ k = w.heap.size) → K (a.put o.dst v') w') : o.wp Try.prog a w K Q := by
  obtain ⟨v', w', hr, h1, h2, h3, h4⟩ := append_puts o.type hg h hl
  unfold Oper.wp execOp
  simp only [ho, resolve, invoke, builtin, Sem.run_bind, Sem.run_pure, Result.andThen_ok, List.map_toArray, List.map_cons, List.map_nil, hs, hx, hr]
  exact hK v' w' h1 h2 h3 h4
end Go.Proofs.Ytcdcongeogmfkaa

/- The document's: which puts may be an op's. -/
set_option maxRecDepth 4000
namespace Go.Proofs.Ytcdcongeogmfkaa
open Go Go.RowKit
set_option maxHeartbeats 800000 in
theorem refgood_any (l : List (Int × List (BitVec 8))) (v : Value) (w : World) (hv : PutsAt w v l) (hl : l.length ≤ maxLen) :
    Calls Try.prog 25 #[v] w fun e w' => e = .returned (.bool (goodB (l.map (·.1)))) ∧ Below w.heap.size w w' := by
  obtain ⟨A, c, rfl, _, hb, h3⟩ := hv
  obtain ⟨n, hn⟩ : ∃ n, l.length = n := ⟨_, rfl⟩
  obtain ⟨L, hL⟩ : ∃ L, l.map (·.1) = L := ⟨_, rfl⟩
  have hLn : L.length = n := by rw [← hL, List.length_map, hn]
  have HX : Hid (∀ k, k < n → ∃ b o, A = some ⟨b, o, none⟩ ∧ b < w.heap.size ∧ w.cell? ⟨b, o + k * 33, none⟩ = some (.int .i64 (L.getD k 0)) ∧ -9223372036854775808 ≤ L.getD k 0 ∧ L.getD k 0 < 9223372036854775808) := Lib.hid fun k hk => by
    obtain ⟨x, hx⟩ : ∃ x, l[k]? = some x := ⟨_, List.getElem?_eq_getElem (by rw [hn]; exact hk)⟩
    obtain ⟨b, o, h5, h6, h7⟩ := h3 (by intro e; rw [e] at hx; simp at hx)
    have hd : L.getD k 0 = x.1 := by rw [← hL, List.getD_eq_getElem?_getD, List.getElem?_map, hx]; rfl
    have hr := (hb x (List.mem_of_getElem? hx)).2
    have hc := h7 k x hx 0 _ rfl
    rw [Nat.add_zero] at hc
    rw [hd]
    exact ⟨b, o, h5, h6, hc, hr⟩
  have HG : Hid (goodB L = (decide (∀ k < n, okAt L k) && (decide (1 ≤ n) && decide (n ≤ 5)))) := Lib.hid (by unfold goodB; rw [hLn])
  obtain ⟨G, hG⟩ : ∃ G, goodB L = G := ⟨_, rfl⟩
  rw [hG] at HG
  rw [hL, hG]
  obtain ⟨D, hD⟩ : ∃ D : Nat → Int, ∀ k, L.getD k 0 = D k := ⟨_, fun _ => rfl⟩
  have HK : Hid (∀ k, okAt L k ↔ (0 ≤ D k ∧ D k < 12 ∧ ∀ i < k, D i ≠ D k)) := Lib.hid fun k => by unfold okAt; simp only [hD]
  simp only [hD] at HX
  have HNO : Hid (∀ k, k < n → ¬ okAt L k → G = false) := Lib.hid fun k hk h => by
    rw [HG.out, decide_eq_false (fun h' => h (h' k hk))]; rfl
  rw [hn] at hl ⊢
  unfold maxLen at hl
  clear hD h3 hn hb hL hLn hG
  go_enter Try.func25, Try.ntmps25
  go_wp2_with fail
  go_loopw [3] (fun i wr => ∃ k : Nat, k ≤ n ∧ i = .int .i64 k ∧ (∀ j < k, okAt L j) ∧ Below w.heap.size w wr) (fun i _ => n - (intOf i).toNat)
  case atStart => exact ⟨0, by omega, rfl, fun j hj => by omega, Below.refl _ _⟩
  case round =>
    obtain ⟨k, hk, rfl, hok, hB⟩ := hrel
    have HOK := Lib.hid hok
    have HB := Lib.hid hB
    clear hok
    by_cases hlt : k < n
    · obtain ⟨b, o, rfl, hbw, ck, hlo, hhi⟩ := HX.out k hlt
      have ci : wr.cell? ⟨b, o + k * 33, none⟩ = some (.int .i64 (D k)) := (hB.cell (p := ⟨b, o + k * 33, none⟩) hbw).trans ck
      have CK := Lib.hid ck
      have HBW := Lib.hid hbw
      have hk0 : (0 : Int) ≤ (k : Int) := by omega
      have hk1 : (k : Int) < (n : Int) := by omega
      clear ck hbw hB
      by_cases h0 : 0 ≤ D k
      · by_cases h12 : D k < 12
        · have hd3 : decide (D k < 0) = false := decide_eq_false (by omega)
          have hd4 : decide (12 ≤ D k) = false := decide_eq_false (by omega)
          go_wp2_with fail
          go_loopw [4] (fun m wr' => ∃ j : Nat, j ≤ k ∧ m = .int .i64 j ∧ (∀ i < j, D i ≠ D k) ∧ Below w.heap.size w wr') (fun m _ => k - (intOf m).toNat)
          case atStart => exact ⟨0, by omega, rfl, fun j hj => by omega, HB.out⟩
          case round =>
            obtain ⟨j, hj, rfl, hne, hB2⟩ := hrel
            have HNE := Lib.hid hne
            have HB2 := Lib.hid hB2
            clear hne ci
            by_cases hjk : j < k
            · obtain ⟨b2, o2, e2, _, cj, hlo2, hhi2⟩ := HX.out j (by omega)
              cases e2
              have CJ := Lib.hid cj
              have hj0 : (0 : Int) ≤ (j : Int) := by omega
              have hj1 : (j : Int) < (k : Int) := by omega
              have hj2 : (j : Int) < (n : Int) := by omega
              have hjn : j < n := by omega
              clear cj hB2
              go_upto_region 9 with fail
              have hF0 : Wl [fun W => Below w.heap.size w W] 0 (World.drew _) := HB2.out.drew
              by_cases heq : D j = D k
              · have HQ : Hid ((D j == D k) = true) := Lib.hid (by simpa using heq)
                have HEQ := Lib.hid heq
                clear heq
                refine wp_region_phs [is (.slice (some ⟨b, o, none⟩) n c), is (.int .i64 (j : Int)), is (.pointer (some ⟨b, o + j * 33, none⟩)), is (.pointer (some ⟨b, o + j * 33, none⟩)), is (.int .i64 (D j)), is (.slice (some ⟨b, o, none⟩) n c), is (.int .i64 (k : Int)), is (.pointer (some ⟨b, o + k * 33, none⟩)), is (.pointer (some ⟨b, o + k * 33, none⟩)), is (.int .i64 (D k)), is (.bool true)] [true, true, true, true, true, true, true, true, true, true, true] [(fun W => Below w.heap.size w W)] [false, false, false, false, false, false, false, false, false, false, false] [some 0, some 0, some 0, some 0, some 0, some 0, some 0, some 0, some 0, some 0, some 0] [some 30, some 31, some 32, some 33, some 34, some 35, some 36, some 37, some 38, some 39, some 40] 11 0 (fun _ => true) rfl rfl (by kernel_rfl) (by kernel_rfl) (by kernel_rfl) (by kernel_rfl) ?_ ?_ ?_ ?_ ?_ ?_
                · repeat first | exact wok_nil | refine wok_cons (by first | exact fun _ _ h k => h.trans (k.mono h.size)) ?_
                · repeat first | exact vok_nil | refine vok_rig (by first | exact fun _ _ _ h => h) ?_ | refine vok_soft (by first | exact fun _ _ _ h _ => h) ?_
                · exact hF0
                · repeat first | exact all_end (by decide) | refine all_cons (by first | exact rfl | exact ⟨rfl, fun _ _ h => Or.inl h⟩ | exact ⟨rfl, fun _ _ h => Or.inr ⟨h, rfl⟩⟩) ?_
                · refine allp_mild 0 rfl rfl rfl (fun a x W hout hin hP => ?_) ?_
                  · have e0 : a.tmps[0]? = some (.slice (some ⟨b, o, none⟩) n c) := (hout 0 (by kernel_rfl)).trans rfl
                    exact does_move rfl e0 ⟨Same.refl _, rfl⟩
                  refine allp_mild 0 rfl rfl rfl (fun a x W hout hin hP => ?_) ?_
                  · have e4 : a.tmps[4]? = some (.int .i64 (j : Int)) := (hout 4 (by kernel_rfl)).trans rfl
                    exact does_move rfl e4 ⟨Same.refl _, rfl⟩
                  refine allp_mild 0 rfl rfl rfl (fun a x W hout hin hP => ?_) ?_
                  · have e30 := hin.is 0 30 (by kernel_rfl) (by decide) (by kernel_rfl) (by kernel_rfl) _ rfl
                    have e31 := hin.is 1 31 (by kernel_rfl) (by decide) (by kernel_rfl) (by kernel_rfl) _ rfl
                    clear hin hout
                    intro K Q hK
                    go_simp
                    exact hK _ _ ⟨Same.refl _, rfl⟩
                  refine allp_mild 0 rfl rfl rfl (fun a x W hout hin hP => ?_) ?_
                  · have e32 := hin.is 2 32 (by kernel_rfl) (by decide) (by kernel_rfl) (by kernel_rfl) _ rfl
                    clear hin hout
                    intro K Q hK
                    go_simp
                    exact hK _ _ ⟨Same.refl _, rfl⟩
                  refine allp_mild 0 rfl rfl rfl (fun a x W hout hin hP => ?_) ?_
                  · have e33 := hin.is 3 33 (by kernel_rfl) (by decide) (by kernel_rfl) (by kernel_rfl) _ rfl
                    have hc : W.cell? ⟨b, o + j * 33, none⟩ = some (.int .i64 (D j)) := (hP.cell (p := ⟨b, o + j * 33, none⟩) HBW.out).trans CJ.out
                    clear hP
                    clear hin hout
                    intro K Q hK
                    go_simp
                    exact hK _ _ ⟨Same.refl _, rfl⟩
                  refine allp_mild 0 rfl rfl rfl (fun a x W hout hin hP => ?_) ?_
                  · have e0 : a.tmps[0]? = some (.slice (some ⟨b, o, none⟩) n c) := (hout 0 (by kernel_rfl)).trans rfl
                    exact does_move rfl e0 ⟨Same.refl _, rfl⟩
                  refine allp_mild 0 rfl rfl rfl (fun a x W hout hin hP => ?_) ?_
                  · have e3 : a.tmps[3]? = some (.int .i64 (k : Int)) := (hout 3 (by kernel_rfl)).trans rfl
                    exact does_move rfl e3 ⟨Same.refl _, rfl⟩
                  refine allp_mild 0 rfl rfl rfl (fun a x W hout hin hP => ?_) ?_
                  · have e35 := hin.is 5 35 (by kernel_rfl) (by decide) (by kernel_rfl) (by kernel_rfl) _ rfl
                    have e36 := hin.is 6 36 (by kernel_rfl) (by decide) (by kernel_rfl) (by kernel_rfl) _ rfl
                    clear hin hout
                    intro K Q hK
                    go_simp
                    exact hK _ _ ⟨Same.refl _, rfl⟩
                  refine allp_mild 0 rfl rfl rfl (fun a x W hout hin hP => ?_) ?_
                  · have e37 := hin.is 7 37 (by kernel_rfl) (by decide) (by kernel_rfl) (by kernel_rfl) _ rfl
                    clear hin hout
                    intro K Q hK
                    go_simp
                    exact hK _ _ ⟨Same.refl _, rfl⟩
                  refine allp_mild 0 rfl rfl rfl (fun a x W hout hin hP => ?_) ?_
                  · have e38 := hin.is 8 38 (by kernel_rfl) (by decide) (by kernel_rfl) (by kernel_rfl) _ rfl
                    have hc : W.cell? ⟨b, o + k * 33, none⟩ = some (.int .i64 (D k)) := (hP.cell (p := ⟨b, o + k * 33, none⟩) HBW.out).trans CK.out
                    clear hP
                    clear hin hout
                    intro K Q hK
                    go_simp
                    exact hK _ _ ⟨Same.refl _, rfl⟩
                  refine allp_mild 0 rfl rfl rfl (fun a x W hout hin hP => ?_) ?_
                  · have e34 := hin.is 4 34 (by kernel_rfl) (by decide) (by kernel_rfl) (by kernel_rfl) _ rfl
                    have e39 := hin.is 9 39 (by kernel_rfl) (by decide) (by kernel_rfl) (by kernel_rfl) _ rfl
                    have hq := HQ.out
                    clear hin hout
                    intro K Q hK
                    go_simp
                    exact hK _ _ ⟨Same.refl _, rfl⟩
                  exact all_end (by decide)
                · intro x V hP hV
                  have hB9 := hP
                  have h10 : x 10 = .bool true := hV 10 (by decide) (.inl (by kernel_rfl))
                  clear hP hV
                  simp only [putL, Act.put, List.setIfInBounds_toArray, List.set_cons_succ, List.set_cons_zero, h10]
                  refine wpAnyH_done (by kernel_rfl) ?_ _
                  clear h10
                  go_wp2_with fail
                  go_ret
                  have hG := HNO.out k hlt (fun h => ((HK.out k).1 h).2.2 j hjk HEQ.out)
                  exact ⟨by first | rfl | (rw [hG]; rfl), hB9⟩
              · have HQ : Hid ((D j == D k) = false) := Lib.hid (by simpa using heq)
                have HEQ := Lib.hid heq
                clear heq
                refine wp_region_phs [is (.slice (some ⟨b, o, none⟩) n c), is (.int .i64 (j : Int)), is (.pointer (some ⟨b, o + j * 33, none⟩)), is (.pointer (some ⟨b, o + j * 33, none⟩)), is (.int .i64 (D j)), is (.slice (some ⟨b, o, none⟩) n c), is (.int .i64 (k : Int)), is (.pointer (some ⟨b, o + k * 33, none⟩)), is (.pointer (some ⟨b, o + k * 33, none⟩)), is (.int .i64 (D k)), is (.bool false)] [true, true, true, true, true, true, true, true, true, true, true] [(fun W => Below w.heap.size w W)] [false, false, false, false, false, false, false, false, false, false, false] [some 0, some 0, some 0, some 0, some 0, some 0, some 0, some 0, some 0, some 0, some 0] [some 30, some 31, some 32, some 33, some 34, some 35, some 36, some 37, some 38, some 39, some 40] 11 0 (fun _ => true) rfl rfl (by kernel_rfl) (by kernel_rfl) (by kernel_rfl) (by kernel_rfl) ?_ ?_ ?_ ?_ ?_ ?_
                · repeat first | exact wok_nil | refine wok_cons (by first | exact fun _ _ h k => h.trans (k.mono h.size)) ?_
                · repeat first | exact vok_nil | refine vok_rig (by first | exact fun _ _ _ h => h) ?_ | refine vok_soft (by first | exact fun _ _ _ h _ => h) ?_
                · exact hF0
                · repeat first | exact all_end (by decide) | refine all_cons (by first | exact rfl | exact ⟨rfl, fun _ _ h => Or.inl h⟩ | exact ⟨rfl, fun _ _ h => Or.inr ⟨h, rfl⟩⟩) ?_
                · refine allp_mild 0 rfl rfl rfl (fun a x W hout hin hP => ?_) ?_
                  · have e0 : a.tmps[0]? = some (.slice (some ⟨b, o, none⟩) n c) := (hout 0 (by kernel_rfl)).trans rfl
                    exact does_move rfl e0 ⟨Same.refl _, rfl⟩
                  refine allp_mild 0 rfl rfl rfl (fun a x W hout hin hP => ?_) ?_
                  · have e4 : a.tmps[4]? = some (.int .i64 (j : Int)) := (hout 4 (by kernel_rfl)).trans rfl
                    exact does_move rfl e4 ⟨Same.refl _, rfl⟩
                  refine allp_mild 0 rfl rfl rfl (fun a x W hout hin hP => ?_) ?_
                  · have e30 := hin.is 0 30 (by kernel_rfl) (by decide) (by kernel_rfl) (by kernel_rfl) _ rfl
                    have e31 := hin.is 1 31 (by kernel_rfl) (by decide) (by kernel_rfl) (by kernel_rfl) _ rfl
                    clear hin hout
                    intro K Q hK
                    go_simp
                    exact hK _ _ ⟨Same.refl _, rfl⟩
                  refine allp_mild 0 rfl rfl rfl (fun a x W hout hin hP => ?_) ?_
                  · have e32 := hin.is 2 32 (by kernel_rfl) (by decide) (by kernel_rfl) (by kernel_rfl) _ rfl
                    clear hin hout
                    intro K Q hK
                    go_simp
                    exact hK _ _ ⟨Same.refl _, rfl⟩
                  refine allp_mild 0 rfl rfl rfl (fun a x W hout hin hP => ?_) ?_
                  · have e33 := hin.is 3 33 (by kernel_rfl) (by decide) (by kernel_rfl) (by kernel_rfl) _ rfl
                    have hc : W.cell? ⟨b, o + j * 33, none⟩ = some (.int .i64 (D j)) := (hP.cell (p := ⟨b, o + j * 33, none⟩) HBW.out).trans CJ.out
                    clear hP
                    clear hin hout
                    intro K Q hK
                    go_simp
                    exact hK _ _ ⟨Same.refl _, rfl⟩
                  refine allp_mild 0 rfl rfl rfl (fun a x W hout hin hP => ?_) ?_
                  · have e0 : a.tmps[0]? = some (.slice (some ⟨b, o, none⟩) n c) := (hout 0 (by kernel_rfl)).trans rfl
                    exact does_move rfl e0 ⟨Same.refl _, rfl⟩
                  refine allp_mild 0 rfl rfl rfl (fun a x W hout hin hP => ?_) ?_
                  · have e3 : a.tmps[3]? = some (.int .i64 (k : Int)) := (hout 3 (by kernel_rfl)).trans rfl
                    exact does_move rfl e3 ⟨Same.refl _, rfl⟩
                  refine allp_mild 0 rfl rfl rfl (fun a x W hout hin hP => ?_) ?_
                  · have e35 := hin.is 5 35 (by kernel_rfl) (by decide) (by kernel_rfl) (by kernel_rfl) _ rfl
                    have e36 := hin.is 6 36 (by kernel_rfl) (by decide) (by kernel_rfl) (by kernel_rfl) _ rfl
                    clear hin hout
                    intro K Q hK
                    go_simp
                    exact hK _ _ ⟨Same.refl _, rfl⟩
                  refine allp_mild 0 rfl rfl rfl (fun a x W hout hin hP => ?_) ?_
                  · have e37 := hin.is 7 37 (by kernel_rfl) (by decide) (by kernel_rfl) (by kernel_rfl) _ rfl
                    clear hin hout
                    intro K Q hK
                    go_simp
                    exact hK _ _ ⟨Same.refl _, rfl⟩
                  refine allp_mild 0 rfl rfl rfl (fun a x W hout hin hP => ?_) ?_
                  · have e38 := hin.is 8 38 (by kernel_rfl) (by decide) (by kernel_rfl) (by kernel_rfl) _ rfl
                    have hc : W.cell? ⟨b, o + k * 33, none⟩ = some (.int .i64 (D k)) := (hP.cell (p := ⟨b, o + k * 33, none⟩) HBW.out).trans CK.out
                    clear hP
                    clear hin hout
                    intro K Q hK
                    go_simp
                    exact hK _ _ ⟨Same.refl _, rfl⟩
                  refine allp_mild 0 rfl rfl rfl (fun a x W hout hin hP => ?_) ?_
                  · have e34 := hin.is 4 34 (by kernel_rfl) (by decide) (by kernel_rfl) (by kernel_rfl) _ rfl
                    have e39 := hin.is 9 39 (by kernel_rfl) (by decide) (by kernel_rfl) (by kernel_rfl) _ rfl
                    have hq := HQ.out
                    clear hin hout
                    intro K Q hK
                    go_simp
                    exact hK _ _ ⟨Same.refl _, rfl⟩
                  exact all_end (by decide)
                · intro x V hP hV
                  have hB9 := hP
                  have h10 : x 10 = .bool false := hV 10 (by decide) (.inl (by kernel_rfl))
                  clear hP hV
                  simp only [putL, Act.put, List.setIfInBounds_toArray, List.set_cons_succ, List.set_cons_zero, h10]
                  refine wpAnyH_done (by kernel_rfl) ?_ _
                  clear h10
                  go_wp2_with fail
                  refine ⟨⟨j + 1, by omega, by go_num, fun i hi => ?_, hB9⟩, by simp [intOf] <;> omega⟩
                  rcases Nat.lt_or_eq_of_le (Nat.le_of_lt_succ hi) with h | rfl
                  · exact HNE.out i h
                  · exact HEQ.out
            · obtain rfl : j = k := by omega
              go_wp2_with fail
              refine ⟨⟨j + 1, by omega, by go_num, fun i hi => ?_, HB2.out⟩, by simp [intOf] <;> omega⟩
              rcases Nat.lt_or_eq_of_le (Nat.le_of_lt_succ hi) with h | rfl
              · exact HOK.out i h
              · exact (HK.out i).2 ⟨h0, h12, HNE.out⟩
        · have hd3 : decide (D k < 0) = false := decide_eq_false (by omega)
          have hd4 : decide (12 ≤ D k) = true := decide_eq_true (by omega)
          have hG := HNO.out k hlt (fun h => h12 ((HK.out k).1 h).2.1)
          go_wp2_with fail
          go_ret
          exact ⟨by first | rfl | (rw [hG]; rfl), HB.out⟩
      · have hd3 : decide (D k < 0) = true := decide_eq_true (by omega)
        have hG := HNO.out k hlt (fun h => h0 ((HK.out k).1 h).1)
        go_wp2_with fail
        go_ret
        exact ⟨by first | rfl | (rw [hG]; rfl), HB.out⟩
    · obtain rfl : k = n := by omega
      have hG := HG.out
      rw [decide_eq_true HOK.out, Bool.true_and] at hG
      by_cases h1 : 1 ≤ k
      · have hd1 : decide ((1 : Int) ≤ (k : Int)) = true := decide_eq_true (by omega)
        by_cases h5 : k ≤ 5
        · have hd2 : decide ((k : Int) ≤ 5) = true := decide_eq_true (by omega)
          rw [decide_eq_true h1, decide_eq_true h5] at hG
          go_wp2_with fail
          go_ret
          exact ⟨by first | rfl | (rw [hG]; rfl), hB⟩
        · have hd2 : decide ((k : Int) ≤ 5) = false := decide_eq_false (by omega)
          rw [decide_eq_true h1, decide_eq_false h5] at hG
          go_wp2_with fail
          go_ret
          exact ⟨by first | rfl | (rw [hG]; rfl), hB⟩
      · have hd1 : decide ((1 : Int) ≤ (k : Int)) = false := decide_eq_false (by omega)
        rw [decide_eq_false h1] at hG
        go_wp2_with fail
        go_ret
        exact ⟨by first | rfl | (rw [hG]; rfl), hB⟩
end Go.Proofs.Ytcdcongeogmfkaa

/- Two blocks of a call's own that stay as they are, and all that was there ahead of the call. -/
set_option maxRecDepth 4000
namespace Go.Proofs.Ytcdcongeogmfkaa
open Go Go.RowKit
structure At2 (w W : World) (g1 : Nat) (t1 : TypeId) (c1 : Array Value) (g2 : Nat) (t2 : TypeId) (c2 : Array Value) (B0 : Nat) : Prop where
  r1 : Row W g1 t1 c1
  r2 : Row W g2 t2 c2
  below : Below w.heap.size w W
  bse : B0 ≤ W.heap.size
  lo1 : w.heap.size ≤ g1
  lo2 : w.heap.size ≤ g2
  l1 : g1 < B0
  l2 : g2 < B0
  b0 : w.heap.size ≤ B0
section
variable {w W W' : World} {g1 g2 B0 g : Nat} {t1 t2 : TypeId} {c1 c2 : Array Value}
theorem At2.call (h : At2 w W g1 t1 c1 g2 t2 c2 B0) (k : Same W W') : At2 w W' g1 t1 c1 g2 t2 c2 B0 :=
  ⟨h.r1.call k, h.r2.call k, h.below.trans (k.mono h.below.size), Nat.le_trans h.bse k.size, h.lo1, h.lo2, h.l1, h.l2, h.b0⟩
theorem At2.grow (h : At2 w W g1 t1 c1 g2 t2 c2 B0) (k : Below B0 W W') : At2 w W' g1 t1 c1 g2 t2 c2 B0 :=
  ⟨(k.block g1 h.l1).trans h.r1, (k.block g2 h.l2).trans h.r2, h.below.trans (k.mono h.b0), Nat.le_trans h.bse k.size, h.lo1, h.lo2, h.l1, h.l2, h.b0⟩
theorem At2.only (h : At2 w W g1 t1 c1 g2 t2 c2 B0) (hg : B0 ≤ g) (k : W.grownBy W' (some g)) : At2 w W' g1 t1 c1 g2 t2 c2 B0 :=
  h.grow (only_below k hg h.bse)
theorem At2.set (h : At2 w W g1 t1 c1 g2 t2 c2 B0) (hg : B0 ≤ g) (cs : Array Value) : At2 w (W.setRow g cs) g1 t1 c1 g2 t2 c2 B0 := h.only hg (grown_setRow W g cs)
theorem At2.two (w : World) (t1 t2 : TypeId) (c1 c2 : Array Value) : At2 w ((w.alloc (.cells c1 t1)).alloc (.cells c2 t2)) w.heap.size t1 c1 (w.heap.size + 1) t2 c2 (w.heap.size + 1 + 1) :=
  ⟨(Row.fresh _ _ _).alloc _, by have := Row.fresh (w.alloc (.cells c1 t1)) t2 c2; simpa using this, ((Below.refl _ _).alloc (Nat.le_refl _) _).alloc (by simp) _, by simp, Nat.le_refl _, by omega, by omega, by omega, by omega⟩
end
end Go.Proofs.Ytcdcongeogmfkaa

/- Two puts compared. -/
set_option maxRecDepth 4000
namespace Go.Proofs.Ytcdcongeogmfkaa
open Go Go.RowKit
theorem take_pcell (i : Int) (q : List (BitVec 8)) (hq : q.length = 32) : (List.take 32 (pcell (i, q)).tail).toArray = bs q := by
  show (List.take 32 (bytesV q)).toArray = _
  rw [List.take_of_length_le (by rw [len_bytesV, hq]; exact Nat.le_refl _)]; rfl
theorem eql_put (x y : Int × List (BitVec 8)) (hx : x.2.length = 32) (hy : y.2.length = 32) (w : World) : (Op.equalIn 10000 70 (.agg (pcell x).toArray) (.agg (pcell y).toArray)).run Try.prog w = .ok (decide (x = y)) w := by
  have hS : Try.prog.underlying 70 = some (.struct (Try.prog.fieldsOf 70)) := by kernel_rfl
  obtain ⟨i, p⟩ := x
  obtain ⟨j, q⟩ := y
  have h3 := equal_bytesD 9997 52 32 p q hx hy Try.underlying52 w
  rw [show (10000 : Nat) = 9999 + 1 from rfl, run_equalIn_agg w 9999 70 _ _ hS (by kernel_rfl)]
  simp only [Program.fieldsOf, Try.underlying70]
  have u1 := Try.underlying3
  have c1 : (pcell (i, p))[0]? = some (.int .i64 i) := rfl
  have c2 : (pcell (j, q))[0]? = some (.int .i64 j) := rfl
  go_simp
  rw [take_pcell i p hx, take_pcell j q hy]
  rw [show (9999 : Nat) = 9997 + 2 from rfl, h3]
  by_cases h1 : i = j <;> by_cases h2 : p = q <;> simp [h1, h2]
end Go.Proofs.Ytcdcongeogmfkaa

/- Are two lists of puts alike? -/
set_option maxRecDepth 4000
namespace Go.Proofs.Ytcdcongeogmfkaa
open Go Go.RowKit
attribute [local go_sem high] eql_put
theorem size_put33 : (Try.prog.info? 70).map (·.size) = some 33 := by kernel_rfl
theorem range_below {w W : World} {b o : Nat} {L : List Value} (h : w.rangeAt b o L) (hb : Below w.heap.size w W) (hw : b < w.heap.size) : W.rangeAt b o L := fun j v hv => (hb.cell (p := ⟨b, o + j, none⟩) hw).trans (h j v hv)
set_option maxRecDepth 20000 in
set_option maxHeartbeats 800000 in
theorem keepputs_any (la lb : List (Int × List (BitVec 8))) (u v : Value) (w : World) (hu : PutsAt w u la) (hv : PutsAt w v lb) (hl : la.length ≤ 1000000) :
    Calls Try.prog 17 #[u, v] w fun e w' => e = .returned (.bool (decide (la = lb))) ∧ Below w.heap.size w w' := by
  obtain ⟨A1, c1, rfl, _, h13, h14⟩ := hu
  obtain ⟨A2, c2, rfl, _, h23, h24⟩ := hv
  obtain ⟨G, hG⟩ : ∃ G, decide (la = lb) = G := ⟨_, rfl⟩
  by_cases hlen : la.length = lb.length
  case neg =>
    have hG0 : G = false := by rw [← hG, decide_eq_false (fun h => hlen (by rw [h]))]
    rw [hG, hG0]
    have hq : (la.length : Int) ≠ (lb.length : Int) := by omega
    clear h13 h14 h23 h24 hG hlen
    generalize la.length = n1 at *
    generalize lb.length = n2 at *
    go_enter Try.func17, Try.ntmps17
    go_wp2_with fail
    go_ret
    exact ⟨rfl, Below.refl _ _⟩
  obtain ⟨n, hn⟩ : ∃ n, la.length = n := ⟨_, rfl⟩
  have hm : lb.length = n := by omega
  have HF : Hid (∀ k, k < n → ∃ x y b1 o1 b2 o2, la[k]? = some x ∧ lb[k]? = some y ∧ A1 = some ⟨b1, o1, none⟩ ∧ A2 = some ⟨b2, o2, none⟩ ∧ w.rangeAt b1 (o1 + k * 33) (pcell x) ∧ w.rangeAt b2 (o2 + k * 33) (pcell y) ∧ b1 < w.heap.size ∧ b2 < w.heap.size ∧ x.2.length = 32 ∧ y.2.length = 32) := Lib.hid fun k hk => by
    obtain ⟨x, hx⟩ : ∃ x, la[k]? = some x := ⟨_, List.getElem?_eq_getElem (by rw [hn]; exact hk)⟩
    obtain ⟨y, hy⟩ : ∃ x, lb[k]? = some x := ⟨_, List.getElem?_eq_getElem (by rw [hm]; exact hk)⟩
    obtain ⟨b1, o1, e1, w1, r1⟩ := h14 (by rintro rfl; simp at hx)
    obtain ⟨b2, o2, e2, w2, r2⟩ := h24 (by rintro rfl; simp at hy)
    exact ⟨x, y, b1, o1, b2, o2, hx, hy, e1, e2, r1 k x hx, r2 k y hy, w1, w2, (h13 x (List.mem_of_getElem? hx)).1, (h23 y (List.mem_of_getElem? hy)).1⟩
  have HALL : Hid ((∀ i < n, la[i]? = lb[i]?) → G = true) := Lib.hid fun h => by
    rw [← hG]
    refine decide_eq_true (List.ext_getElem? fun i => ?_)
    by_cases hi : i < n
    · exact h i hi
    · rw [List.getElem?_eq_none (by omega), List.getElem?_eq_none (by omega)]
  have HNO : Hid (∀ k : Nat, la[k]? ≠ lb[k]? → G = false) := Lib.hid fun k h => by
    rw [← hG]; exact decide_eq_false (fun e => h (by rw [e]))
  have hl6 : n ≤ 1000000 := by omega
  rw [hG, hn, hm]
  clear h13 h14 h23 h24 hG hn hm hlen hl
  go_enter Try.func17, Try.ntmps17
  go_wp2_with fail
  go_loopw [5] (fun i wr => ∃ k : Nat, k ≤ n ∧ i = .int .i64 k ∧ (∀ j < k, la[j]? = lb[j]?) ∧ Below w.heap.size w wr) (fun i _ => n - (intOf i).toNat)
  case atStart => exact ⟨0, by omega, rfl, fun j hj => by omega, Below.refl _ _⟩
  case round =>
    obtain ⟨k, hk, rfl, hE, hB⟩ := hrel
    have HE := Lib.hid hE
    have HB := Lib.hid hB
    clear hE
    by_cases hlt : k < n
    · obtain ⟨x, y, b1, o1, b2, o2, hx, hy, rfl, rfl, r1, r2, w1, w2, l1, l2⟩ := HF.out k hlt
      obtain ⟨O1, hO1⟩ : ∃ O, o1 + k * 33 = O := ⟨_, rfl⟩
      obtain ⟨O2, hO2⟩ : ∃ O, o2 + k * 33 = O := ⟨_, rfl⟩
      rw [hO1] at r1
      rw [hO2] at r2
      have HX1 := Lib.hid hx
      have HX2 := Lib.hid hy
      have HR1 := Lib.hid r1
      have HR2 := Lib.hid r2
      have HW1 := Lib.hid w1
      have HW2 := Lib.hid w2
      have HL1 := Lib.hid l1
      have HL2 := Lib.hid l2
      have HO1 := Lib.hid hO1
      have HO2 := Lib.hid hO2
      have hk0 : (0 : Int) ≤ (k : Int) := by omega
      have hk1 : (k : Int) < (n : Int) := by omega
      clear hx hy r1 r2 w1 w2 l1 l2 hO1 hO2 hB
      go_upto_region 6 with fail
      have hF0 : Wl [fun W => Below w.heap.size w W] 0 (World.drew _) := HB.out.drew
      by_cases hxy : x = y
      · have HQ : Hid (decide (x = y) = true) := Lib.hid (decide_eq_true hxy)
        have HXY := Lib.hid hxy
        clear hxy
        refine wp_region_phs [is (.slice (some ⟨b1, o1, none⟩) n c1), is (.int .i64 (k : Int)), is (.pointer (some ⟨b1, O1, none⟩)), is (.agg (pcell x).toArray), is (.slice (some ⟨b2, o2, none⟩) n c2), is (.int .i64 (k : Int)), is (.pointer (some ⟨b2, O2, none⟩)), is (.agg (pcell y).toArray), is (.bool false)] [true, true, true, true, true, true, true, true, true] [(fun W => Below w.heap.size w W)] [false, false, false, false, false, false, false, false, false] [some 0, some 0, some 0, some 0, some 0, some 0, some 0, some 0, some 0] [some 17, some 18, some 19, some 20, some 21, some 22, some 23, some 24, some 25] 9 0 (fun _ => true) rfl rfl (by kernel_rfl) (by kernel_rfl) (by kernel_rfl) (by kernel_rfl) ?_ ?_ ?_ ?_ ?_ ?_
        · repeat first | exact wok_nil | refine wok_cons (by first | exact fun _ _ h k => h.trans (k.mono h.size)) ?_
        · repeat first | exact vok_nil | refine vok_rig (by first | exact fun _ _ _ h => h) ?_ | refine vok_soft (by first | exact fun _ _ _ h _ => h) ?_
        · exact hF0
        · repeat first | exact all_end (by decide) | refine all_cons (by first | exact rfl | exact ⟨rfl, fun _ _ h => Or.inl h⟩ | exact ⟨rfl, fun _ _ h => Or.inr ⟨h, rfl⟩⟩) ?_
        · refine allp_mild 0 rfl rfl rfl (fun a x_ W hout hin hP => ?_) ?_
          · have e0 : a.tmps[0]? = some (.slice (some ⟨b1, o1, none⟩) n c1) := (hout 0 (by kernel_rfl)).trans rfl
            exact does_move rfl e0 ⟨Same.refl _, rfl⟩
          refine allp_mild 0 rfl rfl rfl (fun a x_ W hout hin hP => ?_) ?_
          · have e5 : a.tmps[5]? = some (.int .i64 (k : Int)) := (hout 5 (by kernel_rfl)).trans rfl
            exact does_move rfl e5 ⟨Same.refl _, rfl⟩
          refine allp_mild 0 rfl rfl rfl (fun a x_ W hout hin hP => ?_) ?_
          · have e17 := hin.is 0 17 (by kernel_rfl) (by decide) (by kernel_rfl) (by kernel_rfl) _ rfl
            have e18 := hin.is 1 18 (by kernel_rfl) (by decide) (by kernel_rfl) (by kernel_rfl) _ rfl
            have hO := HO1.out
            clear hin hout
            intro K Q hK
            go_simp
            exact hK _ _ ⟨Same.refl _, rfl⟩
          refine allp_mild 0 rfl rfl rfl (fun a x_ W hout hin hP => ?_) ?_
          · have e19 := hin.is 2 19 (by kernel_rfl) (by decide) (by kernel_rfl) (by kernel_rfl) _ rfl
            clear hin hout
            intro K Q hK
            exact wp_load_mid 70 (.tmp 19) rfl b1 O1 (eval_of_get e19) (pcell x) _ (range_below HR1.out hP HW1.out) Try.underlying70 rfl (by rw [len_pcell HL1.out]; exact size_put33) (hK _ _ ⟨Same.refl _, rfl⟩)
          refine allp_mild 0 rfl rfl rfl (fun a x_ W hout hin hP => ?_) ?_
          · have e1 : a.tmps[1]? = some (.slice (some ⟨b2, o2, none⟩) n c2) := (hout 1 (by kernel_rfl)).trans rfl
            exact does_move rfl e1 ⟨Same.refl _, rfl⟩
          refine allp_mild 0 rfl rfl rfl (fun a x_ W hout hin hP => ?_) ?_
          · have e5 : a.tmps[5]? = some (.int .i64 (k : Int)) := (hout 5 (by kernel_rfl)).trans rfl
            exact does_move rfl e5 ⟨Same.refl _, rfl⟩
          refine allp_mild 0 rfl rfl rfl (fun a x_ W hout hin hP => ?_) ?_
          · have e21 := hin.is 4 21 (by kernel_rfl) (by decide) (by kernel_rfl) (by kernel_rfl) _ rfl
            have e22 := hin.is 5 22 (by kernel_rfl) (by decide) (by kernel_rfl) (by kernel_rfl) _ rfl
            have hO := HO2.out
            clear hin hout
            intro K Q hK
            go_simp
            exact hK _ _ ⟨Same.refl _, rfl⟩
          refine allp_mild 0 rfl rfl rfl (fun a x_ W hout hin hP => ?_) ?_
          · have e23 := hin.is 6 23 (by kernel_rfl) (by decide) (by kernel_rfl) (by kernel_rfl) _ rfl
            clear hin hout
            intro K Q hK
            exact wp_load_mid 70 (.tmp 23) rfl b2 O2 (eval_of_get e23) (pcell y) _ (range_below HR2.out hP HW2.out) Try.underlying70 rfl (by rw [len_pcell HL2.out]; exact size_put33) (hK _ _ ⟨Same.refl _, rfl⟩)
          refine allp_mild 0 rfl rfl rfl (fun a x_ W hout hin hP => ?_) ?_
          · have e20 := hin.is 3 20 (by kernel_rfl) (by decide) (by kernel_rfl) (by kernel_rfl) _ rfl
            have e24 := hin.is 7 24 (by kernel_rfl) (by decide) (by kernel_rfl) (by kernel_rfl) _ rfl
            have hq := HQ.out
            have hl1 := HL1.out
            have hl2 := HL2.out
            clear hP
            clear hin hout
            intro K Q hK
            go_simp
            exact hK _ _ ⟨Same.refl _, rfl⟩
          exact all_end (by decide)
        · intro x_ V hP hV
          have hB9 := hP
          have h8 : x_ 8 = .bool false := hV 8 (by decide) (.inl (by kernel_rfl))
          clear hP hV
          simp only [putL, Act.put, List.setIfInBounds_toArray, List.set_cons_succ, List.set_cons_zero, h8]
          refine wpAnyH_done (by kernel_rfl) ?_ _
          clear h8
          go_wp2_with fail
          refine ⟨⟨k + 1, by omega, by go_num, fun i hi => ?_, hB9⟩, by simp [intOf] <;> omega⟩
          rcases Nat.lt_or_eq_of_le (Nat.le_of_lt_succ hi) with h | rfl
          · exact HE.out i h
          · rw [HX1.out, HX2.out, HXY.out]
      · have HQ : Hid (decide (x = y) = false) := Lib.hid (decide_eq_false hxy)
        have HXY := Lib.hid hxy
        clear hxy
        refine wp_region_phs [is (.slice (some ⟨b1, o1, none⟩) n c1), is (.int .i64 (k : Int)), is (.pointer (some ⟨b1, O1, none⟩)), is (.agg (pcell x).toArray), is (.slice (some ⟨b2, o2, none⟩) n c2), is (.int .i64 (k : Int)), is (.pointer (some ⟨b2, O2, none⟩)), is (.agg (pcell y).toArray), is (.bool true)] [true, true, true, true, true, true, true, true, true] [(fun W => Below w.heap.size w W)] [false, false, false, false, false, false, false, false, false] [some 0, some 0, some 0, some 0, some 0, some 0, some 0, some 0, some 0] [some 17, some 18, some 19, some 20, some 21, some 22, some 23, some 24, some 25] 9 0 (fun _ => true) rfl rfl (by kernel_rfl) (by kernel_rfl) (by kernel_rfl) (by kernel_rfl) ?_ ?_ ?_ ?_ ?_ ?_
        · repeat first | exact wok_nil | refine wok_cons (by first | exact fun _ _ h k => h.trans (k.mono h.size)) ?_
        · repeat first | exact vok_nil | refine vok_rig (by first | exact fun _ _ _ h => h) ?_ | refine vok_soft (by first | exact fun _ _ _ h _ => h) ?_
        · exact hF0
        · repeat first | exact all_end (by decide) | refine all_cons (by first | exact rfl | exact ⟨rfl, fun _ _ h => Or.inl h⟩ | exact ⟨rfl, fun _ _ h => Or.inr ⟨h, rfl⟩⟩) ?_
        · refine allp_mild 0 rfl rfl rfl (fun a x_ W hout hin hP => ?_) ?_
          · have e0 : a.tmps[0]? = some (.slice (some ⟨b1, o1, none⟩) n c1) := (hout 0 (by kernel_rfl)).trans rfl
            exact does_move rfl e0 ⟨Same.refl _, rfl⟩
          refine allp_mild 0 rfl rfl rfl (fun a x_ W hout hin hP => ?_) ?_
          · have e5 : a.tmps[5]? = some (.int .i64 (k : Int)) := (hout 5 (by kernel_rfl)).trans rfl
            exact does_move rfl e5 ⟨Same.refl _, rfl⟩
          refine allp_mild 0 rfl rfl rfl (fun a x_ W hout hin hP => ?_) ?_
          · have e17 := hin.is 0 17 (by kernel_rfl) (by decide) (by kernel_rfl) (by kernel_rfl) _ rfl
            have e18 := hin.is 1 18 (by kernel_rfl) (by decide) (by kernel_rfl) (by kernel_rfl) _ rfl
            have hO := HO1.out
            clear hin hout
            intro K Q hK
            go_simp
            exact hK _ _ ⟨Same.refl _, rfl⟩
          refine allp_mild 0 rfl rfl rfl (fun a x_ W hout hin hP => ?_) ?_
          · have e19 := hin.is 2 19 (by kernel_rfl) (by decide) (by kernel_rfl) (by kernel_rfl) _ rfl
            clear hin hout
            intro K Q hK
            exact wp_load_mid 70 (.tmp 19) rfl b1 O1 (eval_of_get e19) (pcell x) _ (range_below HR1.out hP HW1.out) Try.underlying70 rfl (by rw [len_pcell HL1.out]; exact size_put33) (hK _ _ ⟨Same.refl _, rfl⟩)
          refine allp_mild 0 rfl rfl rfl (fun a x_ W hout hin hP => ?_) ?_
          · have e1 : a.tmps[1]? = some (.slice (some ⟨b2, o2, none⟩) n c2) := (hout 1 (by kernel_rfl)).trans rfl
            exact does_move rfl e1 ⟨Same.refl _, rfl⟩
          refine allp_mild 0 rfl rfl rfl (fun a x_ W hout hin hP => ?_) ?_
          · have e5 : a.tmps[5]? = some (.int .i64 (k : Int)) := (hout 5 (by kernel_rfl)).trans rfl
            exact does_move rfl e5 ⟨Same.refl _, rfl⟩
          refine allp_mild 0 rfl rfl rfl (fun a x_ W hout hin hP => ?_) ?_
          · have e21 := hin.is 4 21 (by kernel_rfl) (by decide) (by kernel_rfl) (by kernel_rfl) _ rfl
            have e22 := hin.is 5 22 (by kernel_rfl) (by decide) (by kernel_rfl) (by kernel_rfl) _ rfl
            have hO := HO2.out
            clear hin hout
            intro K Q hK
            go_simp
            exact hK _ _ ⟨Same.refl _, rfl⟩
          refine allp_mild 0 rfl rfl rfl (fun a x_ W hout hin hP => ?_) ?_
          · have e23 := hin.is 6 23 (by kernel_rfl) (by decide) (by kernel_rfl) (by kernel_rfl) _ rfl
            clear hin hout
            intro K Q hK
            exact wp_load_mid 70 (.tmp 23) rfl b2 O2 (eval_of_get e23) (pcell y) _ (range_below HR2.out hP HW2.out) Try.underlying70 rfl (by rw [len_pcell HL2.out]; exact size_put33) (hK _ _ ⟨Same.refl _, rfl⟩)
          refine allp_mild 0 rfl rfl rfl (fun a x_ W hout hin hP => ?_) ?_
          · have e20 := hin.is 3 20 (by kernel_rfl) (by decide) (by kernel_rfl) (by kernel_rfl) _ rfl
            have e24 := hin.is 7 24 (by kernel_rfl) (by decide) (by kernel_rfl) (by kernel_rfl) _ rfl
            have hq := HQ.out
            have hl1 := HL1.out
            have hl2 := HL2.out
            clear hP
            clear hin hout
            intro K Q hK
            go_simp
            exact hK _ _ ⟨Same.refl _, rfl⟩
          exact all_end (by decide)
        · intro x_ V hP hV
          have hB9 := hP
          have h8 : x_ 8 = .bool true := hV 8 (by decide) (.inl (by kernel_rfl))
          clear hP hV
          simp only [putL, Act.put, List.setIfInBounds_toArray, List.set_cons_succ, List.set_cons_zero, h8]
          refine wpAnyH_done (by kernel_rfl) ?_ _
          clear h8
          have hG := HNO.out k (by rw [HX1.out, HX2.out]; exact fun h => HXY.out (Option.some.inj h))
          go_wp2_with fail
          go_ret
          exact ⟨by first | rfl | (rw [hG]; rfl), hB9⟩
    · obtain rfl : k = n := by omega
      have hG := HALL.out HE.out
      go_wp2_with fail
      go_ret
      exact ⟨by first | rfl | (rw [hG]; rfl), hB⟩
end Go.Proofs.Ytcdcongeogmfkaa

/- What an argument holds, read by its type: integers, bools, texts, rows of bytes, slices, structs, put together as the type is. No function of the program is named here. -/
set_option maxRecDepth 4000
namespace Go.Proofs.Ytcdcongeogmfkaa
open Go Go.ChangeShapes Go.WideShapes Go.ChangeAt Go.RowKit
/- the cells cs hold a, in the world w -/
def Rd (α : Type) := World → List Value → α → Prop
def Rd.Stays {α : Type} (R : Rd α) : Prop := ∀ (B : Nat) (w w' : World) (cs : List Value) (a : α), R w cs a → Below B w w' → w.heap.size ≤ B → R w' cs a
def Opens (P : Program) {α : Type} (t : TypeId) (R : Rd α) : Prop :=
  ∀ {H : Type} (enc : TypeId × Value → H) (W : World) (fuel : Nat) (cs : List Value) (x : DataW H × List MemPlace), DataW.trod enc P W 0 (fun _ => true) true fuel t cs = some x → (∀ y ∈ x.2, y.block < W.heap.size) → ∃ a, R W cs a
def rdInt (k : IntKind) : Rd Int := fun _ cs n => cs = [.int k n] ∧ (Lit.int k n).wf = true
def rdU8 : Rd (BitVec 8) := fun _ cs x => cs = [.int .u8 (bd x)]
def rdRow (n : Nat) : Rd (List (BitVec 8)) := fun _ cs b => cs = bytesV b ∧ b.length = n
def rdNil : Rd Unit := fun _ cs _ => cs = []
def rdCons {α β : Type} (s : Nat) (R : Rd α) (T : Rd β) : Rd (α × β) := fun w cs ab => ∃ c d, cs = c ++ d ∧ c.length = s ∧ R w c ab.1 ∧ T w d ab.2
def rdSl {α : Type} (s : Nat) (R : Rd α) : Rd (List α) := fun w cs l => ∃ A c, cs = [.slice A l.length c] ∧ l.length ≤ c ∧ (A = none → c = 0) ∧ l.length ≤ maxLen ∧
  (l ≠ [] → ∃ b o, A = some ⟨b, o, none⟩ ∧ b < w.heap.size ∧ ∀ k x, l[k]? = some x → ∃ ds, ds.length = s ∧ w.rangeAt b (o + k * s) ds ∧ R w ds x)
def rdMap {α β : Type} (f : α → β) (R : Rd α) : Rd β := fun w cs b => ∃ a, R w cs a ∧ b = f a
theorem stays_int (k : IntKind) : (rdInt k).Stays := fun _ _ _ _ _ h _ _ => h
theorem stays_u8 : rdU8.Stays := fun _ _ _ _ _ h _ _ => h
theorem stays_row (n : Nat) : (rdRow n).Stays := fun _ _ _ _ _ h _ _ => h
theorem stays_rnil : rdNil.Stays := fun _ _ _ _ _ h _ _ => h
theorem stays_cons' {α β : Type} {s : Nat} {R : Rd α} {T : Rd β} (h : R.Stays) (t : T.Stays) : (rdCons s R T).Stays := fun B w w' _ _ ⟨c, d, e, hl, h1, h2⟩ hb hB => ⟨c, d, e, hl, h B w w' _ _ h1 hb hB, t B w w' _ _ h2 hb hB⟩
theorem stays_map {α β : Type} {f : α → β} {R : Rd α} (h : R.Stays) : (rdMap f R).Stays := fun B w w' _ _ ⟨a, h1, e⟩ hb hB => ⟨a, h B w w' _ _ h1 hb hB, e⟩
theorem stays_sl {α : Type} {s : Nat} {R : Rd α} (h : R.Stays) : (rdSl s R).Stays := fun B w w' cs l ⟨A, c, h1, h2, h3, h4, h5⟩ hb hB => by
  refine ⟨A, c, h1, h2, h3, h4, fun hne => ?_⟩
  obtain ⟨b, o, h6, h7, h8⟩ := h5 hne
  refine ⟨b, o, h6, Nat.lt_of_lt_of_le h7 hb.size, fun k x hx => ?_⟩
  obtain ⟨ds, h9, h10, h11⟩ := h8 k x hx
  exact ⟨ds, h9, fun j v hv => (hb.cell (p := ⟨b, o + k * s + j, none⟩) (Nat.lt_of_lt_of_le h7 hB)).trans (h10 j v hv), h B w w' _ _ h11 hb hB⟩
section
variable {P : Program}
theorem opens_int {t : TypeId} {k : IntKind} (ht : P.underlying t = some (.int k)) : Opens P t (rdInt k) := fun _ _ _ _ _ h _ => by
  obtain ⟨n, h1, _, h2⟩ := DataW.trod_int ht h
  exact ⟨n, h1, h2⟩
theorem opens_u8 {t : TypeId} (ht : P.underlying t = some (.int .u8)) : Opens P t rdU8 := fun _ _ _ _ _ h _ => by
  obtain ⟨n, h1, _, h2⟩ := DataW.trod_int ht h
  have hb := bounds_u8 h2
  exact ⟨BitVec.ofInt 8 n, by unfold rdU8; rw [h1, ← bd_of n hb.1 (by omega)]⟩
theorem opens_map {α β : Type} {t : TypeId} {f : α → β} {R : Rd α} (h : Opens P t R) : Opens P t (rdMap f R) := fun enc W fuel cs x hx hlt => by
  obtain ⟨a, ha⟩ := h enc W fuel cs x hx hlt
  exact ⟨f a, a, ha, rfl⟩
theorem opens_row {t e : TypeId} {n : Nat} (ht : P.underlying t = some (.array n e)) (he : P.underlying e = some (.int .u8)) (hce : P.cellsOf e = 1) (hct : P.cellsOf t = n) : Opens P t (rdRow n) := fun enc W fuel cs x h _ => by
  obtain ⟨xs, m, _, _, hl, hx, hi⟩ := DataW.trod_array ht h
  have hs : cs.length = n := by rw [hl, hct]
  have hint : ∀ i, i < n → ∃ z, cs[i]? = some (.int .u8 z) ∧ (Lit.int .u8 z).wf = true := fun i hin => by
    have h1 := hi i hin
    rw [List.getElem?_eq_getElem (by omega)] at h1
    obtain ⟨z, hz, _, hw⟩ := DataW.trod_int he h1
    refine ⟨z, ?_, hw⟩
    simp only [hce, Nat.mul_one] at hz
    rw [List.take_one, List.head?_drop] at hz
    cases hc : cs[i]? with
    | none => rw [hc] at hz; cases hz
    | some v => rw [hc] at hz; simpa using hz
  refine ⟨cs.map fun v => BitVec.ofInt 8 (intIn v), ?_, by simp [hs]⟩
  apply List.ext_getElem?
  intro i
  by_cases hin : i < n
  · obtain ⟨z, hz, hw⟩ := hint i hin
    have hb := bounds_u8 hw
    simp [bytesV, hz, intIn, ← bd_of z hb.1 (by omega)]
  · rw [List.getElem?_eq_none (by omega), List.getElem?_eq_none (by simp [bytesV]; omega)]
theorem opens_sl {α : Type} {t e : TypeId} {s : Nat} {R : Rd α} (ht : P.underlying t = some (.slice e)) (hs : P.cellsOf e = s) (hpos : 0 < s) (he : Opens P e R) : Opens P t (rdSl s R) := fun {H} enc W fuel cs x h hlt => by
  rcases Deep.open_slice ht h with ⟨h0, _⟩ | ⟨a, len, cap, m, n, D, Pl, hcs, _, hl, hm, hmm, hx, hi⟩
  · exact ⟨[], none, 0, h0, by simp, fun _ => rfl, by simp, fun h => absurd rfl h⟩
  · simp only [if_true] at hmm
    subst hmm
    have hlt' : ∀ y ∈ MemPlace.row a (m * P.cellsOf e) ++ (List.range m).flatMap Pl, y.block < W.heap.size := by rw [hx] at hlt; exact hlt
    have hR : ∀ i, i < len → ∃ b, ∃ ds, W.cells? 0 (a.add (i * s)) s = some ds ∧ R W ds b := fun i hil => by
      obtain ⟨ds, h1, h2⟩ := hi i (by omega)
      rw [hs] at h1
      obtain ⟨b, hb⟩ := he enc W n ds _ h2 fun y hy => hlt' y (List.mem_append_right _ (List.mem_flatMap.2 ⟨i, List.mem_range.2 (by omega), hy⟩))
      exact ⟨b, ds, h1, hb⟩
    by_cases h0 : len = 0
    · subst h0
      refine ⟨[], some a, m, hcs, by simp, fun h => (by cases h), by simp, fun h => absurd rfl h⟩
    · obtain ⟨b0, _⟩ := hR 0 (by omega)
      have hinh : Inhabited α := ⟨b0⟩
      obtain ⟨Q, hQ⟩ := Deep.choose_lt (α := α) (n := len) (p := fun i q => ∃ ds, W.cells? 0 (a.add (i * s)) s = some ds ∧ R W ds q) hR
      have hql : ((List.range len).map Q).length = len := by simp
      refine ⟨(List.range len).map Q, some a, m, by rw [hql]; exact hcs, by rw [hql]; exact hl, fun h => (by cases h), by rw [hql]; omega, fun _ => ?_⟩
      obtain ⟨b, off, spot⟩ := a
      have hspot : spot = none := by
        obtain ⟨ds, h1, _⟩ := hQ 0 (by omega)
        obtain ⟨_, h3, h4⟩ := World.cells?_some h1
        have h5 := h4 0 hpos
        rw [List.getElem?_eq_getElem (by omega)] at h5
        simpa [Addr.add] using World.cell?_spot h5
      subst hspot
      refine ⟨b, off, rfl, hlt' (.cell b off) (List.mem_append_left _ (MemPlace.mem_row.2 ⟨0, by rw [hs]; exact Nat.mul_pos (by omega) hpos, by simp⟩)), fun k x hk => ?_⟩
      have hkl : k < len := by have := (List.getElem?_eq_some_iff.1 hk).1; omega
      obtain ⟨ds, h1, h2⟩ := hQ k hkl
      obtain ⟨_, h3, h4⟩ := World.cells?_some h1
      obtain rfl : Q k = x := by simpa [hkl] using hk
      refine ⟨ds, h3, fun j v hv => ?_, h2⟩
      have hj : j < s := by have := (List.getElem?_eq_some_iff.1 hv).1; omega
      have h5 := h4 j hj
      rw [hv, Addr.add_mid, Addr.add_mid] at h5
      exact h5
/- the fields of a struct from offset o on -/
def OpensF (P : Program) {β : Type} (fs : List Field) (o : Nat) (T : Rd β) : Prop :=
  ∀ {H : Type} (enc : TypeId × Value → H) (W : World) (n : Nat) (cs : List Value) (xs : List (DataW H × List MemPlace)), xs.length = fs.length →
    (∀ (i : Nat) (f : Field), fs[i]? = some f → DataW.trod enc P W 0 (fun _ => true) true n f.type ((cs.drop f.offset).take (P.cellsOf f.type)) = xs[i]?) → (∀ y ∈ xs.flatMap (·.2), y.block < W.heap.size) → cs.length = o + (fs.map fun f => P.cellsOf f.type).sum → ∃ b, T W (cs.drop o) b
theorem opensF_nil {o : Nat} : OpensF P [] o rdNil := fun _ _ _ _ _ _ _ _ hl => ⟨(), by
  unfold rdNil
  simp only [List.map_nil, List.sum_nil, Nat.add_zero] at hl
  rw [← hl, List.drop_length]⟩
theorem opensF_cons {α β : Type} {f : Field} {fs : List Field} {o s : Nat} {R : Rd α} {T : Rd β} (ho : f.offset = o) (hs : P.cellsOf f.type = s) (h : Opens P f.type R) (t : OpensF P fs (o + s) T) : OpensF P (f :: fs) o (rdCons s R T) := fun {H} enc W n cs xs hxl hf hlt hl => by
  cases xs with
  | nil => simp at hxl
  | cons x xs =>
    simp only [List.length_cons, Nat.add_right_cancel_iff] at hxl
    have h0 := hf 0 f rfl
    simp only [List.getElem?_cons_zero] at h0
    rw [ho, hs] at h0
    obtain ⟨a, ha⟩ := h enc W n _ x h0 fun y hy => hlt y (by simp [hy])
    simp only [List.map_cons, List.sum_cons, hs] at hl
    obtain ⟨b, hb⟩ := t enc W n cs xs hxl (fun i g hg => by have := hf (i + 1) g (by simpa using hg); simpa using this) (fun y hy => hlt y (by simp only [List.flatMap_cons, List.mem_append]; exact .inr hy)) (by omega)
    refine ⟨(a, b), (cs.drop o).take s, cs.drop (o + s), ?_, by rw [List.length_take, List.length_drop]; omega, ha, hb⟩
    rw [← List.drop_drop, List.take_append_drop]
theorem opens_struct {β : Type} {t : TypeId} {fs : Array Field} {T : Rd β} (ht : P.underlying t = some (.struct fs)) (hc : P.cellsOf t = (fs.toList.map fun f => P.cellsOf f.type).sum) (h : OpensF P fs.toList 0 T) : Opens P t T := fun {H} enc W fuel cs x hx hlt => by
  obtain ⟨xs, n, _, hy, hlen, hyl, hf⟩ := DataW.trod_struct ht hx
  subst hy
  obtain ⟨b, hb⟩ := h enc W n cs xs (by rw [hyl]; exact Array.length_toList.symm) (fun i f hi => hf i f (by rw [← Array.getElem?_toList]; exact hi)) hlt (by rw [hlen, hc, Nat.zero_add])
  exact ⟨b, by simpa using hb⟩
end
/- an argument of a card -/
theorem open_arg {P : Program} {α : Type} {t : TypeId} {R : Rd α} (h : Opens P t R) {H : Type} {enc : TypeId × Value → H} {W : World} {v : Value} {d : DataW H} {ps : List MemPlace} (hT : DataW.Trod enc P W 0 (fun _ => true) true t v d ps) (hlt : ∀ y ∈ ps, y.block < W.heap.size) : ∃ a, R W v.cells.toList a := by
  obtain ⟨fuel, hf⟩ := hT
  exact h enc W fuel _ _ hf hlt
/- an argument that is a slice -/
theorem open_argSl {P : Program} {α : Type} {t e : TypeId} {s : Nat} {R : Rd α} (ht : P.underlying t = some (.slice e)) (ho : Opens P t (rdSl s R)) {H : Type} {enc : TypeId × Value → H} {W : World} {r : Reach} {base : Nat} {v : Value} {d : DataW H} {ps : List MemPlace} (hval : Value.okWide P W r base t v) (hT : DataW.Trod enc P W 0 (fun _ => true) true t v d ps) (hlt : ∀ y ∈ ps, y.block < W.heap.size) : ∃ A c l, v = .slice A l.length c ∧ rdSl s R W [.slice A l.length c] l := by
  obtain ⟨a0, len, cap, rfl⟩ := okWide_slice ht hval
  obtain ⟨l, hl⟩ := open_arg ho hT hlt
  have h0 := hl
  obtain ⟨A, c, e, _⟩ := hl
  have e : Value.slice a0 len cap = .slice A l.length c := by simpa [Value.cells] using e
  rw [e] at h0
  exact ⟨A, c, l, e, by simpa [Value.cells] using h0⟩
/- slices of bytes as these readers have them -/
theorem rdSl_item {w : World} {u : Value} {q : List (BitVec 8)} (h : rdSl 1 rdU8 w [u] q) : Item w u q := by
  obtain ⟨A, c, h1, h2, h3, h4, h5⟩ := h
  injection h1 with h1 _
  refine ⟨A, c, h1, ⟨A, c, rfl, h2, fun hne => ?_⟩, h3, h4⟩
  obtain ⟨b, o, h6, h7, h8⟩ := h5 hne
  refine ⟨b, o, h6, h7, fun j x hx => ?_⟩
  obtain ⟨ds, _, h9, h10⟩ := h8 j x hx
  have := h9 0 (.int .u8 (bd x)) (by rw [h10]; rfl)
  simpa using this
end Go.Proofs.Ytcdcongeogmfkaa

/- Arguments that are puts opened. -/
set_option maxRecDepth 4000
namespace Go.Proofs.Ytcdcongeogmfkaa
open Go Go.ChangeShapes Go.WideShapes Go.ChangeAt Go.RowKit
theorem bounds_i64L {n : Int} (h : (Lit.int .i64 n).wf = true) : -9223372036854775808 ≤ n ∧ n < 9223372036854775808 := by
  simp only [Lit.wf, Bool.and_eq_true, decide_eq_true_eq] at h
  have h1 : IntKind.i64.min = -9223372036854775808 := by decide
  have h2 : IntKind.i64.max = 9223372036854775807 := by decide
  omega
/- puts -/
def rdPut : Rd (Int × List (BitVec 8)) := rdMap (fun x => (x.1, x.2.1)) (rdCons 1 (rdInt .i64) (rdCons 32 (rdRow 32) rdNil))
theorem cellsI64 : Try.prog.cellsOf 3 = 1 := by kernel_rfl
theorem cellsBlk : Try.prog.cellsOf 52 = 32 := by kernel_rfl
theorem cellsPut : Try.prog.cellsOf 70 = 33 := by kernel_rfl
theorem opens_put : Opens Try.prog 70 rdPut :=
  opens_map (opens_struct Try.underlying70 (by kernel_rfl) (opensF_cons rfl cellsI64 (opens_int Try.underlying3) (opensF_cons rfl cellsBlk (opens_row Try.underlying52 Try.underlying5 (by kernel_rfl) cellsBlk) opensF_nil)))
theorem opens_puts : Opens Try.prog 34 (rdSl 33 rdPut) := opens_sl Try.underlying34 cellsPut (by decide) opens_put
theorem put_cells {w : World} {ds : List Value} {x : Int × List (BitVec 8)} (h : rdPut w ds x) : ds = pcell x ∧ x.2.length = 32 ∧ -9223372036854775808 ≤ x.1 ∧ x.1 < 9223372036854775808 := by
  obtain ⟨⟨i, q, _⟩, h, rfl⟩ := h
  obtain ⟨c0, d0, rfl, _, ⟨rfl, hi⟩, c1, d1, rfl, _, ⟨rfl, hq⟩, h2⟩ := h
  have h2 : d1 = [] := h2
  subst h2
  exact ⟨by simp [pcell], hq, bounds_i64L hi⟩
theorem puts_at {w : World} {A : Option Addr} {n c : Nat} {l : List (Int × List (BitVec 8))} (h : rdSl 33 rdPut w [.slice A n c] l) : PutsAt w (.slice A n c) l := by
  obtain ⟨A', c', h1, h2, _, _, h5⟩ := h
  injection h1 with h1 _
  refine ⟨A', c', h1, h2, fun x hx => ?_, fun hne => ?_⟩
  · obtain ⟨b, o, _, _, h8⟩ := h5 (by intro e; subst e; cases hx)
    obtain ⟨k, hk⟩ := List.getElem?_of_mem hx
    obtain ⟨ds, _, _, h10⟩ := h8 k x hk
    exact (put_cells h10).2
  · obtain ⟨b, o, h6, h7, h8⟩ := h5 hne
    refine ⟨b, o, h6, h7, fun k x hx => ?_⟩
    obtain ⟨ds, _, h9, h10⟩ := h8 k x hx
    rw [(put_cells h10).1] at h9
    exact h9
end Go.Proofs.Ytcdcongeogmfkaa

/- Arguments of words (uint32, uint16, arrays of them) opened. No function of the program is named here. -/
set_option maxRecDepth 4000
namespace Go.Proofs.Ytcdcongeogmfkaa
open Go Go.ChangeShapes Go.WideShapes Go.ChangeAt Go.RowKit
def rdU32 : Rd (BitVec 32) := fun _ cs x => cs = [.int .u32 (wd x)]
theorem bounds_u32L {n : Int} (h : (Lit.int .u32 n).wf = true) : 0 ≤ n ∧ n < 4294967296 := by
  simp only [Lit.wf, Bool.and_eq_true, decide_eq_true_eq] at h
  have h1 : IntKind.u32.min = 0 := by decide
  have h2 : IntKind.u32.max = 4294967295 := by decide
  omega
theorem opens_u32 {P : Program} {t : TypeId} (ht : P.underlying t = some (.int .u32)) : Opens P t rdU32 := fun _ _ _ _ _ h _ => by
  obtain ⟨n, h1, _, h2⟩ := DataW.trod_int ht h
  have hb := bounds_u32L h2
  exact ⟨BitVec.ofInt 32 n, by unfold rdU32; rw [h1, ← wd_of n hb.1 hb.2]⟩
end Go.Proofs.Ytcdcongeogmfkaa

/- An argument opened: an array of two numbers. -/
set_option maxRecDepth 4000
namespace Go.Proofs.Ytcdcongeogmfkaa
open Go Go.ChangeShapes Go.WideShapes Go.ChangeAt Go.RowKit
theorem cellsInt9 : Try.prog.cellsOf 3 = 1 := by kernel_rfl
theorem cellsTwoI : Try.prog.cellsOf 22 = 2 := by kernel_rfl
theorem open_twoi {H : Type} {enc : TypeId × Value → H} {W : World} {r : Reach} {base : Nat} {v : Value} {d : DataW H} {ps : List MemPlace} (hval : Value.okWide Try.prog W r base 22 v)
    (h : DataW.Trod enc Try.prog W 0 (fun _ => true) true 22 v d ps) : ∃ n f : Int, v = .agg #[.int .i64 n, .int .i64 f] ∧ (-9223372036854775808 ≤ n ∧ n < 9223372036854775808) ∧ (-9223372036854775808 ≤ f ∧ f < 9223372036854775808) := by
  obtain ⟨cs, rfl⟩ := okWide_arr Try.underlying22 hval
  obtain ⟨hs, hi⟩ := open_row Try.underlying22 Try.underlying3 cellsInt9 cellsTwoI h
  obtain ⟨n, hn, wn⟩ := hi 0 (by decide)
  obtain ⟨f, hf, wf⟩ := hi 1 (by decide)
  refine ⟨n, f, ?_, bounds_i64L wn, bounds_i64L wf⟩
  congr 1
  apply Array.ext_getElem?
  intro i
  match i with
  | 0 => rw [hn]; rfl
  | 1 => rw [hf]; rfl
  | k + 2 => rw [Array.getElem?_eq_none (by omega), Array.getElem?_eq_none (by simp)]
end Go.Proofs.Ytcdcongeogmfkaa
