/- Merged: Words Mem Sl OpenB Obj Read Half CopyR Inv Does Ph Phs St StMore PhA Fill ByteI Lit MarkB OpenN Ints Vols NamesSpec PoolUsed PoolFree VolOwn Blk EqI BlkE KeepInts KeepVols PoolTake Puts ZerosB PoolRef PutsEq At2 KeepPuts. -/
import Derived.WalkKit
import Derived.Laws.BitsAllLaws
import Derived.Laws.BitsLemmas
import Derived.Laws.Rows
import Derived.Laws.OwnMore
import Derived.Below
import Derived.Deep.Draws
import Derived.Laws.CopyOwn
import Derived.Laws.AppendOwn
import Derived.Deep.MidRow
import Derived.Deep.WholeRow
import Derived.Test.YtnmaplgodimohaaDoorProg
import Derived.Still
import Derived.Laws.AppendOwnNone
import Derived.Laws.MakeOwn
import Derived.OwnWalk
import Derived.Maps.AppendAt
import Derived.Maps.RangeWalk
import Derived.Lib.SlBytesConst
import Derived.Lib.Hide
import Derived.ProofKit
import Derived.OpenShut
import Derived.Carry
import Derived.Deep.DeepHandedRow
import Derived.Deep.Slices
import Derived.OrdersHeld
import Derived.Great.BuildSlice
import Derived.Laws.IdiomStrings
import Derived.ChangeShapes
import Derived.Deep.DeepAppendWide
import Derived.Deep.Cut
import Derived.Lib.BitFns
import Derived.Laws.StructEq
/- Plain facts on machine words as bit vectors, in the walk's own spelling: what the operations of Go on uint8, uint32 and uint64 come to. No condition. -/
set_option maxRecDepth 4000
namespace Go.Proofs.YtnmaplgodimohaaDoor
open Go Go.RowKit

def bd (x : BitVec 8) : Int := (x.toNat : Int)

theorem bd_lo (x : BitVec 8) : 0 ≤ bd x := by unfold bd; omega
theorem bd_hi (x : BitVec 8) : bd x < 256 := by unfold bd; have := x.isLt; omega
theorem bd_inj {x y : BitVec 8} (h : bd x = bd y) : x = y := by unfold bd at h; exact BitVec.eq_of_toNat_eq (by omega)
theorem bd_of (n : Int) (h0 : 0 ≤ n) (h1 : n < 256) : n = bd (BitVec.ofInt 8 n) := by
  unfold bd; obtain ⟨m, rfl⟩ := Int.eq_ofNat_of_zero_le h0
  rw [ofInt_u8 m (by omega)]

theorem wrap_u8_bd (z : Int) : IntKind.u8.wrap z = bd (BitVec.ofInt 8 z) := by
  rw [IntKind.wrap_u8']; unfold bd; rw [BitVec.toNat_ofInt]; omega
def zer (n : Nat) : List (BitVec 8) := List.replicate n 0
theorem length_zer (n : Nat) : (zer n).length = n := by simp [zer]
end Go.Proofs.YtnmaplgodimohaaDoor

/- A block of memory that is known whole, and how it lasts through draws, new blocks, stores elsewhere and calls. No condition beyond the theorems' own. -/
set_option maxRecDepth 4000
namespace Go.Proofs.YtnmaplgodimohaaDoor
open Go Go.RowKit

def Row (w : World) (g : Nat) (t : TypeId) (cs : Array Value) : Prop := w.heap[g]? = some (.cells cs t (0, 0))

section
variable {w w' : World} {g : Nat} {t : TypeId} {cs : Array Value}
theorem Row.lt (h : Row w g t cs) : g < w.heap.size := by
  by_cases hl : g < w.heap.size
  · exact hl
  · unfold Row at h; rw [Array.getElem?_eq_none (by omega)] at h; cases h
theorem Row.cell (h : Row w g t cs) (i : Nat) : w.cell? ⟨g, i, none⟩ = cs[i]? := cell_of_row w g i cs t (0, 0) h
theorem Row.free (h : Row w g t cs) (i : Nat) : w.frozen? ⟨g, i, none⟩ = false := frozen_of_row w g i cs t h
theorem Row.fresh (w : World) (t : TypeId) (cs : Array Value) : Row (w.alloc (.cells cs t)) w.heap.size t cs := heap_alloc_new w _
theorem Row.drew (h : Row w g t cs) : Row w.drew g t cs := h
theorem Row.alloc (h : Row w g t cs) (o : Obj) : Row (w.alloc o) g t cs := (Below.heap_alloc w o g h.lt).trans h
theorem Row.put (h : Row w g t cs) (i : Nat) (v : Value) : Row (w.setCell ⟨g, i, none⟩ v) g t (cs.setIfInBounds i v) := heap_setCell_same w g i cs t v h
theorem Row.far (h : Row w g t cs) {p : Addr} (hp : g ≠ p.block) (v : Value) : Row (w.setCell p v) g t cs := (heap_setCell_other w p g v hp).trans h
theorem Row.setRow (h : Row w g t cs) (ds : Array Value) : Row (w.setRow g ds) g t ds := setRow_heap w g cs ds t (0, 0) h
theorem Row.below {B : Nat} (h : Row w g t cs) (hb : Below B w w') (hg : g < B) : Row w' g t cs := (hb.block g hg).trans h
theorem Row.call (h : Row w g t cs) (hb : Below w.heap.size w w') : Row w' g t cs := h.below hb h.lt
theorem Row.get (h : Row w g t cs) {i : Nat} {v : Value} (hi : cs[i]? = some v) : w.cell? ⟨g, i, none⟩ = some v := (h.cell i).trans hi
end

def bs (l : List (BitVec 8)) : Array Value := (l.map fun x => Value.int .u8 (bd x)).toArray
theorem size_bs (l : List (BitVec 8)) : (bs l).size = l.length := by simp [bs]
theorem get_bs (l : List (BitVec 8)) (i : Nat) (h : i < l.length) : (bs l)[i]? = some (.int .u8 (bd (l.getD i 0))) := by simp [bs, h]
theorem set_bs (l : List (BitVec 8)) (i : Nat) (x : BitVec 8) : (bs l).setIfInBounds i (.int .u8 (bd x)) = bs (l.set i x) := by
  simp [bs, List.map_set]
theorem one_bs (l : List (BitVec 8)) : (bs l).all (·.oneCell') = true := by simp [bs, Value.oneCell']
theorem only_below {a w : World} {g B : Nat} (h : a.grownBy w (some g)) (hB : B ≤ g) (hs : B ≤ a.heap.size) : Below B a w :=
  ⟨h.os, h.tape, h.output, h.size, fun k hk => h.block k (by omega) (fun e => by injection e with e; omega)⟩
theorem Row.only {w w' : World} {g k : Nat} {t : TypeId} {cs : Array Value} (h : Row w k t cs) (hw : w.grownBy w' (some g)) (hne : k ≠ g) : Row w' k t cs :=
  (hw.block k h.lt (fun e => hne (by injection e))).trans h

end Go.Proofs.YtnmaplgodimohaaDoor

/- Slices of bytes and lists of them: what they read as, how they are appended, taken apart and handed on. No function of the program is named here. -/
set_option maxRecDepth 4000
namespace Go.Proofs.YtnmaplgodimohaaDoor
open Go Go.RowKit
theorem i64_id (n : Int) (h0 : 0 ≤ n) (h1 : n < 9223372036854775808) : IntKind.i64.wrap n = n := by
  rw [IntKind.wrap_i64]; omega
def bytesV (q : List (BitVec 8)) : List Value := q.map fun x => Value.int .u8 (bd x)
theorem size_u8 : (Tryd.prog.info? 5).map (·.size) = some 1 := by kernel_rfl
theorem one_bytesV (q : List (BitVec 8)) : ∀ v ∈ bytesV q, v.oneCell' = true := by
  intro v hv; simp only [bytesV, List.mem_map] at hv; obtain ⟨x, _, rfl⟩ := hv; rfl
/- a slice value that reads as the bytes q -/
def Slice (w : World) (v : Value) (q : List (BitVec 8)) : Prop :=
  ∃ A c, v = .slice A q.length c ∧ q.length ≤ c ∧ (q ≠ [] → ∃ b o, A = some ⟨b, o, none⟩ ∧ b < w.heap.size ∧ ∀ j x, q[j]? = some x → w.cell? ⟨b, o + j, none⟩ = some (.int .u8 (bd x)))
/- a slice value that reads as these slices of bytes -/
def Parts (w : World) (v : Value) (ps : List (List (BitVec 8))) : Prop :=
  ∃ A c, v = .slice A ps.length c ∧ (ps ≠ [] → ∃ b o, A = some ⟨b, o, none⟩ ∧ b < w.heap.size ∧ ∀ k q, ps[k]? = some q → ∃ u, w.cell? ⟨b, o + k, none⟩ = some u ∧ Slice w u q)
theorem Slice.below {w w' : World} {B : Nat} {v : Value} {q : List (BitVec 8)} (h : Slice w v q) (hb : Below B w w') (hB : w.heap.size ≤ B) : Slice w' v q := by
  obtain ⟨A, c, h1, h2, h3⟩ := h
  refine ⟨A, c, h1, h2, fun hne => ?_⟩
  obtain ⟨b, o, h4, h5, h6⟩ := h3 hne
  exact ⟨b, o, h4, Nat.lt_of_lt_of_le h5 hb.size, fun j x hx => (hb.cell (p := ⟨b, o + j, none⟩) (Nat.lt_of_lt_of_le h5 hB)).trans (h6 j x hx)⟩
theorem bytes_slice {w : World} {g c : Nat} {q : List (BitVec 8)} {t : TypeId} {fr : Nat × Nat} (hg : w.heap[g]? = some (.cells (bs q) t fr)) (hc : q.length ≤ c) : Slice w (.slice (some ⟨g, 0, none⟩) q.length c) q := by
  refine ⟨_, c, rfl, hc, fun _ => ⟨g, 0, rfl, ?_, fun j x hx => ?_⟩⟩
  · by_cases hl : g < w.heap.size
    · exact hl
    · rw [Array.getElem?_eq_none (by omega)] at hg; cases hg
  · have hj := (List.getElem?_eq_some_iff.1 hx).1
    rw [Nat.zero_add, cell_of_row w g j _ _ _ hg, get_bs q j hj, List.getD_eq_getElem?_getD, hx]; rfl
theorem row_slice {w : World} {g c : Nat} {q : List (BitVec 8)} {t : TypeId} (hg : Row w g t (bs q)) (hc : q.length ≤ c) : Slice w (.slice (some ⟨g, 0, none⟩) q.length c) q := bytes_slice hg hc
theorem owns_refl (w : World) (row : Option Nat) : w.grownBy w row := ⟨rfl, rfl, rfl, Nat.le_refl _, fun _ _ _ => rfl⟩
theorem grown_of_below {w w' : World} (hb : Below w.heap.size w w') (row : Option Nat) : w.grownBy w' row := ⟨hb.os, hb.tape, hb.output, hb.size, fun k hk _ => hb.block k hk⟩
theorem below_of_grown {w w' : World} {base : Nat} {row : Option Nat} (h : w.grownBy w' row) (hr : ∀ g, row = some g → base ≤ g) (hs : base ≤ w.heap.size) : Below base w w' :=
  ⟨h.os, h.tape, h.output, h.size, fun k hk => h.block k (by omega) (fun e => by have := hr k e.symm; omega)⟩
theorem owns_call {w w' : World} {base e size n : Nat} {v : Value} {xs : List Value} (h : w.ownsRow base e size v n xs) (hb : Below w.heap.size w w') : w'.ownsRow base e size v n xs := by
  refine h.kept (row := none) (grown_of_below hb none) ?_
  cases hv : v.ownBlock with
  | none => exact .inl rfl
  | some g => exact .inr (by simp)
/- a slice of the call's own that is not empty: where it lies and what it holds -/
theorem owns_form {w : World} {base n : Nat} {e : TypeId} {v : Value} {q : List (BitVec 8)} (h : w.ownsRow base e 1 v n (bytesV q)) (hq : 0 < q.length) :
    ∃ g cap, v = .slice (some ⟨g, 0, none⟩) q.length cap ∧ base ≤ g ∧ g < w.heap.size ∧ q.length ≤ cap ∧ ∀ j x, q[j]? = some x → w.cell? ⟨g, j, none⟩ = some (.int .u8 (bd x)) := by
  have hn : q.length = n := by have := h.1; simp [bytesV] at this; omega
  subst hn
  rcases h.2 with ⟨_, h0⟩ | ⟨g, cap, cur, rfl, hg, hh, hc, _⟩
  · omega
  · refine ⟨g, cap, rfl, hg, (h.lt g rfl).2, hc, fun j x hx => ?_⟩
    have hj := (List.getElem?_eq_some_iff.1 hx).1
    have := h.cellAt j (by omega)
    rw [this]
    simp [bytesV, hx]
theorem Slice.take {w : World} {A : Option Addr} {c k : Nat} {q : List (BitVec 8)} (h : Slice w (.slice A q.length c) q) (hk : k ≤ q.length) : Slice w (.slice A k c) (q.take k) := by
  obtain ⟨A', c', h1, h2, h3⟩ := h
  injection h1 with h1 _ h1c
  subst h1 h1c
  refine ⟨A, c, by rw [List.length_take, Nat.min_eq_left hk], by rw [List.length_take]; omega, fun hne => ?_⟩
  obtain ⟨b, o, h4, h5, h6⟩ := h3 (by intro e; subst e; simp at hne)
  refine ⟨b, o, h4, h5, fun j x hx => h6 j x ?_⟩
  rw [List.getElem?_take] at hx
  split at hx
  · exact hx
  · cases hx
theorem Slice.drop {w : World} {A : Option Addr} {c k : Nat} {q : List (BitVec 8)} (h : Slice w (.slice A q.length c) q) (hk : k ≤ q.length) : Slice w (.slice (if c = k then A else A.map (·.add k)) (q.length - k) (c - k)) (q.drop k) := by
  obtain ⟨A', c', h1, h2, h3⟩ := h
  injection h1 with h1 _ h1c
  subst h1 h1c
  refine ⟨_, c - k, by rw [List.length_drop], by rw [List.length_drop]; omega, fun hne => ?_⟩
  have hl : 0 < (q.drop k).length := List.length_pos_iff.2 hne
  rw [List.length_drop] at hl
  obtain ⟨b, o, h4, h5, h6⟩ := h3 (by intro e; subst e; simp at hne)
  subst h4
  refine ⟨b, o + k, ?_, h5, fun j x hx => ?_⟩
  · rw [if_neg (by omega)]; simp [Addr.add_mid]
  · rw [List.getElem?_drop] at hx
    rw [Nat.add_assoc]; exact h6 _ x hx
theorem Parts.below {w w' : World} {B : Nat} {v : Value} {ps : List (List (BitVec 8))} (h : Parts w v ps) (hb : Below B w w') (hB : w.heap.size ≤ B) : Parts w' v ps := by
  obtain ⟨A, c, h1, h3⟩ := h
  refine ⟨A, c, h1, fun hne => ?_⟩
  obtain ⟨b, o, h4, h5, h6⟩ := h3 hne
  refine ⟨b, o, h4, Nat.lt_of_lt_of_le h5 hb.size, fun k q hq => ?_⟩
  obtain ⟨u, h7, h8⟩ := h6 k q hq
  exact ⟨u, (hb.cell (p := ⟨b, o + k, none⟩) (Nat.lt_of_lt_of_le h5 hB)).trans h7, h8.below hb hB⟩
/- a slice of bytes that may be appended: nil has no room -/
def Item (w : World) (u : Value) (q : List (BitVec 8)) : Prop := ∃ A c, u = .slice A q.length c ∧ Slice w (.slice A q.length c) q ∧ (A = none → c = 0) ∧ q.length ≤ maxLen
def Hand (w : World) (v : Value) (ps : List (List (BitVec 8))) : Prop :=
  ∃ A c, v = .slice A ps.length c ∧ (ps ≠ [] → ∃ b o, A = some ⟨b, o, none⟩ ∧ b < w.heap.size ∧ ∀ k q, ps[k]? = some q → ∃ u, w.cell? ⟨b, o + k, none⟩ = some u ∧ Item w u q)
theorem Item.below {w w' : World} {B : Nat} {u : Value} {q : List (BitVec 8)} (h : Item w u q) (hb : Below B w w') (hB : w.heap.size ≤ B) : Item w' u q := by
  obtain ⟨A, c, h1, h2, h3⟩ := h
  exact ⟨A, c, h1, h2.below hb hB, h3⟩
theorem Item.slice {w : World} {u : Value} {q : List (BitVec 8)} (h : Item w u q) : Slice w u q := by
  obtain ⟨A, c, rfl, h2, h3⟩ := h
  exact h2
theorem Hand.below {w w' : World} {B : Nat} {v : Value} {ps : List (List (BitVec 8))} (h : Hand w v ps) (hb : Below B w w') (hB : w.heap.size ≤ B) : Hand w' v ps := by
  obtain ⟨A, c, h1, h3⟩ := h
  refine ⟨A, c, h1, fun hne => ?_⟩
  obtain ⟨b, o, h4, h5, h6⟩ := h3 hne
  refine ⟨b, o, h4, Nat.lt_of_lt_of_le h5 hb.size, fun k q hq => ?_⟩
  obtain ⟨u, h7, h8⟩ := h6 k q hq
  exact ⟨u, (hb.cell (p := ⟨b, o + k, none⟩) (Nat.lt_of_lt_of_le h5 hB)).trans h7, h8.below hb hB⟩
theorem own_mono {w : World} {base base' e size n : Nat} {v : Value} {xs : List Value} (h : w.ownsRow base e size v n xs) (hb : base' ≤ base) : w.ownsRow base' e size v n xs := by
  refine ⟨h.1, ?_⟩
  rcases h.2 with hn | ⟨g, cap, cur, h1, h2, h3⟩
  · exact .inl hn
  · exact .inr ⟨g, cap, cur, h1, Nat.le_trans hb h2, h3⟩
theorem own_ne {w : World} {b b' n m : Nat} {v u : Value} {xs ys : List Value} (h : w.ownsRow b 106 1 v n xs) (h' : w.ownsRow b' 5 1 u m ys) : u.ownBlock = none ∨ u.ownBlock ≠ v.ownBlock := by
  rcases h'.2 with ⟨rfl, _⟩ | ⟨g', cap', cur', rfl, _, h3', _⟩
  · exact .inl rfl
  · refine .inr fun e => ?_
    rcases h.2 with ⟨rfl, _⟩ | ⟨g, cap, cur, rfl, _, h3, _⟩
    · cases e
    · injection e with e
      change g' = g at e
      subst e
      rw [h3] at h3'
      injection h3' with h3'
      injection h3' with _ h3'
      cases h3'
theorem own_slice {w : World} {base : Nat} {v : Value} {q : List (BitVec 8)} (h : w.ownsRow base 5 1 v q.length (bytesV q)) : Slice w v q := by
  by_cases hq : q = []
  · subst hq
    rcases h.2 with ⟨rfl, _⟩ | ⟨g, cap, cur, rfl, _⟩
    · exact ⟨none, 0, rfl, by simp, fun h => absurd rfl h⟩
    · exact ⟨_, cap, rfl, by simp, fun h => absurd rfl h⟩
  · obtain ⟨g, cap, rfl, _, h3, h4, h5⟩ := owns_form h (List.length_pos_iff.2 hq)
    exact ⟨_, cap, rfl, h4, fun _ => ⟨g, 0, rfl, h3, fun j x hx => by rw [Nat.zero_add]; exact h5 j x hx⟩⟩
/- slices of the call's own, in a slice of the call's own -/
def Owns (w wr : World) (v : Value) (ps : List (List (BitVec 8))) : Prop :=
  ∃ vs : List Value, wr.ownsRow w.heap.size 106 1 v ps.length vs ∧ Below w.heap.size w wr ∧ ∀ (j : Nat) (q : List (BitVec 8)), ps[j]? = some q → ∃ u, vs[j]? = some u ∧ wr.ownsRow w.heap.size 5 1 u q.length (bytesV q)
theorem Owns.parts {w wr : World} {v : Value} {ps : List (List (BitVec 8))} (h : Owns w wr v ps) : Parts wr v ps := by
  obtain ⟨vs, h1, _, h3⟩ := h
  rcases h1.2 with ⟨rfl, h0⟩ | ⟨g, cap, cur, rfl, hg, hh, hc, _⟩
  · obtain rfl : ps = [] := List.length_eq_zero_iff.1 h0
    exact ⟨none, 0, rfl, fun h => absurd rfl h⟩
  · refine ⟨_, cap, rfl, fun _ => ⟨g, 0, rfl, (h1.lt g rfl).2, fun k q hq => ?_⟩⟩
    obtain ⟨u, hu, ho⟩ := h3 k q hq
    have hk := (List.getElem?_eq_some_iff.1 hq).1
    exact ⟨u, by rw [Nat.zero_add, h1.cellAt k (by omega), hu], own_slice ho⟩
theorem Owns.step {w wr w4 w6 : World} {v v1 v2 : Value} {ps : List (List (BitVec 8))} {k : Nat} {vs : List Value} (hk : k < ps.length)
    (h1 : wr.ownsRow w.heap.size 106 1 v k vs) (hb : Below w.heap.size w wr) (h3 : ∀ (j : Nat) (q : List (BitVec 8)), (ps.take k)[j]? = some q → ∃ u, vs[j]? = some u ∧ wr.ownsRow w.heap.size 5 1 u q.length (bytesV q))
    (own1 : w4.ownsRow wr.heap.size 5 1 v1 ps[k].length (bytesV ps[k])) (hb4 : Below wr.heap.size (wr.alloc (.cells #[] 5)) w4)
    (own2 : w6.ownsRow w.heap.size 106 1 v2 (k + 1) (vs ++ [v1])) (hg : (w4.alloc (.cells #[v1] 106)).grownBy w6 v.ownBlock) : Owns w w6 v2 (ps.take (k + 1)) := by
  have hb5 : Below wr.heap.size wr (w4.alloc (.cells #[v1] 106)) := (((Below.refl wr.heap.size wr).alloc (Nat.le_refl _) _).trans hb4).alloc (Nat.le_trans (by simp) hb4.size) _
  have o5 := owns_call h1 hb5
  have hl : vs.length = k := by simpa using h1.1
  refine ⟨vs ++ [v1], by rw [List.length_take, Nat.min_eq_left (by omega)]; exact own2, ?_, fun j q hq => ?_⟩
  · refine (hb.trans (hb5.mono hb.size)).trans (below_of_grown hg (fun g e => (o5.lt g e).1) (Nat.le_trans hb.size hb5.size))
  · have hj := (List.getElem?_eq_some_iff.1 hq).1
    rw [List.length_take] at hj
    by_cases hjk : j < k
    · obtain ⟨u, hu, ho⟩ := h3 j q (by rw [List.getElem?_take, if_pos (by omega)] at hq; rw [List.getElem?_take, if_pos hjk]; exact hq)
      have ho5 := owns_call ho hb5
      exact ⟨u, by rw [List.getElem?_append_left (by omega)]; exact hu, ho5.kept hg (own_ne o5 ho5)⟩
    · obtain rfl : j = k := by omega
      obtain rfl : ps[j] = q := by rw [List.getElem?_take, if_pos (by omega), List.getElem?_eq_getElem hk] at hq; injection hq
      have ho5 := (own_mono own1 hb.size).alloc (.cells #[v1] 106)
      exact ⟨v1, by rw [List.getElem?_append_right (by omega), hl]; simp, ho5.kept hg (own_ne o5 ho5)⟩
/- the slices of a slice of slices, as a list -/
theorem Parts.list {w : World} {v : Value} {ps : List (List (BitVec 8))} (h : Parts w v ps) : ∃ A c, ∃ us : List Value, v = .slice A ps.length c ∧ us.length = ps.length ∧ (∀ ad, A = some ad → ∀ (j : Nat) (u : Value), us[j]? = some u → w.cell? (ad.add j) = some u) ∧ (A = none → ps = []) ∧
    (∀ u ∈ us, Value.oneCell' u = true) ∧ ∀ (k : Nat) (q : List (BitVec 8)), ps[k]? = some q → ∃ u, us[k]? = some u ∧ Slice w u q := by
  obtain ⟨A, c, rfl, h3⟩ := h
  by_cases hne : ps = []
  · subst hne
    exact ⟨A, c, [], rfl, rfl, fun _ _ j u hu => (by simp at hu), fun _ => rfl, fun u hu => (by cases hu), fun k q hq => (by simp at hq)⟩
  · obtain ⟨b, o, rfl, _, hc⟩ := h3 hne
    have hk : ∀ k, k < ps.length → ∃ u, w.cell? ⟨b, o + k, none⟩ = some u ∧ Slice w u (ps.getD k []) := fun k hk => hc k _ (by rw [List.getD_eq_getElem?_getD, List.getElem?_eq_getElem hk]; rfl)
    refine ⟨some ⟨b, o, none⟩, c, (List.range ps.length).map fun k => (w.cell? ⟨b, o + k, none⟩).getD undef, rfl, by simp, ?_, fun h => (by cases h), ?_, ?_⟩
    · rintro ad e j u hu
      injection e with e
      subst e
      simp only [List.getElem?_map, Option.map_eq_some_iff] at hu
      obtain ⟨k, hk1, rfl⟩ := hu
      have hlt : j < ps.length := by have := (List.getElem?_eq_some_iff.1 hk1).1; simpa using this
      obtain rfl : j = k := by simpa [hlt] using hk1
      obtain ⟨u, hu, _⟩ := hk _ hlt
      rw [Addr.add_mid, hu]; rfl
    · intro u hu
      simp only [List.mem_map, List.mem_range] at hu
      obtain ⟨k, hlt, rfl⟩ := hu
      obtain ⟨u, hu, A', c', rfl, _⟩ := hk k hlt
      rw [hu]; rfl
    · intro k q hq
      have hlt := (List.getElem?_eq_some_iff.1 hq).1
      obtain ⟨u, hu, hs⟩ := hk k hlt
      rw [List.getD_eq_getElem?_getD, hq] at hs
      exact ⟨u, by simp [hlt, hu], hs⟩
/- the slices of a slice of slices that was handed in, as a list -/
theorem Hand.list {w : World} {v : Value} {ps : List (List (BitVec 8))} (h : Hand w v ps) : ∃ A c, ∃ us : List Value, v = .slice A ps.length c ∧ us.length = ps.length ∧ (∀ ad, A = some ad → ∀ (j : Nat) (u : Value), us[j]? = some u → w.cell? (ad.add j) = some u) ∧ (A = none → ps = []) ∧
    (∀ u ∈ us, Value.oneCell' u = true) ∧ ∀ (k : Nat) (q : List (BitVec 8)), ps[k]? = some q → ∃ u, us[k]? = some u ∧ Item w u q := by
  obtain ⟨A, c, rfl, h3⟩ := h
  by_cases hne : ps = []
  · subst hne
    exact ⟨A, c, [], rfl, rfl, fun _ _ j u hu => (by simp at hu), fun _ => rfl, fun u hu => (by cases hu), fun k q hq => (by simp at hq)⟩
  · obtain ⟨b, o, rfl, _, hc⟩ := h3 hne
    have hk : ∀ k, k < ps.length → ∃ u, w.cell? ⟨b, o + k, none⟩ = some u ∧ Item w u (ps.getD k []) := fun k hk => hc k _ (by rw [List.getD_eq_getElem?_getD, List.getElem?_eq_getElem hk]; rfl)
    refine ⟨some ⟨b, o, none⟩, c, (List.range ps.length).map fun k => (w.cell? ⟨b, o + k, none⟩).getD undef, rfl, by simp, ?_, fun h => (by cases h), ?_, ?_⟩
    · rintro ad e j u hu
      injection e with e
      subst e
      simp only [List.getElem?_map, Option.map_eq_some_iff] at hu
      obtain ⟨k, hk1, rfl⟩ := hu
      have hlt : j < ps.length := by have := (List.getElem?_eq_some_iff.1 hk1).1; simpa using this
      obtain rfl : j = k := by simpa [hlt] using hk1
      obtain ⟨u, hu, _⟩ := hk _ hlt
      rw [Addr.add_mid, hu]; rfl
    · intro u hu
      simp only [List.mem_map, List.mem_range] at hu
      obtain ⟨k, hlt, rfl⟩ := hu
      obtain ⟨u, hu, A', c', rfl, _⟩ := hk k hlt
      rw [hu]; rfl
    · intro k q hq
      have hlt := (List.getElem?_eq_some_iff.1 hq).1
      obtain ⟨u, hu, hs⟩ := hk k hlt
      rw [List.getD_eq_getElem?_getD, hq] at hs
      exact ⟨u, by simp [hlt, hu], hs⟩
theorem bs_toList (l : List (BitVec 8)) : (bs l).toList = bytesV l := by simp [bs, bytesV]
theorem grown_setRow (w : World) (g : Nat) (cs : Array Value) : w.grownBy (w.setRow g cs) (some g) :=
  ⟨rfl, rfl, rfl, by rw [size_setRow]; exact Nat.le_refl _, fun k _ hk => setRow_other w g k cs (fun e => hk (by rw [e]))⟩
theorem Hand.parts {w : World} {v : Value} {ps : List (List (BitVec 8))} (h : Hand w v ps) : Parts w v ps := by
  obtain ⟨A, c, h1, h3⟩ := h
  refine ⟨A, c, h1, fun hne => ?_⟩
  obtain ⟨b, o, h4, h5, h6⟩ := h3 hne
  refine ⟨b, o, h4, h5, fun k q hq => ?_⟩
  obtain ⟨u, h7, h8⟩ := h6 k q hq
  exact ⟨u, h7, h8.slice⟩
end Go.Proofs.YtnmaplgodimohaaDoor

/- Arguments opened: a slice of bytes, a list of them, an array of integers. -/
set_option maxRecDepth 4000
namespace Go.Proofs.YtnmaplgodimohaaDoor
open Go Go.ChangeShapes Go.WideShapes Go.ChangeAt Go.RowKit
theorem ownK : ownKnob Tryd.prog.godebug = none := by kernel_rfl
theorem laidOutT : laidOutB Tryd.prog = true := by kernel_rfl
def intIn : Value → Int
  | .int _ z => z
  | _ => 0
end Go.Proofs.YtnmaplgodimohaaDoor

/- What a call changes when it works on things that were there: a footprint; rows of elements of several cells. No function of the program is named here. -/
set_option maxRecDepth 4000
namespace Go.Proofs.YtnmaplgodimohaaDoor
open Go Go.RowKit
/- all blocks but those of F are as they were -/
structure Chg (F : Nat → Prop) (w w' : World) : Prop where
  os : w'.os = w.os
  tape : w'.tape = w.tape
  output : w'.output = w.output
  size : w.heap.size ≤ w'.heap.size
  block : ∀ k, k < w.heap.size → ¬ F k → w'.heap[k]? = w.heap[k]?
section
variable {F F' : Nat → Prop} {a b c w w' : World}
theorem Chg.refl (F : Nat → Prop) (w : World) : Chg F w w := ⟨rfl, rfl, rfl, Nat.le_refl _, fun _ _ _ => rfl⟩
theorem Chg.trans (h : Chg F a b) (k : Chg F' b c) (hF : ∀ i, F' i → F i ∨ a.heap.size ≤ i) : Chg F a c :=
  ⟨k.os.trans h.os, k.tape.trans h.tape, k.output.trans h.output, Nat.le_trans h.size k.size, fun i hi hn => (k.block i (Nat.lt_of_lt_of_le hi h.size) fun hf => by rcases hF i hf with h1 | h1; exact hn h1; omega).trans (h.block i hi hn)⟩
theorem Chg.mono (h : Chg F a b) (hF : ∀ i, F i → F' i ∨ a.heap.size ≤ i) : Chg F' a b := (Chg.refl F' a).trans h hF
theorem Chg.of_below (h : Below w.heap.size w w') : Chg F w w' := ⟨h.os, h.tape, h.output, h.size, fun k hk _ => h.block k hk⟩
theorem Chg.drew (h : Chg F a w) : Chg F a w.drew := ⟨h.os, h.tape, h.output, h.size, h.block⟩
theorem Chg.alloc (h : Chg F a w) (o : Obj) : Chg F a (w.alloc o) := h.trans (F' := fun _ => False) (Chg.of_below ((Below.refl _ _).alloc (Nat.le_refl _) o)) (fun _ h => h.elim)
theorem Chg.setCell (h : Chg F a w) {p : Addr} (hp : F p.block ∨ a.heap.size ≤ p.block) (v : Value) : Chg F a (w.setCell p v) :=
  ⟨h.os, h.tape, h.output, by rw [World.size_setCell]; exact h.size, fun k hk hn => (Below.heap_setCell _ _ _ _ (fun e => by subst e; rcases hp with h1 | h1; exact hn h1; omega)).trans (h.block k hk hn)⟩
theorem Chg.one (w : World) (g o : Nat) (v : Value) : Chg (fun k => k = g) w (w.setCell ⟨g, o, none⟩ v) := (Chg.refl (fun k => k = g) w).setCell (p := ⟨g, o, none⟩) (.inl rfl) v
theorem Chg.below (h : Chg F w w') {B : Nat} (hF : ∀ i, F i → B ≤ i) (hB : B ≤ w.heap.size) : Below B w w' := ⟨h.os, h.tape, h.output, h.size, fun k hk => h.block k (by omega) fun hf => by have := hF k hf; omega⟩
theorem Chg.grown (h : Chg F a w) {row : Option Nat} (hg : w.grownBy w' row) (hr : ∀ k, row = some k → F k ∨ a.heap.size ≤ k) : Chg F a w' :=
  h.trans (F' := fun k => row = some k) ⟨hg.os, hg.tape, hg.output, hg.size, fun k hk hn => hg.block k hk fun e => hn e.symm⟩ hr
theorem Row.chg {g : Nat} {t : TypeId} {cs : Array Value} (h : Row w g t cs) (k : Chg F w w') (hg : ¬ F g) : Row w' g t cs := (k.block g h.lt hg).trans h
theorem own_chg {base e size n : Nat} {v : Value} {xs : List Value} (h : w.ownsRow base e size v n xs) (k : Chg F w w') (hg : ∀ g, v.ownBlock = some g → ¬ F g) : w'.ownsRow base e size v n xs := by
  refine ⟨h.1, ?_⟩
  rcases h.2 with hn | ⟨g, cap, cur, rfl, h2, h3, h4⟩
  · exact .inl hn
  · refine .inr ⟨g, cap, cur, rfl, h2, ?_, h4⟩
    have hlt : g < w.heap.size := (Array.getElem?_eq_some_iff.1 h3).1
    rw [k.block g hlt (hg g rfl)]; exact h3
end
/- rows of elements of several cells -/
def spl {α : Type} (L : List α) (o : Nat) (vs : List α) : List α := L.take o ++ vs ++ L.drop (o + vs.length)
theorem length_spl {α : Type} (L : List α) (o : Nat) (vs : List α) (h : o + vs.length ≤ L.length) : (spl L o vs).length = L.length := by simp [spl]; omega
theorem set_eq_spl {α : Type} (L : List α) (o : Nat) (v : α) (h : o < L.length) : L.set o v = spl L o [v] := by
  rw [spl, List.set_eq_take_append_cons_drop, if_pos h]; simp
theorem flat_get {α : Type} {sz : Nat} : ∀ (l : List (List α)), (∀ c ∈ l, c.length = sz) → ∀ (k j : Nat) (c : List α), l[k]? = some c → j < sz → l.flatten[k * sz + j]? = c[j]?
  | [], _, k, j, c, hk, _ => by simp at hk
  | d :: l, h, 0, j, c, hk, hj => by
    obtain rfl : d = c := by simpa using hk
    have hd := h d (by simp)
    rw [List.flatten_cons, Nat.zero_mul, Nat.zero_add, List.getElem?_append_left (by omega)]
  | d :: l, h, k + 1, j, c, hk, hj => by
    have hd := h d (by simp)
    have ih := flat_get l (fun c hc => h c (by simp [hc])) k j c (by simpa using hk) hj
    have e : (k + 1) * sz + j = d.length + (k * sz + j) := by rw [hd, Nat.succ_mul]; omega
    rw [List.flatten_cons, e, List.getElem?_append_right (by omega), Nat.add_sub_cancel_left]
    exact ih
theorem flat_length {α : Type} {sz : Nat} : ∀ (l : List (List α)), (∀ c ∈ l, c.length = sz) → l.flatten.length = l.length * sz
  | [], _ => by simp
  | d :: l, h => by
    rw [List.flatten_cons, List.length_append, flat_length l (fun c hc => h c (by simp [hc])), h d (by simp), List.length_cons, Nat.succ_mul]; omega
/- an element of an owned row of elements: read and written -/
section
variable {w : World} {base e sz n cap g : Nat} {l : List (List Value)}
end
/- append: where the slice then lies: where it lay, or in a new block -/
def Where (w : World) (v v' : Value) : Prop := v'.ownBlock = v.ownBlock ∨ ∀ k, v'.ownBlock = some k → w.heap.size ≤ k
theorem Where.cases {w : World} {v v' : Value} (h : Where w v v') {k : Nat} (hk : v'.ownBlock = some k) : v.ownBlock = some k ∨ w.heap.size ≤ k := by
  rcases h with h | h
  · exact .inl (by rw [← h]; exact hk)
  · exact .inr (h k hk)
theorem run_append_where {P : Program} (w : World) (base : Nat) (t ty e : TypeId) (i : TypeInfo) (z : Value) (size bytes : Nat) (ht : P.underlying t = some (.slice e)) (hi : P.info? e = some i) (hz : i.zero = some z)
    (hsize : i.size = size) (hby : i.bytes = bytes) (hzs : z.cells.size = size) (hsz : 0 < size)
    (v : Value) (n : Nat) (xs : List Value) (hown : w.ownsRow base e size v n xs)
    (a : Addr) (m c : Nat) (news : List Value) (hl : news.length = m * size) (hnews : ∀ j u, news[j]? = some u → w.cell? (a.add j) = some u) (h1 : ∀ u ∈ news, u.oneCell' = true)
    (h63 : n + m ≤ maxLen) (hbytes : (n + m) * bytes ≤ 140737488355328) (hbase : base ≤ w.heap.size) :
    ∃ v' w', (Builtin.append_ #[t, t] ty #[v, .slice (some a) m c]).run P w = .ok v' w' ∧ w'.ownsRow base e size v' (n + m) (xs ++ news) ∧ w.grownBy w' v.ownBlock ∧ Where w v v' := by
  obtain ⟨v', w', hr, h2, h3, _⟩ := run_append_own (P := P) w base t ty e i z size bytes ht hi hz hsize hby hzs hsz v n xs hown a m c news hl hnews h1 h63 hbytes hbase
  refine ⟨v', w', hr, h2, h3, ?_⟩
  rcases hown.2 with ⟨rfl, rfl⟩ | ⟨g, cap, cur, rfl, _, _, _, _, _, _⟩
  · obtain rfl : xs = [] := List.eq_nil_of_length_eq_zero (by simpa using hown.1)
    obtain ⟨v2, w2, hr2, h4, _, _⟩ := run_append_own (P := P) w w.heap.size t ty e i z size bytes ht hi hz hsize hby hzs hsz (.slice none 0 0) 0 [] (World.ownsRow_nil _ _ _ _) a m c news hl hnews h1 h63 hbytes (Nat.le_refl _)
    rw [hr] at hr2
    injection hr2 with hr2 _
    subst hr2
    exact .inr fun k hk => (h4.lt k hk).1
  · by_cases hroom : n + m ≤ cap
    · obtain ⟨w2, hr2, _⟩ := run_append_fits (P := P) w base t ty e i size ht hi hsize g n cap xs hown a m c news hl hnews h1 hroom
      rw [hr] at hr2
      injection hr2 with hr2 _
      subst hr2
      exact .inl rfl
    · have hr2 := run_append_grow (P := P) w t ty e i z ht hi hz ⟨g, 0, none⟩ n cap xs (by rw [hsize]; exact hown.1) (hown.cells (g := g) rfl) a m c news (by rw [hsize]; exact hl) hnews (by omega) (by have := h63; simp only [maxLen] at this; omega) (growslice_fits (by omega) (by rw [hby]; exact hbytes))
      rw [hr] at hr2
      injection hr2 with hr2 _
      subst hr2
      refine .inr fun k hk => ?_
      injection hk with hk
      exact Nat.le_of_eq hk
theorem own_apart {w : World} {base e size n g : Nat} {t : TypeId} {v : Value} {xs : List Value} {cs : Array Value} (h : w.ownsRow base e size v n xs) (r : Row w g t cs) (hne : e ≠ t) : ∀ k, v.ownBlock = some k → k ≠ g := by
  intro k hk e0
  subst e0
  rcases h.2 with ⟨rfl, _⟩ | ⟨g', cap, cur, rfl, _, h3, _⟩
  · cases hk
  · injection hk with hk
    change g' = k at hk
    subst hk
    unfold Row at r
    rw [h3] at r
    injection r with r
    injection r with _ r _
    exact hne r
theorem own_apart2 {w : World} {base base' e e' size size' n n' : Nat} {v v' : Value} {xs xs' : List Value} (h : w.ownsRow base e size v n xs) (h' : w.ownsRow base' e' size' v' n' xs') (hne : e ≠ e') : ∀ k, v.ownBlock = some k → v'.ownBlock ≠ some k := by
  intro k hk hk'
  rcases h'.2 with ⟨rfl, _⟩ | ⟨g', cap, cur, rfl, _, h3, _⟩
  · cases hk'
  · injection hk' with hk'
    change g' = k at hk'
    subst hk'
    exact own_apart h (show Row w g' e' cur from h3) hne g' hk rfl
theorem own_slice_form {w : World} {base e size n : Nat} {v : Value} {xs : List Value} (h : w.ownsRow base e size v n xs) : ∃ A c, v = .slice A n c ∧ n ≤ c := by
  rcases h.2 with ⟨rfl, rfl⟩ | ⟨g, cap, cur, rfl, _, _, h4, _⟩
  · exact ⟨none, 0, rfl, Nat.le_refl _⟩
  · exact ⟨_, cap, rfl, h4⟩
theorem len_bytesV (b : List (BitVec 8)) : (bytesV b).length = b.length := by simp [bytesV]
end Go.Proofs.YtnmaplgodimohaaDoor

/- What an argument holds, read by its type: integers, bools, texts, rows of bytes, slices, structs, put together as the type is. No function of the program is named here. -/
set_option maxRecDepth 4000
namespace Go.Proofs.YtnmaplgodimohaaDoor
open Go Go.ChangeShapes Go.WideShapes Go.ChangeAt Go.RowKit
/- the cells cs hold a, in the world w -/
def Rd (α : Type) := World → List Value → α → Prop
def Rd.Stays {α : Type} (R : Rd α) : Prop := ∀ (B : Nat) (w w' : World) (cs : List Value) (a : α), R w cs a → Below B w w' → w.heap.size ≤ B → R w' cs a
def Opens (P : Program) {α : Type} (t : TypeId) (R : Rd α) : Prop :=
  ∀ {H : Type} (enc : TypeId × Value → H) (W : World) (fuel : Nat) (cs : List Value) (x : DataW H × List MemPlace), DataW.trod enc P W 0 (fun _ => true) true fuel t cs = some x → (∀ y ∈ x.2, y.block < W.heap.size) → ∃ a, R W cs a
def rdInt (k : IntKind) : Rd Int := fun _ cs n => cs = [.int k n] ∧ (Lit.int k n).wf = true
def rdBool : Rd Bool := fun _ cs b => cs = [.bool b]
def rdStr : Rd ByteArray := fun _ cs s => cs = [.string s] ∧ s.size ≤ maxLen
def rdRow (n : Nat) : Rd (List (BitVec 8)) := fun _ cs b => cs = bytesV b ∧ b.length = n
def rdNil : Rd Unit := fun _ cs _ => cs = []
def rdCons {α β : Type} (s : Nat) (R : Rd α) (T : Rd β) : Rd (α × β) := fun w cs ab => ∃ c d, cs = c ++ d ∧ c.length = s ∧ R w c ab.1 ∧ T w d ab.2
def rdSl {α : Type} (s : Nat) (R : Rd α) : Rd (List α) := fun w cs l => ∃ A c, cs = [.slice A l.length c] ∧ l.length ≤ c ∧ (A = none → c = 0) ∧ l.length ≤ maxLen ∧
  (l ≠ [] → ∃ b o, A = some ⟨b, o, none⟩ ∧ b < w.heap.size ∧ ∀ k x, l[k]? = some x → ∃ ds, ds.length = s ∧ w.rangeAt b (o + k * s) ds ∧ R w ds x)
def rdMap {α β : Type} (f : α → β) (R : Rd α) : Rd β := fun w cs b => ∃ a, R w cs a ∧ b = f a
theorem stays_int (k : IntKind) : (rdInt k).Stays := fun _ _ _ _ _ h _ _ => h
theorem stays_bool : rdBool.Stays := fun _ _ _ _ _ h _ _ => h
theorem stays_str : rdStr.Stays := fun _ _ _ _ _ h _ _ => h
theorem stays_rnil : rdNil.Stays := fun _ _ _ _ _ h _ _ => h
theorem stays_cons' {α β : Type} {s : Nat} {R : Rd α} {T : Rd β} (h : R.Stays) (t : T.Stays) : (rdCons s R T).Stays := fun B w w' _ _ ⟨c, d, e, hl, h1, h2⟩ hb hB => ⟨c, d, e, hl, h B w w' _ _ h1 hb hB, t B w w' _ _ h2 hb hB⟩
theorem stays_map {α β : Type} {f : α → β} {R : Rd α} (h : R.Stays) : (rdMap f R).Stays := fun B w w' _ _ ⟨a, h1, e⟩ hb hB => ⟨a, h B w w' _ _ h1 hb hB, e⟩
theorem stays_sl {α : Type} {s : Nat} {R : Rd α} (h : R.Stays) : (rdSl s R).Stays := fun B w w' cs l ⟨A, c, h1, h2, h3, h4, h5⟩ hb hB => by
  refine ⟨A, c, h1, h2, h3, h4, fun hne => ?_⟩
  obtain ⟨b, o, h6, h7, h8⟩ := h5 hne
  refine ⟨b, o, h6, Nat.lt_of_lt_of_le h7 hb.size, fun k x hx => ?_⟩
  obtain ⟨ds, h9, h10, h11⟩ := h8 k x hx
  exact ⟨ds, h9, fun j v hv => (hb.cell (p := ⟨b, o + k * s + j, none⟩) (Nat.lt_of_lt_of_le h7 hB)).trans (h10 j v hv), h B w w' _ _ h11 hb hB⟩
section
variable {P : Program}
theorem opens_int {t : TypeId} {k : IntKind} (ht : P.underlying t = some (.int k)) : Opens P t (rdInt k) := fun _ _ _ _ _ h _ => by
  obtain ⟨n, h1, _, h2⟩ := DataW.trod_int ht h
  exact ⟨n, h1, h2⟩
theorem opens_str {t : TypeId} (ht : P.underlying t = some .string) : Opens P t rdStr := fun _ _ _ _ _ h _ => by
  obtain ⟨s, h1, _, h2⟩ := DataW.trod_string ht h
  exact ⟨s, h1, h2⟩
theorem opens_map {α β : Type} {t : TypeId} {f : α → β} {R : Rd α} (h : Opens P t R) : Opens P t (rdMap f R) := fun enc W fuel cs x hx hlt => by
  obtain ⟨a, ha⟩ := h enc W fuel cs x hx hlt
  exact ⟨f a, a, ha, rfl⟩
theorem opens_row {t e : TypeId} {n : Nat} (ht : P.underlying t = some (.array n e)) (he : P.underlying e = some (.int .u8)) (hce : P.cellsOf e = 1) (hct : P.cellsOf t = n) : Opens P t (rdRow n) := fun enc W fuel cs x h _ => by
  obtain ⟨xs, m, _, _, hl, hx, hi⟩ := DataW.trod_array ht h
  have hs : cs.length = n := by rw [hl, hct]
  have hint : ∀ i, i < n → ∃ z, cs[i]? = some (.int .u8 z) ∧ (Lit.int .u8 z).wf = true := fun i hin => by
    have h1 := hi i hin
    rw [List.getElem?_eq_getElem (by omega)] at h1
    obtain ⟨z, hz, _, hw⟩ := DataW.trod_int he h1
    refine ⟨z, ?_, hw⟩
    simp only [hce, Nat.mul_one] at hz
    rw [List.take_one, List.head?_drop] at hz
    cases hc : cs[i]? with
    | none => rw [hc] at hz; cases hz
    | some v => rw [hc] at hz; simpa using hz
  refine ⟨cs.map fun v => BitVec.ofInt 8 (intIn v), ?_, by simp [hs]⟩
  apply List.ext_getElem?
  intro i
  by_cases hin : i < n
  · obtain ⟨z, hz, hw⟩ := hint i hin
    have hb := bounds_u8 hw
    simp [bytesV, hz, intIn, ← bd_of z hb.1 (by omega)]
  · rw [List.getElem?_eq_none (by omega), List.getElem?_eq_none (by simp [bytesV]; omega)]
theorem opens_sl {α : Type} {t e : TypeId} {s : Nat} {R : Rd α} (ht : P.underlying t = some (.slice e)) (hs : P.cellsOf e = s) (hpos : 0 < s) (he : Opens P e R) : Opens P t (rdSl s R) := fun {H} enc W fuel cs x h hlt => by
  rcases Deep.open_slice ht h with ⟨h0, _⟩ | ⟨a, len, cap, m, n, D, Pl, hcs, _, hl, hm, hmm, hx, hi⟩
  · exact ⟨[], none, 0, h0, by simp, fun _ => rfl, by simp, fun h => absurd rfl h⟩
  · simp only [if_true] at hmm
    subst hmm
    have hlt' : ∀ y ∈ MemPlace.row a (m * P.cellsOf e) ++ (List.range m).flatMap Pl, y.block < W.heap.size := by rw [hx] at hlt; exact hlt
    have hR : ∀ i, i < len → ∃ b, ∃ ds, W.cells? 0 (a.add (i * s)) s = some ds ∧ R W ds b := fun i hil => by
      obtain ⟨ds, h1, h2⟩ := hi i (by omega)
      rw [hs] at h1
      obtain ⟨b, hb⟩ := he enc W n ds _ h2 fun y hy => hlt' y (List.mem_append_right _ (List.mem_flatMap.2 ⟨i, List.mem_range.2 (by omega), hy⟩))
      exact ⟨b, ds, h1, hb⟩
    by_cases h0 : len = 0
    · subst h0
      refine ⟨[], some a, m, hcs, by simp, fun h => (by cases h), by simp, fun h => absurd rfl h⟩
    · obtain ⟨b0, _⟩ := hR 0 (by omega)
      have hinh : Inhabited α := ⟨b0⟩
      obtain ⟨Q, hQ⟩ := Deep.choose_lt (α := α) (n := len) (p := fun i q => ∃ ds, W.cells? 0 (a.add (i * s)) s = some ds ∧ R W ds q) hR
      have hql : ((List.range len).map Q).length = len := by simp
      refine ⟨(List.range len).map Q, some a, m, by rw [hql]; exact hcs, by rw [hql]; exact hl, fun h => (by cases h), by rw [hql]; omega, fun _ => ?_⟩
      obtain ⟨b, off, spot⟩ := a
      have hspot : spot = none := by
        obtain ⟨ds, h1, _⟩ := hQ 0 (by omega)
        obtain ⟨_, h3, h4⟩ := World.cells?_some h1
        have h5 := h4 0 hpos
        rw [List.getElem?_eq_getElem (by omega)] at h5
        simpa [Addr.add] using World.cell?_spot h5
      subst hspot
      refine ⟨b, off, rfl, hlt' (.cell b off) (List.mem_append_left _ (MemPlace.mem_row.2 ⟨0, by rw [hs]; exact Nat.mul_pos (by omega) hpos, by simp⟩)), fun k x hk => ?_⟩
      have hkl : k < len := by have := (List.getElem?_eq_some_iff.1 hk).1; omega
      obtain ⟨ds, h1, h2⟩ := hQ k hkl
      obtain ⟨_, h3, h4⟩ := World.cells?_some h1
      obtain rfl : Q k = x := by simpa [hkl] using hk
      refine ⟨ds, h3, fun j v hv => ?_, h2⟩
      have hj : j < s := by have := (List.getElem?_eq_some_iff.1 hv).1; omega
      have h5 := h4 j hj
      rw [hv, Addr.add_mid, Addr.add_mid] at h5
      exact h5
/- the fields of a struct from offset o on -/
def OpensF (P : Program) {β : Type} (fs : List Field) (o : Nat) (T : Rd β) : Prop :=
  ∀ {H : Type} (enc : TypeId × Value → H) (W : World) (n : Nat) (cs : List Value) (xs : List (DataW H × List MemPlace)), xs.length = fs.length →
    (∀ (i : Nat) (f : Field), fs[i]? = some f → DataW.trod enc P W 0 (fun _ => true) true n f.type ((cs.drop f.offset).take (P.cellsOf f.type)) = xs[i]?) → (∀ y ∈ xs.flatMap (·.2), y.block < W.heap.size) → cs.length = o + (fs.map fun f => P.cellsOf f.type).sum → ∃ b, T W (cs.drop o) b
theorem opensF_nil {o : Nat} : OpensF P [] o rdNil := fun _ _ _ _ _ _ _ _ hl => ⟨(), by
  unfold rdNil
  simp only [List.map_nil, List.sum_nil, Nat.add_zero] at hl
  rw [← hl, List.drop_length]⟩
theorem opensF_cons {α β : Type} {f : Field} {fs : List Field} {o s : Nat} {R : Rd α} {T : Rd β} (ho : f.offset = o) (hs : P.cellsOf f.type = s) (h : Opens P f.type R) (t : OpensF P fs (o + s) T) : OpensF P (f :: fs) o (rdCons s R T) := fun {H} enc W n cs xs hxl hf hlt hl => by
  cases xs with
  | nil => simp at hxl
  | cons x xs =>
    simp only [List.length_cons, Nat.add_right_cancel_iff] at hxl
    have h0 := hf 0 f rfl
    simp only [List.getElem?_cons_zero] at h0
    rw [ho, hs] at h0
    obtain ⟨a, ha⟩ := h enc W n _ x h0 fun y hy => hlt y (by simp [hy])
    simp only [List.map_cons, List.sum_cons, hs] at hl
    obtain ⟨b, hb⟩ := t enc W n cs xs hxl (fun i g hg => by have := hf (i + 1) g (by simpa using hg); simpa using this) (fun y hy => hlt y (by simp only [List.flatMap_cons, List.mem_append]; exact .inr hy)) (by omega)
    refine ⟨(a, b), (cs.drop o).take s, cs.drop (o + s), ?_, by rw [List.length_take, List.length_drop]; omega, ha, hb⟩
    rw [← List.drop_drop, List.take_append_drop]
theorem opens_struct {β : Type} {t : TypeId} {fs : Array Field} {T : Rd β} (ht : P.underlying t = some (.struct fs)) (hc : P.cellsOf t = (fs.toList.map fun f => P.cellsOf f.type).sum) (h : OpensF P fs.toList 0 T) : Opens P t T := fun {H} enc W fuel cs x hx hlt => by
  obtain ⟨xs, n, _, hy, hlen, hyl, hf⟩ := DataW.trod_struct ht hx
  subst hy
  obtain ⟨b, hb⟩ := h enc W n cs xs (by rw [hyl]; exact Array.length_toList.symm) (fun i f hi => hf i f (by rw [← Array.getElem?_toList]; exact hi)) hlt (by rw [hlen, hc, Nat.zero_add])
  exact ⟨b, by simpa using hb⟩
end
/- an argument of a card -/
theorem open_arg {P : Program} {α : Type} {t : TypeId} {R : Rd α} (h : Opens P t R) {H : Type} {enc : TypeId × Value → H} {W : World} {v : Value} {d : DataW H} {ps : List MemPlace} (hT : DataW.Trod enc P W 0 (fun _ => true) true t v d ps) (hlt : ∀ y ∈ ps, y.block < W.heap.size) : ∃ a, R W v.cells.toList a := by
  obtain ⟨fuel, hf⟩ := hT
  exact h enc W fuel _ _ hf hlt
/- an argument that is a slice -/
theorem open_argSl {P : Program} {α : Type} {t e : TypeId} {s : Nat} {R : Rd α} (ht : P.underlying t = some (.slice e)) (ho : Opens P t (rdSl s R)) {H : Type} {enc : TypeId × Value → H} {W : World} {r : Reach} {base : Nat} {v : Value} {d : DataW H} {ps : List MemPlace} (hval : Value.okWide P W r base t v) (hT : DataW.Trod enc P W 0 (fun _ => true) true t v d ps) (hlt : ∀ y ∈ ps, y.block < W.heap.size) : ∃ A c l, v = .slice A l.length c ∧ rdSl s R W [.slice A l.length c] l := by
  obtain ⟨a0, len, cap, rfl⟩ := okWide_slice ht hval
  obtain ⟨l, hl⟩ := open_arg ho hT hlt
  have h0 := hl
  obtain ⟨A, c, e, _⟩ := hl
  have e : Value.slice a0 len cap = .slice A l.length c := by simpa [Value.cells] using e
  rw [e] at h0
  exact ⟨A, c, l, e, by simpa [Value.cells] using h0⟩
end Go.Proofs.YtnmaplgodimohaaDoor

/- Words of 16 bits, kept shut: what the operations of Go on uint16 come to. No condition. -/
set_option maxRecDepth 4000
namespace Go.Proofs.YtnmaplgodimohaaDoor
open Go Go.RowKit
def hd (x : BitVec 16) : Int := (x.toNat : Int)
theorem hd_lo (x : BitVec 16) : 0 ≤ hd x := by unfold hd; omega
theorem hd_hi (x : BitVec 16) : hd x < 65536 := by unfold hd; have := x.isLt; omega
theorem ofInt_hd (x : BitVec 16) : BitVec.ofInt 16 (hd x) = x := by
  apply BitVec.eq_of_toNat_eq; unfold hd; rw [ofInt_u16 _ x.isLt]
theorem wrap_hd (x : BitVec 16) : IntKind.u16.wrap (hd x) = hd x := by
  rw [IntKind.wrap_u16]; have := hd_lo x; have := hd_hi x; omega
theorem and_hd (x y : BitVec 16) : bits .and .u16 (hd x) (hd y) = hd (x &&& y) := by
  show IntKind.u16.wrap ((BitVec.ofInt 16 (hd x) &&& BitVec.ofInt 16 (hd y)).toNat : Int) = _
  rw [ofInt_hd, ofInt_hd]; exact wrap_hd _
theorem or_hd (x y : BitVec 16) : bits .or .u16 (hd x) (hd y) = hd (x ||| y) := by
  show IntKind.u16.wrap ((BitVec.ofInt 16 (hd x) ||| BitVec.ofInt 16 (hd y)).toNat : Int) = _
  rw [ofInt_hd, ofInt_hd]; exact wrap_hd _
end Go.Proofs.YtnmaplgodimohaaDoor

/- Copying bytes into a part of a row; a slice of bytes that was just built. No function of the program is named here. -/
set_option maxRecDepth 4000
namespace Go.Proofs.YtnmaplgodimohaaDoor
open Go Go.RowKit
theorem wp_copy_any {w : World} {o : Oper} {a : Act} {K : Act → World → Prop} {Q : Exit → Act → World → Prop} (d s : Operand)
    (ho : o.op = .call { callee := .builtin .copy, args := #[d, s], argTypes := #[106, 106] })
    (g off n m : Nat) (hd : a.eval d = .slice (some ⟨g, off, none⟩) n m) (v : Value) (hs : a.eval s = v) (q : List (BitVec 8)) (hq : Slice w v q) (t : TypeId) (cur : Array Value) (hg : Row w g t cur) (hfit : off + q.length ≤ cur.size) (hle : q.length ≤ n)
    (h : ∀ w', Row w' g t (spl cur.toList off (bytesV q)).toArray → w.grownBy w' (some g) → K (a.put o.dst (goInt q.length)) w') : o.wp Tryd.prog a w K Q := by
  obtain ⟨A, c, rfl, _, h3⟩ := hq
  by_cases hne : q = []
  · subst hne
    have hrun := run_copy_none (P := Tryd.prog) w 106 106 o.type 5 (some ⟨g, off, none⟩) A n m 0 c Tryd.underlying106 size_u8 (Nat.zero_min _)
    have e : spl cur.toList off (bytesV []) = cur.toList := by
      show cur.toList.take off ++ [] ++ cur.toList.drop (off + 0) = _
      rw [List.append_nil, Nat.add_zero, List.take_append_drop]
    have := h w (by rw [e]; simpa using hg) (owns_refl w _)
    unfold Oper.wp
    simp [execOp, ho, resolve, invoke, builtin, hd, hs, hrun, Result.andThen]
    exact this
  · obtain ⟨b, o', rfl, hbl, hc⟩ := h3 hne
    have hrun := run_copy_row (P := Tryd.prog) w 106 106 o.type 5 g off n m ⟨b, o', none⟩ q.length c cur t (bytesV q) Tryd.underlying106 size_u8 hg (by rw [len_bytesV]; exact (Nat.min_eq_left hle).symm) (by
      intro j u hu
      rw [Addr.add_mid]
      simp only [bytesV, List.getElem?_map, Option.map_eq_some_iff] at hu
      obtain ⟨y, hy, rfl⟩ := hu
      exact hc j y hy) (by rw [len_bytesV]; exact hfit) (one_bytesV q)
    have := h _ (hg.setRow _) (grown_setRow w g (spl cur.toList off (bytesV q)).toArray)
    rw [← len_bytesV q] at this
    unfold Oper.wp
    simp [execOp, ho, resolve, invoke, builtin, hd, hs, hrun, Result.andThen]
    unfold spl at this
    rw [List.append_assoc] at this
    exact this
/- bytes behind bytes -/
theorem spl_bs (p q : List (BitVec 8)) (off : Nat) : (spl (bs p).toList off (bytesV q)).toArray = bs (spl p off q) := by
  simp [spl, bs, bytesV]
end Go.Proofs.YtnmaplgodimohaaDoor

/- A region that draws its order, walked once: what each operation yields holds by what those that it waits for yielded, whichever comes up. The conditions: the theorems' own. -/
set_option maxRecDepth 4000
namespace Go.Proofs.YtnmaplgodimohaaDoor
open Go Go.RowKit
/- what an operation yields -/
def Does (P : Program) (o : Oper) (a : Act) (w : World) (R : Value → World → Prop) : Prop :=
  ∀ (K : Act → World → Prop) (Q : Exit → Act → World → Prop), (∀ v w', R v w' → K (a.put o.dst v) w') → o.wp P a w K Q
def dstAt (ops : Array Oper) (i : Nat) : Option Tmp := (ops[i]?).bind (·.dst)
def waitsFor (o : Oper) (j : Nat) : Bool := o.after.any fun e => Region.binds .any e && e.on == j
def anc (ops : Array Oper) : List Nat → Array Bool → Array Bool
  | [], m => m
  | k :: ks, m => anc ops ks (if m.getD k false then ((ops[k]?).map fun o => o.after.foldl (fun m e => if Region.binds .any e then m.setIfInBounds e.on true else m) m).getD m else m)
def chk (ops : Array Oper) (n size : Nat) : Bool :=
  decide (n ≤ ops.size) &&
  (List.range ops.size).all (fun i => ((ops[i]?).map fun o => o.after.all fun e => !Region.binds .any e || decide (e.on < i)).getD false) &&
  (List.range n).all (fun i => match dstAt ops i with | some d => decide (d < size) && (List.range i).all (fun j => dstAt ops j != some d) | none => true) &&
  (List.range n).all (fun i => ((ops[i]?).map fun o => (match o.guard with | some (j, _) => decide (j < n) && waitsFor o j && (dstAt ops j).isSome | none => true)).getD false) &&
  (List.range ops.size).all (fun j => decide (j < n) || (List.range n).all fun i => (anc ops (List.range (j + 1)).reverse ((Array.replicate ops.size false).setIfInBounds j true)).getD i false)
def puts (ops : Array Oper) (x : Nat → Value) : Nat → Act → Act
  | 0, a => a
  | n + 1, a => (puts ops x n a).put (dstAt ops n) (x n)
section
variable {P : Program} {Q : Exit → Act → World → Prop} {ops : Array Oper} {n : Nat} {R : World → World → Prop} {V : Nat → Value → World → Prop} {G : Nat → Bool} {a0 : Act} {w1 : World}
def Known (ops : Array Oper) (n : Nat) (V : Nat → Value → World → Prop) (a : Act) (x : Nat → Value) (w : World) (o : Oper) : Prop :=
  ∀ j, waitsFor o j = true → j < n → V j (x j) w ∧ ∀ d, dstAt ops j = some d → a.tmps[d]? = some (x j)
def All (p : Nat → Oper → Prop) (n : Nat) : List Oper → Nat → Prop
  | [], _ => True
  | o :: l, i => (i < n → p i o) ∧ All p n l (i + 1)
theorem all_cons {p : Nat → Oper → Prop} {o : Oper} {l : List Oper} {i : Nat} (h : p i o) (t : All p n l (i + 1)) : All p n (o :: l) i := ⟨fun _ => h, t⟩
theorem all_end {p : Nat → Oper → Prop} : ∀ {l : List Oper} {i : Nat}, n ≤ i → All p n l i
  | [], _, _ => trivial
  | _ :: _, i, h => ⟨fun h' => absurd h' (by omega), all_end (l := _) (i := i + 1) (by omega)⟩
theorem all_get {p : Nat → Oper → Prop} : ∀ {l : List Oper} {i : Nat}, All p n l i → ∀ j o, l[j]? = some o → i + j < n → p (i + j) o
  | [], _, _, j, o, ho, _ => by simp at ho
  | o' :: l, i, h, 0, o, ho, hj => by obtain rfl : o' = o := by simpa using ho
                                      exact h.1 hj
  | o' :: l, i, h, j + 1, o, ho, hj => by
    have := all_get h.2 j o (by simpa using ho) (by omega)
    rwa [show i + 1 + j = i + (j + 1) by omega] at this
theorem getD_set (l : Array Bool) (i k : Nat) (hi : i < l.size) : (l.setIfInBounds i true).getD k false = (if i = k then true else l.getD k false) := by
  by_cases h : i = k
  · subst h; simp [Array.getD, hi]
  · rw [if_neg h]
    simp only [Array.getD_eq_getD_getElem?]
    rw [Array.getElem?_setIfInBounds_ne h]
theorem anc_foldl {L : Nat → Prop} (es : List Edge) (m : Array Bool) (h : ∀ e ∈ es, Region.binds .any e = true → L e.on) (hm : ∀ k, m.getD k false = true → L k) :
    ∀ k, (es.foldl (fun m e => if Region.binds .any e then m.setIfInBounds e.on true else m) m).getD k false = true → L k := by
  induction es generalizing m with
  | nil => exact hm
  | cons e es ih =>
    rw [List.foldl_cons]
    refine ih _ (fun e' he' => h e' (by simp [he'])) fun k hk => ?_
    by_cases hb : Region.binds .any e = true
    · rw [if_pos hb] at hk
      by_cases hi : e.on < m.size
      · rw [getD_set _ _ _ hi] at hk
        by_cases hek : e.on = k
        · subst hek; exact h e (by simp) hb
        · rw [if_neg hek] at hk; exact hm k hk
      · rw [Array.setIfInBounds_eq_of_size_le (by omega)] at hk; exact hm k hk
    · rw [if_neg hb] at hk; exact hm k hk
theorem anc_sound {L : Nat → Prop} (hc : ∀ k o, ops[k]? = some o → L k → ∀ e ∈ o.after, Region.binds .any e = true → L e.on) : ∀ (ks : List Nat) (m : Array Bool), (∀ k, m.getD k false = true → L k) → ∀ k, (anc ops ks m).getD k false = true → L k
  | [], m, hm => hm
  | k :: ks, m, hm => by
    refine anc_sound hc ks _ fun i hi => ?_
    by_cases hk : m.getD k false = true
    · rw [if_pos hk] at hi
      cases ho : ops[k]? with
      | none => rw [ho] at hi; exact hm i hi
      | some o =>
        rw [ho] at hi
        simp only [Option.map_some, Option.getD_some] at hi
        rw [← Array.foldl_toList] at hi
        exact anc_foldl o.after.toList m (fun e he hb => hc k o ho (hm k hk) e (by simpa using he) hb) hm i hi
    · rw [if_neg hk] at hi; exact hm i hi
theorem puts_get (x : Nat → Value) (a : Act) : ∀ m, (∀ i, i < m → ∀ j, j < i → ∀ d, dstAt ops i = some d → dstAt ops j ≠ some d) → (∀ i, i < m → ∀ d, dstAt ops i = some d → d < a.tmps.size) →
    (puts ops x m a).defers = a.defers ∧ (puts ops x m a).tmps.size = a.tmps.size ∧ (∀ i, i < m → ∀ d, dstAt ops i = some d → (puts ops x m a).tmps[d]? = some (x i)) ∧ ∀ k, (∀ i, i < m → dstAt ops i ≠ some k) → (puts ops x m a).tmps[k]? = a.tmps[k]?
  | 0, _, _ => ⟨rfl, rfl, fun i hi => by omega, fun k _ => rfl⟩
  | m + 1, hd, hb => by
    obtain ⟨h1, h2, h3, h4⟩ := puts_get x a m (fun i hi => hd i (by omega)) (fun i hi => hb i (by omega))
    unfold puts
    cases hm : dstAt ops m with
    | none =>
      refine ⟨h1, h2, fun i hi d hid => ?_, fun k hk => h4 k fun i hi => hk i (by omega)⟩
      by_cases him : i = m
      · subst him; rw [hm] at hid; cases hid
      · exact h3 i (by omega) d hid
    | some dm =>
      have hlt : dm < (puts ops x m a).tmps.size := by rw [h2]; exact hb m (by omega) dm hm
      refine ⟨h1, by simp [Act.put, h2], fun i hi d hid => ?_, fun k hk => ?_⟩
      · by_cases him : i = m
        · subst him; rw [hm] at hid; injection hid with hid; subst hid
          simp [Act.put, hlt]
        · have hne : dm ≠ d := fun e => hd m (by omega) i (by omega) dm hm (e ▸ hid)
          simp only [Act.put]
          rw [Array.getElem?_setIfInBounds_ne hne]
          exact h3 i (by omega) d hid
      · have hne : dm ≠ k := fun e => hk m (by omega) (e ▸ hm)
        simp only [Act.put]
        rw [Array.getElem?_setIfInBounds_ne hne]
        exact h4 k fun i hi => hk i (by omega)
def count (listed : Array Bool) (n : Nat) : Nat := ((List.range n).filter fun i => !listed.getD i false).length
theorem count_set (listed : Array Bool) (i : Nat) (hi : i < listed.size) (h : listed.getD i false = false) : ∀ n, i < n → count listed n = count (listed.setIfInBounds i true) n + 1
  | 0, h' => by omega
  | n + 1, h' => by
    unfold count
    rw [List.range_succ, List.filter_append, List.filter_append, List.length_append, List.length_append]
    by_cases hin : i = n
    · subst hin
      have e : (List.range i).filter (fun k => !listed.getD k false) = (List.range i).filter fun k => !(listed.setIfInBounds i true).getD k false := by
        refine List.filter_congr fun k hk => ?_
        rw [getD_set _ _ _ hi, if_neg (by have := List.mem_range.1 hk; omega)]
      rw [e]
      have e1 : (listed.setIfInBounds i true).getD i false = true := by rw [getD_set _ _ _ hi, if_pos rfl]
      simp only [List.filter_cons, List.filter_nil, h, e1]
      simp
    · have ih := count_set listed i hi h n (by omega)
      unfold count at ih
      have e : (listed.setIfInBounds i true).getD n false = listed.getD n false := by rw [getD_set _ _ _ hi, if_neg hin]
      simp only [List.filter_cons, List.filter_nil, e]
      omega
theorem count_zero (listed : Array Bool) (n : Nat) (h : count listed n = 0) (i : Nat) (hi : i < n) : listed.getD i false = true := by
  unfold count at h
  have := List.filter_eq_nil_iff.1 (List.length_eq_zero_iff.1 h) i (List.mem_range.2 hi)
  simpa using this
theorem count_pos (listed : Array Bool) (n m : Nat) (h : count listed n = m + 1) : ∃ i, i < n ∧ listed.getD i false = false ∧ ∀ j, j < i → listed.getD j false = true := by
  have hne : ∃ i, i < n ∧ listed.getD i false = false := by
    apply Decidable.byContradiction
    intro hno
    have : (List.range n).filter (fun i => !listed.getD i false) = [] := by
      refine List.filter_eq_nil_iff.2 fun i hi => ?_
      have hi' := List.mem_range.1 hi
      cases hv : listed.getD i false with
      | true => simp
      | false => exact absurd ⟨i, hi', hv⟩ hno
    unfold count at h
    rw [this] at h
    simp at h
  obtain ⟨i, hi, hv⟩ := hne
  induction i using Nat.strongRecOn with
  | _ i ih =>
    by_cases hall : ∀ j, j < i → listed.getD j false = true
    · exact ⟨i, hi, hv, hall⟩
    · have : ∃ j, j < i ∧ listed.getD j false = false := by
        apply Decidable.byContradiction
        intro hno
        refine hall fun j hj => ?_
        cases hv : listed.getD j false with
        | true => rfl
        | false => exact absurd ⟨j, hj, hv⟩ hno
      obtain ⟨j, hj, hjv⟩ := this
      exact ih j hj (by omega) hjv
theorem eval_of_get {a : Act} {d : Nat} {v : Value} (h : a.tmps[d]? = some v) : a.eval (.tmp d) = v := by simp [Act.eval, Array.getD_eq_getD_getElem?, h]
end
end Go.Proofs.YtnmaplgodimohaaDoor

/- The steps of a region that is walked by what each operation yields: the plain operations; what stays of a world while blocks are made and calls come and go. -/
set_option maxRecDepth 4000
namespace Go.Proofs.YtnmaplgodimohaaDoor
open Go Go.RowKit
/- below B all is as it was; every block keeps its cells -/
structure Keeps (B : Nat) (w w' : World) : Prop where
  below : Below B w w'
  rows : ∀ (g : Nat) (cs : Array Value) (t : TypeId) (fr : Nat × Nat), w.heap[g]? = some (.cells cs t fr) → ∃ fr' : Nat × Nat, w'.heap[g]? = some (.cells cs t fr')
theorem Keeps.refl (B : Nat) (w : World) : Keeps B w w := ⟨Below.refl _ _, fun _ _ _ fr h => ⟨fr, h⟩⟩
theorem Keeps.trans {B : Nat} {a b c : World} (h : Keeps B a b) (k : Keeps B b c) : Keeps B a c :=
  ⟨h.below.trans k.below, fun g cs t fr hg => by obtain ⟨fr', h'⟩ := h.rows g cs t fr hg; exact k.rows g cs t fr' h'⟩
theorem lt_of_heap {w : World} {g : Nat} {o : Obj} (h : w.heap[g]? = some o) : g < w.heap.size := (Array.getElem?_eq_some_iff.1 h).1
theorem Keeps.call {B : Nat} {w w' : World} (h : Below w.heap.size w w') (hB : B ≤ w.heap.size) : Keeps B w w' :=
  ⟨h.mono hB, fun g _ _ fr hg => ⟨fr, (h.block g (lt_of_heap hg)).trans hg⟩⟩
theorem Keeps.alloc {B : Nat} (w : World) (o : Obj) (hB : B ≤ w.heap.size) : Keeps B w (w.alloc o) := Keeps.call ((Below.refl _ _).alloc (Nat.le_refl _) o) hB
theorem Keeps.cell {B : Nat} {w w' : World} (h : Keeps B w w') {a : Addr} {v : Value} (hc : w.cell? a = some v) : w'.cell? a = some v := by
  unfold World.cell? at *
  cases hg : w.heap[a.block]? with
  | none => rw [hg] at hc; cases hc
  | some o =>
    rw [hg] at hc
    cases o with
    | cells cs t fr => obtain ⟨fr', h'⟩ := h.rows _ _ _ _ hg
                       rw [h']; exact hc
    | _ => cases hc
theorem Keeps.slice {B : Nat} {w w' : World} {v : Value} {q : List (BitVec 8)} (h : Keeps B w w') (hs : Slice w v q) : Slice w' v q := by
  obtain ⟨A, c, h1, h2, h3⟩ := hs
  refine ⟨A, c, h1, h2, fun hne => ?_⟩
  obtain ⟨b, o, h4, h5, h6⟩ := h3 hne
  exact ⟨b, o, h4, Nat.lt_of_lt_of_le h5 h.below.size, fun j x hx => h.cell (h6 j x hx)⟩
theorem Keeps.parts {B : Nat} {w w' : World} {v : Value} {ps : List (List (BitVec 8))} (h : Keeps B w w') (hs : Parts w v ps) : Parts w' v ps := by
  obtain ⟨A, c, h1, h3⟩ := hs
  refine ⟨A, c, h1, fun hne => ?_⟩
  obtain ⟨b, o, h4, h5, h6⟩ := h3 hne
  refine ⟨b, o, h4, Nat.lt_of_lt_of_le h5 h.below.size, fun k q hq => ?_⟩
  obtain ⟨u, h7, h8⟩ := h6 k q hq
  exact ⟨u, h.cell h7, h.slice h8⟩
/- what a value is known by -/
def is (c : Value) : Value → World → Prop := fun v _ => v = c
def anyV : Value → World → Prop := fun _ _ => True
def Stays (B : Nat) (V : Value → World → Prop) : Prop := ∀ v w w', V v w → Keeps B w w' → V v w'
def Vs (l : List (Value → World → Prop)) (i : Nat) : Value → World → Prop := l.getD i anyV
section
variable {P : Program} {ops : Array Oper} {n : Nat} {R : World → World → Prop} {V : Nat → Value → World → Prop} {G : Nat → Bool} {a0 a : Act} {w1 w : World} {x : Nat → Value} {o : Oper} {l : List Oper} {i : Nat}
theorem Known.get (hk : Known ops n V a x w o) (j d : Nat) (hw : waitsFor o j = true) (hj : j < n) (hd : dstAt ops j = some d) : ∃ v, a.tmps[d]? = some v ∧ V j v w := ⟨x j, (hk j hw hj).2 d hd, (hk j hw hj).1⟩
theorem Known.is (hk : Known ops n V a x w o) (j d : Nat) (hw : waitsFor o j = true) (hj : j < n) (hd : dstAt ops j = some d) (c : Value) (hV : V j = is c) : a.tmps[d]? = some c := by
  obtain ⟨h1, h2⟩ := hk j hw hj
  rw [hV] at h1
  rw [h2 d hd]; exact congrArg some h1
end
def putL : List (Option Tmp) → (Nat → Value) → Nat → Act → Act
  | [], _, _, a => a
  | d :: ds, x, i, a => putL ds x (i + 1) (a.put d (x i))
theorem putL_snoc (x : Nat → Value) (d : Option Tmp) : ∀ (ds : List (Option Tmp)) (i : Nat) (a : Act), putL (ds ++ [d]) x i a = (putL ds x i a).put d (x (i + ds.length))
  | [], i, a => rfl
  | e :: ds, i, a => by
    rw [List.cons_append, putL, putL, putL_snoc x d ds (i + 1) _, List.length_cons, show i + 1 + ds.length = i + (ds.length + 1) by omega]
theorem puts_eq (l : List Oper) (x : Nat → Value) (a : Act) : ∀ n, n ≤ l.length → puts l.toArray x n a = putL ((l.map (·.dst)).take n) x 0 a
  | 0, _ => rfl
  | n + 1, h => by
    have hl : n < (l.map (·.dst)).length := by rw [List.length_map]; exact h
    have e : dstAt l.toArray n = (l.map (·.dst))[n] := by
      have : l.toArray[n]? = some l[n] := (List.getElem?_toArray (xs := l)).trans (List.getElem?_eq_getElem h)
      simp [dstAt, this]
    rw [puts, puts_eq l x a n (by omega), List.take_succ_eq_append_getElem hl, putL_snoc, e, List.length_take, Nat.min_eq_left (by omega), Nat.zero_add]
section
variable {P : Program} {o : Oper} {a : Act} {w : World} {R : Value → World → Prop}
theorem does_run {v : Value} {w' : World} (h : (execOp a.eval o).run P w = .ok (.value v) w') (hR : R v w') : Does P o a w R := fun K Q hK => by
  unfold Oper.wp; rw [h]; exact hK v w' hR
theorem does_move {t : Nat} {v : Value} (ho : o.op = .move (.tmp t)) (ht : a.tmps[t]? = some v) (h : R v w) : Does P o a w R :=
  does_run (by simp only [execOp, ho, eval_of_get ht, Sem.run_pure]) h
theorem does_assign {t : Nat} {v : Value} (ho : o.op = .assign (.tmp t)) (ht : a.tmps[t]? = some v) (h : R v w) : Does P o a w R :=
  does_run (by simp only [execOp, ho, eval_of_get ht, Sem.run_pure]) h
end
end Go.Proofs.YtnmaplgodimohaaDoor

/- A region that draws its order and in which some operations change what was there (calls of methods, appends, stores), one behind the other: each of them begins a new phase; what is known of the world hangs on the phase. -/
set_option maxRecDepth 4000
namespace Go.Proofs.YtnmaplgodimohaaDoor
open Go Go.RowKit
def wildCount (U : Nat → Bool) (n : Nat) (m : Nat → Bool) : Nat := ((List.range n).filter fun i => U i && m i).length
def ancOf (ops : Array Oper) (j : Nat) : Array Bool := anc ops (List.range (j + 1)).reverse ((Array.replicate ops.size false).setIfInBounds j true)
def phChk (ops : Array Oper) (n : Nat) (U : Nat → Bool) (ph : Nat → Option Nat) (rig : Nat → Bool) : Bool :=
  (List.range n).all fun j => match ph j with
    | none => !U j && rig j
    | some p => (wildCount U n (fun i => i != j && (ancOf ops j).getD i false) == p) && (List.range n).all fun u => !U u || (ancOf ops j).getD u false || u == j || (ancOf ops u).getD j false
/- no operation that may come up ahead of operation i stores to slot t -/
def noDstF (ops : Array Oper) (n i t : Nat) : Bool := (List.range n).all fun j => dstAt ops j != some t || (j != i && (ancOf ops j).getD i false)
def phAfter (U : Nat → Bool) (ph : Nat → Option Nat) (i : Nat) : Option Nat := (ph i).map fun p => if U i then p + 1 else p
section
variable {P : Program} {Q : Exit → Act → World → Prop} {ops : Array Oper} {n : Nat} {K : World → World → Prop} {Φ : Nat → World → Prop} {V : Nat → Value → World → Prop} {G U rig : Nat → Bool} {ph : Nat → Option Nat} {a0 : Act} {w1 : World}
def KnownP (ops : Array Oper) (n : Nat) (V : Nat → Value → World → Prop) (U rig : Nat → Bool) (ph : Nat → Option Nat) (q : Option Nat) (a : Act) (x : Nat → Value) (w : World) (o : Oper) : Prop :=
  ∀ j, waitsFor o j = true → j < n → (rig j = true ∨ (q.isSome = true ∧ phAfter U ph j = q) → V j (x j) w) ∧ ∀ d, dstAt ops j = some d → a.tmps[d]? = some (x j)
def StepP (P : Program) (ops : Array Oper) (n : Nat) (K : World → World → Prop) (Φ : Nat → World → Prop) (V : Nat → Value → World → Prop) (G U rig : Nat → Bool) (ph : Nat → Option Nat) (a0 : Act) (i : Nat) (o : Oper) : Prop :=
  ∀ (a : Act) (x : Nat → Value) (w : World), (∀ t, noDstF ops n i t = true → a.tmps[t]? = a0.tmps[t]?) → KnownP ops n V U rig ph (ph i) a x w o →
    match ph i with
    | none => (∃ p, Φ p w) → if G i then Does P o a w (fun v w' => w' = w ∧ V i v w') else V i undef w
    | some p => Φ p w → if G i then Does P o a w (fun v w' => (if U i then Φ (p + 1) w' else K w w') ∧ V i v w') else U i = false ∧ V i undef w
def GuardP (V : Nat → Value → World → Prop) (G : Nat → Bool) (rig : Nat → Bool) (i : Nat) (o : Oper) : Prop :=
  match o.guard with
  | none => G i = true
  | some (j, want) => rig j = true ∧ ∀ v w, V j v w → v = .bool (want == G i) ∨ (v = undef ∧ G i = false)
structure InvP (ops : Array Oper) (n : Nat) (Φ : Nat → World → Prop) (V : Nat → Value → World → Prop) (U rig : Nat → Bool) (ph : Nat → Option Nat) (a0 : Act) (listed : Array Bool) (a : Act) (x : Nat → Value) (w : World) : Prop where
  size : listed.size = ops.size
  closed : ∀ k o, ops[k]? = some o → listed.getD k false = true → ∀ e ∈ o.after, Region.binds .any e = true → listed.getD e.on false = true
  rel : Φ (wildCount U n fun i => listed.getD i false) w
  le : ∀ i, i < n → listed.getD i false = true → ∀ q, phAfter U ph i = some q → q ≤ wildCount U n fun i => listed.getD i false
  defers : a.defers = a0.defers
  tsize : a.tmps.size = a0.tmps.size
  at_ : ∀ i, i < n → listed.getD i false = true → ((rig i = true ∨ phAfter U ph i = some (wildCount U n fun i => listed.getD i false)) → V i (x i) w) ∧ ∀ d, dstAt ops i = some d → a.tmps[d]? = some (x i)
  out : ∀ k, (∀ i, i < n → listed.getD i false = true → dstAt ops i ≠ some k) → a.tmps[k]? = a0.tmps[k]?
theorem wildCount_congr {n : Nat} {m m' : Nat → Bool} (h : ∀ i, i < n → U i = true → m i = m' i) : wildCount U n m = wildCount U n m' := by
  unfold wildCount
  congr 1
  refine List.filter_congr fun i hi => ?_
  have hi' := List.mem_range.1 hi
  cases hu : U i with
  | false => rfl
  | true => rw [h i hi' hu]
theorem wildCount_step {j : Nat} {m m' : Nat → Bool} (hj : m j = false) (hj' : m' j = true) (hu : U j = true) (h : ∀ i, i ≠ j → m' i = m i) : ∀ n, j < n → wildCount U n m' = wildCount U n m + 1
  | 0, hn => by omega
  | n + 1, hn => by
    unfold wildCount
    rw [List.range_succ, List.filter_append, List.filter_append, List.length_append, List.length_append]
    by_cases hjn : j = n
    · subst hjn
      have e : (List.range j).filter (fun i => U i && m' i) = (List.range j).filter fun i => U i && m i :=
        List.filter_congr fun i hi => by rw [h i (by have := List.mem_range.1 hi; omega)]
      rw [e]
      simp [hu, hj, hj']
    · have ih := wildCount_step hj hj' hu h n (by omega)
      unfold wildCount at ih
      have e : m' n = m n := h n (fun e => hjn e.symm)
      simp only [List.filter_cons, List.filter_nil, e]
      omega
theorem wildCount_same {m m' : Nat → Bool} {j : Nat} (hu : U j = false) (h : ∀ i, i ≠ j → m' i = m i) (n : Nat) : wildCount U n m' = wildCount U n m :=
  wildCount_congr fun i _ hui => h i fun e => by rw [e, hu] at hui; cases hui
theorem wp_region_ph {id : Nat} {l : List Oper} {w0 : World} (n : Nat) (hn : n = l.length) (hm : P.follows .mixedOrders = true) (hchk : chk l.toArray n a0.tmps.size = true) (hph : phChk l.toArray n U ph rig = true)
    (hKΦ : ∀ p w w', Φ p w → K w w' → Φ p w') (hKV : ∀ i, i < n → ∀ v w w', V i v w → K w w' → V i v w') (hrig : ∀ i, i < n → rig i = true → ∀ v w w', V i v w → V i v w')
    (h0 : Φ 0 w0.drew) (hguard : All (GuardP V G rig) n l 0) (hstep : All (StepP P l.toArray n K Φ V G U rig ph a0) n l 0)
    (hrest : ∀ (x : Nat → Value) (w : World), Φ (wildCount U n fun _ => true) w → (∀ i, i < n → rig i = true ∨ phAfter U ph i = some (wildCount U n fun _ => true) → V i (x i) w) → wpAnyH P .any l.toArray Q (fun _ => True) 0 (Array.replicate l.length true) (puts l.toArray x n a0) w) :
    (Code.region id l.toArray true).wp P Q a0 w0 := by
  refine wp_region_any hm ?_
  change wpAny P .any l.toArray Q l.toArray.size (Array.replicate l.toArray.size false) a0 w0.drew
  have hg0 := fun j o ho hj => all_get hguard j o ho (by simpa using hj)
  have hs0 := fun j o ho hj => all_get hstep j o ho (by simpa using hj)
  clear hguard hstep
  generalize w0.drew = w1 at *
  have hsz : l.toArray.size = l.length := by simp
  have hget : ∀ j o, l.toArray[j]? = some o → l[j]? = some o := fun j o h => (List.getElem?_toArray (xs := l)).symm.trans h
  simp only [Nat.zero_add] at hg0 hs0
  have hg : ∀ j o, l.toArray[j]? = some o → j < n → GuardP V G rig j o := fun j o ho hj => hg0 j o (hget j o ho) hj
  have hs : ∀ j o, l.toArray[j]? = some o → j < n → StepP P l.toArray n K Φ V G U rig ph a0 j o := fun j o ho hj => hs0 j o (hget j o ho) hj
  clear hg0 hs0 hget
  rw [← hsz] at hn hrest
  generalize l.toArray = ops at *
  clear hsz
  subst hn
  unfold chk at hchk
  simp only [Bool.and_eq_true, List.all_eq_true, List.mem_range] at hchk
  obtain ⟨⟨⟨⟨_, c1⟩, c2⟩, c3⟩, _⟩ := hchk
  unfold phChk at hph
  simp only [List.all_eq_true, List.mem_range] at hph
  have back : ∀ i o, ops[i]? = some o → ∀ e ∈ o.after, Region.binds .any e = true → e.on < i := fun i o ho e he hb => by
    have hi := (Array.getElem?_eq_some_iff.1 ho).1
    have h := c1 i hi
    rw [ho] at h
    simp only [Option.map_some, Option.getD_some, Array.all_eq_true_iff_forall_mem] at h
    have := h e he
    simpa [hb] using this
  have dlt : ∀ i, i < ops.size → ∀ d, dstAt ops i = some d → d < a0.tmps.size := fun i hi d hd => by
    have h := c2 i hi
    rw [hd] at h
    simp only [Bool.and_eq_true, decide_eq_true_eq] at h
    exact h.1
  have dne : ∀ i, i < ops.size → ∀ j, j < i → ∀ d, dstAt ops i = some d → dstAt ops j ≠ some d := fun i hi j hj d hd => by
    have h := c2 i hi
    rw [hd] at h
    simp only [Bool.and_eq_true, List.all_eq_true, List.mem_range] at h
    have := h.2 j hj
    simpa using this
  have dinj : ∀ i j d, i < ops.size → j < ops.size → dstAt ops i = some d → dstAt ops j = some d → i = j := fun i j d hi hj h1 h2 => by
    rcases Nat.lt_trichotomy i j with h | h | h
    · exact absurd h1 (dne j hj i h d h2)
    · exact h
    · exact absurd h2 (dne i hi j h d h1)
  have look : ∀ i o, i < ops.size → ops[i]? = some o → ∀ j want, o.guard = some (j, want) → j < ops.size ∧ waitsFor o j = true ∧ ∃ d, dstAt ops j = some d := fun i o hi ho j want hgd => by
    have h := c3 i hi
    rw [ho] at h
    simp only [Option.map_some, Option.getD_some, hgd, Bool.and_eq_true, decide_eq_true_eq] at h
    exact ⟨h.1.1, h.1.2, Option.isSome_iff_exists.1 h.2⟩
  clear c1 c2 c3
  have main : ∀ m listed a x w, count listed ops.size = m → InvP ops ops.size Φ V U rig ph a0 listed a x w → wpAny P .any ops Q m listed a w := by
    intro m
    induction m with
    | zero =>
      intro listed a x w hm0 I
      have hl : listed = Array.replicate ops.size true := by
        apply Array.ext_getElem?
        intro k
        by_cases hk : k < ops.size
        · have hks : k < listed.size := by rw [I.size]; exact hk
          rw [Array.getElem?_eq_getElem hks, Array.getElem?_replicate, if_pos hk]
          have e : listed.getD k false = listed[k] := by simp [Array.getD, hks]
          rw [← e, count_zero listed _ hm0 k hk]
        · rw [Array.getElem?_eq_none (by rw [I.size]; omega), Array.getElem?_replicate, if_neg hk]
      have hwc : (wildCount U ops.size fun i => listed.getD i false) = wildCount U ops.size fun _ => true := wildCount_congr fun i hi _ => count_zero listed _ hm0 i hi
      have ha : a = puts ops x ops.size a0 := by
        obtain ⟨p1, p2, p3, p4⟩ := puts_get x a0 ops.size dne dlt
        have ht : a.tmps = (puts ops x ops.size a0).tmps := by
          apply Array.ext_getElem?
          intro k
          by_cases hk : ∃ i, i < ops.size ∧ dstAt ops i = some k
          · obtain ⟨i, hi, hd⟩ := hk
            rw [(I.at_ i hi (count_zero listed _ hm0 i hi)).2 k hd, p3 i hi k hd]
          · rw [I.out k fun i hi _ hd => hk ⟨i, hi, hd⟩, p4 k fun i hi hd => hk ⟨i, hi, hd⟩]
        have hd : a.defers = (puts ops x ops.size a0).defers := I.defers.trans p1.symm
        generalize puts ops x ops.size a0 = b at *
        cases a; cases b; simp only at ht hd; subst ht hd; rfl
      have hat := fun i hi => (I.at_ i hi (count_zero listed _ hm0 i hi)).1
      have hrel := I.rel
      rw [hwc] at hat hrel
      rw [hl, ha]
      refine wpAny_of_held _ _ _ _ (S := fun _ => True) ?_
      exact hrest x w hrel hat
    | succ m ih =>
      intro listed a x w hm1 I
      have hgd : ∀ k, k < ops.size → listed.getD k true = listed.getD k false := fun k hk => by simp [Array.getD, show k < listed.size by rw [I.size]; exact hk]
      refine ⟨fun hr => ?_, fun i hi => ?_⟩
      · exfalso
        obtain ⟨i, hio, hif, hbelow⟩ := count_pos listed _ m hm1
        have : i ∈ Region.ready .any ops listed := mem_ready.2 ⟨by rw [hgd i hio]; exact hif, ops[i], Array.getElem?_eq_getElem hio, fun e he hb => hbelow e.on (back i _ (Array.getElem?_eq_getElem hio) e he hb)⟩
        rw [hr] at this
        cases this
      · obtain ⟨hun, o, ho, hall⟩ := mem_ready.1 hi
        have hio : i < ops.size := (Array.getElem?_eq_some_iff.1 ho).1
        have hif : listed.getD i false = false := by rw [← hgd i hio]; exact hun
        have hilt : i < listed.size := by rw [I.size]; exact hio
        have hdo : dstAt ops i = o.dst := by simp [dstAt, ho]
        -- the phase
        have hphase : ∀ p, ph i = some p → (wildCount U ops.size fun k => listed.getD k false) = p := fun p hp => by
          have h := hph i hio
          rw [hp] at h
          simp only [Bool.and_eq_true, beq_iff_eq, List.all_eq_true, List.mem_range, Bool.or_eq_true, Bool.not_eq_true'] at h
          obtain ⟨hc, hu⟩ := h
          rw [← hc]
          refine wildCount_congr fun u hul hwild => ?_
          have h2 := hu u hul
          by_cases hui : u = i
          · subst hui; rw [hif]; simp
          · have hne : (u != i) = true := bne_iff_ne.2 hui
            rw [hne, Bool.true_and]
            cases hanc : (ancOf ops i).getD u false with
            | true =>
              have hL : ∀ k, ((Array.replicate ops.size false).setIfInBounds i true).getD k false = true → k = i ∨ listed.getD k false = true := fun k hk => by
                rw [getD_set _ _ _ (by simpa using hio)] at hk
                by_cases hik : i = k
                · exact .inl hik.symm
                · rw [if_neg hik] at hk
                  simp [Array.getD] at hk
              have hcl : ∀ k o', ops[k]? = some o' → (k = i ∨ listed.getD k false = true) → ∀ e ∈ o'.after, Region.binds .any e = true → (e.on = i ∨ listed.getD e.on false = true) := fun k o' ho' hk e he hb => by
                rcases hk with rfl | hk
                · rw [ho] at ho'; injection ho' with ho'; subst ho'
                  exact .inr (hall e he hb)
                · exact .inr (I.closed k o' ho' hk e he hb)
              have := anc_sound (L := fun k => k = i ∨ listed.getD k false = true) hcl _ _ hL u hanc
              rcases this with h | h
              · exact absurd h hui
              · exact h
            | false =>
              rw [hwild, hanc] at h2
              have hju : (ancOf ops u).getD i false = true := by
                rcases h2 with ((h | h) | h) | h
                · cases h
                · cases h
                · exact absurd h hui
                · exact h
              cases hlu : listed.getD u false with
              | false => rfl
              | true =>
                have hL : ∀ k, ((Array.replicate ops.size false).setIfInBounds u true).getD k false = true → listed.getD k false = true := fun k hk => by
                  rw [getD_set _ _ _ (by simpa using hul)] at hk
                  by_cases hik : u = k
                  · subst hik; exact hlu
                  · rw [if_neg hik] at hk
                    simp [Array.getD] at hk
                have := anc_sound (L := fun k => listed.getD k false = true) I.closed _ _ hL i hju
                rw [hif] at this; cases this
        have next : ∀ v w', (match ph i with | none => w' = w | some p => if U i && G i then Φ (p + 1) w' else K w w' ∨ w' = w) → (U i = true → G i = true ∧ (ph i).isSome = true) → V i v w' → InvP ops ops.size Φ V U rig ph a0 (listed.setIfInBounds i true) (a.put o.dst v) (fun k => if k = i then v else x k) w' := by
          intro v w' hR hUG hV
          have hcnt : (wildCount U ops.size fun k => (listed.setIfInBounds i true).getD k false) = (wildCount U ops.size fun k => listed.getD k false) + if U i then 1 else 0 := by
            cases hu : U i with
            | true =>
              rw [if_pos rfl]
              exact wildCount_step (j := i) hif (by rw [getD_set _ _ _ hilt, if_pos rfl]) hu (fun k hk => by rw [getD_set _ _ _ hilt, if_neg (fun e => hk e.symm)]) _ hio
            | false =>
              rw [if_neg (by decide), Nat.add_zero]
              exact wildCount_same hu (fun k hk => by rw [getD_set _ _ _ hilt, if_neg (fun e => hk e.symm)]) _
          have hmild : U i = false → K w w' ∨ w' = w := fun hu => by
            revert hR
            cases hp : ph i with
            | none => exact fun h => .inr h
            | some p => intro h; simp only [hu, Bool.false_and] at h; simpa using h
          have hsoft : ∀ k, k < ops.size → listed.getD k false = true → k ≠ i → (rig k = true ∨ phAfter U ph k = some (wildCount U ops.size fun k => (listed.setIfInBounds i true).getD k false)) → V k (x k) w' := fun k hk hkl hki hor => by
            have hle := I.le k hk hkl
            rcases hor with h | h
            · exact hrig k hk h _ _ _ ((I.at_ k hk hkl).1 (.inl h))
            · cases hu : U i with
              | true =>
                rw [hcnt, hu, if_pos rfl] at h
                have := hle _ h
                omega
              | false =>
                rw [hcnt, hu, if_neg (by decide), Nat.add_zero] at h
                have h1 := (I.at_ k hk hkl).1 (.inr h)
                rcases hmild hu with h2 | h2
                · exact hKV k hk _ _ _ h1 h2
                · rw [h2]; exact h1
          refine ⟨by simp [I.size], fun k o' ho' hk e he hb => ?_, ?_, fun k hk hkl q hq => ?_, ?_, ?_, fun k hk hkl => ?_, fun k hk => ?_⟩
          · rw [getD_set _ _ _ hilt] at hk ⊢
            by_cases hei : i = e.on
            · rw [if_pos hei]
            · rw [if_neg hei]
              by_cases hik : i = k
              · subst hik
                rw [ho] at ho'; injection ho' with ho'; subst ho'
                exact hall e he hb
              · rw [if_neg hik] at hk
                exact I.closed k o' ho' hk e he hb
          · rw [hcnt]
            cases hu : U i with
            | true =>
              obtain ⟨hGi, hps⟩ := hUG hu
              obtain ⟨p, hp⟩ := Option.isSome_iff_exists.1 hps
              rw [hp] at hR
              simp only [hu, hGi, Bool.and_self, if_true] at hR
              rw [hphase p hp]
              exact hR
            | false =>
              rw [if_neg (by decide), Nat.add_zero]
              rcases hmild hu with h | h
              · exact hKΦ _ _ _ I.rel h
              · rw [h]; exact I.rel
          · rw [hcnt]
            rw [getD_set _ _ _ hilt] at hkl
            by_cases hki : k = i
            · subst hki
              unfold phAfter at hq
              obtain ⟨p, hp, hq⟩ := Option.map_eq_some_iff.1 hq
              rw [hphase p hp, ← hq]
              cases U k <;> simp
            · rw [if_neg (fun e => hki e.symm)] at hkl
              have := I.le k hk hkl q hq
              omega
          · cases hd : o.dst <;> simp [Act.put, I.defers]
          · cases hd : o.dst <;> simp [Act.put, I.tsize]
          · rw [getD_set _ _ _ hilt] at hkl
            by_cases hki : k = i
            · subst hki
              refine ⟨fun _ => by rw [if_pos rfl]; exact hV, fun d hd => ?_⟩
              rw [if_pos rfl]
              have hlt := dlt k hio d hd
              rw [hdo] at hd
              simp [Act.put, hd, I.tsize, hlt]
            · rw [if_neg (fun e => hki e.symm)] at hkl
              refine ⟨fun hor => by rw [if_neg hki]; exact hsoft k hk hkl hki hor, fun d hd => ?_⟩
              rw [if_neg hki]
              have h2 := (I.at_ k hk hkl).2
              cases hd2 : o.dst with
              | none => simp only [Act.put]; exact h2 d hd
              | some di =>
                have hne : di ≠ d := fun e => hki (dinj k i d hk hio hd (by rw [hdo, hd2, e]))
                simp only [Act.put]
                rw [Array.getElem?_setIfInBounds_ne hne]
                exact h2 d hd
          · have hki := hk i hio (by rw [getD_set _ _ _ hilt, if_pos rfl])
            have hout := I.out k fun j hj hl => hk j hj (by rw [getD_set _ _ _ hilt]; split <;> simp_all)
            cases hd2 : o.dst with
            | none => simp only [Act.put]; exact hout
            | some di =>
              have hne : di ≠ k := fun e => hki (by rw [hdo, hd2, e])
              simp only [Act.put]
              rw [Array.getElem?_setIfInBounds_ne hne]
              exact hout
        have hcount : count (listed.setIfInBounds i true) ops.size = m := by have := count_set listed i hilt hif ops.size hio; omega
        have waits : ∀ j, waitsFor o j = true → listed.getD j false = true := fun j hwj => by
          unfold waitsFor at hwj
          rw [Array.any_eq_true] at hwj
          obtain ⟨k, hk, he⟩ := hwj
          simp only [Bool.and_eq_true, beq_iff_eq] at he
          have hl := hall o.after[k] (Array.getElem_mem hk) he.1
          rw [he.2] at hl
          exact hl
        have known : KnownP ops ops.size V U rig ph (ph i) a x w o := fun j hwj hj => by
          obtain ⟨h1, h2⟩ := I.at_ j hj (waits j hwj)
          refine ⟨fun hor => h1 ?_, h2⟩
          rcases hor with h | ⟨hs1, h⟩
          · exact .inl h
          · obtain ⟨p, hp⟩ := Option.isSome_iff_exists.1 hs1
            rw [hphase p hp, ← hp]
            exact .inr h
        have outer : ∀ t, noDstF ops ops.size i t = true → a.tmps[t]? = a0.tmps[t]? := fun t ht => by
          unfold noDstF at ht
          simp only [List.all_eq_true, List.mem_range] at ht
          refine I.out t fun j hj hlj hd => ?_
          have h2 := ht j hj
          rw [hd] at h2
          simp only [bne_self_eq_false, Bool.false_or, Bool.and_eq_true] at h2
          have hL : ∀ k, ((Array.replicate ops.size false).setIfInBounds j true).getD k false = true → listed.getD k false = true := fun k hk => by
            rw [getD_set _ _ _ (by simpa using hj)] at hk
            by_cases hjk : j = k
            · subst hjk; exact hlj
            · rw [if_neg hjk] at hk
              simp [Array.getD] at hk
          have h3 := anc_sound (L := fun k => listed.getD k false = true) I.closed _ _ hL i h2.2
          rw [hif] at h3; cases h3
        have step := hs i o ho hio a x w outer known
        have hwant : Region.wanted o (yielded ops a.tmps) = G i := by
          have hgi := hg i o ho hio
          unfold GuardP at hgi
          unfold Region.wanted
          cases hgd2 : o.guard with
          | none => rw [hgd2] at hgi; exact hgi.symm
          | some jw =>
            obtain ⟨j, want⟩ := jw
            rw [hgd2] at hgi
            simp only at hgi ⊢
            obtain ⟨hj, hwj, d, hd⟩ := look i o hio ho j want hgd2
            obtain ⟨h1, h2⟩ := I.at_ j hj (waits j hwj)
            have hv := hgi.2 _ _ (h1 (.inl hgi.1))
            have ht := h2 d hd
            rcases hv with hv | ⟨hv, hG0⟩
            · rw [hv] at ht
              unfold dstAt at hd
              simp only [yielded, hd, Option.bind_some, ht]
              cases want <;> cases G i <;> rfl
            · rw [hv] at ht
              unfold dstAt at hd
              simp only [yielded, hd, Option.bind_some, ht]
              rw [hG0]; rfl
        unfold wpOp
        simp only [ho, hwant]
        cases hp : ph i with
        | none =>
          rw [hp] at step
          simp only at step
          have step := step ⟨_, I.rel⟩
          have hU : U i = false := by
            have h := hph i hio
            rw [hp] at h
            simp only [Bool.and_eq_true, Bool.not_eq_true'] at h
            exact h.1
          by_cases hGi : G i = true
          · rw [if_pos hGi] at step ⊢
            exact .inl (step _ _ fun v w' ⟨hR, hV⟩ => ih _ _ _ w' hcount (next v w' (by rw [hp]; exact hR) (fun h => by rw [hU] at h; cases h) hV))
          · rw [if_neg hGi] at step ⊢
            exact ih _ _ _ w hcount (next undef w (by rw [hp]) (fun h => by rw [hU] at h; cases h) step)
        | some p =>
          rw [hp] at step
          simp only at step
          have hΦ : Φ p w := by rw [← hphase p hp]; exact I.rel
          have step := step hΦ
          by_cases hGi : G i = true
          · rw [if_pos hGi] at step ⊢
            refine .inl (step _ _ fun v w' ⟨hR, hV⟩ => ih _ _ _ w' hcount (next v w' ?_ (fun _ => ⟨hGi, by rw [hp]; rfl⟩) hV))
            rw [hp, hGi, Bool.and_true]
            cases hu : U i with
            | true => rw [hu] at hR; simpa using hR
            | false => rw [hu] at hR; simp only [Bool.false_eq_true, if_false] at hR ⊢; exact .inl hR
          · rw [if_neg hGi] at step ⊢
            obtain ⟨hU, hV⟩ := step
            exact ih _ _ _ w hcount (next undef w (by rw [hp, hU]; exact .inr rfl) (fun h => by rw [hU] at h; cases h) hV)
  have hcount : count (Array.replicate ops.size false) ops.size = ops.size := by
    unfold count
    have e : (List.range ops.size).filter (fun i => !(Array.replicate ops.size false).getD i false) = List.range ops.size := by
      refine List.filter_eq_self.2 fun i hi => ?_
      simp [Array.getD]
    rw [e, List.length_range]
  have hz : (wildCount U ops.size fun i => (Array.replicate ops.size false).getD i false) = 0 := by
    unfold wildCount
    have e : (List.range ops.size).filter (fun i => U i && (Array.replicate ops.size false).getD i false) = [] := by
      refine List.filter_eq_nil_iff.2 fun i hi => ?_
      simp [Array.getD]
    rw [e]; rfl
  exact main ops.size (Array.replicate ops.size false) a0 (fun _ => undef) w1 hcount ⟨by simp, fun k o _ hk => by simp [Array.getD] at hk, by rw [hz]; exact h0, fun i _ hl => by simp [Array.getD] at hl, rfl, rfl, fun i _ hl => by simp [Array.getD] at hl, fun k _ => rfl⟩
end
end Go.Proofs.YtnmaplgodimohaaDoor

/- The region whose operations change things, with lists of what is known: of the values, of the phases. -/
set_option maxRecDepth 4000
namespace Go.Proofs.YtnmaplgodimohaaDoor
open Go Go.RowKit
/- all that there was is as it was -/
def Same (w w' : World) : Prop := Below w.heap.size w w'
theorem Same.refl (w : World) : Same w w := Below.refl _ _
theorem Same.alloc (w : World) (o : Obj) : Same w (w.alloc o) := (Below.refl _ _).alloc (Nat.le_refl _) o
def VOk : List (Value → World → Prop) → List Bool → Prop
  | V :: Vl, true :: rl => (∀ v w w', V v w → V v w') ∧ VOk Vl rl
  | V :: Vl, false :: rl => (∀ v w w', V v w → Same w w' → V v w') ∧ VOk Vl rl
  | [], [] => True
  | _, _ => False
theorem vok_nil : VOk [] [] := trivial
theorem vok_rig {V : Value → World → Prop} {Vl : List (Value → World → Prop)} {rl : List Bool} (h : ∀ v w w', V v w → V v w') (t : VOk Vl rl) : VOk (V :: Vl) (true :: rl) := ⟨h, t⟩
theorem vok_soft {V : Value → World → Prop} {Vl : List (Value → World → Prop)} {rl : List Bool} (h : ∀ v w w', V v w → Same w w' → V v w') (t : VOk Vl rl) : VOk (V :: Vl) (false :: rl) := ⟨h, t⟩
theorem vok_at : ∀ {Vl : List (Value → World → Prop)} {rl : List Bool}, VOk Vl rl → ∀ i, (rl.getD i false = true → ∀ v w w', Vs Vl i v w → Vs Vl i v w') ∧ ∀ v w w', Vs Vl i v w → Same w w' → Vs Vl i v w'
  | [], [], _, i => ⟨fun h => by simp at h, fun _ _ _ _ _ => by unfold Vs; simp [anyV]⟩
  | V :: Vl, true :: rl, h, 0 => ⟨fun _ => h.1, fun v w w' hv _ => h.1 v w w' hv⟩
  | V :: Vl, false :: rl, h, 0 => ⟨fun h => by simp at h, h.1⟩
  | V :: Vl, true :: rl, h, i + 1 => by have := vok_at h.2 i; unfold Vs at *; simpa using this
  | V :: Vl, false :: rl, h, i + 1 => by have := vok_at h.2 i; unfold Vs at *; simpa using this
  | [], _ :: _, h, _ => h.elim
  | _ :: _, [], h, _ => by cases h
def Wl (l : List (World → Prop)) (p : Nat) : World → Prop := l.getD p fun _ => False
def WOk : List (World → Prop) → Prop
  | [] => True
  | F :: l => (∀ w w', F w → Same w w' → F w') ∧ WOk l
theorem wok_nil : WOk [] := trivial
theorem wok_cons {F : World → Prop} {l : List (World → Prop)} (h : ∀ w w', F w → Same w w' → F w') (t : WOk l) : WOk (F :: l) := ⟨h, t⟩
theorem wok_at : ∀ {l : List (World → Prop)}, WOk l → ∀ p w w', Wl l p w → Same w w' → Wl l p w'
  | [], _, p, w, w', h, _ => by unfold Wl at h; simp at h
  | F :: l, h, 0, w, w', hw, k => h.1 w w' hw k
  | F :: l, h, p + 1, w, w', hw, k => by have := wok_at h.2 p w w'; unfold Wl at *; simp only [List.getD_cons_succ] at *; exact this hw k
section
variable {P : Program} {ops : Array Oper} {n : Nat} {K : World → World → Prop} {Φ : Nat → World → Prop} {V : Nat → Value → World → Prop} {G U rig : Nat → Bool} {ph : Nat → Option Nat} {a0 a : Act} {w : World} {x : Nat → Value} {o : Oper} {l : List Oper} {i : Nat} {q : Option Nat}
theorem KnownP.get (hk : KnownP ops n V U rig ph q a x w o) (j d : Nat) (hw : waitsFor o j = true) (hj : j < n) (hd : dstAt ops j = some d) (hor : rig j = true ∨ (q.isSome = true ∧ phAfter U ph j = q)) : ∃ v, a.tmps[d]? = some v ∧ V j v w :=
  ⟨x j, (hk j hw hj).2 d hd, (hk j hw hj).1 hor⟩
theorem KnownP.is (hk : KnownP ops n V U rig ph q a x w o) (j d : Nat) (hw : waitsFor o j = true) (hj : j < n) (hd : dstAt ops j = some d) (hor : rig j = true) (c : Value) (hV : V j = is c) : a.tmps[d]? = some c := by
  obtain ⟨h1, h2⟩ := hk j hw hj
  have h1 := h1 (.inl hor)
  rw [hV] at h1
  rw [h2 d hd]; exact congrArg some h1
theorem allp_mild (p : Nat) (hp : ph i = some p) (hU : U i = false) (hG : G i = true) (h : ∀ (a : Act) (x : Nat → Value) (w : World), (∀ t, noDstF ops n i t = true → a.tmps[t]? = a0.tmps[t]?) → KnownP ops n V U rig ph (some p) a x w o → Φ p w → Does P o a w (fun v w' => K w w' ∧ V i v w'))
    (t : All (StepP P ops n K Φ V G U rig ph a0) n l (i + 1)) : All (StepP P ops n K Φ V G U rig ph a0) n (o :: l) i :=
  all_cons (fun a x w h1 h2 => by
    rw [hp] at h2 ⊢; simp only; intro hΦ
    rw [if_pos hG, hU]
    intro k q hk
    exact h a x w h1 h2 hΦ k q fun v w' hv => hk v w' ⟨by rw [if_neg (by decide)]; exact hv.1, hv.2⟩) t
end
theorem wp_region_phs {P : Program} {Q : Exit → Act → World → Prop} {id : Nat} {l : List Oper} {a0 : Act} {w0 : World} (Vl : List (Value → World → Prop)) (rl : List Bool) (Fl : List (World → Prop)) (Ul : List Bool) (pl : List (Option Nat)) (ds : List (Option Tmp)) (n m : Nat) (G : Nat → Bool)
    (hN : l.length = n) (hds : l.map (·.dst) = ds) (hm : P.follows .mixedOrders = true) (hchk : chk l.toArray n a0.tmps.size = true) (hph : phChk l.toArray n (fun i => Ul.getD i false) (fun i => pl.getD i none) (fun i => rl.getD i false) = true) (hmm : wildCount (fun i => Ul.getD i false) n (fun _ => true) = m)
    (hF : WOk Fl) (hV : VOk Vl rl) (h0 : Wl Fl 0 w0.drew)
    (hguard : All (GuardP (Vs Vl) G (fun i => rl.getD i false)) n l 0) (hstep : All (StepP P l.toArray n Same (Wl Fl) (Vs Vl) G (fun i => Ul.getD i false) (fun i => rl.getD i false) (fun i => pl.getD i none) a0) n l 0)
    (hrest : ∀ (x : Nat → Value) (w : World), Wl Fl m w → (∀ i, i < n → rl.getD i false = true ∨ phAfter (fun i => Ul.getD i false) (fun i => pl.getD i none) i = some m → Vs Vl i (x i) w) → wpAnyH P .any l.toArray Q (fun _ => True) 0 (Array.replicate n true) (putL ds x 0 a0) w) :
    (Code.region id l.toArray true).wp P Q a0 w0 := by
  subst hN hds hmm
  refine wp_region_ph l.length rfl hm hchk hph (fun p w w' => wok_at hF p w w') (fun i _ => (vok_at hV i).2) (fun i _ => (vok_at hV i).1) h0 hguard hstep fun x w h1 h2 => ?_
  have e : puts l.toArray x l.length a0 = putL (l.map (·.dst)) x 0 a0 := by
    have := puts_eq l x a0 l.length (Nat.le_refl _)
    rwa [List.take_of_length_le (by simp)] at this
  rw [e]
  exact hrest x w h1 h2
end Go.Proofs.YtnmaplgodimohaaDoor

/- What a walk knows of the memory, as one list of blocks: the operations on memory as steps from list to list, each with a new world. No function of the program is named here. -/
set_option maxRecDepth 4000
namespace Go.Proofs.YtnmaplgodimohaaDoor
open Go Go.RowKit
structure Blk where
  g : Nat
  t : TypeId
  cs : Array Value
/- the blocks of R are as said, apart from each other, and may be written; all else that was there at w0, but for F, is as it was -/
structure St (w0 : World) (F : Nat → Prop) (R : List Blk) (w : World) : Prop where
  chg : Chg F w0 w
  rows : ∀ (k : Nat) (r : Blk), R[k]? = some r → Row w r.g r.t r.cs
  apart : ∀ (j k : Nat) (r s : Blk), j ≠ k → R[j]? = some r → R[k]? = some s → r.g ≠ s.g
  own : ∀ (k : Nat) (r : Blk), R[k]? = some r → F r.g ∨ w0.heap.size ≤ r.g
def noF : Nat → Prop := fun _ => False
section
variable {P : Program} {w0 w w' : World} {F : Nat → Prop} {R : List Blk}
theorem St.nil (w0 : World) (F : Nat → Prop) : St w0 F [] w0 := ⟨Chg.refl _ _, fun _ _ h => by simp at h, fun _ _ _ _ _ h => by simp at h, fun _ _ h => by simp at h⟩
theorem St.row (h : St w0 F R w) (k : Nat) {r : Blk} (hk : R[k]? = some r) : Row w r.g r.t r.cs := h.rows k r hk
theorem St.below (h : St w0 noF R w) : Below w0.heap.size w0 w := ⟨h.chg.os, h.chg.tape, h.chg.output, h.chg.size, fun k hk => h.chg.block k hk (fun h => h)⟩
theorem St.same (h : St w0 F R w) (k : Below w.heap.size w w') : St w0 F R w' :=
  ⟨h.chg.trans (F' := fun _ => False) (Chg.of_below k) (fun _ h => h.elim), fun j r hj => (h.rows j r hj).call k, h.apart, h.own⟩
theorem St.drew (h : St w0 F R w) : St w0 F R w.drew := h.same (Below.refl _ _).drew
theorem St.upd (h : St w0 F R w) (k : Nat) {r : Blk} (hk : R[k]? = some r) {cs : Array Value} (hr : Row w' r.g r.t cs) (hg : w.grownBy w' (some r.g)) : St w0 F (R.set k ⟨r.g, r.t, cs⟩) w' := by
  have hlt : k < R.length := (List.getElem?_eq_some_iff.1 hk).1
  have at_ : ∀ (j : Nat) (s : Blk), (R.set k ⟨r.g, r.t, cs⟩)[j]? = some s → (j = k ∧ s = ⟨r.g, r.t, cs⟩) ∨ (j ≠ k ∧ R[j]? = some s) := fun j s hj => by
    by_cases e : j = k
    · subst e
      rw [List.getElem?_set_self hlt] at hj
      exact .inl ⟨rfl, (Option.some.inj hj).symm⟩
    · rw [List.getElem?_set_ne (fun h => e h.symm)] at hj
      exact .inr ⟨e, hj⟩
  refine ⟨h.chg.grown hg (fun g e => by injection e with e; subst e; exact h.own k r hk), fun j s hj => ?_, fun i j s u hij hi hj => ?_, fun j s hj => ?_⟩
  · rcases at_ j s hj with ⟨_, rfl⟩ | ⟨hne, hs⟩
    · exact hr
    · exact (h.rows j s hs).only hg (h.apart j k s r hne hs hk)
  · rcases at_ i s hi with ⟨rfl, rfl⟩ | ⟨hne, hs⟩ <;> rcases at_ j u hj with ⟨rfl, rfl⟩ | ⟨hne', hu⟩
    · exact (hij rfl).elim
    · exact h.apart _ _ r u (fun e => hne' e.symm) hk hu
    · exact h.apart _ _ s r hne hs hk
    · exact h.apart _ _ s u hij hs hu
  · rcases at_ j s hj with ⟨rfl, rfl⟩ | ⟨_, hs⟩
    · exact h.own _ r hk
    · exact h.own j s hs
theorem St.snoc (h : St w0 F R w) (t : TypeId) (cs : Array Value) : St w0 F (R ++ [⟨w.heap.size, t, cs⟩]) (w.alloc (.cells cs t)) := by
  have at_ : ∀ (j : Nat) (s : Blk), (R ++ [(⟨w.heap.size, t, cs⟩ : Blk)])[j]? = some s → (j < R.length ∧ R[j]? = some s) ∨ (j = R.length ∧ s = ⟨w.heap.size, t, cs⟩) := fun j s hj => by
    by_cases e : j < R.length
    · rw [List.getElem?_append_left e] at hj; exact .inl ⟨e, hj⟩
    · rw [List.getElem?_append_right (by omega)] at hj
      have e2 : j - R.length = 0 := by
        rcases Nat.eq_zero_or_pos (j - R.length) with h0 | h0
        · exact h0
        · rw [List.getElem?_eq_none (by simp; omega)] at hj; cases hj
      rw [e2] at hj
      exact .inr ⟨by omega, (Option.some.inj hj).symm⟩
  refine ⟨h.chg.alloc _, fun j s hj => ?_, fun i j s u hij hi hj => ?_, fun j s hj => ?_⟩
  · rcases at_ j s hj with ⟨_, hs⟩ | ⟨_, rfl⟩
    · exact (h.rows j s hs).alloc _
    · exact Row.fresh _ _ _
  · rcases at_ i s hi with ⟨_, hs⟩ | ⟨e1, rfl⟩ <;> rcases at_ j u hj with ⟨_, hu⟩ | ⟨e2, rfl⟩
    · exact h.apart _ _ _ _ hij hs hu
    · have := (h.rows i s hs).lt; show s.g ≠ w.heap.size; omega
    · have := (h.rows j u hu).lt; show w.heap.size ≠ u.g; omega
    · omega
  · rcases at_ j s hj with ⟨_, hs⟩ | ⟨_, rfl⟩
    · exact h.own j s hs
    · exact .inr h.chg.size
/- cells of a row -/
theorem Row.slab {g : Nat} {t : TypeId} {cs : Array Value} (h : Row w g t cs) (o : Nat) (L : List Value) (hL : (cs.toList.drop o).take L.length = L) : w.rangeAt g o L := fun j v hv => by
  have hj := (List.getElem?_eq_some_iff.1 hv).1
  rw [h.cell, ← Array.getElem?_toList]
  rw [← hL, List.getElem?_take_of_lt hj, List.getElem?_drop] at hv
  exact hv
theorem run_storeVar_at (w : World) (g o : Nat) (t ty : TypeId) (cur : Array Value) (v : Value) (hg : Row w g t cur) (hi : (P.info? ty).map (·.size) = some v.cells.size) (ho : o + v.cells.size ≤ cur.size) (h1 : v.cells.all (·.oneCell') = true) :
    (storeVar ty ⟨g, o, none⟩ v).run P w = .ok () (w.setRow g (spl cur.toList o v.cells.toList).toArray) := by
  have := run_storeCells_at P g o t v.cells.toList 0 cur w hg (by simpa using ho) (fun x hx => (Array.all_eq_true_iff_forall_mem.1 h1) x (by simpa using hx))
  cases hq : P.info? ty with
  | none => simp [hq] at hi
  | some i =>
    have hs : v.cells.size = i.size := by simp [hq] at hi; omega
    simp [storeVar, sizeOf, typeInfo, hq, hs, this, spl]
section
variable {o : Oper} {a : Act} {K : Act → World → Prop} {Q : Exit → Act → World → Prop}
theorem wp_st_alloc (hS : St w0 F R w) (e : TypeId) (cs : Array Value) (ho : o.op = .alloc e) (z : Value) (hz : (P.info? e).bind (·.zero) = some z) (hc : z.cells = cs)
    (h : ∀ g w', St w0 F (R ++ [⟨g, e, cs⟩]) w' → K (a.put o.dst (.pointer (some ⟨g, 0, none⟩))) w') : o.wp P a w K Q := by
  cases hq : P.info? e with
  | none => simp [hq] at hz
  | some i =>
    have hi : i.zero = some z := by simpa [hq] using hz
    have hrun : (Instr.alloc e true (.tuple #[])).run P w = .ok (.pointer (some ⟨w.heap.size, 0, none⟩)) (w.alloc (.cells cs e)) := by
      simp [Instr.alloc, zeroValue, typeInfo, hq, hi, newVar, newRow, hc]
    unfold Oper.wp execOp
    simp [ho, hrun]
    exact h _ _ (hS.snoc e cs)
theorem wp_st_box (hS : St w0 F R w) (e : TypeId) (x : Operand) (ho : o.op = .box e x) (v : Value) (hx : a.eval x = v) (cs : Array Value) (hc : v.cells = cs)
    (h : ∀ g w', St w0 F (R ++ [⟨g, e, cs⟩]) w' → K (a.put o.dst (.pointer (some ⟨g, 0, none⟩))) w') : o.wp P a w K Q := by
  have hrun : (Instr.box e v).run P w = .ok (.pointer (some ⟨w.heap.size, 0, none⟩)) (w.alloc (.cells cs e)) := by
    simp [Instr.box, newVar, newRow, hc]
  unfold Oper.wp execOp
  simp [ho, hx, hrun]
  exact h _ _ (hS.snoc e cs)
/- several cells -/
theorem wp_st_load (hS : St w0 F R w) (k i : Nat) (ty : TypeId) (x : Operand) (ho : o.op = .load ty x) {r : Blk} (hk : R[k]? = some r) (hx : a.eval x = .pointer (some ⟨r.g, i, none⟩)) (cs : Array Value) (hv : (r.cs.toList.drop i).take cs.size = cs.toList) (d : TypeDesc) (hu : P.underlying ty = some d) (hd : d.isRow = true) (hi : (P.info? ty).map (·.size) = some cs.size)
    (h : K (a.put o.dst (.agg cs)) w) : o.wp P a w K Q :=
  wp_load_mid ty x ho r.g i hx cs.toList d ((hS.row k hk).slab i cs.toList (by simpa using hv)) hu hd (by simpa using hi) (by simpa using h)
theorem wp_st_store (hS : St w0 F R w) (k i : Nat) (ty : TypeId) (x y : Operand) (ho : o.op = .store ty x y) {r : Blk} (hk : R[k]? = some r) (hx : a.eval x = .pointer (some ⟨r.g, i, none⟩)) (v : Value) (hy : a.eval y = v) (hi : (P.info? ty).map (·.size) = some v.cells.size) (hfit : i + v.cells.size ≤ r.cs.size) (h1 : v.cells.all (·.oneCell') = true)
    (cs : Array Value) (hcs : (spl r.cs.toList i v.cells.toList).toArray = cs)
    (h : ∀ w', St w0 F (R.set k ⟨r.g, r.t, cs⟩) w' → K (a.put o.dst undef) w') : o.wp P a w K Q := by
  have hrun := run_storeVar_at (P := P) w r.g i r.t ty r.cs v (hS.row k hk) hi hfit h1
  unfold Oper.wp execOp
  simp [ho, hx, hy, Instr.storeAt, Instr.sureAddr, hrun]
  rw [hcs]
  exact h _ (hS.upd k hk ((hS.row k hk).setRow cs) (grown_setRow w r.g cs))
end
/- at the list of a plain region's operations -/
section
variable {ops : Array Oper} {rest : List Oper} {o : Oper} {a : Act} {Q : Exit → Act → World → Prop}
end
/- the whole of a row, or a part -/
theorem slab_whole (cs : Array Value) : (cs.toList.drop 0).take cs.size = cs.toList := by rw [List.drop_zero]; exact List.take_of_length_le (by simp)
theorem spl_whole (cur cs : Array Value) (h : cur.size = cs.size) : (spl cur.toList 0 cs.toList).toArray = cs := by
  unfold spl
  rw [List.take_zero, List.nil_append, Nat.zero_add, List.drop_of_length_le (by simp [h]), List.append_nil]
theorem spl_agg (cur cs cs' : Array Value) (e : cs = cs') (h : cur.size = cs.size) : (spl cur.toList 0 (Value.agg cs).cells.toList).toArray = cs' := by
  rw [← e]; exact spl_whole cur cs h
theorem spl_at (cur : Array Value) (i : Nat) (v : Value) (h : i < cur.size) : (spl cur.toList i [v]).toArray = cur.setIfInBounds i v := by
  rw [← set_eq_spl _ _ _ (by simpa using h)]
  apply Array.ext'
  simp
theorem wp_st_put {o : Oper} {a : Act} {K : Act → World → Prop} {Q : Exit → Act → World → Prop} (hS : St w0 F R w) (k i : Nat) (ty : TypeId) (x y : Operand) (ho : o.op = .store ty x y) {r : Blk} (hk : R[k]? = some r) (hx : a.eval x = .pointer (some ⟨r.g, i, none⟩)) (v : Value) (hy : a.eval y = v) (hi : (P.info? ty).map (·.size) = some 1) (hv : v.cells = #[v]) (h1 : v.oneCell' = true) (hfit : i < r.cs.size)
    (cs : Array Value) (hcs : r.cs.setIfInBounds i v = cs)
    (h : ∀ w', St w0 F (R.set k ⟨r.g, r.t, cs⟩) w' → K (a.put o.dst undef) w') : o.wp P a w K Q :=
  wp_st_store hS k i ty x y ho hk hx v hy (by rw [hv]; exact hi) (by rw [hv]; exact hfit) (by rw [hv]; simp [h1]) cs (by rw [hv, ← hcs]; exact spl_at r.cs i v hfit) h
end
end Go.Proofs.YtnmaplgodimohaaDoor

/- Blocks that come to a list of blocks. No function of the program is named here. -/
set_option maxRecDepth 4000
namespace Go.Proofs.YtnmaplgodimohaaDoor
open Go Go.RowKit
section
variable {w0 W W' : World} {F : Nat → Prop} {R : List Blk}
theorem St.join (h : St w0 F R W) {g : Nat} {t : TypeId} {cs : Array Value} (hr : Row W g t cs) (hg : w0.heap.size ≤ g) (hne : ∀ b ∈ R, b.g ≠ g) : St w0 F (R ++ [⟨g, t, cs⟩]) W := by
  have at_ : ∀ (j : Nat) (s : Blk), (R ++ [(⟨g, t, cs⟩ : Blk)])[j]? = some s → (j < R.length ∧ R[j]? = some s) ∨ (j = R.length ∧ s = ⟨g, t, cs⟩) := fun j s hj => by
    by_cases e : j < R.length
    · rw [List.getElem?_append_left e] at hj; exact .inl ⟨e, hj⟩
    · rw [List.getElem?_append_right (by omega)] at hj
      have e2 : j - R.length = 0 := by
        rcases Nat.eq_zero_or_pos (j - R.length) with h0 | h0
        · exact h0
        · rw [List.getElem?_eq_none (by simp; omega)] at hj; cases hj
      rw [e2] at hj
      exact .inr ⟨by omega, (Option.some.inj hj).symm⟩
  refine ⟨h.chg, fun j s hj => ?_, fun i j s u hij hi hj => ?_, fun j s hj => ?_⟩
  · rcases at_ j s hj with ⟨_, hk⟩ | ⟨_, rfl⟩
    · exact h.rows j s hk
    · exact hr
  · rcases at_ i s hi with ⟨_, hk⟩ | ⟨e1, rfl⟩ <;> rcases at_ j u hj with ⟨_, hu⟩ | ⟨e2, rfl⟩
    · exact h.apart _ _ _ _ hij hk hu
    · exact hne s (List.mem_of_getElem? hk)
    · exact fun e => hne u (List.mem_of_getElem? hu) e.symm
    · omega
  · rcases at_ j s hj with ⟨_, hk⟩ | ⟨_, rfl⟩
    · exact h.own j s hk
    · exact .inr hg
/- a block that is none of the list's changes -/
theorem St.far (h : St w0 F R W) {g : Nat} (k : W.grownBy W' (some g)) (hg : w0.heap.size ≤ g) (hne : ∀ b ∈ R, b.g ≠ g) : St w0 F R W' :=
  ⟨h.chg.grown k (fun j e => by cases e; exact .inr hg), fun j r hj => (h.rows j r hj).only k (hne r (List.mem_of_getElem? hj)), h.apart, h.own⟩
theorem St.lt (h : St w0 F R W) {b : Blk} (hb : b ∈ R) : b.g < W.heap.size := by
  obtain ⟨k, hk⟩ := List.getElem?_of_mem hb
  exact (h.rows k b hk).lt
end
theorem own_base {w : World} {b b' e size n : Nat} {v : Value} {xs : List Value} (h : w.ownsRow b e size v n xs) (hb : b' ≤ b) : w.ownsRow b' e size v n xs := by
  refine ⟨h.1, ?_⟩
  rcases h.2 with h | ⟨g, cap, cur, h1, h2, h3⟩
  · exact .inl h
  · exact .inr ⟨g, cap, cur, h1, Nat.le_trans hb h2, h3⟩
end Go.Proofs.YtnmaplgodimohaaDoor

/- The same region, with one thing more: an operation may say that its value is an earlier one's (a store names the block that it went to). -/
set_option maxRecDepth 4000
namespace Go.Proofs.YtnmaplgodimohaaDoor
open Go Go.RowKit
section
variable {P : Program} {Q : Exit → Act → World → Prop} {ops : Array Oper} {n : Nat} {K : World → World → Prop} {Φ : Nat → World → Prop} {V : Nat → Value → World → Prop} {G U rig : Nat → Bool} {ph : Nat → Option Nat} {a0 : Act} {w1 : World} {al : Nat → Option Nat}
end
section
variable {P : Program} {ops : Array Oper} {n : Nat} {K : World → World → Prop} {Φ : Nat → World → Prop} {V : Nat → Value → World → Prop} {G U rig : Nat → Bool} {ph : Nat → Option Nat} {a0 a : Act} {w : World} {x : Nat → Value} {o : Oper} {l : List Oper} {i : Nat} {al : Nat → Option Nat}
end
end Go.Proofs.YtnmaplgodimohaaDoor

/- Literals of structs and of slices of structs: their cells, side by side. No function of the program is named here. -/
set_option maxRecDepth 4000
namespace Go.Proofs.YtnmaplgodimohaaDoor
open Go Go.RowKit
theorem spl_spl {α : Type} (L : List α) (o : Nat) (a b : List α) (h : o + a.length + b.length ≤ L.length) : spl (spl L o a) (o + a.length) b = spl L o (a ++ b) := by
  unfold spl
  have e1 : (L.take o).length = o := by rw [List.length_take]; omega
  have e2 : (L.take o ++ a).length = o + a.length := by rw [List.length_append, e1]
  rw [← e2, List.take_left, e2, List.length_append, ← List.append_assoc, ← Nat.add_assoc]
  congr 1
  rw [show o + a.length + b.length = (L.take o ++ a).length + b.length by rw [e2], List.drop_length_add_append, List.drop_drop, e2]
theorem fill_set (off : Nat) (v : Array Value) (cells : Array Value) (h : off + v.size ≤ cells.size) : v.zipIdx.foldl (fun cs (x : Value × Nat) => cs.setIfInBounds (off + x.2) x.1) cells = (spl cells.toList off v.toList).toArray := by
  rw [← Array.foldl_toList, Array.toList_zipIdx]
  obtain ⟨h1, h2⟩ := Great.foldl_set off v.toList 0 cells
  apply Array.ext_getElem?
  intro k
  rw [h2 k, Nat.add_zero]
  have hL : cells.toList.length = cells.size := Array.length_toList
  have hv : v.toList.length = v.size := Array.length_toList
  have e1 : (cells.toList.take off).length = off := by rw [List.length_take]; omega
  rw [show (spl cells.toList off v.toList).toArray[k]? = (spl cells.toList off v.toList)[k]? from List.getElem?_toArray]
  unfold spl
  by_cases hk : off ≤ k
  · by_cases hk2 : k < off + v.size
    · rw [if_pos ⟨hk, by omega, by omega⟩, List.getElem?_append_left (by rw [List.length_append, e1]; omega), List.getElem?_append_right (by omega), e1]
    · rw [if_neg (by omega), List.getElem?_append_right (by rw [List.length_append, e1]; omega), List.getElem?_drop, List.length_append, e1, hv]
      rw [show off + v.size + (k - (off + v.size)) = k by omega]; simp
  · rw [if_neg (by omega), List.append_assoc, List.getElem?_append_left (by omega), List.getElem?_take, if_pos (by omega)]; simp
theorem fill_parts (place : Nat → Option (Nat × Nat)) : ∀ (vs : List Value) (i0 off : Nat) (cells : Array Value),
    (∀ k v, vs[k]? = some v → place (i0 + k) = some (off + ((vs.take k).map (·.cells.size)).sum, v.cells.size)) → off + (vs.map (·.cells.size)).sum ≤ cells.size →
    Instr.fill place cells ((vs.zipIdx i0).map fun x => (x.2, x.1)) = some (spl cells.toList off (vs.flatMap fun v => v.cells.toList)).toArray
  | [], _, off, cells, _, _ => by simp [Instr.fill, spl]
  | v :: vs, i0, off, cells, hp, hs => by
    simp only [List.map_cons, List.sum_cons] at hs
    have h0 := hp 0 v rfl
    simp only [List.take_zero, List.map_nil, List.sum_nil, Nat.add_zero] at h0
    have hL : cells.toList.length = cells.size := Array.length_toList
    have hv : v.cells.toList.length = v.cells.size := Array.length_toList
    have e := fill_set off v.cells cells (by omega)
    have h9 := length_spl cells.toList off v.cells.toList (by omega)
    have h8 : (spl cells.toList off v.cells.toList).toArray.size = (spl cells.toList off v.cells.toList).length := List.size_toArray
    have ih := fill_parts place vs (i0 + 1) (off + v.cells.size) (spl cells.toList off v.cells.toList).toArray (fun k u hu => by
      have := hp (k + 1) u (by simpa using hu)
      rw [show i0 + 1 + k = i0 + (k + 1) by omega, this]
      simp [Nat.add_assoc]) (by rw [h8, h9]; omega)
    simp only [List.zipIdx_cons, List.map_cons, Instr.fill, h0]
    have hno : (decide (v.cells.size ≠ v.cells.size) || decide (off + v.cells.size > cells.size)) = false := by
      rw [decide_eq_false (by simp), decide_eq_false (by omega)]; rfl
    rw [if_neg (by simp; omega), e, ih]
    congr 2
    simp only [List.flatMap_cons]
    have hfl : (vs.flatMap fun v => v.cells.toList).length = (vs.map (·.cells.size)).sum := by simp [List.length_flatMap]
    rw [← hv, spl_spl _ _ _ _ (by omega)]
/- a slice literal of one element of several cells -/
theorem wp_buildOne {P : Program} {o : Oper} {a : Act} {w : World} {K : Act → World → Prop} {Q : Exit → Act → World → Prop} (t e : TypeId) (x : Operand) (ho : o.op = .buildSlice t 1 #[(0, x)]) (cells : Array Value) (z : Value) (sz : Nat) (hx : a.eval x = .agg cells)
    (hu : P.underlying t = some (.slice e)) (hie : (P.info? e).map (fun i => (i.zero, i.size)) = some (some z, sz)) (hc : cells.size = sz) (hpos : 0 < sz) (hsmall : sz ≤ 2 ^ 24)
    (h : K (a.put o.dst (.slice (some ⟨w.heap.size, 0, none⟩) 1 1)) (w.alloc (.cells cells e))) : o.wp P a w K Q := by
  obtain ⟨ie, hi, he⟩ := Option.map_eq_some_iff.1 hie
  injection he with hz hsz
  refine wp_buildSlice t e 1 _ ho cells ie z hu hi hz (by rw [hsz]; omega) (by rw [hsz]; omega) ?_ h
  have hf := fill_parts (fun i => some (i * ie.size, ie.size)) [.agg cells] 0 0 ((Array.range (1 * ie.size)).map (z.cells[· % z.cells.size]!)) (fun k v hk => by
    match k, hk with
    | 0, hk => obtain rfl : Value.agg cells = v := by simpa using hk
               simp [Value.cells, hsz, hc]) (by simp [Value.cells, hsz, hc])
  have e1 : (#[(0, x)].map fun (i, x) => (i, a.eval x)).toList = (([Value.agg cells].zipIdx 0).map fun x => (x.2, x.1)) := by simp [hx]
  rw [e1, hf]
  congr 1
  have e2 : ([Value.agg cells].flatMap fun v => v.cells.toList) = cells.toList := by simp [Value.cells]
  rw [e2]
  apply Array.ext'
  unfold spl
  simp [hsz, hc]
def fits : Nat → List Nat → List (Nat × Nat) → Bool
  | _, [], [] => true
  | o, s :: ss, (o', s') :: ps => o == o' && s == s' && fits (o + s) ss ps
  | _, _, _ => false
theorem fits_at : ∀ (ss : List Nat) (o : Nat) (ps : List (Nat × Nat)), fits o ss ps = true → ∀ (k s : Nat), ss[k]? = some s → ps[k]? = some (o + (ss.take k).sum, s)
  | [], _, _, _, k, s, h => by simp at h
  | s0 :: ss, o, [], h, _, _, _ => by simp [fits] at h
  | s0 :: ss, o, (o', s') :: ps, h, 0, s, hk => by
    simp only [fits, Bool.and_eq_true, beq_iff_eq] at h
    obtain ⟨⟨rfl, rfl⟩, _⟩ := h
    obtain rfl : s0 = s := by simpa using hk
    simp
  | s0 :: ss, o, (o', s') :: ps, h, k + 1, s, hk => by
    simp only [fits, Bool.and_eq_true, beq_iff_eq] at h
    obtain ⟨⟨rfl, rfl⟩, h⟩ := h
    have := fits_at ss (o + s0) ps h k s (by simpa using hk)
    rw [List.getElem?_cons_succ, this]
    simp [Nat.add_assoc]
end Go.Proofs.YtnmaplgodimohaaDoor

/- The lowest byte of a number. -/
set_option maxRecDepth 4000
namespace Go.Proofs.YtnmaplgodimohaaDoor
open Go Go.RowKit
def byteI (z : Int) : BitVec 8 := BitVec.ofInt 8 z
end Go.Proofs.YtnmaplgodimohaaDoor

/- Literals of bytes in a region that is walked by what each operation yields. -/
set_option maxRecDepth 4000
namespace Go.Proofs.YtnmaplgodimohaaDoor
open Go Go.RowKit
section
variable {o : Oper} {a : Act} {w : World} {R : Value → World → Prop}
end
end Go.Proofs.YtnmaplgodimohaaDoor

/- A slice of bytes made of a constant text: its block bears a mark. No function of the program is named here. -/
set_option maxRecDepth 4000
namespace Go.Proofs.YtnmaplgodimohaaDoor
open Go Go.RowKit
end Go.Proofs.YtnmaplgodimohaaDoor

/- Integers that are handed in, as plain numbers. -/
set_option maxRecDepth 4000
namespace Go.Proofs.YtnmaplgodimohaaDoor
open Go Go.RowKit
theorem int_i64 {n : Int} (h : (Lit.int .i64 n).wf = true) : -9223372036854775808 ≤ n ∧ n < 9223372036854775808 := by
  simp only [Lit.wf, Bool.and_eq_true, decide_eq_true_eq] at h
  have h1 : IntKind.i64.min = -9223372036854775808 := by decide
  have h2 : IntKind.i64.max = 9223372036854775807 := by decide
  omega
end Go.Proofs.YtnmaplgodimohaaDoor

/- Slices of ints: as they lie in memory, of one's own. No function of the program is named here. -/
set_option maxRecDepth 4000
namespace Go.Proofs.YtnmaplgodimohaaDoor
open Go Go.ChangeShapes Go.WideShapes Go.ChangeAt Go.RowKit
def intsV (l : List Int) : List Value := l.map (Value.int .i64)
theorem len_intsV (l : List Int) : (intsV l).length = l.length := by simp [intsV]
theorem one_intsV (l : List Int) : ∀ v ∈ intsV l, v.oneCell' = true := by
  intro v hv
  obtain ⟨x, _, rfl⟩ := List.mem_map.1 hv
  rfl
theorem info_int : (Tryd.prog.info? 3).map (fun i => (i.zero, i.size, i.bytes)) = some (some (.int .i64 0), 1, 8) := by kernel_rfl
def IntsAt (w : World) (v : Value) (l : List Int) : Prop := rdSl 1 (rdInt .i64) w [v] l
theorem IntsAt.below {w w' : World} {v : Value} {l : List Int} {B : Nat} (h : IntsAt w v l) (hb : Below B w w') (hB : w.heap.size ≤ B) : IntsAt w' v l := stays_sl (stays_int _) B w w' _ _ h hb hB
theorem ints_len {w : World} {A : Option Addr} {n c : Nat} {l : List Int} (h : IntsAt w (.slice A n c) l) : l.length = n := by
  obtain ⟨A', c', e1, _⟩ := h
  have e1 : Value.slice A n c = .slice A' l.length c' := by simpa using e1
  injection e1 with _ e1 _
  exact e1.symm
theorem ints_nil {w : World} {A : Option Addr} {n c : Nat} {l : List Int} (h : IntsAt w (.slice A n c) l) : A = none → c = 0 := by
  obtain ⟨A', c', e1, _, h3, _⟩ := h
  have e1 : Value.slice A n c = .slice A' l.length c' := by simpa using e1
  injection e1 with e1 _ e3
  rw [e1, e3]; exact h3
theorem ints_get {w : World} {A : Option Addr} {n c : Nat} {l : List Int} (h : IntsAt w (.slice A n c) l) {k : Nat} (hk : k < l.length) :
    ∃ b o x, l[k]? = some x ∧ A = some ⟨b, o, none⟩ ∧ b < w.heap.size ∧ w.cell? ⟨b, o + k, none⟩ = some (.int .i64 x) ∧ -9223372036854775808 ≤ x ∧ x < 9223372036854775808 := by
  obtain ⟨A', c', e1, _, _, _, h5⟩ := h
  have e1 : Value.slice A n c = .slice A' l.length c' := by simpa using e1
  injection e1 with e1 _ _
  subst e1
  obtain ⟨b, o, h6, h7, h8⟩ := h5 (by rintro rfl; simp at hk)
  obtain ⟨x, hx⟩ : ∃ x, l[k]? = some x := ⟨_, List.getElem?_eq_getElem hk⟩
  obtain ⟨ds, _, h10, h11, h12⟩ := h8 k x hx
  subst h11
  have := h10 0 (.int .i64 x) rfl
  have hb := int_i64 h12
  exact ⟨b, o, x, hx, h6, h7, by simpa using this, hb.1, hb.2⟩
/- an own row of ints reads so -/
theorem ints_own {w : World} {base : Nat} {A : Option Addr} {n c : Nat} {l : List Int} (h : w.ownsRow base 3 1 (.slice A n c) n (intsV l)) (hl : ∀ x ∈ l, -9223372036854775808 ≤ x ∧ x < 9223372036854775808) : IntsAt w (.slice A n c) l := by
  have hln : l.length = n := by have := h.1; rw [len_intsV] at this; omega
  subst hln
  have hwf : ∀ x ∈ l, (Lit.int .i64 x).wf = true := fun x hx => by
    have h2 : IntKind.i64.min = -9223372036854775808 := by decide
    have h3 : IntKind.i64.max = 9223372036854775807 := by decide
    have := hl x hx
    simp only [Lit.wf, Bool.and_eq_true, decide_eq_true_eq]
    omega
  rcases h.2 with ⟨e0, h0⟩ | ⟨g, cap, cur, e0, _, hrow, hcap, hmx, hsz, htk⟩
  · injection e0 with e1 e2 e3
    have hl0 : l = [] := List.eq_nil_of_length_eq_zero h0
    subst hl0
    exact ⟨A, c, rfl, Nat.zero_le _, fun _ => e3, by decide, fun h => absurd rfl h⟩
  · injection e0 with e1 e2 e3
    subst e1 e3
    refine ⟨_, _, rfl, hcap, fun h => (by cases h), by omega, fun _ => ⟨g, 0, rfl, (h.lt g rfl).2, fun k x hx => ⟨[.int .i64 x], rfl, fun j v hv => ?_, rfl, hwf x (List.mem_of_getElem? hx)⟩⟩⟩
    have hk : k < l.length := (List.getElem?_eq_some_iff.1 hx).1
    cases j with
    | zero =>
      cases hv
      rw [Nat.zero_add, Nat.mul_one, Nat.add_zero, h.cellAt k (by omega)]
      unfold intsV
      rw [List.getElem?_map, hx]; rfl
    | succ j => simp at hv
/- appended -/
theorem wp_append_ints {w : World} {o : Oper} {a : Act} {K : Act → World → Prop} {Q : Exit → Act → World → Prop} (s x : Operand)
    (ho : o.op = .call { callee := .builtin .append, args := #[s, x], argTypes := #[45, 45] }) (base : Nat)
    (v : Value) (n : Nat) (l1 : List Int) (hs : a.eval s = v) (hown : w.ownsRow base 3 1 v n (intsV l1))
    (A : Option Addr) (m c : Nat) (l2 : List Int) (hx : a.eval x = .slice A m c) (h2 : IntsAt w (.slice A m c) l2) (hnm : n + m ≤ 1000000) (hbase : base ≤ w.heap.size)
    (h : ∀ v' w', w'.ownsRow base 3 1 v' (n + m) (intsV (l1 ++ l2)) → Below base w w' → K (a.put o.dst v') w') : o.wp Tryd.prog a w K Q := by
  obtain ⟨i0, hi, hz0, hz1, hz2⟩ := info_parts info_int
  have hl2 := ints_len h2
  have hn2 := ints_nil h2
  cases A with
  | none =>
    obtain rfl : l2 = [] := by
      apply Decidable.byContradiction
      intro hne
      obtain ⟨b, o, x, _, e, _⟩ := ints_get h2 (k := 0) (List.length_pos_iff.2 hne)
      cases e
    obtain rfl : m = 0 := hl2.symm
    obtain rfl : c = 0 := hn2 rfl
    have hrun : (Builtin.append_ #[45, 45] o.type #[v, .slice none 0 0]).run Tryd.prog w = .ok v w := by
      rcases hown.2 with ⟨rfl, rfl⟩ | ⟨g, cap, cur, rfl, _, hrow, hcap, _⟩
      · simp [Builtin.append_, run_underlying Tryd.underlying45, sizeOf, typeInfo, hi, Builtin.lenOf, Builtin.firstCells]
      · simp [Builtin.append_, run_underlying Tryd.underlying45, sizeOf, typeInfo, hi, Builtin.lenOf, Builtin.firstCells, storeCells, hcap]
    unfold Oper.wp execOp
    simp only [ho, resolve, invoke, builtin, Sem.run_bind, Sem.run_pure, Result.andThen_ok, List.map_toArray, List.map_cons, List.map_nil, hs, hx, hrun]
    exact h _ _ (by simpa using hown) (Below.refl _ _)
  | some ad =>
    have hnews : ∀ j u, (intsV l2)[j]? = some u → w.cell? (ad.add j) = some u := fun j u hj => by
      unfold intsV at hj
      rw [List.getElem?_map] at hj
      cases hx2 : l2[j]? with
      | none => rw [hx2] at hj; cases hj
      | some y =>
        rw [hx2] at hj
        cases hj
        obtain ⟨b, o', x', hxx, e, _, hc, _⟩ := ints_get h2 (List.getElem?_eq_some_iff.1 hx2).1
        rw [hx2] at hxx
        cases hxx
        injection e with e
        subst e
        rw [Addr.add_mid]
        exact hc
    refine wp_append_own_wide w s x 45 ho base 3 i0 (.int .i64 0) 1 8 Tryd.underlying45 hi hz0 hz1 hz2 rfl (by decide) v n (intsV l1) hs hown ad m c (intsV l2) hx (by rw [len_intsV, hl2, Nat.mul_one]) hnews (one_intsV _) (by unfold maxLen; omega) (by omega) hbase fun v' w' o2 hg _ => ?_
    refine h v' w' (by unfold intsV at o2 ⊢; rw [List.map_append]; exact o2) (below_of_grown hg (fun g hg => (hown.lt g hg).1) hbase)
end Go.Proofs.YtnmaplgodimohaaDoor

/- Volumes as they lie in memory: a slice of them, opened, taken apart, laid. No function of the program is named here. -/
set_option maxRecDepth 4000
namespace Go.Proofs.YtnmaplgodimohaaDoor
open Go Go.ChangeShapes Go.WideShapes Go.ChangeAt Go.RowKit
abbrev Vl := ByteArray × List Int
def rdVol : Rd Vl := rdMap (fun x => (x.1, x.2.1)) (rdCons 1 rdStr (rdCons 1 (rdSl 1 (rdInt .i64)) rdNil))
def VolsAt (w : World) (v : Value) (l : List Vl) : Prop := rdSl 2 rdVol w [v] l
theorem stays_vol : rdVol.Stays := stays_map (stays_cons' stays_str (stays_cons' (stays_sl (stays_int _)) stays_rnil))
theorem VolsAt.below {w w' : World} {v : Value} {l : List Vl} {B : Nat} (h : VolsAt w v l) (hb : Below B w w') (hB : w.heap.size ≤ B) : VolsAt w' v l := stays_sl stays_vol B w w' _ _ h hb hB
theorem vols_len {w : World} {A : Option Addr} {n c : Nat} {l : List Vl} (h : VolsAt w (.slice A n c) l) : l.length = n := by
  obtain ⟨A', c', e1, _⟩ := h
  have e1 : Value.slice A n c = .slice A' l.length c' := by simpa using e1
  injection e1 with _ e1 _
  exact e1.symm
/- one volume's cells -/
def VolAt (w : World) (ds : List Value) (x : Vl) : Prop := ∃ A c, ds = [.string x.1, .slice A x.2.length c] ∧ IntsAt w (.slice A x.2.length c) x.2 ∧ x.1.size ≤ maxLen
theorem vol_cells {w : World} {ds : List Value} {x : Vl} (h : rdVol w ds x) : VolAt w ds x := by
  obtain ⟨⟨s, L, _⟩, h, rfl⟩ := h
  obtain ⟨c0, d0, rfl, _, ⟨rfl, hs⟩, c1, d1, rfl, _, h1, h2⟩ := h
  have h2 : d1 = [] := h2
  subst h2
  obtain ⟨A, c, rfl, _⟩ := id h1
  exact ⟨A, c, rfl, h1, hs⟩
theorem vol_rd {w : World} {ds : List Value} {x : Vl} (h : VolAt w ds x) : rdVol w ds x := by
  obtain ⟨A, c, rfl, h1, h2⟩ := h
  exact ⟨(x.1, x.2, ()), ⟨_, _, rfl, rfl, ⟨rfl, h2⟩, _, [], rfl, rfl, h1, rfl⟩, rfl⟩
theorem VolAt.below {w w' : World} {ds : List Value} {x : Vl} {B : Nat} (h : VolAt w ds x) (hb : Below B w w') (hB : w.heap.size ≤ B) : VolAt w' ds x := vol_cells (stays_vol B w w' _ _ (vol_rd h) hb hB)
theorem vols_get {w : World} {A : Option Addr} {n c : Nat} {l : List Vl} (h : VolsAt w (.slice A n c) l) {k : Nat} (hk : k < l.length) :
    ∃ b o s L B m c', l[k]? = some (s, L) ∧ A = some ⟨b, o, none⟩ ∧ b < w.heap.size ∧ w.rangeAt b (o + k * 2) [.string s, .slice B m c'] ∧ IntsAt w (.slice B m c') L ∧ L.length = m ∧ s.size ≤ maxLen := by
  obtain ⟨A', c', e1, _, _, _, h5⟩ := h
  have e1 : Value.slice A n c = .slice A' l.length c' := by simpa using e1
  injection e1 with e1 _ _
  subst e1
  obtain ⟨b, o, h6, h7, h8⟩ := h5 (by rintro rfl; simp at hk)
  obtain ⟨x, hx⟩ : ∃ x, l[k]? = some x := ⟨_, List.getElem?_eq_getElem hk⟩
  obtain ⟨ds, _, h10, h11⟩ := h8 k x hx
  obtain ⟨B, c2, rfl, h12, h13⟩ := vol_cells h11
  obtain ⟨s, L⟩ := x
  exact ⟨b, o, s, L, B, _, c2, hx, h6, h7, h10, h12, rfl, h13⟩
/- a block of volumes of one's own -/
theorem vols_row {w : World} {g c : Nat} {t : TypeId} {cs : Array Value} {l : List Vl} (h : Row w g t cs) (hc : l.length ≤ c) (hm : l.length ≤ maxLen) (hl : ∀ k x, l[k]? = some x → VolAt w ((cs.toList.drop (k * 2)).take 2) x) : VolsAt w (.slice (some ⟨g, 0, none⟩) l.length c) l :=
  ⟨_, c, rfl, hc, fun h => (by cases h), hm, fun _ => ⟨g, 0, rfl, h.lt, fun k x hx => ⟨(cs.toList.drop (k * 2)).take 2, by
    obtain ⟨A, c, e, _⟩ := hl k x hx
    rw [e]; rfl, fun j v hv => by
    rw [Nat.zero_add]
    refine h.get ?_
    obtain ⟨hj, _⟩ := List.getElem?_eq_some_iff.1 hv
    rw [← Array.getElem?_toList]
    rw [List.length_take] at hj
    rw [List.getElem?_take_of_lt (by omega), List.getElem?_drop] at hv
    exact hv, vol_rd (hl k x hx)⟩⟩⟩
theorem vols_none (w : World) : VolsAt w (.slice none 0 0) [] := ⟨none, 0, rfl, Nat.le_refl _, fun _ => rfl, by decide, fun h => absurd rfl h⟩
end Go.Proofs.YtnmaplgodimohaaDoor

/- What names may be, as plain functions of bytes; the document's way and the program's way to a name of four bytes. No function of the program is named here. -/
set_option maxRecDepth 4000
namespace Go.Proofs.YtnmaplgodimohaaDoor
open Go
def letter (x : BitVec 8) : Bool := decide (97 ≤ bd x) && decide (bd x ≤ 122)
def goodN (q : List (BitVec 8)) : Bool := decide (1 ≤ q.length) && decide (q.length ≤ 4) && q.all letter
def goodNs (l : List (List (BitVec 8))) : Bool := l.all goodN
def padN (q : List (BitVec 8)) : List (BitVec 8) := (q ++ zer 4).take 4
theorem length_padN (q : List (BitVec 8)) : (padN q).length = 4 := by unfold padN; rw [List.length_take, List.length_append, length_zer]; omega
def trimN (q : List (BitVec 8)) : List (BitVec 8) := (q.reverse.dropWhile (fun x => decide (x = 0#8))).reverse
def firstZ (q : List (BitVec 8)) : List (BitVec 8) := q.takeWhile (fun x => decide (x ≠ 0#8))
def okTrim (b : List (BitVec 8)) : Bool := decide (trimN b = []) || goodN (trimN b)
def cutN (b : List (BitVec 8)) : List (BitVec 8) × Bool := if okTrim b then (trimN b, true) else ([], false)
def okFirst (b : List (BitVec 8)) : Bool := decide (padN (firstZ b) = b) && (decide (firstZ b = []) || goodN (firstZ b))
def cutR (b : List (BitVec 8)) : List (BitVec 8) × Bool := if okFirst b then (firstZ b, true) else ([], false)
theorem trim_nil : trimN [] = [] := rfl
theorem trim_zero (q : List (BitVec 8)) : trimN (q ++ [0#8]) = trimN q := by simp [trimN]
theorem trim_more (q : List (BitVec 8)) (x : BitVec 8) (h : ¬ x = 0#8) : trimN (q ++ [x]) = q ++ [x] := by simp [trimN, h]
theorem list4 {b : List (BitVec 8)} (h : b.length = 4) : ∃ x y z t, b = [x, y, z, t] := by
  match b, h with
  | [x, y, z, t], _ => exact ⟨x, y, z, t, rfl⟩
theorem cut_eq {b : List (BitVec 8)} (h : b.length = 4) : cutR b = cutN b := by
  obtain ⟨x, y, z, t, rfl⟩ := list4 h
  unfold cutR cutN okFirst okTrim
  have hz : letter 0#8 = false := by decide
  by_cases hx : x = 0#8 <;> by_cases hy : y = 0#8 <;> by_cases hw : z = 0#8 <;> by_cases ht : t = 0#8 <;> simp [firstZ, trimN, padN, goodN, zer, hx, hy, hw, ht, hz, List.takeWhile, List.dropWhile, List.replicate] <;> grind
theorem good_len {q : List (BitVec 8)} (h : goodN q = true) : 1 ≤ q.length ∧ q.length ≤ 4 ∧ ∀ x ∈ q, letter x = true := by
  unfold goodN at h
  simp only [Bool.and_eq_true, decide_eq_true_eq, List.all_eq_true] at h
  exact ⟨h.1.1, h.1.2, h.2⟩
theorem cut_ok {b : List (BitVec 8)} (hb : b.length = 4) (h : (cutN b).2 = true) : padN (cutN b).1 = b ∧ ((cutN b).1 = [] ∨ goodN (cutN b).1 = true) := by
  rw [← cut_eq hb] at h ⊢
  unfold cutR at h ⊢
  cases ho : okFirst b with
  | false => rw [ho] at h; cases h
  | true =>
    unfold okFirst at ho
    simp only [Bool.and_eq_true, Bool.or_eq_true, decide_eq_true_eq] at ho
    exact ho
theorem cut_no {b : List (BitVec 8)} (h : (cutN b).2 = false) : (cutN b).1 = [] := by
  unfold cutN at h ⊢
  split
  · rename_i h'; rw [if_pos h'] at h; cases h
  · rfl
theorem cut_len {b : List (BitVec 8)} (hb : b.length = 4) : (cutN b).1.length ≤ 4 := by
  cases h : (cutN b).2 with
  | false => rw [cut_no h]; simp
  | true =>
    rcases (cut_ok hb h).2 with h' | h'
    · rw [h']; simp
    · exact (good_len h').2.1
end Go.Proofs.YtnmaplgodimohaaDoor

/- Which blocks volumes use: the program's Used. -/
set_option maxRecDepth 4000
namespace Go.Proofs.YtnmaplgodimohaaDoor
open Go Go.RowKit
def bitI (b : Int) : BitVec 16 := if 0 ≤ b ∧ b < 12 then 1#16 <<< b.toNat else 0#16
def useL (u : BitVec 16) (L : List Int) : BitVec 16 := L.foldl (fun u b => u ||| bitI b) u
def usedV (l : List Vl) : BitVec 16 := l.foldl (fun u x => useL u x.2) 1#16
theorem size_vol : (Tryd.prog.info? 81).map (·.size) = some 2 := by kernel_rfl
theorem useL_take {u : BitVec 16} {L : List Int} {k : Nat} {b : Int} (h : L[k]? = some b) : useL u (L.take (k + 1)) = useL u (L.take k) ||| bitI b := by
  obtain ⟨hk, rfl⟩ := List.getElem?_eq_some_iff.1 h
  unfold useL
  rw [List.take_add_one, List.getElem?_eq_getElem hk, List.foldl_append]; rfl
theorem usedV_take {l : List Vl} {k : Nat} {x : Vl} (h : l[k]? = some x) : usedV (l.take (k + 1)) = useL (usedV (l.take k)) x.2 := by
  obtain ⟨hk, rfl⟩ := List.getElem?_eq_some_iff.1 h
  unfold usedV
  rw [List.take_add_one, List.getElem?_eq_getElem hk, List.foldl_append]; rfl
set_option maxHeartbeats 3200000 in
theorem used_any (A : Option Addr) (n c : Nat) (l : List Vl) (w : World) (h : VolsAt w (.slice A n c) l) (hn : n ≤ 1000000) (hm : ∀ x ∈ l, x.2.length ≤ 1000000) :
    Calls Tryd.prog 47 #[.slice A n c] w fun e w' => e = .returned (.int .u16 (hd (usedV l))) ∧ Below w.heap.size w w' := by
  have hln := vols_len h
  have HF := Lib.hid (fun k (hk : k < l.length) => vols_get h hk)
  have HLN := Lib.hid hln
  have HM := Lib.hid hm
  clear h hln hm
  go_enter Tryd.func47, Tryd.ntmps47
  go_wp2_with fail
  go_loopw [3, 10] (fun u i wr => ∃ k : Nat, k ≤ n ∧ i = .int .i64 k ∧ u = .int .u16 (hd (usedV (l.take k))) ∧ Below w.heap.size w wr) (fun _ i _ => n - (intOf i).toNat)
  case atStart => exact ⟨0, by omega, rfl, rfl, Below.refl _ _⟩
  case round =>
    obtain ⟨k, hk, rfl, rfl, hb⟩ := hrel
    have HB := Lib.hid hb
    clear hb
    by_cases hlt : k < n
    · obtain ⟨b, o, s0, L, B, m, c1, hx, rfl, hbw, hr, hi, hlm, _⟩ := HF.out k (by rw [HLN.out]; exact hlt)
      obtain ⟨O, hO⟩ : ∃ O, o + k * 2 = O := ⟨_, rfl⟩
      rw [hO] at hr
      have hm6 : m ≤ 1000000 := by rw [← hlm]; exact HM.out _ (List.mem_of_getElem? hx)
      have HR : Hid (wr.rangeAt b O [.string s0, .slice B m c1]) := Lib.hid fun j v hv => (HB.out.cell (p := ⟨b, O + j, none⟩) hbw).trans (hr j v hv)
      have HI := Lib.hid (hi.below HB.out (Nat.le_refl _))
      have HLM := Lib.hid hlm
      have HU1 := Lib.hid (usedV_take hx)
      obtain ⟨U0, hU0⟩ : ∃ U0, usedV (l.take k) = U0 := ⟨_, rfl⟩
      rw [hU0] at HU1 ⊢
      have hk0 : (0 : Int) ≤ (k : Int) := by omega
      have hk1 : (k : Int) < (n : Int) := by omega
      clear hx hr hi hlm hU0 hbw
      have HS := St.nil wr noF
      go_upto_region 5 with (first | ((with_reducible refine wpList_plain ?_ ?_); exact rfl; intro KK hKK; refine wp_load_mid 81 (.tmp 12) rfl b O rfl [.string s0, .slice B m c1] _ HR.out Tryd.underlying81 rfl (by exact size_vol) (hKK _ _ ?_); clear hKK KK) | ((with_reducible refine wpList_plain ?_ ?_); exact rfl; intro KK hKK; refine wp_st_alloc HS 81 (#[.string ⟨#[]⟩, .slice none 0 0]) rfl (.agg (#[.string ⟨#[]⟩, .slice none 0 0])) (by kernel_rfl) (rfl) (fun g5 W1 HSx => hKK _ _ ?_); clear hKK KK HS; have HS : St wr noF [⟨g5, 81, #[.string ⟨#[]⟩, .slice none 0 0]⟩] W1 := HSx; clear HSx) | ((with_reducible refine wpList_plain ?_ ?_); exact rfl; intro KK hKK; refine wp_st_store HS 0 0 81 (.tmp 5) (.tmp 13) rfl rfl rfl (.agg #[.string s0, .slice B m c1]) rfl (by exact size_vol) (Nat.le_refl 2) (by simp [Value.cells, Value.oneCell']) (#[.string s0, .slice B m c1]) (by exact spl_agg _ _ _ rfl rfl) (fun W2 HSx => hKK _ _ ?_); clear hKK KK HS; have HS : St wr noF [⟨g5, 81, #[.string s0, .slice B m c1]⟩] W2 := HSx; clear HSx))
      clear hk0 hk1 hO
      have HW := Lib.hid HS.below
      have hcd : W2.cell? ⟨g5, 1, none⟩ = some (.slice B m c1) := (HS.row 0 rfl).get rfl
      have HIW := Lib.hid (HI.out.below HS.below (Nat.le_refl _))
      clear HS
      go_wp2_with fail
      clear hcd
      go_loopw [3, 17] (fun u i wr' => ∃ j : Nat, j ≤ m ∧ i = .int .i64 j ∧ u = .int .u16 (hd (useL U0 (L.take j))) ∧ W2 = wr') (fun _ i _ => m - (intOf i).toNat)
      case atStart => exact ⟨0, by omega, rfl, rfl, rfl⟩
      case round =>
        obtain ⟨j, hj, rfl, rfl, rfl⟩ := hrel
        obtain ⟨U, hU⟩ : ∃ U, useL U0 (L.take j) = U := ⟨_, rfl⟩
        rw [hU]
        have HU := Lib.hid hU
        clear hU
        by_cases hlt2 : j < m
        · obtain ⟨b2, o2, x, hx, rfl, hb2, hc2, _⟩ := ints_get HIW.out (k := j) (by rw [HLM.out]; exact hlt2)
          obtain ⟨O2, hO2⟩ : ∃ O, o2 + j = O := ⟨_, rfl⟩
          rw [hO2] at hc2
          have HX := Lib.hid hx
          have HUJ : Hid (∀ x, L[j]? = some x → useL U0 (L.take (j + 1)) = useL U0 (L.take j) ||| bitI x) := Lib.hid (fun x hx => useL_take hx)
          have hj0 : (0 : Int) ≤ (j : Int) := by omega
          have hj1 : (j : Int) < (m : Int) := by omega
          clear hx hb2
          by_cases hx0 : 0 ≤ x
          case neg =>
            have hd : decide ((0 : Int) ≤ x) = false := decide_eq_false hx0
            have hbz : bitI x = 0#16 := by unfold bitI; rw [if_neg (by omega)]
            have HBZ := Lib.hid hbz
            clear hbz hx0
            go_wp2_with fail
            exact ⟨⟨j + 1, by omega, by go_num, by rw [HUJ.out _ HX.out, HU.out, HBZ.out, BitVec.or_zero], by first | rfl | trivial⟩, by simp [intOf]; omega⟩
          by_cases hx12 : x < 12
          case neg =>
            have hd0 : decide ((0 : Int) ≤ x) = true := decide_eq_true hx0
            have hd : decide (x < 12) = false := decide_eq_false hx12
            have hbz : bitI x = 0#16 := by unfold bitI; rw [if_neg (by omega)]
            have HBZ := Lib.hid hbz
            clear hbz hx0 hx12
            go_wp2_with fail
            exact ⟨⟨j + 1, by omega, by go_num, by rw [HUJ.out _ HX.out, HU.out, HBZ.out, BitVec.or_zero], by first | rfl | trivial⟩, by simp [intOf]; omega⟩
          obtain rfl | rfl | rfl | rfl | rfl | rfl | rfl | rfl | rfl | rfl | rfl | rfl : x = 0 ∨ x = 1 ∨ x = 2 ∨ x = 3 ∨ x = 4 ∨ x = 5 ∨ x = 6 ∨ x = 7 ∨ x = 8 ∨ x = 9 ∨ x = 10 ∨ x = 11 := by omega
          · have hor : bits .or .u16 (hd U) 1 = hd (U ||| 1#16) := or_hd U 1#16
            go_wp2_with fail
            exact ⟨⟨j + 1, by omega, by go_num, by rw [HUJ.out _ HX.out, HU.out]; rfl, by first | rfl | trivial⟩, by simp [intOf]; omega⟩
          · have hor : bits .or .u16 (hd U) 2 = hd (U ||| 2#16) := or_hd U 2#16
            go_wp2_with fail
            exact ⟨⟨j + 1, by omega, by go_num, by rw [HUJ.out _ HX.out, HU.out]; rfl, by first | rfl | trivial⟩, by simp [intOf]; omega⟩
          · have hor : bits .or .u16 (hd U) 4 = hd (U ||| 4#16) := or_hd U 4#16
            go_wp2_with fail
            exact ⟨⟨j + 1, by omega, by go_num, by rw [HUJ.out _ HX.out, HU.out]; rfl, by first | rfl | trivial⟩, by simp [intOf]; omega⟩
          · have hor : bits .or .u16 (hd U) 8 = hd (U ||| 8#16) := or_hd U 8#16
            go_wp2_with fail
            exact ⟨⟨j + 1, by omega, by go_num, by rw [HUJ.out _ HX.out, HU.out]; rfl, by first | rfl | trivial⟩, by simp [intOf]; omega⟩
          · have hor : bits .or .u16 (hd U) 16 = hd (U ||| 16#16) := or_hd U 16#16
            go_wp2_with fail
            exact ⟨⟨j + 1, by omega, by go_num, by rw [HUJ.out _ HX.out, HU.out]; rfl, by first | rfl | trivial⟩, by simp [intOf]; omega⟩
          · have hor : bits .or .u16 (hd U) 32 = hd (U ||| 32#16) := or_hd U 32#16
            go_wp2_with fail
            exact ⟨⟨j + 1, by omega, by go_num, by rw [HUJ.out _ HX.out, HU.out]; rfl, by first | rfl | trivial⟩, by simp [intOf]; omega⟩
          · have hor : bits .or .u16 (hd U) 64 = hd (U ||| 64#16) := or_hd U 64#16
            go_wp2_with fail
            exact ⟨⟨j + 1, by omega, by go_num, by rw [HUJ.out _ HX.out, HU.out]; rfl, by first | rfl | trivial⟩, by simp [intOf]; omega⟩
          · have hor : bits .or .u16 (hd U) 128 = hd (U ||| 128#16) := or_hd U 128#16
            go_wp2_with fail
            exact ⟨⟨j + 1, by omega, by go_num, by rw [HUJ.out _ HX.out, HU.out]; rfl, by first | rfl | trivial⟩, by simp [intOf]; omega⟩
          · have hor : bits .or .u16 (hd U) 256 = hd (U ||| 256#16) := or_hd U 256#16
            go_wp2_with fail
            exact ⟨⟨j + 1, by omega, by go_num, by rw [HUJ.out _ HX.out, HU.out]; rfl, by first | rfl | trivial⟩, by simp [intOf]; omega⟩
          · have hor : bits .or .u16 (hd U) 512 = hd (U ||| 512#16) := or_hd U 512#16
            go_wp2_with fail
            exact ⟨⟨j + 1, by omega, by go_num, by rw [HUJ.out _ HX.out, HU.out]; rfl, by first | rfl | trivial⟩, by simp [intOf]; omega⟩
          · have hor : bits .or .u16 (hd U) 1024 = hd (U ||| 1024#16) := or_hd U 1024#16
            go_wp2_with fail
            exact ⟨⟨j + 1, by omega, by go_num, by rw [HUJ.out _ HX.out, HU.out]; rfl, by first | rfl | trivial⟩, by simp [intOf]; omega⟩
          · have hor : bits .or .u16 (hd U) 2048 = hd (U ||| 2048#16) := or_hd U 2048#16
            go_wp2_with fail
            exact ⟨⟨j + 1, by omega, by go_num, by rw [HUJ.out _ HX.out, HU.out]; rfl, by first | rfl | trivial⟩, by simp [intOf]; omega⟩
        · obtain rfl : j = m := by omega
          have hUU : usedV (l.take (k + 1)) = U := by rw [HU1.out, ← HU.out, List.take_of_length_le (by rw [HLM.out]; exact Nat.le_refl _)]
          have HUU := Lib.hid hUU
          clear hUU
          go_wp2_with fail
          exact ⟨⟨k + 1, by omega, by go_num, by rw [HUU.out], HB.out.trans (HW.out.mono HB.out.size)⟩, by simp [intOf]; omega⟩
    · obtain rfl : k = n := by omega
      have hT : l.take k = l := List.take_of_length_le (by rw [HLN.out]; exact Nat.le_refl _)
      rw [hT]
      go_wp2_with fail
      go_ret
      exact ⟨rfl, HB.out⟩
end Go.Proofs.YtnmaplgodimohaaDoor

/- How many blocks are free: OnesCount16, Free. -/
set_option maxRecDepth 4000
namespace Go.Proofs.YtnmaplgodimohaaDoor
open Go Go.RowKit
def freeL (u : BitVec 16) : List Int := ((List.range 12).filter fun b => !u.getLsbD b).map Int.ofNat
def cnt16 (u : BitVec 16) : Int := IntKind.u8.wrap (Lib.pop8 (hd u / 256) + Lib.pop8 (hd u % 256))
theorem pop_bits : ∀ y : Fin 256, Lib.onesCount y.val = (y.val.testBit 0).toNat + (y.val.testBit 1).toNat + (y.val.testBit 2).toNat + (y.val.testBit 3).toNat + (y.val.testBit 4).toNat + (y.val.testBit 5).toNat + (y.val.testBit 6).toNat + (y.val.testBit 7).toNat := by decide +kernel
theorem not_one (b : Bool) : (if (!b) = true then 1 else 0) = 1 - b.toNat := by cases b <;> rfl
theorem free_len (f : Nat → Bool) : ((List.range 12).filter fun b => !f b).length = 12 - ((f 0).toNat + (f 1).toNat + (f 2).toNat + (f 3).toNat + (f 4).toNat + (f 5).toNat + (f 6).toNat + (f 7).toNat + (f 8).toNat + (f 9).toNat + (f 10).toNat + (f 11).toNat) := by
  rw [← List.countP_eq_length_filter, show List.range 12 = [0, 1, 2, 3, 4, 5, 6, 7, 8, 9, 10, 11] from rfl]
  simp only [List.countP_cons, List.countP_nil, not_one]
  have h := fun n => Bool.toNat_le (f n)
  have h0 := h 0; have h1 := h 1; have h2 := h 2; have h3 := h 3; have h4 := h 4; have h5 := h 5; have h6 := h 6; have h7 := h 7; have h8 := h 8; have h9 := h 9; have h10 := h 10; have h11 := h 11
  omega
theorem cnt_free (u : BitVec 16) (h : u.toNat < 4096) : cnt16 u = 12 - ((freeL u).length : Int) := by
  have ha : (hd u / 256) = ((⟨u.toNat / 256, by omega⟩ : Fin 256).val : Int) := by unfold hd; show _ = ((u.toNat / 256 : Nat) : Int); omega
  have hb : (hd u % 256) = ((⟨u.toNat % 256, by omega⟩ : Fin 256).val : Int) := by unfold hd; show _ = ((u.toNat % 256 : Nat) : Int); omega
  unfold cnt16 freeL
  rw [ha, hb, Lib.pop8_eq, Lib.pop8_eq, pop_bits, pop_bits, List.length_map, free_len]
  have e : ∀ k, u.getLsbD k = u.toNat.testBit k := fun k => rfl
  have el : ∀ k, k < 8 → (u.toNat % 256).testBit k = u.toNat.testBit k := fun k hk => by rw [show 256 = 2 ^ 8 from rfl, Nat.testBit_mod_two_pow]; simp [hk]
  have eh : ∀ k, (u.toNat / 256).testBit k = u.toNat.testBit (k + 8) := fun k => by rw [show 256 = 2 ^ 8 from rfl, Nat.testBit_div_two_pow]
  have ez : ∀ k, 12 ≤ k → u.toNat.testBit k = false := fun k hk => Nat.testBit_lt_two_pow (Nat.lt_of_lt_of_le h (Nat.pow_le_pow_right (by decide) hk : 2 ^ 12 ≤ 2 ^ k))
  simp only [e, eh, el 0 (by decide), el 1 (by decide), el 2 (by decide), el 3 (by decide), el 4 (by decide), el 5 (by decide), el 6 (by decide), el 7 (by decide), Nat.reduceAdd, ez 12 (by decide), ez 13 (by decide), ez 14 (by decide), ez 15 (by decide), Bool.toNat_false]
  have hk := fun n => Bool.toNat_le (u.toNat.testBit n)
  have h0 := hk 0; have h1 := hk 1; have h2 := hk 2; have h3 := hk 3; have h4 := hk 4; have h5 := hk 5; have h6 := hk 6; have h7 := hk 7; have h8 := hk 8; have h9 := hk 9; have h10 := hk 10; have h11 := hk 11
  rw [IntKind.wrap_u8']
  omega
theorem cnt_lo (u : BitVec 16) : 0 ≤ cnt16 u ∧ cnt16 u < 256 := by unfold cnt16; rw [IntKind.wrap_u8']; omega
theorem bit_small : ∀ b : Fin 12, (bitI (b.val : Int)).toNat < 4096 := by decide
theorem bitI_lt (b : Int) : (bitI b).toNat < 4096 := by
  by_cases h : 0 ≤ b ∧ b < 12
  · have := bit_small ⟨b.toNat, by omega⟩
    have e : ((b.toNat : Nat) : Int) = b := by omega
    simp only [e] at this
    exact this
  · unfold bitI; rw [if_neg h]; decide
theorem useL_lt (L : List Int) : ∀ u : BitVec 16, u.toNat < 4096 → (useL u L).toNat < 4096 := by
  induction L with
  | nil => exact fun u h => h
  | cons b L ih => exact fun u h => ih _ (by rw [BitVec.toNat_or]; exact Nat.or_lt_two_pow (n := 12) h (bitI_lt b))
theorem usedV_lt (l : List Vl) : (usedV l).toNat < 4096 := by
  unfold usedV
  suffices ∀ u : BitVec 16, u.toNat < 4096 → (l.foldl (fun u x => useL u x.2) u).toNat < 4096 from this _ (by decide)
  induction l with
  | nil => exact fun u h => h
  | cons x l ih => exact fun u h => ih _ (useL_lt _ _ h)
set_option maxHeartbeats 800000 in
theorem ones_any (u : BitVec 16) (w : World) : Calls Tryd.prog 55 #[.int .u16 (hd u)] w fun e w' => e = .returned (.int .i64 (cnt16 u)) ∧ Below w.heap.size w w' := by
  have hc := cnt_lo u
  obtain ⟨c, hcc⟩ : ∃ c, cnt16 u = c := ⟨_, rfl⟩
  obtain ⟨a, ha⟩ : ∃ a, hd u / 256 = a := ⟨_, rfl⟩
  obtain ⟨b, hb⟩ : ∃ b, bits .and .u16 (hd u) 255 = b := ⟨_, rfl⟩
  have h0 := hd_lo u
  have h1 := hd_hi u
  have hbm : hd u % 256 = b := by
    rw [← hb, show bits .and .u16 (hd u) 255 = hd (u &&& 255#16) from and_hd u 255#16]
    unfold hd
    have : (u &&& 255#16).toNat = u.toNat % 256 := by rw [BitVec.toNat_and]; exact Nat.and_two_pow_sub_one_eq_mod u.toNat 8
    rw [this]; omega
  have hcp : IntKind.u8.wrap (Lib.pop8 a + Lib.pop8 b) = c := by rw [← hcc, ← ha, ← hbm]; rfl
  rw [hcc] at hc ⊢
  have HA := Lib.hid ha
  have HBB := Lib.hid hb
  have HC := Lib.hid hcp
  have HA0 : Hid (0 ≤ a) := Lib.hid (by omega)
  have HA1 : Hid (a ≤ 255) := Lib.hid (by omega)
  have HB0 : Hid (0 ≤ b) := Lib.hid (by omega)
  have HB1 : Hid (b ≤ 255) := Lib.hid (by omega)
  have HC2 : Hid (IntKind.i64.wrap c = c) := Lib.hid (i64_id _ (by omega) (by omega))
  clear hc hcc ha hb h0 h1 hbm hcp
  go_enter Tryd.func55, Tryd.ntmps55
  go_upto_region 1 with fail
  have hF0 : Wl [fun W => Below w.heap.size w W] 0 w.drew := (Below.refl w.heap.size w).drew
  refine wp_region_phs [is (.int .u16 (hd u)), is (.int .u16 a), is (.int .u8 (Lib.pop8 a)), is (.int .u16 (hd u)), is (.int .u16 b), is (.int .u8 (Lib.pop8 b)), is (.int .u8 c), is (.int .i64 c), is (.int .i64 c)] [true, true, true, true, true, true, true, true, true] [(fun W => Below w.heap.size w W)] [false, false, false, false, false, false, false, false, false] [some 0, some 0, some 0, some 0, some 0, some 0, some 0, some 0, some 0] [some 3, some 4, some 5, some 6, some 7, some 8, some 9, some 10, some 2] 9 0 (fun _ => true) rfl rfl (by kernel_rfl) (by kernel_rfl) (by kernel_rfl) (by kernel_rfl) ?_ ?_ ?_ ?_ ?_ ?_
  · repeat first | exact wok_nil | refine wok_cons (by first | exact fun _ _ h k => h.trans (k.mono h.size)) ?_
  · repeat first | exact vok_nil | refine vok_rig (by first | exact fun _ _ _ h => h) ?_ | refine vok_soft (by first | exact fun _ _ _ h _ => h) ?_
  · exact hF0
  · repeat first | exact all_end (by decide) | refine all_cons (by first | exact rfl | exact ⟨rfl, fun _ _ h => Or.inl h⟩ | exact ⟨rfl, fun _ _ h => Or.inr ⟨h, rfl⟩⟩) ?_
  · refine allp_mild 0 rfl rfl rfl (fun a_ x_ W hout hin hP => ?_) ?_
    · have e0 : a_.tmps[0]? = some (.int .u16 (hd u)) := (hout 0 (by kernel_rfl)).trans rfl
      exact does_move rfl e0 ⟨Same.refl _, rfl⟩
    refine allp_mild 0 rfl rfl rfl (fun a_ x_ W hout hin hP => ?_) ?_
    · have e3 := hin.is 0 3 (by kernel_rfl) (by decide) (by kernel_rfl) (by kernel_rfl) _ rfl
      have ha := HA.out
      have hb := HBB.out
      have hc := HC.out
      have ha0 := HA0.out
      have hb0 := HB0.out
      have ha1 := HA1.out
      have hb1 := HB1.out
      have hc2 := HC2.out
      clear hin hout
      intro K Q hK
      go_simp
      exact hK _ _ ⟨Same.refl _, rfl⟩
    refine allp_mild 0 rfl rfl rfl (fun a_ x_ W hout hin hP => ?_) ?_
    · have e4 := hin.is 1 4 (by kernel_rfl) (by decide) (by kernel_rfl) (by kernel_rfl) _ rfl
      have ha := HA.out
      have hb := HBB.out
      have hc := HC.out
      have ha0 := HA0.out
      have hb0 := HB0.out
      have ha1 := HA1.out
      have hb1 := HB1.out
      have hc2 := HC2.out
      clear hin hout
      intro K Q hK
      go_simp
      exact hK _ _ ⟨Same.refl _, rfl⟩
    refine allp_mild 0 rfl rfl rfl (fun a_ x_ W hout hin hP => ?_) ?_
    · have e0 : a_.tmps[0]? = some (.int .u16 (hd u)) := (hout 0 (by kernel_rfl)).trans rfl
      exact does_move rfl e0 ⟨Same.refl _, rfl⟩
    refine allp_mild 0 rfl rfl rfl (fun a_ x_ W hout hin hP => ?_) ?_
    · have e6 := hin.is 3 6 (by kernel_rfl) (by decide) (by kernel_rfl) (by kernel_rfl) _ rfl
      have ha := HA.out
      have hb := HBB.out
      have hc := HC.out
      have ha0 := HA0.out
      have hb0 := HB0.out
      have ha1 := HA1.out
      have hb1 := HB1.out
      have hc2 := HC2.out
      clear hin hout
      intro K Q hK
      go_simp
      exact hK _ _ ⟨Same.refl _, rfl⟩
    refine allp_mild 0 rfl rfl rfl (fun a_ x_ W hout hin hP => ?_) ?_
    · have e7 := hin.is 4 7 (by kernel_rfl) (by decide) (by kernel_rfl) (by kernel_rfl) _ rfl
      have ha := HA.out
      have hb := HBB.out
      have hc := HC.out
      have ha0 := HA0.out
      have hb0 := HB0.out
      have ha1 := HA1.out
      have hb1 := HB1.out
      have hc2 := HC2.out
      clear hin hout
      intro K Q hK
      go_simp
      exact hK _ _ ⟨Same.refl _, rfl⟩
    refine allp_mild 0 rfl rfl rfl (fun a_ x_ W hout hin hP => ?_) ?_
    · have e5 := hin.is 2 5 (by kernel_rfl) (by decide) (by kernel_rfl) (by kernel_rfl) _ rfl
      have e8 := hin.is 5 8 (by kernel_rfl) (by decide) (by kernel_rfl) (by kernel_rfl) _ rfl
      have ha := HA.out
      have hb := HBB.out
      have hc := HC.out
      have ha0 := HA0.out
      have hb0 := HB0.out
      have ha1 := HA1.out
      have hb1 := HB1.out
      have hc2 := HC2.out
      clear hin hout
      intro K Q hK
      go_simp
      exact hK _ _ ⟨Same.refl _, rfl⟩
    refine allp_mild 0 rfl rfl rfl (fun a_ x_ W hout hin hP => ?_) ?_
    · have e9 := hin.is 6 9 (by kernel_rfl) (by decide) (by kernel_rfl) (by kernel_rfl) _ rfl
      have ha := HA.out
      have hb := HBB.out
      have hc := HC.out
      have ha0 := HA0.out
      have hb0 := HB0.out
      have ha1 := HA1.out
      have hb1 := HB1.out
      have hc2 := HC2.out
      clear hin hout
      intro K Q hK
      go_simp
      exact hK _ _ ⟨Same.refl _, rfl⟩
    refine allp_mild 0 rfl rfl rfl (fun a_ x_ W hout hin hP => ?_) ?_
    · have e10 := hin.is 7 10 (by kernel_rfl) (by decide) (by kernel_rfl) (by kernel_rfl) _ rfl
      exact does_assign rfl e10 ⟨Same.refl _, rfl⟩
    exact all_end (by decide)
  · intro x_ W hP hV
    have h8 : x_ 8 = .int .i64 c := hV 8 (by decide) (.inl (by kernel_rfl))
    have hW := hP
    clear hP hV
    simp only [putL, Act.put, List.setIfInBounds_toArray, List.set_cons_succ, List.set_cons_zero, h8]
    refine wpAnyH_done (by kernel_rfl) ?_ _
    clear h8
    go_wp2_with fail
    go_ret
    exact ⟨rfl, hW⟩
set_option maxHeartbeats 800000 in
theorem free_any (A : Option Addr) (n c : Nat) (l : List Vl) (w : World) (h : VolsAt w (.slice A n c) l) (hn : n ≤ 1000000) (hm : ∀ x ∈ l, x.2.length ≤ 1000000) :
    Calls Tryd.prog 46 #[.slice A n c] w fun e w' => e = .returned (.int .i64 ((freeL (usedV l)).length : Int)) ∧ Below w.heap.size w w' := by
  have hu := used_any A n c l w h hn hm
  have hcf := cnt_free (usedV l) (usedV_lt l)
  have hc := cnt_lo (usedV l)
  have ho := fun w => ones_any (usedV l) w
  obtain ⟨z, hz⟩ : ∃ z, cnt16 (usedV l) = z := ⟨_, rfl⟩
  obtain ⟨u, hu2⟩ : ∃ u, usedV l = u := ⟨_, rfl⟩
  rw [hz, hu2] at hcf ho
  rw [hz] at hc
  rw [hu2] at hu ⊢
  have hs : IntKind.i64.wrap (12 - z) = ((freeL u).length : Int) := by rw [i64_id _ (by omega) (by omega)]; omega
  have HS := Lib.hid hs
  clear h hn hm hcf hc hz hu2 hs
  go_enter Tryd.func46, Tryd.ntmps46
  go_wp2_with fail
  refine hu.mono ?_
  rintro e w2 ⟨rfl, hb⟩
  have HB := Lib.hid hb
  clear hb hu
  go_wp2_with fail
  refine (ho w2).mono ?_
  rintro e w3 ⟨rfl, hb⟩
  have HB2 := Lib.hid (HB.out.trans (hb.mono HB.out.size))
  clear hb
  have hs := HS.out
  go_wp2_with fail
  go_ret
  exact ⟨rfl, HB2.out⟩
end Go.Proofs.YtnmaplgodimohaaDoor

/- Slices of volumes of one's own: appended to, read. No function of the program is named here. -/
set_option maxRecDepth 4000
namespace Go.Proofs.YtnmaplgodimohaaDoor
open Go Go.RowKit
theorem info_vol : (Tryd.prog.info? 81).map (fun i => (i.zero, i.size, i.bytes)) = some (some (.agg #[.string ⟨#[]⟩, .slice none 0 0]), 2, 40) := by kernel_rfl
/- a volume's blocks: known in an earlier world, or of one's own -/
def InV (base : Nat) (W : World) (A : Option Addr) (c : Nat) (L : List Int) : Prop :=
  (∃ w1 : World, w1.heap.size ≤ base ∧ Below base w1 W ∧ IntsAt w1 (.slice A L.length c) L) ∨
  (W.ownsRow base 3 1 (.slice A L.length c) L.length (intsV L) ∧ ∀ x ∈ L, -9223372036854775808 ≤ x ∧ x < 9223372036854775808)
def CellsV (base : Nat) (W : World) (vs : List (List Value)) (l : List Vl) : Prop :=
  vs.length = l.length ∧ (∀ c ∈ vs, c.length = 2) ∧ ∀ (j : Nat) (x : Vl), l[j]? = some x → ∃ A c, vs[j]? = some [.string x.1, .slice A x.2.length c] ∧ InV base W A c x.2 ∧ x.1.size ≤ maxLen
def OV (base : Nat) (W : World) (v : Value) (l : List Vl) : Prop := ∃ vs, W.ownsRow base 81 2 v l.length vs.flatten ∧ CellsV base W vs l
theorem InV.ints {base : Nat} {W : World} {A : Option Addr} {c : Nat} {L : List Int} (h : InV base W A c L) : IntsAt W (.slice A L.length c) L := by
  rcases h with ⟨w1, h1, h2, h3⟩ | ⟨h1, h2⟩
  · exact h3.below h2 h1
  · exact ints_own h1 h2
theorem InV.call {base : Nat} {W W' : World} {A : Option Addr} {c : Nat} {L : List Int} (h : InV base W A c L) (hb : Below W.heap.size W W') (hB : base ≤ W.heap.size) : InV base W' A c L := by
  rcases h with ⟨w1, h1, h2, h3⟩ | ⟨h1, h2⟩
  · exact .inl ⟨w1, h1, h2.trans (hb.mono hB), h3⟩
  · exact .inr ⟨owns_call h1 hb, h2⟩
theorem CellsV.call {base : Nat} {W W' : World} {vs : List (List Value)} {l : List Vl} (h : CellsV base W vs l) (hb : Below W.heap.size W W') (hB : base ≤ W.heap.size) : CellsV base W' vs l :=
  ⟨h.1, h.2.1, fun j x hx => by obtain ⟨A, c, h1, h2, h3⟩ := h.2.2 j x hx; exact ⟨A, c, h1, h2.call hb hB, h3⟩⟩
theorem OV.call {base : Nat} {W W' : World} {v : Value} {l : List Vl} (h : OV base W v l) (hb : Below W.heap.size W W') (hB : base ≤ W.heap.size) : OV base W' v l := by
  obtain ⟨vs, h1, h2⟩ := h
  exact ⟨vs, owns_call h1 hb, h2.call hb hB⟩
theorem OV.form {base : Nat} {W : World} {v : Value} {l : List Vl} (h : OV base W v l) : ∃ A c, v = .slice A l.length c ∧ l.length ≤ c := by
  obtain ⟨vs, h1, _⟩ := h
  exact own_slice_form h1
theorem OV.form2 {base : Nat} {W : World} {v : Value} {l : List Vl} (h : OV base W v l) : ∃ A n c, v = .slice A n c ∧ l.length = n ∧ n ≤ c := by
  obtain ⟨A, c, e, h1⟩ := h.form
  exact ⟨A, _, c, e, rfl, h1⟩
theorem OV.vols {base : Nat} {W : World} {v : Value} {l : List Vl} (h : OV base W v l) (hm : l.length ≤ maxLen) : VolsAt W v l := by
  obtain ⟨vs, h1, hvl, hv2, h3⟩ := h
  rcases h1.2 with ⟨rfl, h0⟩ | ⟨g, cap, cur, rfl, _, hrow, hcap, _, hsz, htk⟩
  · have hl0 : l = [] := List.eq_nil_of_length_eq_zero h0
    subst hl0
    exact vols_none W
  · refine ⟨_, _, rfl, hcap, fun h => (by cases h), hm, fun _ => ⟨g, 0, rfl, (h1.lt g rfl).2, fun k x hx => ?_⟩⟩
    obtain ⟨A2, c2, hcs, ho, hms⟩ := h3 k x hx
    refine ⟨_, rfl, fun j v hv => ?_, vol_rd ⟨A2, c2, rfl, ho.ints, hms⟩⟩
    have hk : k < l.length := (List.getElem?_eq_some_iff.1 hx).1
    have hj : j < 2 := (List.getElem?_eq_some_iff.1 hv).1
    rw [Nat.zero_add, h1.cellAt (k * 2 + j) (by omega), flat_get (sz := 2) vs hv2 k j _ hcs hj]
    exact hv
theorem OV.nil (base : Nat) (W : World) : OV base W (.slice none 0 0) [] := ⟨[], by simpa using World.ownsRow_nil _ _ _ _, rfl, fun c hc => by simp at hc, fun j x hx => by simp at hx⟩
theorem OV.empty (base : Nat) (W : World) (h : base ≤ W.heap.size) : OV base (W.alloc (.cells #[] 81)) (.slice (some ⟨W.heap.size, 0, none⟩) 0 0) [] :=
  ⟨[], ⟨rfl, .inr ⟨W.heap.size, 0, #[], rfl, h, heap_alloc_new W _, Nat.le_refl _, by unfold maxLen; simp, rfl, rfl⟩⟩, rfl, fun c hc => by simp at hc, fun j x hx => by simp at hx⟩
/- what is laid there to be appended -/
def VolsIn (base : Nat) (W : World) (A : Option Addr) (m c : Nat) (l : List Vl) : Prop :=
  m = l.length ∧ (A = none → c = 0 ∧ l = []) ∧ ∃ vs, CellsV base W vs l ∧ ∀ ad, A = some ad → ∀ j u, vs.flatten[j]? = some u → W.cell? (ad.add j) = some u
theorem vol_lit {base : Nat} {W : World} {g : Nat} {s : ByteArray} {A : Option Addr} {c : Nat} {L : List Int} (hr : Row W g 81 #[.string s, .slice A L.length c]) (hi : InV base W A c L) (hs : s.size ≤ maxLen) : VolsIn base W (some ⟨g, 0, none⟩) 1 1 [(s, L)] :=
  ⟨rfl, fun h => (by cases h), [[.string s, .slice A L.length c]], ⟨rfl, fun c hc => (by rw [List.mem_singleton.1 hc]; rfl), fun j x hx => (by
    cases j with
    | zero => (cases hx; exact ⟨A, c, rfl, hi, hs⟩)
    | succ j => (simp at hx))⟩, fun ad had j u hu => by
      cases had
      rw [Addr.add_mid, Nat.zero_add]
      exact hr.get (by rw [← Array.getElem?_toList]; simpa using hu)⟩
theorem CellsV.append {base : Nat} {W : World} {vs us : List (List Value)} {l m : List Vl} (h : CellsV base W vs l) (k : CellsV base W us m) : CellsV base W (vs ++ us) (l ++ m) := by
  refine ⟨by rw [List.length_append, List.length_append, h.1, k.1], fun c hc => ?_, fun j x hx => ?_⟩
  · rcases List.mem_append.1 hc with hc | hc
    · exact h.2.1 c hc
    · exact k.2.1 c hc
  · by_cases hj : j < l.length
    · rw [List.getElem?_append_left hj] at hx
      rw [List.getElem?_append_left (by rw [h.1]; exact hj)]
      exact h.2.2 j x hx
    · rw [List.getElem?_append_right (by omega)] at hx
      rw [List.getElem?_append_right (by rw [h.1]; omega), h.1]
      exact k.2.2 _ x hx
theorem one_volV {base : Nat} {W : World} {vs : List (List Value)} {l : List Vl} (h : CellsV base W vs l) : ∀ v ∈ vs.flatten, v.oneCell' = true := by
  intro v hv
  obtain ⟨c, hc, hv⟩ := List.mem_flatten.1 hv
  obtain ⟨j, hj, rfl⟩ := List.getElem_of_mem hc
  obtain ⟨A, cc, e, _⟩ := h.2.2 j _ (List.getElem?_eq_getElem (by rw [← h.1]; exact hj))
  rw [List.getElem?_eq_getElem hj] at e
  injection e with e
  rw [e] at hv
  simp at hv
  rcases hv with rfl | rfl <;> rfl
theorem CellsV.grown {base : Nat} {W W' : World} {v : Value} {n : Nat} {xs : List Value} {us : List (List Value)} {m : List Vl} (h : CellsV base W us m) (ho : W.ownsRow base 81 2 v n xs) (hg : W.grownBy W' v.ownBlock) (hB : base ≤ W.heap.size) : CellsV base W' us m := by
  have hbl : Below base W W' := below_of_grown hg (fun g e => (ho.lt g e).1) hB
  refine ⟨h.1, h.2.1, fun j x hx => ?_⟩
  obtain ⟨A, c, h1, h2, h3⟩ := h.2.2 j x hx
  refine ⟨A, c, h1, ?_, h3⟩
  rcases h2 with ⟨w1, k1, k2, k3⟩ | ⟨k1, k2⟩
  · exact .inl ⟨w1, k1, k2.trans hbl, k3⟩
  · refine .inr ⟨k1.kept hg ?_, k2⟩
    cases hu : (Value.slice A x.2.length c).ownBlock with
    | none => exact .inl rfl
    | some g => exact .inr fun e => own_apart2 ho k1 (by decide) g e.symm hu
end Go.Proofs.YtnmaplgodimohaaDoor

/- A sector of one byte, as the program has it. -/
set_option maxRecDepth 4000
namespace Go.Proofs.YtnmaplgodimohaaDoor
open Go Go.RowKit
end Go.Proofs.YtnmaplgodimohaaDoor

/- Two arrays of integers: what their comparison tells. -/
set_option maxRecDepth 4000
namespace Go.Proofs.YtnmaplgodimohaaDoor
open Go
theorem forIn_until {P : Program} {w : World} {β : Type} (b r : β) (f : Nat → β → Sem (ForInStep β)) (p : Nat → Bool) : ∀ l : List Nat, (∀ i ∈ l, (f i b).run P w = .ok (if p i then .yield b else .done r) w) → (forIn l b f).run P w = .ok (if l.all p then b else r) w
  | [], _ => by simp [Sem.run_pure]
  | i :: l, h => by
    simp only [List.forIn_cons, Sem.run_bind, h i (by simp), Result.andThen]
    cases hp : p i with
    | true =>
      simp only [List.all_cons, hp, Bool.true_and, if_true]
      exact forIn_until b r f p l fun j hj => h j (by simp [hj])
    | false => simp [List.all_cons, hp, Sem.run_pure]
theorem equal_ints {P : Program} (w : World) (d : Nat) (t e : TypeId) (k : IntKind) (n : Nat) (xs ys : Array Value) (f g : Nat → Int) (ht : P.underlying t = some (.array n e)) (he : P.underlying e = some (.int k)) (hs : (P.info? e).map (·.size) = some 1)
    (hx : ∀ i, i < n → xs[i]? = some (.int k (f i))) (hy : ∀ i, i < n → ys[i]? = some (.int k (g i))) : (Op.equalIn (d + 2) t (.agg xs) (.agg ys)).run P w = .ok ((List.range n).all fun i => f i == g i) w := by
  obtain ⟨i0, hi, hs⟩ := Option.map_eq_some_iff.1 hs
  have hsz : (sizeOf e).run P w = .ok 1 w := by simp [sizeOf, typeInfo, hi, hs]
  rw [show Op.equalIn (d + 2) t (.agg xs) (.agg ys) = Op.equalIn ((d + 1) + 1) t (.agg xs) (.agg ys) from rfl]
  unfold Op.equalIn
  simp only [Sem.run_bind, run_underlying ht, Result.andThen_ok, hsz]
  rw [Std.Legacy.Range.forIn_eq_forIn_range', forIn_until (p := fun i => f i == g i) (r := ⟨some false, ()⟩)]
  · have e1 : (List.range' 0 (Std.Legacy.Range.size [:n]) 1).all (fun i => f i == g i) = (List.range n).all fun i => f i == g i := by
      rw [List.range_eq_range']; simp [Std.Legacy.Range.size]
    simp only [e1]
    cases (List.range n).all fun i => f i == g i <;> simp [Sem.run_pure]
  · intro i hi
    have hin : i < n := by simp [Std.Legacy.Range.size] at hi; omega
    have hp : (Go.part e xs (i * 1)).run P w = .ok (.int k (f i)) w := by simp [Go.part, isAgg, run_underlying he, hx i hin]
    have hq : (Go.part e ys (i * 1)).run P w = .ok (.int k (g i)) w := by simp [Go.part, isAgg, run_underlying he, hy i hin]
    simp only [Sem.run_bind, hp, hq, Result.andThen_ok, run_equalIn_int w d e k k (f i) (g i) he]
    cases f i == g i <;> simp
theorem equal_bytesD (d : Nat) (t : TypeId) (n : Nat) (p q : List (BitVec 8)) (hp : p.length = n) (hq : q.length = n) (ht : Tryd.prog.underlying t = some (.array n 5)) (w : World) : (Op.equalIn (d + 2) t (.agg (bs p)) (.agg (bs q))).run Tryd.prog w = .ok (decide (p = q)) w := by
  rw [equal_ints w d t 5 .u8 n (bs p) (bs q) (fun i => bd (p.getD i 0)) (fun i => bd (q.getD i 0)) ht Tryd.underlying5 size_u8 (fun i hi => get_bs p i (by omega)) (fun i hi => get_bs q i (by omega))]
  congr 1
  by_cases h : p = q
  · subst h; simp
  · rw [decide_eq_false h, ← Bool.not_eq_true, List.all_eq_true]
    intro hall
    refine h (List.ext_getElem (by omega) fun i h1 h2 => ?_)
    have := hall i (List.mem_range.2 (by omega))
    simp [h1, h2] at this
    exact bd_inj this
theorem equal_bytes (t : TypeId) (n : Nat) (p q : List (BitVec 8)) (hp : p.length = n) (hq : q.length = n) (ht : Tryd.prog.underlying t = some (.array n 5)) (w : World) : (Op.equalIn 10000 t (.agg (bs p)) (.agg (bs q))).run Tryd.prog w = .ok (decide (p = q)) w := by
  rw [equal_ints w 9998 t 5 .u8 n (bs p) (bs q) (fun i => bd (p.getD i 0)) (fun i => bd (q.getD i 0)) ht Tryd.underlying5 size_u8 (fun i hi => get_bs p i (by omega)) (fun i hi => get_bs q i (by omega))]
  congr 1
  by_cases h : p = q
  · subst h; simp
  · rw [decide_eq_false h, ← Bool.not_eq_true, List.all_eq_true]
    intro hall
    refine h (List.ext_getElem (by omega) fun i h1 h2 => ?_)
    have := hall i (List.mem_range.2 (by omega))
    simp [h1, h2] at this
    exact bd_inj this
end Go.Proofs.YtnmaplgodimohaaDoor

/- Two sectors compared. -/
set_option maxRecDepth 4000
namespace Go.Proofs.YtnmaplgodimohaaDoor
open Go Go.RowKit
theorem eql_blk (p q : List (BitVec 8)) (hp : p.length = 32) (hq : q.length = 32) (w : World) : (Op.equalIn 10000 36 (.agg (bs p)) (.agg (bs q))).run Tryd.prog w = .ok (decide (p = q)) w := equal_bytes _ 32 p q hp hq Tryd.underlying36 w
end Go.Proofs.YtnmaplgodimohaaDoor

/- Are two lists of ints alike? -/
set_option maxRecDepth 4000
namespace Go.Proofs.YtnmaplgodimohaaDoor
open Go Go.RowKit
set_option maxRecDepth 20000 in
set_option maxHeartbeats 800000 in
theorem keepints_any (la lb : List Int) (A1 A2 : Option Addr) (n1 n2 c1 c2 : Nat) (w : World) (hu : IntsAt w (.slice A1 n1 c1) la) (hv : IntsAt w (.slice A2 n2 c2) lb) (hl : n1 ≤ 1000000) :
    Calls Tryd.prog 15 #[.slice A1 n1 c1, .slice A2 n2 c2] w fun e w' => e = .returned (.bool (decide (la = lb))) ∧ Below w.heap.size w w' := by
  have hln1 := ints_len hu
  have hln2 := ints_len hv
  obtain ⟨G, hG⟩ : ∃ G, decide (la = lb) = G := ⟨_, rfl⟩
  by_cases hlen : n1 = n2
  case neg =>
    have hG0 : G = false := by rw [← hG, decide_eq_false (fun h => hlen (by rw [← hln1, ← hln2, h]))]
    rw [hG, hG0]
    have hq : (n1 : Int) ≠ (n2 : Int) := by omega
    clear hu hv hG hlen hln1 hln2 hG0
    go_enter Tryd.func15, Tryd.ntmps15
    go_wp2_with fail
    go_ret
    exact ⟨rfl, Below.refl _ _⟩
  subst hlen
  have HF := Lib.hid (fun k (hk : k < la.length) => ints_get hu hk)
  have HF2 := Lib.hid (fun k (hk : k < lb.length) => ints_get hv hk)
  have HALL : Hid ((∀ i < n1, la[i]? = lb[i]?) → G = true) := Lib.hid fun h => by
    rw [← hG]
    refine decide_eq_true (List.ext_getElem? fun i => ?_)
    by_cases hi : i < n1
    · exact h i hi
    · rw [List.getElem?_eq_none (by omega), List.getElem?_eq_none (by omega)]
  have HNO : Hid (∀ k : Nat, la[k]? ≠ lb[k]? → G = false) := Lib.hid fun k h => by
    rw [← hG]; exact decide_eq_false (fun e => h (by rw [e]))
  have HL1 := Lib.hid hln1
  have HL2 := Lib.hid hln2
  obtain ⟨n, hn⟩ : ∃ n, n1 = n := ⟨_, rfl⟩
  rw [hG]
  rw [hn] at HALL HL1 HL2 hl ⊢
  clear hu hv hG hln1 hln2 hn
  go_enter Tryd.func15, Tryd.ntmps15
  go_wp2_with fail
  go_loopw [5] (fun i wr => ∃ k : Nat, k ≤ n ∧ i = .int .i64 k ∧ Hid (∀ j < k, la[j]? = lb[j]?) ∧ Below w.heap.size w wr) (fun i _ => n - (intOf i).toNat)
  case atStart => exact ⟨0, by omega, rfl, Lib.hid fun j hj => by omega, Below.refl _ _⟩
  case round =>
    obtain ⟨k, hk, rfl, HE, hB⟩ := hrel
    have HB := Lib.hid hB
    clear hB
    by_cases hlt : k < n
    · obtain ⟨b1, o1, x, hx1, rfl, hb1, hc1, _⟩ := HF.out k (by rw [HL1.out]; exact hlt)
      obtain ⟨b2, o2, y, hx2, rfl, hb2, hc2, _⟩ := HF2.out k (by rw [HL2.out]; exact hlt)
      obtain ⟨O1, hO1⟩ : ∃ O, o1 + k = O := ⟨_, rfl⟩
      obtain ⟨O2, hO2⟩ : ∃ O, o2 + k = O := ⟨_, rfl⟩
      rw [hO1] at hc1
      rw [hO2] at hc2
      have HX1 := Lib.hid hx1
      have HX2 := Lib.hid hx2
      have HC1 := Lib.hid hc1
      have HC2 := Lib.hid hc2
      have HW1 := Lib.hid hb1
      have HW2 := Lib.hid hb2
      have HO1 := Lib.hid hO1
      have HO2 := Lib.hid hO2
      have hk0 : (0 : Int) ≤ (k : Int) := by omega
      have hk1 : (k : Int) < (n : Int) := by omega
      clear hx1 hx2 hc1 hc2 hb1 hb2 hO1 hO2
      go_upto_region 6 with fail
      have hF0 : Wl [(fun W => Below w.heap.size w W)] 0 (World.drew _) := HB.out.drew
      by_cases hxy : x = y
      · have HQ : Hid ((x : Int) = y) := Lib.hid hxy
        have HXY := Lib.hid hxy
        clear hxy
        refine wp_region_phs [is (.slice (some ⟨b1, o1, none⟩) n c1), is (.int .i64 (k : Int)), is (.pointer (some ⟨b1, O1, none⟩)), is (.int .i64 x), is (.slice (some ⟨b2, o2, none⟩) n c2), is (.int .i64 (k : Int)), is (.pointer (some ⟨b2, O2, none⟩)), is (.int .i64 y), is (.bool false)] [true, true, true, true, true, true, true, true, true] [(fun W => Below w.heap.size w W)] [false, false, false, false, false, false, false, false, false] [some 0, some 0, some 0, some 0, some 0, some 0, some 0, some 0, some 0] [some 17, some 18, some 19, some 20, some 21, some 22, some 23, some 24, some 25] 9 0 (fun _ => true) rfl rfl (by kernel_rfl) (by kernel_rfl) (by kernel_rfl) (by kernel_rfl) ?_ ?_ ?_ ?_ ?_ ?_
        · repeat first | exact wok_nil | refine wok_cons (by first | exact fun _ _ h k => h.trans (k.mono h.size)) ?_
        · repeat first | exact vok_nil | refine vok_rig (by first | exact fun _ _ _ h => h) ?_ | refine vok_soft (by first | exact fun _ _ _ h _ => h) ?_
        · exact hF0
        · repeat first | exact all_end (by decide) | refine all_cons (by first | exact rfl | exact ⟨rfl, fun _ _ h => Or.inl h⟩ | exact ⟨rfl, fun _ _ h => Or.inr ⟨h, rfl⟩⟩) ?_
        · refine allp_mild 0 rfl rfl rfl (fun a x_ W hout hin hP => ?_) ?_
          · have e0 : a.tmps[0]? = some (.slice (some ⟨b1, o1, none⟩) n c1) := (hout 0 (by kernel_rfl)).trans rfl
            exact does_move rfl e0 ⟨Same.refl _, rfl⟩
          refine allp_mild 0 rfl rfl rfl (fun a x_ W hout hin hP => ?_) ?_
          · have e5 : a.tmps[5]? = some (.int .i64 (k : Int)) := (hout 5 (by kernel_rfl)).trans rfl
            exact does_move rfl e5 ⟨Same.refl _, rfl⟩
          refine allp_mild 0 rfl rfl rfl (fun a x_ W hout hin hP => ?_) ?_
          · have e17 := hin.is 0 17 (by kernel_rfl) (by decide) (by kernel_rfl) (by kernel_rfl) _ rfl
            have e18 := hin.is 1 18 (by kernel_rfl) (by decide) (by kernel_rfl) (by kernel_rfl) _ rfl
            have hO := HO1.out
            clear hin hout
            intro K Q hK
            go_simp
            exact hK _ _ ⟨Same.refl _, rfl⟩
          refine allp_mild 0 rfl rfl rfl (fun a x_ W hout hin hP => ?_) ?_
          · have e19 := hin.is 2 19 (by kernel_rfl) (by decide) (by kernel_rfl) (by kernel_rfl) _ rfl
            have hc : W.cell? ⟨b1, O1, none⟩ = some (.int .i64 x) := (hP.cell (p := ⟨b1, O1, none⟩) HW1.out).trans HC1.out
            clear hP
            clear hin hout
            intro K Q hK
            go_simp
            exact hK _ _ ⟨Same.refl _, rfl⟩
          refine allp_mild 0 rfl rfl rfl (fun a x_ W hout hin hP => ?_) ?_
          · have e1 : a.tmps[1]? = some (.slice (some ⟨b2, o2, none⟩) n c2) := (hout 1 (by kernel_rfl)).trans rfl
            exact does_move rfl e1 ⟨Same.refl _, rfl⟩
          refine allp_mild 0 rfl rfl rfl (fun a x_ W hout hin hP => ?_) ?_
          · have e5 : a.tmps[5]? = some (.int .i64 (k : Int)) := (hout 5 (by kernel_rfl)).trans rfl
            exact does_move rfl e5 ⟨Same.refl _, rfl⟩
          refine allp_mild 0 rfl rfl rfl (fun a x_ W hout hin hP => ?_) ?_
          · have e21 := hin.is 4 21 (by kernel_rfl) (by decide) (by kernel_rfl) (by kernel_rfl) _ rfl
            have e22 := hin.is 5 22 (by kernel_rfl) (by decide) (by kernel_rfl) (by kernel_rfl) _ rfl
            have hO := HO2.out
            clear hin hout
            intro K Q hK
            go_simp
            exact hK _ _ ⟨Same.refl _, rfl⟩
          refine allp_mild 0 rfl rfl rfl (fun a x_ W hout hin hP => ?_) ?_
          · have e23 := hin.is 6 23 (by kernel_rfl) (by decide) (by kernel_rfl) (by kernel_rfl) _ rfl
            have hc : W.cell? ⟨b2, O2, none⟩ = some (.int .i64 y) := (hP.cell (p := ⟨b2, O2, none⟩) HW2.out).trans HC2.out
            clear hP
            clear hin hout
            intro K Q hK
            go_simp
            exact hK _ _ ⟨Same.refl _, rfl⟩
          refine allp_mild 0 rfl rfl rfl (fun a x_ W hout hin hP => ?_) ?_
          · have e20 := hin.is 3 20 (by kernel_rfl) (by decide) (by kernel_rfl) (by kernel_rfl) _ rfl
            have e24 := hin.is 7 24 (by kernel_rfl) (by decide) (by kernel_rfl) (by kernel_rfl) _ rfl
            have hq := HQ.out
            clear hP
            clear hin hout
            intro K Q hK
            go_simp
            exact hK _ _ ⟨Same.refl _, rfl⟩
          exact all_end (by decide)
        · intro x_ W hP hV
          have hB9 := hP
          have h8 : x_ 8 = .bool false := hV 8 (by decide) (.inl (by kernel_rfl))
          clear hP hV
          simp only [putL, Act.put, List.setIfInBounds_toArray, List.set_cons_succ, List.set_cons_zero, h8]
          refine wpAnyH_done (by kernel_rfl) ?_ _
          clear h8
          go_wp2_with fail
          refine ⟨⟨k + 1, by omega, by go_num, Lib.hid fun i hi => ?_, hB9⟩, by simp [intOf] <;> omega⟩
          rcases Nat.lt_or_eq_of_le (Nat.le_of_lt_succ hi) with h | rfl
          · exact HE.out i h
          · rw [HX1.out, HX2.out, HXY.out]
      · have HQ : Hid ((x != y) = true) := Lib.hid (bne_iff_ne.2 hxy)
        have HXY := Lib.hid hxy
        clear hxy
        refine wp_region_phs [is (.slice (some ⟨b1, o1, none⟩) n c1), is (.int .i64 (k : Int)), is (.pointer (some ⟨b1, O1, none⟩)), is (.int .i64 x), is (.slice (some ⟨b2, o2, none⟩) n c2), is (.int .i64 (k : Int)), is (.pointer (some ⟨b2, O2, none⟩)), is (.int .i64 y), is (.bool true)] [true, true, true, true, true, true, true, true, true] [(fun W => Below w.heap.size w W)] [false, false, false, false, false, false, false, false, false] [some 0, some 0, some 0, some 0, some 0, some 0, some 0, some 0, some 0] [some 17, some 18, some 19, some 20, some 21, some 22, some 23, some 24, some 25] 9 0 (fun _ => true) rfl rfl (by kernel_rfl) (by kernel_rfl) (by kernel_rfl) (by kernel_rfl) ?_ ?_ ?_ ?_ ?_ ?_
        · repeat first | exact wok_nil | refine wok_cons (by first | exact fun _ _ h k => h.trans (k.mono h.size)) ?_
        · repeat first | exact vok_nil | refine vok_rig (by first | exact fun _ _ _ h => h) ?_ | refine vok_soft (by first | exact fun _ _ _ h _ => h) ?_
        · exact hF0
        · repeat first | exact all_end (by decide) | refine all_cons (by first | exact rfl | exact ⟨rfl, fun _ _ h => Or.inl h⟩ | exact ⟨rfl, fun _ _ h => Or.inr ⟨h, rfl⟩⟩) ?_
        · refine allp_mild 0 rfl rfl rfl (fun a x_ W hout hin hP => ?_) ?_
          · have e0 : a.tmps[0]? = some (.slice (some ⟨b1, o1, none⟩) n c1) := (hout 0 (by kernel_rfl)).trans rfl
            exact does_move rfl e0 ⟨Same.refl _, rfl⟩
          refine allp_mild 0 rfl rfl rfl (fun a x_ W hout hin hP => ?_) ?_
          · have e5 : a.tmps[5]? = some (.int .i64 (k : Int)) := (hout 5 (by kernel_rfl)).trans rfl
            exact does_move rfl e5 ⟨Same.refl _, rfl⟩
          refine allp_mild 0 rfl rfl rfl (fun a x_ W hout hin hP => ?_) ?_
          · have e17 := hin.is 0 17 (by kernel_rfl) (by decide) (by kernel_rfl) (by kernel_rfl) _ rfl
            have e18 := hin.is 1 18 (by kernel_rfl) (by decide) (by kernel_rfl) (by kernel_rfl) _ rfl
            have hO := HO1.out
            clear hin hout
            intro K Q hK
            go_simp
            exact hK _ _ ⟨Same.refl _, rfl⟩
          refine allp_mild 0 rfl rfl rfl (fun a x_ W hout hin hP => ?_) ?_
          · have e19 := hin.is 2 19 (by kernel_rfl) (by decide) (by kernel_rfl) (by kernel_rfl) _ rfl
            have hc : W.cell? ⟨b1, O1, none⟩ = some (.int .i64 x) := (hP.cell (p := ⟨b1, O1, none⟩) HW1.out).trans HC1.out
            clear hP
            clear hin hout
            intro K Q hK
            go_simp
            exact hK _ _ ⟨Same.refl _, rfl⟩
          refine allp_mild 0 rfl rfl rfl (fun a x_ W hout hin hP => ?_) ?_
          · have e1 : a.tmps[1]? = some (.slice (some ⟨b2, o2, none⟩) n c2) := (hout 1 (by kernel_rfl)).trans rfl
            exact does_move rfl e1 ⟨Same.refl _, rfl⟩
          refine allp_mild 0 rfl rfl rfl (fun a x_ W hout hin hP => ?_) ?_
          · have e5 : a.tmps[5]? = some (.int .i64 (k : Int)) := (hout 5 (by kernel_rfl)).trans rfl
            exact does_move rfl e5 ⟨Same.refl _, rfl⟩
          refine allp_mild 0 rfl rfl rfl (fun a x_ W hout hin hP => ?_) ?_
          · have e21 := hin.is 4 21 (by kernel_rfl) (by decide) (by kernel_rfl) (by kernel_rfl) _ rfl
            have e22 := hin.is 5 22 (by kernel_rfl) (by decide) (by kernel_rfl) (by kernel_rfl) _ rfl
            have hO := HO2.out
            clear hin hout
            intro K Q hK
            go_simp
            exact hK _ _ ⟨Same.refl _, rfl⟩
          refine allp_mild 0 rfl rfl rfl (fun a x_ W hout hin hP => ?_) ?_
          · have e23 := hin.is 6 23 (by kernel_rfl) (by decide) (by kernel_rfl) (by kernel_rfl) _ rfl
            have hc : W.cell? ⟨b2, O2, none⟩ = some (.int .i64 y) := (hP.cell (p := ⟨b2, O2, none⟩) HW2.out).trans HC2.out
            clear hP
            clear hin hout
            intro K Q hK
            go_simp
            exact hK _ _ ⟨Same.refl _, rfl⟩
          refine allp_mild 0 rfl rfl rfl (fun a x_ W hout hin hP => ?_) ?_
          · have e20 := hin.is 3 20 (by kernel_rfl) (by decide) (by kernel_rfl) (by kernel_rfl) _ rfl
            have e24 := hin.is 7 24 (by kernel_rfl) (by decide) (by kernel_rfl) (by kernel_rfl) _ rfl
            have hq := HQ.out
            clear hP
            clear hin hout
            intro K Q hK
            go_simp
            exact hK _ _ ⟨Same.refl _, rfl⟩
          exact all_end (by decide)
        · intro x_ W hP hV
          have hB9 := hP
          have h8 : x_ 8 = .bool true := hV 8 (by decide) (.inl (by kernel_rfl))
          clear hP hV
          simp only [putL, Act.put, List.setIfInBounds_toArray, List.set_cons_succ, List.set_cons_zero, h8]
          refine wpAnyH_done (by kernel_rfl) ?_ _
          clear h8
          have hG := HNO.out k (by rw [HX1.out, HX2.out]; exact fun h => HXY.out (Option.some.inj h))
          go_wp2_with fail
          go_ret
          exact ⟨by first | rfl | (rw [hG]; rfl), hB9⟩
    · obtain rfl : k = n := by omega
      have hG := HALL.out HE.out
      go_wp2_with fail
      go_ret
      exact ⟨by first | rfl | (rw [hG]; rfl), HB.out⟩
end Go.Proofs.YtnmaplgodimohaaDoor

/- Are two lists of volumes alike? -/
set_option maxRecDepth 4000
namespace Go.Proofs.YtnmaplgodimohaaDoor
open Go Go.RowKit
end Go.Proofs.YtnmaplgodimohaaDoor

/- The n least blocks that are free: the program's Take. -/
set_option maxRecDepth 4000
namespace Go.Proofs.YtnmaplgodimohaaDoor
open Go Go.RowKit
def freeB (u : BitVec 16) (b : Nat) : List Int := ((List.range b).filter fun b => !u.getLsbD b).map Int.ofNat
theorem freeB_12 (u : BitVec 16) : freeB u 12 = freeL u := rfl
theorem freeB_add (u : BitVec 16) (b : Nat) : freeB u (b + 1) = freeB u b ++ if u.getLsbD b then [] else [(b : Int)] := by
  unfold freeB
  rw [List.range_succ, List.filter_append, List.map_append]
  congr 1
  cases h : u.getLsbD b <;> simp [h]
theorem freeB_pre (u : BitVec 16) (b : Nat) (h : b ≤ 12) : freeB u b = (freeL u).take (freeB u b).length := by
  have : freeB u b <+: freeL u := by
    unfold freeB freeL
    refine List.IsPrefix.map _ (List.IsPrefix.filter _ ?_)
    have e : List.range 12 = List.range b ++ (List.range (12 - b)).map (b + ·) := by rw [← List.range_add, Nat.add_sub_cancel' h]
    rw [e]; exact List.prefix_append _ _
  exact List.prefix_iff_eq_take.1 this
theorem freeB_bound (u : BitVec 16) (b : Nat) : ∀ x ∈ freeB u b, 0 ≤ x ∧ x < b := by
  intro x hx
  unfold freeB at hx
  obtain ⟨y, hy, rfl⟩ := List.mem_map.1 hx
  have := List.mem_range.1 (List.mem_filter.1 hy).1
  exact ⟨Int.natCast_nonneg _, by show (y : Int) < b; omega⟩
theorem freeB_len (u : BitVec 16) (b : Nat) : (freeB u b).length ≤ b := by
  unfold freeB; rw [List.length_map]; exact Nat.le_trans (List.length_filter_le _ _) (by simp)
/- what Take tells -/
def takeV (u : BitVec 16) (n : Int) : List Int := if n < 1 ∨ 4 < n ∨ ((freeL u).length : Int) < n then [] else (freeL u).take n.toNat
def takeE (u : BitVec 16) (n : Int) : Int := if n < 1 ∨ 4 < n then 1 else if ((freeL u).length : Int) < n then 18 else 0
theorem takeV_bound (u : BitVec 16) (n : Int) : ∀ x ∈ takeV u n, 0 ≤ x ∧ x < 12 := by
  intro x hx
  unfold takeV at hx
  split at hx
  · simp at hx
  · exact freeB_bound u 12 x (List.mem_of_mem_take hx)
theorem takeV_len (u : BitVec 16) (n : Int) : (takeV u n).length ≤ 12 := by
  unfold takeV
  split
  · simp
  · have := freeB_len u 12
    rw [freeB_12] at this
    rw [List.length_take]; omega
theorem own_ints0 (w : World) (n : Nat) (h : n ≤ 4) : (w.alloc (.cells (Array.mk (List.replicate n (.int .i64 0))) 3)).ownsRow w.heap.size 3 1 (.slice (some ⟨w.heap.size, 0, none⟩) 0 n) 0 (intsV []) :=
  ⟨rfl, .inr ⟨w.heap.size, n, Array.mk (List.replicate n (.int .i64 0)), rfl, Nat.le_refl _, heap_alloc_new w _, Nat.zero_le _, by unfold maxLen; omega, by simp, rfl⟩⟩
theorem make_ints (n : Nat) (h1 : 1 ≤ n) (h4 : n ≤ 4) (w : World) : (Instr.makeSlice 45 (.int .i64 0) (.int .i64 (n : Int))).run Tryd.prog w = .ok (.slice (some ⟨w.heap.size, 0, none⟩) 0 n) (w.alloc (.cells (Array.mk (List.replicate n (.int .i64 0))) 3)) := by
  obtain rfl | rfl | rfl | rfl : n = 1 ∨ n = 2 ∨ n = 3 ∨ n = 4 := by omega
  all_goals kernel_rfl
theorem ints_one (w : World) (b : Int) (hb : -9223372036854775808 ≤ b ∧ b < 9223372036854775808) : IntsAt (w.alloc (.cells #[.int .i64 b] 3)) (.slice (some ⟨w.heap.size, 0, none⟩) 1 1) [b] :=
  ints_own (base := w.heap.size) ⟨rfl, .inr ⟨w.heap.size, 1, #[.int .i64 b], rfl, Nat.le_refl _, heap_alloc_new w _, Nat.le_refl _, by unfold maxLen; omega, rfl, rfl⟩⟩ (by simp only [List.mem_singleton]; rintro x rfl; exact hb)
theorem bit_shr (u : BitVec 16) (b : Nat) : bits .and .u16 (hd u / (2 : Int) ^ b) 1 = if u.getLsbD b then 1 else 0 := by
  have e : hd u / (2 : Int) ^ b = hd (u >>> b) := by unfold hd; rw [BitVec.toNat_ushiftRight, Nat.shiftRight_eq_div_pow]; exact_mod_cast rfl
  rw [e, show (1 : Int) = hd 1#16 from rfl, and_hd]
  have : u >>> b &&& 1#16 = if u.getLsbD b then 1#16 else 0#16 := by
    apply BitVec.eq_of_getLsbD_eq
    intro i hi
    rw [BitVec.getLsbD_and, BitVec.getLsbD_ushiftRight, BitVec.getLsbD_one]
    by_cases h0 : i = 0
    · subst h0; cases h : u.getLsbD b <;> simp
    · cases h : u.getLsbD b <;> simp [h0]
  rw [this]; split <;> rfl
set_option maxHeartbeats 1600000 in
theorem take_any (n : Int) (A : Option Addr) (m c : Nat) (l : List Vl) (w : World) (h : VolsAt w (.slice A m c) l) (hn : m ≤ 1000000) (hm : ∀ x ∈ l, x.2.length ≤ 1000000) (hn64 : -9223372036854775808 ≤ n ∧ n < 9223372036854775808) :
    Calls Tryd.prog 34 #[.int .i64 n, .slice A m c] w fun e w' => ∃ v, e = .returned (.tuple #[v, .int .i64 (takeE (usedV l) n)]) ∧ w'.ownsRow w.heap.size 3 1 v (takeV (usedV l) n).length (intsV (takeV (usedV l) n)) ∧ Below w.heap.size w w' := by
  have HFR := Lib.hid (fun w' (hb : Below w.heap.size w w') => free_any A m c l w' (h.below hb (Nat.le_refl _)) hn hm)
  have HUS := Lib.hid (fun w' (hb : Below w.heap.size w w') => used_any A m c l w' (h.below hb (Nat.le_refl _)) hn hm)
  obtain ⟨u, hu⟩ : ∃ u, usedV l = u := ⟨_, rfl⟩
  rw [hu] at HFR HUS ⊢
  clear h hn hm hu
  by_cases h1 : n < 1
  · have hd1 : decide (n < 1) = true := decide_eq_true h1
    have hE : takeE u n = 1 := if_pos (.inl h1)
    have hV : takeV u n = [] := if_pos (.inl h1)
    rw [hE, hV]
    clear h1 hE hV hn64
    go_enter Tryd.func34, Tryd.ntmps34
    go_wp2_with fail
    go_ret2
    exact ⟨_, rfl, ⟨rfl, .inl ⟨rfl, rfl⟩⟩, Below.refl _ _⟩
  have hd1 : decide (n < 1) = false := decide_eq_false h1
  by_cases h4 : 4 < n
  · have hd4 : decide (4 < n) = true := decide_eq_true h4
    have hE : takeE u n = 1 := if_pos (.inr h4)
    have hV : takeV u n = [] := if_pos (.inr (.inl h4))
    rw [hE, hV]
    clear h1 hE hV hn64 h4
    go_enter Tryd.func34, Tryd.ntmps34
    go_wp2_with fail
    go_ret2
    exact ⟨_, rfl, ⟨rfl, .inl ⟨rfl, rfl⟩⟩, Below.refl _ _⟩
  have hd4 : decide (4 < n) = false := decide_eq_false h4
  obtain ⟨N, rfl⟩ : ∃ N : Nat, n = N := ⟨n.toNat, by omega⟩
  by_cases hf : ((freeL u).length : Int) < N
  · have hdf : decide ((freeL u).length < N) = true := decide_eq_true (by omega)
    have hE : takeE u N = 18 := by unfold takeE; rw [if_neg (by omega), if_pos hf]
    have hV : takeV u N = [] := if_pos (.inr (.inr hf))
    rw [hE, hV]
    clear h1 hE hV hn64 h4 hf
    go_enter Tryd.func34, Tryd.ntmps34
    go_wp2_with fail
    refine (HFR.out _ (Below.refl _ _)).mono ?_
    rintro e w2 ⟨rfl, hb⟩
    go_wp2_with fail
    go_ret2
    exact ⟨_, rfl, ⟨rfl, .inl ⟨rfl, rfl⟩⟩, hb⟩
  have hdf : decide ((freeL u).length < N) = false := decide_eq_false (by omega)
  have hE : takeE u N = 0 := by unfold takeE; rw [if_neg (by omega), if_neg hf]
  have hV : takeV u N = (freeL u).take N := by unfold takeV; rw [if_neg (by omega)]; rfl
  rw [hE, hV]
  have HN1 : Hid (1 ≤ N) := Lib.hid (by omega)
  have HN4 : Hid (N ≤ 4) := Lib.hid (by omega)
  have HNF : Hid (N ≤ (freeL u).length) := Lib.hid (by omega)
  clear hE hV hn64 h1 h4 hf
  go_enter Tryd.func34, Tryd.ntmps34
  go_wp2_with fail
  refine (HFR.out _ (Below.refl _ _)).mono ?_
  rintro e w2 ⟨rfl, hb⟩
  have HB2 := Lib.hid hb
  clear hb
  go_wp2_with fail
  refine (HUS.out _ HB2.out).mono ?_
  rintro e w3 ⟨rfl, hb⟩
  have HB3 := Lib.hid (HB2.out.trans (hb.mono HB2.out.size))
  clear hb HB2 HFR HUS hd1 hd4 hdf
  have hmk := make_ints N HN1.out HN4.out w3
  go_wp2_with fail
  clear hmk
  go_loopw [7, 8] (fun v i wr => ∃ b K : Nat, b ≤ 12 ∧ K ≤ N ∧ (freeB u b).length = K ∧ i = .int .i64 b ∧ wr.ownsRow w.heap.size 3 1 v K (intsV (freeB u b)) ∧ Below w.heap.size w wr) (fun _ i _ => 12 - (intOf i).toNat)
  case atStart => exact ⟨0, 0, by omega, by omega, rfl, rfl, own_base (own_ints0 w3 N HN4.out) HB3.out.size, HB3.out.trans ((Below.refl _ _).alloc HB3.out.size _)⟩
  case round =>
    obtain ⟨b, K, hb, hK, hKL, rfl, ho, hbl⟩ := hrel
    obtain ⟨B, cc, rfl, hcc⟩ := own_slice_form ho
    have HK := Lib.hid hKL
    have HO := Lib.hid ho
    have HBL := Lib.hid hbl
    have hcK := hcc
    clear hKL ho hbl hcc
    by_cases hlt : K < N
    · have hdd : decide (K < N) = true := decide_eq_true hlt
      have hb12 : b < 12 := by
        rcases Nat.lt_or_ge b 12 with h | h
        · exact h
        · have e : b = 12 := by omega
          subst e
          have := HK.out
          rw [freeB_12] at this
          have := HNF.out
          omega
      have hsh := bit_shr u b
      have hADD := freeB_add u b
      obtain ⟨q, hq⟩ : ∃ q, u.getLsbD b = q := ⟨_, rfl⟩
      rw [hq] at hsh hADD
      have HAD := Lib.hid hADD
      clear hq hADD
      cases q with
      | true =>
        have hsh : bits .and .u16 (hd u / (2 : Int) ^ b) 1 = 1 := hsh
        have HAD2 : Hid (freeB u (b + 1) = freeB u b) := Lib.hid (by rw [HAD.out]; exact List.append_nil _)
        go_wp2_with fail
        refine ⟨⟨b + 1, K, by omega, by omega, by rw [HAD2.out]; exact HK.out, by go_num, by rw [HAD2.out]; exact HO.out, HBL.out⟩, by simp [intOf]; omega⟩
      | false =>
        have hsh : bits .and .u16 (hd u / (2 : Int) ^ b) 1 = 0 := hsh
        have HAD2 : Hid (freeB u (b + 1) = freeB u b ++ [(b : Int)]) := Lib.hid HAD.out
        have HI1 := Lib.hid (ints_one wr (b : Int) (by omega))
        have HAL : Hid (Below w.heap.size w (wr.alloc (.cells #[.int .i64 b] 3))) := Lib.hid (HBL.out.alloc HBL.out.size _)
        have HOA : Hid ((wr.alloc (.cells #[.int .i64 b] 3)).ownsRow w.heap.size 3 1 (.slice B K cc) K (intsV (freeB u b))) := Lib.hid (own_chg HO.out ((Chg.refl (fun _ => False) wr).alloc _) (fun _ _ h => h))
        go_wp2_with (first | ((with_reducible refine wpList_plain ?_ ?_); exact rfl; intro KK hKK; refine wp_append_ints (.tmp 34) (.tmp 36) rfl w.heap.size _ K (freeB u b) rfl HOA.out _ 1 1 [(b : Int)] rfl HI1.out (by have := HN4.out; omega) HAL.out.size (fun kv w5 own1 hb5 => hKK _ _ ?_); clear hKK KK; have HB5 := Lib.hid (HAL.out.trans hb5); have HO5 := Lib.hid own1; clear own1 hb5))
        refine ⟨⟨b + 1, K + 1, by omega, by omega, by rw [HAD2.out, List.length_append, HK.out]; rfl, by go_num, by rw [HAD2.out]; exact HO5.out, HB5.out⟩, by simp [intOf]; omega⟩
    · obtain rfl : K = N := by omega
      have hdd : decide (K < K) = false := decide_eq_false hlt
      go_wp2_with fail
      go_ret2
      have hP := freeB_pre u b hb
      rw [HK.out] at hP
      refine ⟨_, rfl, ?_, HBL.out⟩
      rw [← hP, HK.out]
      exact HO.out
end Go.Proofs.YtnmaplgodimohaaDoor

/- Puts as they lie in memory; puts appended to a slice of none. No function of the program is named here. -/
set_option maxRecDepth 4000
namespace Go.Proofs.YtnmaplgodimohaaDoor
open Go Go.RowKit
def pcell (x : Int × List (BitVec 8)) : List Value := .int .i64 x.1 :: bytesV x.2
def PutsAt (w : World) (v : Value) (l : List (Int × List (BitVec 8))) : Prop := ∃ A c, v = .slice A l.length c ∧ l.length ≤ c ∧ (∀ x ∈ l, x.2.length = 32 ∧ -9223372036854775808 ≤ x.1 ∧ x.1 < 9223372036854775808) ∧
  (l ≠ [] → ∃ b o, A = some ⟨b, o, none⟩ ∧ b < w.heap.size ∧ ∀ k x, l[k]? = some x → w.rangeAt b (o + k * 33) (pcell x))
theorem PutsAt.below {w w' : World} {v : Value} {l : List (Int × List (BitVec 8))} {B : Nat} (h : PutsAt w v l) (hb : Below B w w') (hB : w.heap.size ≤ B) : PutsAt w' v l := by
  obtain ⟨A, c, h1, h2, h3, h4⟩ := h
  refine ⟨A, c, h1, h2, h3, fun hne => ?_⟩
  obtain ⟨b, o, h5, h6, h7⟩ := h4 hne
  exact ⟨b, o, h5, Nat.lt_of_lt_of_le h6 hb.size, fun k x hx j v hv => (hb.cell (p := ⟨b, o + k * 33 + j, none⟩) (Nat.lt_of_lt_of_le h6 hB)).trans (h7 k x hx j v hv)⟩
theorem len_pcell {x : Int × List (BitVec 8)} (h : x.2.length = 32) : (pcell x).length = 33 := by simp [pcell, bytesV, h]
theorem len_puts {l : List (Int × List (BitVec 8))} (h : ∀ x ∈ l, x.2.length = 32) : (l.map pcell).flatten.length = l.length * 33 := by
  induction l with
  | nil => rfl
  | cons x l ih =>
    rw [List.map_cons, List.flatten_cons, List.length_append, ih (fun y hy => h y (List.mem_cons_of_mem _ hy)), len_pcell (h x (List.mem_cons_self ..)), List.length_cons]
    omega
end Go.Proofs.YtnmaplgodimohaaDoor

/- An append of so many zeros onto a slice of bytes of the call's own. -/
set_option maxRecDepth 4000
namespace Go.Proofs.YtnmaplgodimohaaDoor
open Go Go.RowKit
section
variable (w : World)
end
end Go.Proofs.YtnmaplgodimohaaDoor

/- Which blocks volumes use, which are free, the least of them: the document's answer. -/
set_option maxRecDepth 4000
namespace Go.Proofs.YtnmaplgodimohaaDoor
open Go Go.RowKit
end Go.Proofs.YtnmaplgodimohaaDoor

/- Two puts compared. -/
set_option maxRecDepth 4000
namespace Go.Proofs.YtnmaplgodimohaaDoor
open Go Go.RowKit
theorem take_pcell (i : Int) (q : List (BitVec 8)) (hq : q.length = 32) : (List.take 32 (pcell (i, q)).tail).toArray = bs q := by
  show (List.take 32 (bytesV q)).toArray = _
  rw [List.take_of_length_le (by rw [len_bytesV, hq]; exact Nat.le_refl _)]; rfl
theorem eql_put (x y : Int × List (BitVec 8)) (hx : x.2.length = 32) (hy : y.2.length = 32) (w : World) : (Op.equalIn 10000 70 (.agg (pcell x).toArray) (.agg (pcell y).toArray)).run Tryd.prog w = .ok (decide (x = y)) w := by
  have hS : Tryd.prog.underlying 70 = some (.struct (Tryd.prog.fieldsOf 70)) := by kernel_rfl
  obtain ⟨i, p⟩ := x
  obtain ⟨j, q⟩ := y
  have h3 := equal_bytesD 9997 36 32 p q hx hy Tryd.underlying36 w
  rw [show (10000 : Nat) = 9999 + 1 from rfl, run_equalIn_agg w 9999 70 _ _ hS (by kernel_rfl)]
  simp only [Program.fieldsOf, Tryd.underlying70]
  have u1 := Tryd.underlying3
  have c1 : (pcell (i, p))[0]? = some (.int .i64 i) := rfl
  have c2 : (pcell (j, q))[0]? = some (.int .i64 j) := rfl
  go_simp
  rw [take_pcell i p hx, take_pcell j q hy]
  rw [show (9999 : Nat) = 9997 + 2 from rfl, h3]
  by_cases h1 : i = j <;> by_cases h2 : p = q <;> simp [h1, h2]
end Go.Proofs.YtnmaplgodimohaaDoor

/- Two blocks of a call's own that stay as they are, and all that was there ahead of the call. -/
set_option maxRecDepth 4000
namespace Go.Proofs.YtnmaplgodimohaaDoor
open Go Go.RowKit
structure At2 (w W : World) (g1 : Nat) (t1 : TypeId) (c1 : Array Value) (g2 : Nat) (t2 : TypeId) (c2 : Array Value) (B0 : Nat) : Prop where
  r1 : Row W g1 t1 c1
  r2 : Row W g2 t2 c2
  below : Below w.heap.size w W
  bse : B0 ≤ W.heap.size
  lo1 : w.heap.size ≤ g1
  lo2 : w.heap.size ≤ g2
  l1 : g1 < B0
  l2 : g2 < B0
  b0 : w.heap.size ≤ B0
section
variable {w W W' : World} {g1 g2 B0 g : Nat} {t1 t2 : TypeId} {c1 c2 : Array Value}
theorem At2.call (h : At2 w W g1 t1 c1 g2 t2 c2 B0) (k : Same W W') : At2 w W' g1 t1 c1 g2 t2 c2 B0 :=
  ⟨h.r1.call k, h.r2.call k, h.below.trans (k.mono h.below.size), Nat.le_trans h.bse k.size, h.lo1, h.lo2, h.l1, h.l2, h.b0⟩
theorem At2.grow (h : At2 w W g1 t1 c1 g2 t2 c2 B0) (k : Below B0 W W') : At2 w W' g1 t1 c1 g2 t2 c2 B0 :=
  ⟨(k.block g1 h.l1).trans h.r1, (k.block g2 h.l2).trans h.r2, h.below.trans (k.mono h.b0), Nat.le_trans h.bse k.size, h.lo1, h.lo2, h.l1, h.l2, h.b0⟩
theorem At2.only (h : At2 w W g1 t1 c1 g2 t2 c2 B0) (hg : B0 ≤ g) (k : W.grownBy W' (some g)) : At2 w W' g1 t1 c1 g2 t2 c2 B0 :=
  h.grow (only_below k hg h.bse)
theorem At2.set (h : At2 w W g1 t1 c1 g2 t2 c2 B0) (hg : B0 ≤ g) (cs : Array Value) : At2 w (W.setRow g cs) g1 t1 c1 g2 t2 c2 B0 := h.only hg (grown_setRow W g cs)
end
end Go.Proofs.YtnmaplgodimohaaDoor

/- Are two lists of puts alike? -/
set_option maxRecDepth 4000
namespace Go.Proofs.YtnmaplgodimohaaDoor
open Go Go.RowKit
attribute [local go_sem high] eql_put
end Go.Proofs.YtnmaplgodimohaaDoor
