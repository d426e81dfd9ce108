/- Merged: Words Mem Sl OpenB Inv Does Ph Phs Obj CopyR St StMore PhA Fill ByteI Half Lit MarkB Read OpenN Ints Vols NamesSpec PoolUsed PoolFree Blk EqI BlkE Mod. -/
import Derived.WalkKit
import Derived.Laws.BitsAllLaws
import Derived.Laws.BitsLemmas
import Derived.Laws.Rows
import Derived.Laws.OwnMore
import Derived.Below
import Derived.Deep.Draws
import Derived.Laws.CopyOwn
import Derived.Laws.AppendOwn
import Derived.Deep.MidRow
import Derived.Deep.WholeRow
import Derived.Test.YtefhenkdakokeaaProg
import Derived.Still
import Derived.Laws.AppendOwnNone
import Derived.Laws.MakeOwn
import Derived.OwnWalk
import Derived.Maps.AppendAt
import Derived.Maps.RangeWalk
import Derived.Lib.SlBytesConst
import Derived.Lib.Hide
import Derived.ProofKit
import Derived.OpenShut
import Derived.Carry
import Derived.Deep.DeepHandedRow
import Derived.Deep.Slices
import Derived.OrdersHeld
import Derived.Great.BuildSlice
import Derived.Laws.IdiomStrings
import Derived.ChangeShapes
import Derived.Deep.DeepAppendWide
import Derived.Deep.Cut
import Derived.Lib.BitFns
import Derived.Laws.StructEq
/- Plain facts on machine words as bit vectors, in the walk's own spelling: what the operations of Go on uint8, uint32 and uint64 come to. No condition. -/
set_option maxRecDepth 4000
namespace Go.Proofs.Ytefhenkdakokeaa
open Go Go.RowKit

def bd (x : BitVec 8) : Int := (x.toNat : Int)

theorem bd_lo (x : BitVec 8) : 0 ≤ bd x := by unfold bd; omega
theorem bd_inj {x y : BitVec 8} (h : bd x = bd y) : x = y := by unfold bd at h; exact BitVec.eq_of_toNat_eq (by omega)
theorem bd_of (n : Int) (h0 : 0 ≤ n) (h1 : n < 256) : n = bd (BitVec.ofInt 8 n) := by
  unfold bd; obtain ⟨m, rfl⟩ := Int.eq_ofNat_of_zero_le h0
  rw [ofInt_u8 m (by omega)]

def zer (n : Nat) : List (BitVec 8) := List.replicate n 0
theorem length_zer (n : Nat) : (zer n).length = n := by simp [zer]
end Go.Proofs.Ytefhenkdakokeaa

/- A block of memory that is known whole, and how it lasts through draws, new blocks, stores elsewhere and calls. No condition beyond the theorems' own. -/
set_option maxRecDepth 4000
namespace Go.Proofs.Ytefhenkdakokeaa
open Go Go.RowKit

def Row (w : World) (g : Nat) (t : TypeId) (cs : Array Value) : Prop := w.heap[g]? = some (.cells cs t (0, 0))

section
variable {w w' : World} {g : Nat} {t : TypeId} {cs : Array Value}
theorem Row.lt (h : Row w g t cs) : g < w.heap.size := by
  by_cases hl : g < w.heap.size
  · exact hl
  · unfold Row at h; rw [Array.getElem?_eq_none (by omega)] at h; cases h
theorem Row.cell (h : Row w g t cs) (i : Nat) : w.cell? ⟨g, i, none⟩ = cs[i]? := cell_of_row w g i cs t (0, 0) h
theorem Row.free (h : Row w g t cs) (i : Nat) : w.frozen? ⟨g, i, none⟩ = false := frozen_of_row w g i cs t h
theorem Row.fresh (w : World) (t : TypeId) (cs : Array Value) : Row (w.alloc (.cells cs t)) w.heap.size t cs := heap_alloc_new w _
theorem Row.drew (h : Row w g t cs) : Row w.drew g t cs := h
theorem Row.alloc (h : Row w g t cs) (o : Obj) : Row (w.alloc o) g t cs := (Below.heap_alloc w o g h.lt).trans h
theorem Row.put (h : Row w g t cs) (i : Nat) (v : Value) : Row (w.setCell ⟨g, i, none⟩ v) g t (cs.setIfInBounds i v) := heap_setCell_same w g i cs t v h
theorem Row.far (h : Row w g t cs) {p : Addr} (hp : g ≠ p.block) (v : Value) : Row (w.setCell p v) g t cs := (heap_setCell_other w p g v hp).trans h
theorem Row.setRow (h : Row w g t cs) (ds : Array Value) : Row (w.setRow g ds) g t ds := setRow_heap w g cs ds t (0, 0) h
theorem Row.below {B : Nat} (h : Row w g t cs) (hb : Below B w w') (hg : g < B) : Row w' g t cs := (hb.block g hg).trans h
theorem Row.call (h : Row w g t cs) (hb : Below w.heap.size w w') : Row w' g t cs := h.below hb h.lt
theorem Row.get (h : Row w g t cs) {i : Nat} {v : Value} (hi : cs[i]? = some v) : w.cell? ⟨g, i, none⟩ = some v := (h.cell i).trans hi
end

theorem row2b (w : World) (t : TypeId) (cs : Array Value) (o1 : Obj) : Row ((w.alloc o1).alloc (.cells cs t)) (w.heap.size + 1) t cs := by
  have e : w.heap.size + 1 = (w.alloc o1).heap.size := by simp
  rw [e]; exact Row.fresh _ _ _
def bs (l : List (BitVec 8)) : Array Value := (l.map fun x => Value.int .u8 (bd x)).toArray
theorem size_bs (l : List (BitVec 8)) : (bs l).size = l.length := by simp [bs]
theorem get_bs (l : List (BitVec 8)) (i : Nat) (h : i < l.length) : (bs l)[i]? = some (.int .u8 (bd (l.getD i 0))) := by simp [bs, h]
theorem set_bs (l : List (BitVec 8)) (i : Nat) (x : BitVec 8) : (bs l).setIfInBounds i (.int .u8 (bd x)) = bs (l.set i x) := by
  simp [bs, List.map_set]
theorem one_bs (l : List (BitVec 8)) : (bs l).all (·.oneCell') = true := by simp [bs, Value.oneCell']
theorem len_bs (b : List (BitVec 8)) : (bs b).toList.length = b.length := by simp [bs]
theorem Row.only {w w' : World} {g k : Nat} {t : TypeId} {cs : Array Value} (h : Row w k t cs) (hw : w.grownBy w' (some g)) (hne : k ≠ g) : Row w' k t cs :=
  (hw.block k h.lt (fun e => hne (by injection e))).trans h

end Go.Proofs.Ytefhenkdakokeaa

/- Slices of bytes and lists of them: what they read as, how they are appended, taken apart and handed on. No function of the program is named here. -/
set_option maxRecDepth 4000
namespace Go.Proofs.Ytefhenkdakokeaa
open Go Go.RowKit
theorem i64_id (n : Int) (h0 : 0 ≤ n) (h1 : n < 9223372036854775808) : IntKind.i64.wrap n = n := by
  rw [IntKind.wrap_i64]; omega
theorem ret_int {k : IntKind} {a b : Int} (h : a = b) : Ending.returned (.int k a) = .returned (.int k b) := by rw [h]
def bytesV (q : List (BitVec 8)) : List Value := q.map fun x => Value.int .u8 (bd x)
theorem size_u8 : (Try.prog.info? 5).map (·.size) = some 1 := by kernel_rfl
/- a slice value that reads as the bytes q -/
def Slice (w : World) (v : Value) (q : List (BitVec 8)) : Prop :=
  ∃ A c, v = .slice A q.length c ∧ q.length ≤ c ∧ (q ≠ [] → ∃ b o, A = some ⟨b, o, none⟩ ∧ b < w.heap.size ∧ ∀ j x, q[j]? = some x → w.cell? ⟨b, o + j, none⟩ = some (.int .u8 (bd x)))
/- a slice value that reads as these slices of bytes -/
def Parts (w : World) (v : Value) (ps : List (List (BitVec 8))) : Prop :=
  ∃ A c, v = .slice A ps.length c ∧ (ps ≠ [] → ∃ b o, A = some ⟨b, o, none⟩ ∧ b < w.heap.size ∧ ∀ k q, ps[k]? = some q → ∃ u, w.cell? ⟨b, o + k, none⟩ = some u ∧ Slice w u q)
theorem Slice.below {w w' : World} {B : Nat} {v : Value} {q : List (BitVec 8)} (h : Slice w v q) (hb : Below B w w') (hB : w.heap.size ≤ B) : Slice w' v q := by
  obtain ⟨A, c, h1, h2, h3⟩ := h
  refine ⟨A, c, h1, h2, fun hne => ?_⟩
  obtain ⟨b, o, h4, h5, h6⟩ := h3 hne
  exact ⟨b, o, h4, Nat.lt_of_lt_of_le h5 hb.size, fun j x hx => (hb.cell (p := ⟨b, o + j, none⟩) (Nat.lt_of_lt_of_le h5 hB)).trans (h6 j x hx)⟩
theorem grown_of_below {w w' : World} (hb : Below w.heap.size w w') (row : Option Nat) : w.grownBy w' row := ⟨hb.os, hb.tape, hb.output, hb.size, fun k hk _ => hb.block k hk⟩
theorem below_of_grown {w w' : World} {base : Nat} {row : Option Nat} (h : w.grownBy w' row) (hr : ∀ g, row = some g → base ≤ g) (hs : base ≤ w.heap.size) : Below base w w' :=
  ⟨h.os, h.tape, h.output, h.size, fun k hk => h.block k (by omega) (fun e => by have := hr k e.symm; omega)⟩
theorem owns_call {w w' : World} {base e size n : Nat} {v : Value} {xs : List Value} (h : w.ownsRow base e size v n xs) (hb : Below w.heap.size w w') : w'.ownsRow base e size v n xs := by
  refine h.kept (row := none) (grown_of_below hb none) ?_
  cases hv : v.ownBlock with
  | none => exact .inl rfl
  | some g => exact .inr (by simp)
/- a slice of the call's own that is not empty: where it lies and what it holds -/
theorem owns_form {w : World} {base n : Nat} {e : TypeId} {v : Value} {q : List (BitVec 8)} (h : w.ownsRow base e 1 v n (bytesV q)) (hq : 0 < q.length) :
    ∃ g cap, v = .slice (some ⟨g, 0, none⟩) q.length cap ∧ base ≤ g ∧ g < w.heap.size ∧ q.length ≤ cap ∧ ∀ j x, q[j]? = some x → w.cell? ⟨g, j, none⟩ = some (.int .u8 (bd x)) := by
  have hn : q.length = n := by have := h.1; simp [bytesV] at this; omega
  subst hn
  rcases h.2 with ⟨_, h0⟩ | ⟨g, cap, cur, rfl, hg, hh, hc, _⟩
  · omega
  · refine ⟨g, cap, rfl, hg, (h.lt g rfl).2, hc, fun j x hx => ?_⟩
    have hj := (List.getElem?_eq_some_iff.1 hx).1
    have := h.cellAt j (by omega)
    rw [this]
    simp [bytesV, hx]
theorem Slice.take {w : World} {A : Option Addr} {c k : Nat} {q : List (BitVec 8)} (h : Slice w (.slice A q.length c) q) (hk : k ≤ q.length) : Slice w (.slice A k c) (q.take k) := by
  obtain ⟨A', c', h1, h2, h3⟩ := h
  injection h1 with h1 _ h1c
  subst h1 h1c
  refine ⟨A, c, by rw [List.length_take, Nat.min_eq_left hk], by rw [List.length_take]; omega, fun hne => ?_⟩
  obtain ⟨b, o, h4, h5, h6⟩ := h3 (by intro e; subst e; simp at hne)
  refine ⟨b, o, h4, h5, fun j x hx => h6 j x ?_⟩
  rw [List.getElem?_take] at hx
  split at hx
  · exact hx
  · cases hx
theorem Slice.drop {w : World} {A : Option Addr} {c k : Nat} {q : List (BitVec 8)} (h : Slice w (.slice A q.length c) q) (hk : k ≤ q.length) : Slice w (.slice (if c = k then A else A.map (·.add k)) (q.length - k) (c - k)) (q.drop k) := by
  obtain ⟨A', c', h1, h2, h3⟩ := h
  injection h1 with h1 _ h1c
  subst h1 h1c
  refine ⟨_, c - k, by rw [List.length_drop], by rw [List.length_drop]; omega, fun hne => ?_⟩
  have hl : 0 < (q.drop k).length := List.length_pos_iff.2 hne
  rw [List.length_drop] at hl
  obtain ⟨b, o, h4, h5, h6⟩ := h3 (by intro e; subst e; simp at hne)
  subst h4
  refine ⟨b, o + k, ?_, h5, fun j x hx => ?_⟩
  · rw [if_neg (by omega)]; simp [Addr.add_mid]
  · rw [List.getElem?_drop] at hx
    rw [Nat.add_assoc]; exact h6 _ x hx
theorem Parts.below {w w' : World} {B : Nat} {v : Value} {ps : List (List (BitVec 8))} (h : Parts w v ps) (hb : Below B w w') (hB : w.heap.size ≤ B) : Parts w' v ps := by
  obtain ⟨A, c, h1, h3⟩ := h
  refine ⟨A, c, h1, fun hne => ?_⟩
  obtain ⟨b, o, h4, h5, h6⟩ := h3 hne
  refine ⟨b, o, h4, Nat.lt_of_lt_of_le h5 hb.size, fun k q hq => ?_⟩
  obtain ⟨u, h7, h8⟩ := h6 k q hq
  exact ⟨u, (hb.cell (p := ⟨b, o + k, none⟩) (Nat.lt_of_lt_of_le h5 hB)).trans h7, h8.below hb hB⟩
/- a slice of bytes that may be appended: nil has no room -/
def Item (w : World) (u : Value) (q : List (BitVec 8)) : Prop := ∃ A c, u = .slice A q.length c ∧ Slice w (.slice A q.length c) q ∧ (A = none → c = 0) ∧ q.length ≤ maxLen
def Hand (w : World) (v : Value) (ps : List (List (BitVec 8))) : Prop :=
  ∃ A c, v = .slice A ps.length c ∧ (ps ≠ [] → ∃ b o, A = some ⟨b, o, none⟩ ∧ b < w.heap.size ∧ ∀ k q, ps[k]? = some q → ∃ u, w.cell? ⟨b, o + k, none⟩ = some u ∧ Item w u q)
theorem Item.below {w w' : World} {B : Nat} {u : Value} {q : List (BitVec 8)} (h : Item w u q) (hb : Below B w w') (hB : w.heap.size ≤ B) : Item w' u q := by
  obtain ⟨A, c, h1, h2, h3⟩ := h
  exact ⟨A, c, h1, h2.below hb hB, h3⟩
theorem Item.slice {w : World} {u : Value} {q : List (BitVec 8)} (h : Item w u q) : Slice w u q := by
  obtain ⟨A, c, rfl, h2, h3⟩ := h
  exact h2
theorem Hand.below {w w' : World} {B : Nat} {v : Value} {ps : List (List (BitVec 8))} (h : Hand w v ps) (hb : Below B w w') (hB : w.heap.size ≤ B) : Hand w' v ps := by
  obtain ⟨A, c, h1, h3⟩ := h
  refine ⟨A, c, h1, fun hne => ?_⟩
  obtain ⟨b, o, h4, h5, h6⟩ := h3 hne
  refine ⟨b, o, h4, Nat.lt_of_lt_of_le h5 hb.size, fun k q hq => ?_⟩
  obtain ⟨u, h7, h8⟩ := h6 k q hq
  exact ⟨u, (hb.cell (p := ⟨b, o + k, none⟩) (Nat.lt_of_lt_of_le h5 hB)).trans h7, h8.below hb hB⟩
theorem own_slice {w : World} {base : Nat} {v : Value} {q : List (BitVec 8)} (h : w.ownsRow base 5 1 v q.length (bytesV q)) : Slice w v q := by
  by_cases hq : q = []
  · subst hq
    rcases h.2 with ⟨rfl, _⟩ | ⟨g, cap, cur, rfl, _⟩
    · exact ⟨none, 0, rfl, by simp, fun h => absurd rfl h⟩
    · exact ⟨_, cap, rfl, by simp, fun h => absurd rfl h⟩
  · obtain ⟨g, cap, rfl, _, h3, h4, h5⟩ := owns_form h (List.length_pos_iff.2 hq)
    exact ⟨_, cap, rfl, h4, fun _ => ⟨g, 0, rfl, h3, fun j x hx => by rw [Nat.zero_add]; exact h5 j x hx⟩⟩
/- slices of the call's own, in a slice of the call's own -/
def Owns (w wr : World) (v : Value) (ps : List (List (BitVec 8))) : Prop :=
  ∃ vs : List Value, wr.ownsRow w.heap.size 70 1 v ps.length vs ∧ Below w.heap.size w wr ∧ ∀ (j : Nat) (q : List (BitVec 8)), ps[j]? = some q → ∃ u, vs[j]? = some u ∧ wr.ownsRow w.heap.size 5 1 u q.length (bytesV q)
theorem Owns.parts {w wr : World} {v : Value} {ps : List (List (BitVec 8))} (h : Owns w wr v ps) : Parts wr v ps := by
  obtain ⟨vs, h1, _, h3⟩ := h
  rcases h1.2 with ⟨rfl, h0⟩ | ⟨g, cap, cur, rfl, hg, hh, hc, _⟩
  · obtain rfl : ps = [] := List.length_eq_zero_iff.1 h0
    exact ⟨none, 0, rfl, fun h => absurd rfl h⟩
  · refine ⟨_, cap, rfl, fun _ => ⟨g, 0, rfl, (h1.lt g rfl).2, fun k q hq => ?_⟩⟩
    obtain ⟨u, hu, ho⟩ := h3 k q hq
    have hk := (List.getElem?_eq_some_iff.1 hq).1
    exact ⟨u, by rw [Nat.zero_add, h1.cellAt k (by omega), hu], own_slice ho⟩
/- the slices of a slice of slices, as a list -/
theorem Parts.list {w : World} {v : Value} {ps : List (List (BitVec 8))} (h : Parts w v ps) : ∃ A c, ∃ us : List Value, v = .slice A ps.length c ∧ us.length = ps.length ∧ (∀ ad, A = some ad → ∀ (j : Nat) (u : Value), us[j]? = some u → w.cell? (ad.add j) = some u) ∧ (A = none → ps = []) ∧
    (∀ u ∈ us, Value.oneCell' u = true) ∧ ∀ (k : Nat) (q : List (BitVec 8)), ps[k]? = some q → ∃ u, us[k]? = some u ∧ Slice w u q := by
  obtain ⟨A, c, rfl, h3⟩ := h
  by_cases hne : ps = []
  · subst hne
    exact ⟨A, c, [], rfl, rfl, fun _ _ j u hu => (by simp at hu), fun _ => rfl, fun u hu => (by cases hu), fun k q hq => (by simp at hq)⟩
  · obtain ⟨b, o, rfl, _, hc⟩ := h3 hne
    have hk : ∀ k, k < ps.length → ∃ u, w.cell? ⟨b, o + k, none⟩ = some u ∧ Slice w u (ps.getD k []) := fun k hk => hc k _ (by rw [List.getD_eq_getElem?_getD, List.getElem?_eq_getElem hk]; rfl)
    refine ⟨some ⟨b, o, none⟩, c, (List.range ps.length).map fun k => (w.cell? ⟨b, o + k, none⟩).getD undef, rfl, by simp, ?_, fun h => (by cases h), ?_, ?_⟩
    · rintro ad e j u hu
      injection e with e
      subst e
      simp only [List.getElem?_map, Option.map_eq_some_iff] at hu
      obtain ⟨k, hk1, rfl⟩ := hu
      have hlt : j < ps.length := by have := (List.getElem?_eq_some_iff.1 hk1).1; simpa using this
      obtain rfl : j = k := by simpa [hlt] using hk1
      obtain ⟨u, hu, _⟩ := hk _ hlt
      rw [Addr.add_mid, hu]; rfl
    · intro u hu
      simp only [List.mem_map, List.mem_range] at hu
      obtain ⟨k, hlt, rfl⟩ := hu
      obtain ⟨u, hu, A', c', rfl, _⟩ := hk k hlt
      rw [hu]; rfl
    · intro k q hq
      have hlt := (List.getElem?_eq_some_iff.1 hq).1
      obtain ⟨u, hu, hs⟩ := hk k hlt
      rw [List.getD_eq_getElem?_getD, hq] at hs
      exact ⟨u, by simp [hlt, hu], hs⟩
/- the slices of a slice of slices that was handed in, as a list -/
theorem Hand.list {w : World} {v : Value} {ps : List (List (BitVec 8))} (h : Hand w v ps) : ∃ A c, ∃ us : List Value, v = .slice A ps.length c ∧ us.length = ps.length ∧ (∀ ad, A = some ad → ∀ (j : Nat) (u : Value), us[j]? = some u → w.cell? (ad.add j) = some u) ∧ (A = none → ps = []) ∧
    (∀ u ∈ us, Value.oneCell' u = true) ∧ ∀ (k : Nat) (q : List (BitVec 8)), ps[k]? = some q → ∃ u, us[k]? = some u ∧ Item w u q := by
  obtain ⟨A, c, rfl, h3⟩ := h
  by_cases hne : ps = []
  · subst hne
    exact ⟨A, c, [], rfl, rfl, fun _ _ j u hu => (by simp at hu), fun _ => rfl, fun u hu => (by cases hu), fun k q hq => (by simp at hq)⟩
  · obtain ⟨b, o, rfl, _, hc⟩ := h3 hne
    have hk : ∀ k, k < ps.length → ∃ u, w.cell? ⟨b, o + k, none⟩ = some u ∧ Item w u (ps.getD k []) := fun k hk => hc k _ (by rw [List.getD_eq_getElem?_getD, List.getElem?_eq_getElem hk]; rfl)
    refine ⟨some ⟨b, o, none⟩, c, (List.range ps.length).map fun k => (w.cell? ⟨b, o + k, none⟩).getD undef, rfl, by simp, ?_, fun h => (by cases h), ?_, ?_⟩
    · rintro ad e j u hu
      injection e with e
      subst e
      simp only [List.getElem?_map, Option.map_eq_some_iff] at hu
      obtain ⟨k, hk1, rfl⟩ := hu
      have hlt : j < ps.length := by have := (List.getElem?_eq_some_iff.1 hk1).1; simpa using this
      obtain rfl : j = k := by simpa [hlt] using hk1
      obtain ⟨u, hu, _⟩ := hk _ hlt
      rw [Addr.add_mid, hu]; rfl
    · intro u hu
      simp only [List.mem_map, List.mem_range] at hu
      obtain ⟨k, hlt, rfl⟩ := hu
      obtain ⟨u, hu, A', c', rfl, _⟩ := hk k hlt
      rw [hu]; rfl
    · intro k q hq
      have hlt := (List.getElem?_eq_some_iff.1 hq).1
      obtain ⟨u, hu, hs⟩ := hk k hlt
      rw [List.getD_eq_getElem?_getD, hq] at hs
      exact ⟨u, by simp [hlt, hu], hs⟩
theorem row_range {w W : World} {B g : Nat} {t : TypeId} {l : List (BitVec 8)} (h : Row w g t (bs l)) (hb : Below B w W) (hg : g < B) : W.rangeAt g 0 (bs l).toList := fun j v hv => by
  rw [Nat.zero_add, (h.below hb hg).cell]; simpa using hv
theorem bs_toList (l : List (BitVec 8)) : (bs l).toList = bytesV l := by simp [bs, bytesV]
theorem grown_setRow (w : World) (g : Nat) (cs : Array Value) : w.grownBy (w.setRow g cs) (some g) :=
  ⟨rfl, rfl, rfl, by rw [size_setRow]; exact Nat.le_refl _, fun k _ hk => setRow_other w g k cs (fun e => hk (by rw [e]))⟩
def modK (k : Int) (n : Nat) : Nat := ((k.tmod n + n) % n).toNat
theorem modK_lt (k : Int) (n : Nat) (h : 0 < n) : modK k n < n := by
  unfold modK
  have h1 := Int.emod_nonneg (k.tmod n + n) (show (n : Int) ≠ 0 by omega)
  have h2 := Int.emod_lt_of_pos (k.tmod n + n) (show (0 : Int) < n by omega)
  omega
theorem Hand.parts {w : World} {v : Value} {ps : List (List (BitVec 8))} (h : Hand w v ps) : Parts w v ps := by
  obtain ⟨A, c, h1, h3⟩ := h
  refine ⟨A, c, h1, fun hne => ?_⟩
  obtain ⟨b, o, h4, h5, h6⟩ := h3 hne
  refine ⟨b, o, h4, h5, fun k q hq => ?_⟩
  obtain ⟨u, h7, h8⟩ := h6 k q hq
  exact ⟨u, h7, h8.slice⟩
end Go.Proofs.Ytefhenkdakokeaa

/- Arguments opened: a slice of bytes, a list of them, an array of integers. -/
set_option maxRecDepth 4000
namespace Go.Proofs.Ytefhenkdakokeaa
open Go Go.ChangeShapes Go.WideShapes Go.ChangeAt Go.RowKit
theorem ownK : ownKnob Try.prog.godebug = none := by kernel_rfl
theorem laidOutT : laidOutB Try.prog = true := by kernel_rfl
def intIn : Value → Int
  | .int _ z => z
  | _ => 0
end Go.Proofs.Ytefhenkdakokeaa

/- A region that draws its order, walked once: what each operation yields holds by what those that it waits for yielded, whichever comes up. The conditions: the theorems' own. -/
set_option maxRecDepth 4000
namespace Go.Proofs.Ytefhenkdakokeaa
open Go Go.RowKit
/- what an operation yields -/
def Does (P : Program) (o : Oper) (a : Act) (w : World) (R : Value → World → Prop) : Prop :=
  ∀ (K : Act → World → Prop) (Q : Exit → Act → World → Prop), (∀ v w', R v w' → K (a.put o.dst v) w') → o.wp P a w K Q
def dstAt (ops : Array Oper) (i : Nat) : Option Tmp := (ops[i]?).bind (·.dst)
def waitsFor (o : Oper) (j : Nat) : Bool := o.after.any fun e => Region.binds .any e && e.on == j
section
variable {P : Program} {Q : Exit → Act → World → Prop} {ops : Array Oper} {n : Nat} {R : World → World → Prop} {V : Nat → Value → World → Prop} {G : Nat → Bool} {a0 : Act} {w1 : World}
def Known (ops : Array Oper) (n : Nat) (V : Nat → Value → World → Prop) (a : Act) (x : Nat → Value) (w : World) (o : Oper) : Prop :=
  ∀ j, waitsFor o j = true → j < n → V j (x j) w ∧ ∀ d, dstAt ops j = some d → a.tmps[d]? = some (x j)
def All (p : Nat → Oper → Prop) (n : Nat) : List Oper → Nat → Prop
  | [], _ => True
  | o :: l, i => (i < n → p i o) ∧ All p n l (i + 1)
theorem all_cons {p : Nat → Oper → Prop} {o : Oper} {l : List Oper} {i : Nat} (h : p i o) (t : All p n l (i + 1)) : All p n (o :: l) i := ⟨fun _ => h, t⟩
theorem eval_of_get {a : Act} {d : Nat} {v : Value} (h : a.tmps[d]? = some v) : a.eval (.tmp d) = v := by simp [Act.eval, Array.getD_eq_getD_getElem?, h]
end
end Go.Proofs.Ytefhenkdakokeaa

/- The steps of a region that is walked by what each operation yields: the plain operations; what stays of a world while blocks are made and calls come and go. -/
set_option maxRecDepth 4000
namespace Go.Proofs.Ytefhenkdakokeaa
open Go Go.RowKit
/- below B all is as it was; every block keeps its cells -/
structure Keeps (B : Nat) (w w' : World) : Prop where
  below : Below B w w'
  rows : ∀ (g : Nat) (cs : Array Value) (t : TypeId) (fr : Nat × Nat), w.heap[g]? = some (.cells cs t fr) → ∃ fr' : Nat × Nat, w'.heap[g]? = some (.cells cs t fr')
theorem Keeps.refl (B : Nat) (w : World) : Keeps B w w := ⟨Below.refl _ _, fun _ _ _ fr h => ⟨fr, h⟩⟩
theorem Keeps.trans {B : Nat} {a b c : World} (h : Keeps B a b) (k : Keeps B b c) : Keeps B a c :=
  ⟨h.below.trans k.below, fun g cs t fr hg => by obtain ⟨fr', h'⟩ := h.rows g cs t fr hg; exact k.rows g cs t fr' h'⟩
theorem lt_of_heap {w : World} {g : Nat} {o : Obj} (h : w.heap[g]? = some o) : g < w.heap.size := (Array.getElem?_eq_some_iff.1 h).1
theorem Keeps.call {B : Nat} {w w' : World} (h : Below w.heap.size w w') (hB : B ≤ w.heap.size) : Keeps B w w' :=
  ⟨h.mono hB, fun g _ _ fr hg => ⟨fr, (h.block g (lt_of_heap hg)).trans hg⟩⟩
theorem Keeps.alloc {B : Nat} (w : World) (o : Obj) (hB : B ≤ w.heap.size) : Keeps B w (w.alloc o) := Keeps.call ((Below.refl _ _).alloc (Nat.le_refl _) o) hB
theorem Keeps.cell {B : Nat} {w w' : World} (h : Keeps B w w') {a : Addr} {v : Value} (hc : w.cell? a = some v) : w'.cell? a = some v := by
  unfold World.cell? at *
  cases hg : w.heap[a.block]? with
  | none => rw [hg] at hc; cases hc
  | some o =>
    rw [hg] at hc
    cases o with
    | cells cs t fr => obtain ⟨fr', h'⟩ := h.rows _ _ _ _ hg
                       rw [h']; exact hc
    | _ => cases hc
theorem Keeps.slice {B : Nat} {w w' : World} {v : Value} {q : List (BitVec 8)} (h : Keeps B w w') (hs : Slice w v q) : Slice w' v q := by
  obtain ⟨A, c, h1, h2, h3⟩ := hs
  refine ⟨A, c, h1, h2, fun hne => ?_⟩
  obtain ⟨b, o, h4, h5, h6⟩ := h3 hne
  exact ⟨b, o, h4, Nat.lt_of_lt_of_le h5 h.below.size, fun j x hx => h.cell (h6 j x hx)⟩
theorem Keeps.parts {B : Nat} {w w' : World} {v : Value} {ps : List (List (BitVec 8))} (h : Keeps B w w') (hs : Parts w v ps) : Parts w' v ps := by
  obtain ⟨A, c, h1, h3⟩ := hs
  refine ⟨A, c, h1, fun hne => ?_⟩
  obtain ⟨b, o, h4, h5, h6⟩ := h3 hne
  refine ⟨b, o, h4, Nat.lt_of_lt_of_le h5 h.below.size, fun k q hq => ?_⟩
  obtain ⟨u, h7, h8⟩ := h6 k q hq
  exact ⟨u, h.cell h7, h.slice h8⟩
/- what a value is known by -/
def is (c : Value) : Value → World → Prop := fun v _ => v = c
def Stays (B : Nat) (V : Value → World → Prop) : Prop := ∀ v w w', V v w → Keeps B w w' → V v w'
section
variable {P : Program} {ops : Array Oper} {n : Nat} {R : World → World → Prop} {V : Nat → Value → World → Prop} {G : Nat → Bool} {a0 a : Act} {w1 w : World} {x : Nat → Value} {o : Oper} {l : List Oper} {i : Nat}
theorem Known.get (hk : Known ops n V a x w o) (j d : Nat) (hw : waitsFor o j = true) (hj : j < n) (hd : dstAt ops j = some d) : ∃ v, a.tmps[d]? = some v ∧ V j v w := ⟨x j, (hk j hw hj).2 d hd, (hk j hw hj).1⟩
theorem Known.is (hk : Known ops n V a x w o) (j d : Nat) (hw : waitsFor o j = true) (hj : j < n) (hd : dstAt ops j = some d) (c : Value) (hV : V j = is c) : a.tmps[d]? = some c := by
  obtain ⟨h1, h2⟩ := hk j hw hj
  rw [hV] at h1
  rw [h2 d hd]; exact congrArg some h1
end
section
variable {P : Program} {o : Oper} {a : Act} {w : World} {R : Value → World → Prop}
theorem does_run {v : Value} {w' : World} (h : (execOp a.eval o).run P w = .ok (.value v) w') (hR : R v w') : Does P o a w R := fun K Q hK => by
  unfold Oper.wp; rw [h]; exact hK v w' hR
end
end Go.Proofs.Ytefhenkdakokeaa

/- A region that draws its order and in which some operations change what was there (calls of methods, appends, stores), one behind the other: each of them begins a new phase; what is known of the world hangs on the phase. -/
set_option maxRecDepth 4000
namespace Go.Proofs.Ytefhenkdakokeaa
open Go Go.RowKit
def phAfter (U : Nat → Bool) (ph : Nat → Option Nat) (i : Nat) : Option Nat := (ph i).map fun p => if U i then p + 1 else p
section
variable {P : Program} {Q : Exit → Act → World → Prop} {ops : Array Oper} {n : Nat} {K : World → World → Prop} {Φ : Nat → World → Prop} {V : Nat → Value → World → Prop} {G U rig : Nat → Bool} {ph : Nat → Option Nat} {a0 : Act} {w1 : World}
def KnownP (ops : Array Oper) (n : Nat) (V : Nat → Value → World → Prop) (U rig : Nat → Bool) (ph : Nat → Option Nat) (q : Option Nat) (a : Act) (x : Nat → Value) (w : World) (o : Oper) : Prop :=
  ∀ j, waitsFor o j = true → j < n → (rig j = true ∨ (q.isSome = true ∧ phAfter U ph j = q) → V j (x j) w) ∧ ∀ d, dstAt ops j = some d → a.tmps[d]? = some (x j)
end
end Go.Proofs.Ytefhenkdakokeaa

/- The region whose operations change things, with lists of what is known: of the values, of the phases. -/
set_option maxRecDepth 4000
namespace Go.Proofs.Ytefhenkdakokeaa
open Go Go.RowKit
/- all that there was is as it was -/
def Same (w w' : World) : Prop := Below w.heap.size w w'
theorem Same.refl (w : World) : Same w w := Below.refl _ _
theorem Same.alloc (w : World) (o : Obj) : Same w (w.alloc o) := (Below.refl _ _).alloc (Nat.le_refl _) o
section
variable {P : Program} {ops : Array Oper} {n : Nat} {K : World → World → Prop} {Φ : Nat → World → Prop} {V : Nat → Value → World → Prop} {G U rig : Nat → Bool} {ph : Nat → Option Nat} {a0 a : Act} {w : World} {x : Nat → Value} {o : Oper} {l : List Oper} {i : Nat} {q : Option Nat}
theorem KnownP.get (hk : KnownP ops n V U rig ph q a x w o) (j d : Nat) (hw : waitsFor o j = true) (hj : j < n) (hd : dstAt ops j = some d) (hor : rig j = true ∨ (q.isSome = true ∧ phAfter U ph j = q)) : ∃ v, a.tmps[d]? = some v ∧ V j v w :=
  ⟨x j, (hk j hw hj).2 d hd, (hk j hw hj).1 hor⟩
theorem KnownP.is (hk : KnownP ops n V U rig ph q a x w o) (j d : Nat) (hw : waitsFor o j = true) (hj : j < n) (hd : dstAt ops j = some d) (hor : rig j = true) (c : Value) (hV : V j = is c) : a.tmps[d]? = some c := by
  obtain ⟨h1, h2⟩ := hk j hw hj
  have h1 := h1 (.inl hor)
  rw [hV] at h1
  rw [h2 d hd]; exact congrArg some h1
end
end Go.Proofs.Ytefhenkdakokeaa

/- What a call changes when it works on things that were there: a footprint; rows of elements of several cells. No function of the program is named here. -/
set_option maxRecDepth 4000
namespace Go.Proofs.Ytefhenkdakokeaa
open Go Go.RowKit
/- all blocks but those of F are as they were -/
structure Chg (F : Nat → Prop) (w w' : World) : Prop where
  os : w'.os = w.os
  tape : w'.tape = w.tape
  output : w'.output = w.output
  size : w.heap.size ≤ w'.heap.size
  block : ∀ k, k < w.heap.size → ¬ F k → w'.heap[k]? = w.heap[k]?
section
variable {F F' : Nat → Prop} {a b c w w' : World}
theorem Chg.refl (F : Nat → Prop) (w : World) : Chg F w w := ⟨rfl, rfl, rfl, Nat.le_refl _, fun _ _ _ => rfl⟩
theorem Chg.trans (h : Chg F a b) (k : Chg F' b c) (hF : ∀ i, F' i → F i ∨ a.heap.size ≤ i) : Chg F a c :=
  ⟨k.os.trans h.os, k.tape.trans h.tape, k.output.trans h.output, Nat.le_trans h.size k.size, fun i hi hn => (k.block i (Nat.lt_of_lt_of_le hi h.size) fun hf => by rcases hF i hf with h1 | h1; exact hn h1; omega).trans (h.block i hi hn)⟩
theorem Chg.mono (h : Chg F a b) (hF : ∀ i, F i → F' i ∨ a.heap.size ≤ i) : Chg F' a b := (Chg.refl F' a).trans h hF
theorem Chg.of_below (h : Below w.heap.size w w') : Chg F w w' := ⟨h.os, h.tape, h.output, h.size, fun k hk _ => h.block k hk⟩
theorem Chg.drew (h : Chg F a w) : Chg F a w.drew := ⟨h.os, h.tape, h.output, h.size, h.block⟩
theorem Chg.alloc (h : Chg F a w) (o : Obj) : Chg F a (w.alloc o) := h.trans (F' := fun _ => False) (Chg.of_below ((Below.refl _ _).alloc (Nat.le_refl _) o)) (fun _ h => h.elim)
theorem Chg.setCell (h : Chg F a w) {p : Addr} (hp : F p.block ∨ a.heap.size ≤ p.block) (v : Value) : Chg F a (w.setCell p v) :=
  ⟨h.os, h.tape, h.output, by rw [World.size_setCell]; exact h.size, fun k hk hn => (Below.heap_setCell _ _ _ _ (fun e => by subst e; rcases hp with h1 | h1; exact hn h1; omega)).trans (h.block k hk hn)⟩
theorem Chg.one (w : World) (g o : Nat) (v : Value) : Chg (fun k => k = g) w (w.setCell ⟨g, o, none⟩ v) := (Chg.refl (fun k => k = g) w).setCell (p := ⟨g, o, none⟩) (.inl rfl) v
theorem Chg.below (h : Chg F w w') {B : Nat} (hF : ∀ i, F i → B ≤ i) (hB : B ≤ w.heap.size) : Below B w w' := ⟨h.os, h.tape, h.output, h.size, fun k hk => h.block k (by omega) fun hf => by have := hF k hf; omega⟩
theorem Chg.grown (h : Chg F a w) {row : Option Nat} (hg : w.grownBy w' row) (hr : ∀ k, row = some k → F k ∨ a.heap.size ≤ k) : Chg F a w' :=
  h.trans (F' := fun k => row = some k) ⟨hg.os, hg.tape, hg.output, hg.size, fun k hk hn => hg.block k hk fun e => hn e.symm⟩ hr
theorem Row.chg {g : Nat} {t : TypeId} {cs : Array Value} (h : Row w g t cs) (k : Chg F w w') (hg : ¬ F g) : Row w' g t cs := (k.block g h.lt hg).trans h
end
/- rows of elements of several cells -/
def spl {α : Type} (L : List α) (o : Nat) (vs : List α) : List α := L.take o ++ vs ++ L.drop (o + vs.length)
theorem length_spl {α : Type} (L : List α) (o : Nat) (vs : List α) (h : o + vs.length ≤ L.length) : (spl L o vs).length = L.length := by simp [spl]; omega
theorem set_eq_spl {α : Type} (L : List α) (o : Nat) (v : α) (h : o < L.length) : L.set o v = spl L o [v] := by
  rw [spl, List.set_eq_take_append_cons_drop, if_pos h]; simp
/- an element of an owned row of elements: read and written -/
section
variable {w : World} {base e sz n cap g : Nat} {l : List (List Value)}
end
/- append: where the slice then lies: where it lay, or in a new block -/
def Where (w : World) (v v' : Value) : Prop := v'.ownBlock = v.ownBlock ∨ ∀ k, v'.ownBlock = some k → w.heap.size ≤ k
theorem Where.cases {w : World} {v v' : Value} (h : Where w v v') {k : Nat} (hk : v'.ownBlock = some k) : v.ownBlock = some k ∨ w.heap.size ≤ k := by
  rcases h with h | h
  · exact .inl (by rw [← h]; exact hk)
  · exact .inr (h k hk)
theorem run_append_where {P : Program} (w : World) (base : Nat) (t ty e : TypeId) (i : TypeInfo) (z : Value) (size bytes : Nat) (ht : P.underlying t = some (.slice e)) (hi : P.info? e = some i) (hz : i.zero = some z)
    (hsize : i.size = size) (hby : i.bytes = bytes) (hzs : z.cells.size = size) (hsz : 0 < size)
    (v : Value) (n : Nat) (xs : List Value) (hown : w.ownsRow base e size v n xs)
    (a : Addr) (m c : Nat) (news : List Value) (hl : news.length = m * size) (hnews : ∀ j u, news[j]? = some u → w.cell? (a.add j) = some u) (h1 : ∀ u ∈ news, u.oneCell' = true)
    (h63 : n + m ≤ maxLen) (hbytes : (n + m) * bytes ≤ 140737488355328) (hbase : base ≤ w.heap.size) :
    ∃ v' w', (Builtin.append_ #[t, t] ty #[v, .slice (some a) m c]).run P w = .ok v' w' ∧ w'.ownsRow base e size v' (n + m) (xs ++ news) ∧ w.grownBy w' v.ownBlock ∧ Where w v v' := by
  obtain ⟨v', w', hr, h2, h3, _⟩ := run_append_own (P := P) w base t ty e i z size bytes ht hi hz hsize hby hzs hsz v n xs hown a m c news hl hnews h1 h63 hbytes hbase
  refine ⟨v', w', hr, h2, h3, ?_⟩
  rcases hown.2 with ⟨rfl, rfl⟩ | ⟨g, cap, cur, rfl, _, _, _, _, _, _⟩
  · obtain rfl : xs = [] := List.eq_nil_of_length_eq_zero (by simpa using hown.1)
    obtain ⟨v2, w2, hr2, h4, _, _⟩ := run_append_own (P := P) w w.heap.size t ty e i z size bytes ht hi hz hsize hby hzs hsz (.slice none 0 0) 0 [] (World.ownsRow_nil _ _ _ _) a m c news hl hnews h1 h63 hbytes (Nat.le_refl _)
    rw [hr] at hr2
    injection hr2 with hr2 _
    subst hr2
    exact .inr fun k hk => (h4.lt k hk).1
  · by_cases hroom : n + m ≤ cap
    · obtain ⟨w2, hr2, _⟩ := run_append_fits (P := P) w base t ty e i size ht hi hsize g n cap xs hown a m c news hl hnews h1 hroom
      rw [hr] at hr2
      injection hr2 with hr2 _
      subst hr2
      exact .inl rfl
    · have hr2 := run_append_grow (P := P) w t ty e i z ht hi hz ⟨g, 0, none⟩ n cap xs (by rw [hsize]; exact hown.1) (hown.cells (g := g) rfl) a m c news (by rw [hsize]; exact hl) hnews (by omega) (by have := h63; simp only [maxLen] at this; omega) (growslice_fits (by omega) (by rw [hby]; exact hbytes))
      rw [hr] at hr2
      injection hr2 with hr2 _
      subst hr2
      refine .inr fun k hk => ?_
      injection hk with hk
      exact Nat.le_of_eq hk
theorem len_bytesV (b : List (BitVec 8)) : (bytesV b).length = b.length := by simp [bytesV]
end Go.Proofs.Ytefhenkdakokeaa

/- Copying bytes into a part of a row; a slice of bytes that was just built. No function of the program is named here. -/
set_option maxRecDepth 4000
namespace Go.Proofs.Ytefhenkdakokeaa
open Go Go.RowKit
/- bytes behind bytes -/
theorem spl_bs (p q : List (BitVec 8)) (off : Nat) : (spl (bs p).toList off (bytesV q)).toArray = bs (spl p off q) := by
  simp [spl, bs, bytesV]
end Go.Proofs.Ytefhenkdakokeaa

/- What a walk knows of the memory, as one list of blocks: the operations on memory as steps from list to list, each with a new world. No function of the program is named here. -/
set_option maxRecDepth 4000
namespace Go.Proofs.Ytefhenkdakokeaa
open Go Go.RowKit
structure Blk where
  g : Nat
  t : TypeId
  cs : Array Value
/- the blocks of R are as said, apart from each other, and may be written; all else that was there at w0, but for F, is as it was -/
structure St (w0 : World) (F : Nat → Prop) (R : List Blk) (w : World) : Prop where
  chg : Chg F w0 w
  rows : ∀ (k : Nat) (r : Blk), R[k]? = some r → Row w r.g r.t r.cs
  apart : ∀ (j k : Nat) (r s : Blk), j ≠ k → R[j]? = some r → R[k]? = some s → r.g ≠ s.g
  own : ∀ (k : Nat) (r : Blk), R[k]? = some r → F r.g ∨ w0.heap.size ≤ r.g
def noF : Nat → Prop := fun _ => False
section
variable {P : Program} {w0 w w' : World} {F : Nat → Prop} {R : List Blk}
theorem St.nil (w0 : World) (F : Nat → Prop) : St w0 F [] w0 := ⟨Chg.refl _ _, fun _ _ h => by simp at h, fun _ _ _ _ _ h => by simp at h, fun _ _ h => by simp at h⟩
theorem St.row (h : St w0 F R w) (k : Nat) {r : Blk} (hk : R[k]? = some r) : Row w r.g r.t r.cs := h.rows k r hk
theorem St.below (h : St w0 noF R w) : Below w0.heap.size w0 w := ⟨h.chg.os, h.chg.tape, h.chg.output, h.chg.size, fun k hk => h.chg.block k hk (fun h => h)⟩
theorem St.same (h : St w0 F R w) (k : Below w.heap.size w w') : St w0 F R w' :=
  ⟨h.chg.trans (F' := fun _ => False) (Chg.of_below k) (fun _ h => h.elim), fun j r hj => (h.rows j r hj).call k, h.apart, h.own⟩
theorem St.drew (h : St w0 F R w) : St w0 F R w.drew := h.same (Below.refl _ _).drew
theorem St.upd (h : St w0 F R w) (k : Nat) {r : Blk} (hk : R[k]? = some r) {cs : Array Value} (hr : Row w' r.g r.t cs) (hg : w.grownBy w' (some r.g)) : St w0 F (R.set k ⟨r.g, r.t, cs⟩) w' := by
  have hlt : k < R.length := (List.getElem?_eq_some_iff.1 hk).1
  have at_ : ∀ (j : Nat) (s : Blk), (R.set k ⟨r.g, r.t, cs⟩)[j]? = some s → (j = k ∧ s = ⟨r.g, r.t, cs⟩) ∨ (j ≠ k ∧ R[j]? = some s) := fun j s hj => by
    by_cases e : j = k
    · subst e
      rw [List.getElem?_set_self hlt] at hj
      exact .inl ⟨rfl, (Option.some.inj hj).symm⟩
    · rw [List.getElem?_set_ne (fun h => e h.symm)] at hj
      exact .inr ⟨e, hj⟩
  refine ⟨h.chg.grown hg (fun g e => by injection e with e; subst e; exact h.own k r hk), fun j s hj => ?_, fun i j s u hij hi hj => ?_, fun j s hj => ?_⟩
  · rcases at_ j s hj with ⟨_, rfl⟩ | ⟨hne, hs⟩
    · exact hr
    · exact (h.rows j s hs).only hg (h.apart j k s r hne hs hk)
  · rcases at_ i s hi with ⟨rfl, rfl⟩ | ⟨hne, hs⟩ <;> rcases at_ j u hj with ⟨rfl, rfl⟩ | ⟨hne', hu⟩
    · exact (hij rfl).elim
    · exact h.apart _ _ r u (fun e => hne' e.symm) hk hu
    · exact h.apart _ _ s r hne hs hk
    · exact h.apart _ _ s u hij hs hu
  · rcases at_ j s hj with ⟨rfl, rfl⟩ | ⟨_, hs⟩
    · exact h.own _ r hk
    · exact h.own j s hs
theorem St.snoc (h : St w0 F R w) (t : TypeId) (cs : Array Value) : St w0 F (R ++ [⟨w.heap.size, t, cs⟩]) (w.alloc (.cells cs t)) := by
  have at_ : ∀ (j : Nat) (s : Blk), (R ++ [(⟨w.heap.size, t, cs⟩ : Blk)])[j]? = some s → (j < R.length ∧ R[j]? = some s) ∨ (j = R.length ∧ s = ⟨w.heap.size, t, cs⟩) := fun j s hj => by
    by_cases e : j < R.length
    · rw [List.getElem?_append_left e] at hj; exact .inl ⟨e, hj⟩
    · rw [List.getElem?_append_right (by omega)] at hj
      have e2 : j - R.length = 0 := by
        rcases Nat.eq_zero_or_pos (j - R.length) with h0 | h0
        · exact h0
        · rw [List.getElem?_eq_none (by simp; omega)] at hj; cases hj
      rw [e2] at hj
      exact .inr ⟨by omega, (Option.some.inj hj).symm⟩
  refine ⟨h.chg.alloc _, fun j s hj => ?_, fun i j s u hij hi hj => ?_, fun j s hj => ?_⟩
  · rcases at_ j s hj with ⟨_, hs⟩ | ⟨_, rfl⟩
    · exact (h.rows j s hs).alloc _
    · exact Row.fresh _ _ _
  · rcases at_ i s hi with ⟨_, hs⟩ | ⟨e1, rfl⟩ <;> rcases at_ j u hj with ⟨_, hu⟩ | ⟨e2, rfl⟩
    · exact h.apart _ _ _ _ hij hs hu
    · have := (h.rows i s hs).lt; show s.g ≠ w.heap.size; omega
    · have := (h.rows j u hu).lt; show w.heap.size ≠ u.g; omega
    · omega
  · rcases at_ j s hj with ⟨_, hs⟩ | ⟨_, rfl⟩
    · exact h.own j s hs
    · exact .inr h.chg.size
/- cells of a row -/
theorem Row.slab {g : Nat} {t : TypeId} {cs : Array Value} (h : Row w g t cs) (o : Nat) (L : List Value) (hL : (cs.toList.drop o).take L.length = L) : w.rangeAt g o L := fun j v hv => by
  have hj := (List.getElem?_eq_some_iff.1 hv).1
  rw [h.cell, ← Array.getElem?_toList]
  rw [← hL, List.getElem?_take_of_lt hj, List.getElem?_drop] at hv
  exact hv
theorem run_storeVar_at (w : World) (g o : Nat) (t ty : TypeId) (cur : Array Value) (v : Value) (hg : Row w g t cur) (hi : (P.info? ty).map (·.size) = some v.cells.size) (ho : o + v.cells.size ≤ cur.size) (h1 : v.cells.all (·.oneCell') = true) :
    (storeVar ty ⟨g, o, none⟩ v).run P w = .ok () (w.setRow g (spl cur.toList o v.cells.toList).toArray) := by
  have := run_storeCells_at P g o t v.cells.toList 0 cur w hg (by simpa using ho) (fun x hx => (Array.all_eq_true_iff_forall_mem.1 h1) x (by simpa using hx))
  cases hq : P.info? ty with
  | none => simp [hq] at hi
  | some i =>
    have hs : v.cells.size = i.size := by simp [hq] at hi; omega
    simp [storeVar, sizeOf, typeInfo, hq, hs, this, spl]
section
variable {o : Oper} {a : Act} {K : Act → World → Prop} {Q : Exit → Act → World → Prop}
theorem wp_st_alloc (hS : St w0 F R w) (e : TypeId) (cs : Array Value) (ho : o.op = .alloc e) (z : Value) (hz : (P.info? e).bind (·.zero) = some z) (hc : z.cells = cs)
    (h : ∀ g w', St w0 F (R ++ [⟨g, e, cs⟩]) w' → K (a.put o.dst (.pointer (some ⟨g, 0, none⟩))) w') : o.wp P a w K Q := by
  cases hq : P.info? e with
  | none => simp [hq] at hz
  | some i =>
    have hi : i.zero = some z := by simpa [hq] using hz
    have hrun : (Instr.alloc e true (.tuple #[])).run P w = .ok (.pointer (some ⟨w.heap.size, 0, none⟩)) (w.alloc (.cells cs e)) := by
      simp [Instr.alloc, zeroValue, typeInfo, hq, hi, newVar, newRow, hc]
    unfold Oper.wp execOp
    simp [ho, hrun]
    exact h _ _ (hS.snoc e cs)
theorem wp_st_box (hS : St w0 F R w) (e : TypeId) (x : Operand) (ho : o.op = .box e x) (v : Value) (hx : a.eval x = v) (cs : Array Value) (hc : v.cells = cs)
    (h : ∀ g w', St w0 F (R ++ [⟨g, e, cs⟩]) w' → K (a.put o.dst (.pointer (some ⟨g, 0, none⟩))) w') : o.wp P a w K Q := by
  have hrun : (Instr.box e v).run P w = .ok (.pointer (some ⟨w.heap.size, 0, none⟩)) (w.alloc (.cells cs e)) := by
    simp [Instr.box, newVar, newRow, hc]
  unfold Oper.wp execOp
  simp [ho, hx, hrun]
  exact h _ _ (hS.snoc e cs)
theorem wp_st_store (hS : St w0 F R w) (k i : Nat) (ty : TypeId) (x y : Operand) (ho : o.op = .store ty x y) {r : Blk} (hk : R[k]? = some r) (hx : a.eval x = .pointer (some ⟨r.g, i, none⟩)) (v : Value) (hy : a.eval y = v) (hi : (P.info? ty).map (·.size) = some v.cells.size) (hfit : i + v.cells.size ≤ r.cs.size) (h1 : v.cells.all (·.oneCell') = true)
    (cs : Array Value) (hcs : (spl r.cs.toList i v.cells.toList).toArray = cs)
    (h : ∀ w', St w0 F (R.set k ⟨r.g, r.t, cs⟩) w' → K (a.put o.dst undef) w') : o.wp P a w K Q := by
  have hrun := run_storeVar_at (P := P) w r.g i r.t ty r.cs v (hS.row k hk) hi hfit h1
  unfold Oper.wp execOp
  simp [ho, hx, hy, Instr.storeAt, Instr.sureAddr, hrun]
  rw [hcs]
  exact h _ (hS.upd k hk ((hS.row k hk).setRow cs) (grown_setRow w r.g cs))
end
/- at the list of a plain region's operations -/
section
variable {ops : Array Oper} {rest : List Oper} {o : Oper} {a : Act} {Q : Exit → Act → World → Prop}
end
/- the whole of a row, or a part -/
theorem slab_whole (cs : Array Value) : (cs.toList.drop 0).take cs.size = cs.toList := by rw [List.drop_zero]; exact List.take_of_length_le (by simp)
theorem spl_whole (cur cs : Array Value) (h : cur.size = cs.size) : (spl cur.toList 0 cs.toList).toArray = cs := by
  unfold spl
  rw [List.take_zero, List.nil_append, Nat.zero_add, List.drop_of_length_le (by simp [h]), List.append_nil]
theorem spl_agg (cur cs cs' : Array Value) (e : cs = cs') (h : cur.size = cs.size) : (spl cur.toList 0 (Value.agg cs).cells.toList).toArray = cs' := by
  rw [← e]; exact spl_whole cur cs h
theorem spl_at (cur : Array Value) (i : Nat) (v : Value) (h : i < cur.size) : (spl cur.toList i [v]).toArray = cur.setIfInBounds i v := by
  rw [← set_eq_spl _ _ _ (by simpa using h)]
  apply Array.ext'
  simp
theorem wp_st_put {o : Oper} {a : Act} {K : Act → World → Prop} {Q : Exit → Act → World → Prop} (hS : St w0 F R w) (k i : Nat) (ty : TypeId) (x y : Operand) (ho : o.op = .store ty x y) {r : Blk} (hk : R[k]? = some r) (hx : a.eval x = .pointer (some ⟨r.g, i, none⟩)) (v : Value) (hy : a.eval y = v) (hi : (P.info? ty).map (·.size) = some 1) (hv : v.cells = #[v]) (h1 : v.oneCell' = true) (hfit : i < r.cs.size)
    (cs : Array Value) (hcs : r.cs.setIfInBounds i v = cs)
    (h : ∀ w', St w0 F (R.set k ⟨r.g, r.t, cs⟩) w' → K (a.put o.dst undef) w') : o.wp P a w K Q :=
  wp_st_store hS k i ty x y ho hk hx v hy (by rw [hv]; exact hi) (by rw [hv]; exact hfit) (by rw [hv]; simp [h1]) cs (by rw [hv, ← hcs]; exact spl_at r.cs i v hfit) h
end
end Go.Proofs.Ytefhenkdakokeaa

/- Blocks that come to a list of blocks. No function of the program is named here. -/
set_option maxRecDepth 4000
namespace Go.Proofs.Ytefhenkdakokeaa
open Go Go.RowKit
section
variable {w0 W W' : World} {F : Nat → Prop} {R : List Blk}
theorem St.join (h : St w0 F R W) {g : Nat} {t : TypeId} {cs : Array Value} (hr : Row W g t cs) (hg : w0.heap.size ≤ g) (hne : ∀ b ∈ R, b.g ≠ g) : St w0 F (R ++ [⟨g, t, cs⟩]) W := by
  have at_ : ∀ (j : Nat) (s : Blk), (R ++ [(⟨g, t, cs⟩ : Blk)])[j]? = some s → (j < R.length ∧ R[j]? = some s) ∨ (j = R.length ∧ s = ⟨g, t, cs⟩) := fun j s hj => by
    by_cases e : j < R.length
    · rw [List.getElem?_append_left e] at hj; exact .inl ⟨e, hj⟩
    · rw [List.getElem?_append_right (by omega)] at hj
      have e2 : j - R.length = 0 := by
        rcases Nat.eq_zero_or_pos (j - R.length) with h0 | h0
        · exact h0
        · rw [List.getElem?_eq_none (by simp; omega)] at hj; cases hj
      rw [e2] at hj
      exact .inr ⟨by omega, (Option.some.inj hj).symm⟩
  refine ⟨h.chg, fun j s hj => ?_, fun i j s u hij hi hj => ?_, fun j s hj => ?_⟩
  · rcases at_ j s hj with ⟨_, hk⟩ | ⟨_, rfl⟩
    · exact h.rows j s hk
    · exact hr
  · rcases at_ i s hi with ⟨_, hk⟩ | ⟨e1, rfl⟩ <;> rcases at_ j u hj with ⟨_, hu⟩ | ⟨e2, rfl⟩
    · exact h.apart _ _ _ _ hij hk hu
    · exact hne s (List.mem_of_getElem? hk)
    · exact fun e => hne u (List.mem_of_getElem? hu) e.symm
    · omega
  · rcases at_ j s hj with ⟨_, hk⟩ | ⟨_, rfl⟩
    · exact h.own j s hk
    · exact .inr hg
/- a block that is none of the list's changes -/
theorem St.far (h : St w0 F R W) {g : Nat} (k : W.grownBy W' (some g)) (hg : w0.heap.size ≤ g) (hne : ∀ b ∈ R, b.g ≠ g) : St w0 F R W' :=
  ⟨h.chg.grown k (fun j e => by cases e; exact .inr hg), fun j r hj => (h.rows j r hj).only k (hne r (List.mem_of_getElem? hj)), h.apart, h.own⟩
theorem St.lt (h : St w0 F R W) {b : Blk} (hb : b ∈ R) : b.g < W.heap.size := by
  obtain ⟨k, hk⟩ := List.getElem?_of_mem hb
  exact (h.rows k b hk).lt
end
end Go.Proofs.Ytefhenkdakokeaa

/- The same region, with one thing more: an operation may say that its value is an earlier one's (a store names the block that it went to). -/
set_option maxRecDepth 4000
namespace Go.Proofs.Ytefhenkdakokeaa
open Go Go.RowKit
section
variable {P : Program} {Q : Exit → Act → World → Prop} {ops : Array Oper} {n : Nat} {K : World → World → Prop} {Φ : Nat → World → Prop} {V : Nat → Value → World → Prop} {G U rig : Nat → Bool} {ph : Nat → Option Nat} {a0 : Act} {w1 : World} {al : Nat → Option Nat}
end
section
variable {P : Program} {ops : Array Oper} {n : Nat} {K : World → World → Prop} {Φ : Nat → World → Prop} {V : Nat → Value → World → Prop} {G U rig : Nat → Bool} {ph : Nat → Option Nat} {a0 a : Act} {w : World} {x : Nat → Value} {o : Oper} {l : List Oper} {i : Nat} {al : Nat → Option Nat}
end
end Go.Proofs.Ytefhenkdakokeaa

/- Literals of structs and of slices of structs: their cells, side by side. No function of the program is named here. -/
set_option maxRecDepth 4000
namespace Go.Proofs.Ytefhenkdakokeaa
open Go Go.RowKit
theorem fill_set (off : Nat) (v : Array Value) (cells : Array Value) (h : off + v.size ≤ cells.size) : v.zipIdx.foldl (fun cs (x : Value × Nat) => cs.setIfInBounds (off + x.2) x.1) cells = (spl cells.toList off v.toList).toArray := by
  rw [← Array.foldl_toList, Array.toList_zipIdx]
  obtain ⟨h1, h2⟩ := Great.foldl_set off v.toList 0 cells
  apply Array.ext_getElem?
  intro k
  rw [h2 k, Nat.add_zero]
  have hL : cells.toList.length = cells.size := Array.length_toList
  have hv : v.toList.length = v.size := Array.length_toList
  have e1 : (cells.toList.take off).length = off := by rw [List.length_take]; omega
  rw [show (spl cells.toList off v.toList).toArray[k]? = (spl cells.toList off v.toList)[k]? from List.getElem?_toArray]
  unfold spl
  by_cases hk : off ≤ k
  · by_cases hk2 : k < off + v.size
    · rw [if_pos ⟨hk, by omega, by omega⟩, List.getElem?_append_left (by rw [List.length_append, e1]; omega), List.getElem?_append_right (by omega), e1]
    · rw [if_neg (by omega), List.getElem?_append_right (by rw [List.length_append, e1]; omega), List.getElem?_drop, List.length_append, e1, hv]
      rw [show off + v.size + (k - (off + v.size)) = k by omega]; simp
  · rw [if_neg (by omega), List.append_assoc, List.getElem?_append_left (by omega), List.getElem?_take, if_pos (by omega)]; simp
def fits : Nat → List Nat → List (Nat × Nat) → Bool
  | _, [], [] => true
  | o, s :: ss, (o', s') :: ps => o == o' && s == s' && fits (o + s) ss ps
  | _, _, _ => false
theorem fits_at : ∀ (ss : List Nat) (o : Nat) (ps : List (Nat × Nat)), fits o ss ps = true → ∀ (k s : Nat), ss[k]? = some s → ps[k]? = some (o + (ss.take k).sum, s)
  | [], _, _, _, k, s, h => by simp at h
  | s0 :: ss, o, [], h, _, _, _ => by simp [fits] at h
  | s0 :: ss, o, (o', s') :: ps, h, 0, s, hk => by
    simp only [fits, Bool.and_eq_true, beq_iff_eq] at h
    obtain ⟨⟨rfl, rfl⟩, _⟩ := h
    obtain rfl : s0 = s := by simpa using hk
    simp
  | s0 :: ss, o, (o', s') :: ps, h, k + 1, s, hk => by
    simp only [fits, Bool.and_eq_true, beq_iff_eq] at h
    obtain ⟨⟨rfl, rfl⟩, h⟩ := h
    have := fits_at ss (o + s0) ps h k s (by simpa using hk)
    rw [List.getElem?_cons_succ, this]
    simp [Nat.add_assoc]
end Go.Proofs.Ytefhenkdakokeaa

/- The lowest byte of a number. -/
set_option maxRecDepth 4000
namespace Go.Proofs.Ytefhenkdakokeaa
open Go Go.RowKit
end Go.Proofs.Ytefhenkdakokeaa

/- Words of 16 bits, kept shut: what the operations of Go on uint16 come to. No condition. -/
set_option maxRecDepth 4000
namespace Go.Proofs.Ytefhenkdakokeaa
open Go Go.RowKit
def hd (x : BitVec 16) : Int := (x.toNat : Int)
end Go.Proofs.Ytefhenkdakokeaa

/- Literals of bytes in a region that is walked by what each operation yields. -/
set_option maxRecDepth 4000
namespace Go.Proofs.Ytefhenkdakokeaa
open Go Go.RowKit
section
variable {o : Oper} {a : Act} {w : World} {R : Value → World → Prop}
end
end Go.Proofs.Ytefhenkdakokeaa

/- A slice of bytes made of a constant text: its block bears a mark. No function of the program is named here. -/
set_option maxRecDepth 4000
namespace Go.Proofs.Ytefhenkdakokeaa
open Go Go.RowKit
end Go.Proofs.Ytefhenkdakokeaa

/- What an argument holds, read by its type: integers, bools, texts, rows of bytes, slices, structs, put together as the type is. No function of the program is named here. -/
set_option maxRecDepth 4000
namespace Go.Proofs.Ytefhenkdakokeaa
open Go Go.ChangeShapes Go.WideShapes Go.ChangeAt Go.RowKit
/- the cells cs hold a, in the world w -/
def Rd (α : Type) := World → List Value → α → Prop
def Rd.Stays {α : Type} (R : Rd α) : Prop := ∀ (B : Nat) (w w' : World) (cs : List Value) (a : α), R w cs a → Below B w w' → w.heap.size ≤ B → R w' cs a
def Opens (P : Program) {α : Type} (t : TypeId) (R : Rd α) : Prop :=
  ∀ {H : Type} (enc : TypeId × Value → H) (W : World) (fuel : Nat) (cs : List Value) (x : DataW H × List MemPlace), DataW.trod enc P W 0 (fun _ => true) true fuel t cs = some x → (∀ y ∈ x.2, y.block < W.heap.size) → ∃ a, R W cs a
def rdInt (k : IntKind) : Rd Int := fun _ cs n => cs = [.int k n] ∧ (Lit.int k n).wf = true
def rdStr : Rd ByteArray := fun _ cs s => cs = [.string s] ∧ s.size ≤ maxLen
def rdRow (n : Nat) : Rd (List (BitVec 8)) := fun _ cs b => cs = bytesV b ∧ b.length = n
def rdNil : Rd Unit := fun _ cs _ => cs = []
def rdCons {α β : Type} (s : Nat) (R : Rd α) (T : Rd β) : Rd (α × β) := fun w cs ab => ∃ c d, cs = c ++ d ∧ c.length = s ∧ R w c ab.1 ∧ T w d ab.2
def rdSl {α : Type} (s : Nat) (R : Rd α) : Rd (List α) := fun w cs l => ∃ A c, cs = [.slice A l.length c] ∧ l.length ≤ c ∧ (A = none → c = 0) ∧ l.length ≤ maxLen ∧
  (l ≠ [] → ∃ b o, A = some ⟨b, o, none⟩ ∧ b < w.heap.size ∧ ∀ k x, l[k]? = some x → ∃ ds, ds.length = s ∧ w.rangeAt b (o + k * s) ds ∧ R w ds x)
def rdMap {α β : Type} (f : α → β) (R : Rd α) : Rd β := fun w cs b => ∃ a, R w cs a ∧ b = f a
theorem stays_int (k : IntKind) : (rdInt k).Stays := fun _ _ _ _ _ h _ _ => h
theorem stays_str : rdStr.Stays := fun _ _ _ _ _ h _ _ => h
theorem stays_rnil : rdNil.Stays := fun _ _ _ _ _ h _ _ => h
theorem stays_cons' {α β : Type} {s : Nat} {R : Rd α} {T : Rd β} (h : R.Stays) (t : T.Stays) : (rdCons s R T).Stays := fun B w w' _ _ ⟨c, d, e, hl, h1, h2⟩ hb hB => ⟨c, d, e, hl, h B w w' _ _ h1 hb hB, t B w w' _ _ h2 hb hB⟩
theorem stays_map {α β : Type} {f : α → β} {R : Rd α} (h : R.Stays) : (rdMap f R).Stays := fun B w w' _ _ ⟨a, h1, e⟩ hb hB => ⟨a, h B w w' _ _ h1 hb hB, e⟩
theorem stays_sl {α : Type} {s : Nat} {R : Rd α} (h : R.Stays) : (rdSl s R).Stays := fun B w w' cs l ⟨A, c, h1, h2, h3, h4, h5⟩ hb hB => by
  refine ⟨A, c, h1, h2, h3, h4, fun hne => ?_⟩
  obtain ⟨b, o, h6, h7, h8⟩ := h5 hne
  refine ⟨b, o, h6, Nat.lt_of_lt_of_le h7 hb.size, fun k x hx => ?_⟩
  obtain ⟨ds, h9, h10, h11⟩ := h8 k x hx
  exact ⟨ds, h9, fun j v hv => (hb.cell (p := ⟨b, o + k * s + j, none⟩) (Nat.lt_of_lt_of_le h7 hB)).trans (h10 j v hv), h B w w' _ _ h11 hb hB⟩
section
variable {P : Program}
theorem opens_int {t : TypeId} {k : IntKind} (ht : P.underlying t = some (.int k)) : Opens P t (rdInt k) := fun _ _ _ _ _ h _ => by
  obtain ⟨n, h1, _, h2⟩ := DataW.trod_int ht h
  exact ⟨n, h1, h2⟩
theorem opens_str {t : TypeId} (ht : P.underlying t = some .string) : Opens P t rdStr := fun _ _ _ _ _ h _ => by
  obtain ⟨s, h1, _, h2⟩ := DataW.trod_string ht h
  exact ⟨s, h1, h2⟩
theorem opens_map {α β : Type} {t : TypeId} {f : α → β} {R : Rd α} (h : Opens P t R) : Opens P t (rdMap f R) := fun enc W fuel cs x hx hlt => by
  obtain ⟨a, ha⟩ := h enc W fuel cs x hx hlt
  exact ⟨f a, a, ha, rfl⟩
theorem opens_row {t e : TypeId} {n : Nat} (ht : P.underlying t = some (.array n e)) (he : P.underlying e = some (.int .u8)) (hce : P.cellsOf e = 1) (hct : P.cellsOf t = n) : Opens P t (rdRow n) := fun enc W fuel cs x h _ => by
  obtain ⟨xs, m, _, _, hl, hx, hi⟩ := DataW.trod_array ht h
  have hs : cs.length = n := by rw [hl, hct]
  have hint : ∀ i, i < n → ∃ z, cs[i]? = some (.int .u8 z) ∧ (Lit.int .u8 z).wf = true := fun i hin => by
    have h1 := hi i hin
    rw [List.getElem?_eq_getElem (by omega)] at h1
    obtain ⟨z, hz, _, hw⟩ := DataW.trod_int he h1
    refine ⟨z, ?_, hw⟩
    simp only [hce, Nat.mul_one] at hz
    rw [List.take_one, List.head?_drop] at hz
    cases hc : cs[i]? with
    | none => rw [hc] at hz; cases hz
    | some v => rw [hc] at hz; simpa using hz
  refine ⟨cs.map fun v => BitVec.ofInt 8 (intIn v), ?_, by simp [hs]⟩
  apply List.ext_getElem?
  intro i
  by_cases hin : i < n
  · obtain ⟨z, hz, hw⟩ := hint i hin
    have hb := bounds_u8 hw
    simp [bytesV, hz, intIn, ← bd_of z hb.1 (by omega)]
  · rw [List.getElem?_eq_none (by omega), List.getElem?_eq_none (by simp [bytesV]; omega)]
theorem opens_sl {α : Type} {t e : TypeId} {s : Nat} {R : Rd α} (ht : P.underlying t = some (.slice e)) (hs : P.cellsOf e = s) (hpos : 0 < s) (he : Opens P e R) : Opens P t (rdSl s R) := fun {H} enc W fuel cs x h hlt => by
  rcases Deep.open_slice ht h with ⟨h0, _⟩ | ⟨a, len, cap, m, n, D, Pl, hcs, _, hl, hm, hmm, hx, hi⟩
  · exact ⟨[], none, 0, h0, by simp, fun _ => rfl, by simp, fun h => absurd rfl h⟩
  · simp only [if_true] at hmm
    subst hmm
    have hlt' : ∀ y ∈ MemPlace.row a (m * P.cellsOf e) ++ (List.range m).flatMap Pl, y.block < W.heap.size := by rw [hx] at hlt; exact hlt
    have hR : ∀ i, i < len → ∃ b, ∃ ds, W.cells? 0 (a.add (i * s)) s = some ds ∧ R W ds b := fun i hil => by
      obtain ⟨ds, h1, h2⟩ := hi i (by omega)
      rw [hs] at h1
      obtain ⟨b, hb⟩ := he enc W n ds _ h2 fun y hy => hlt' y (List.mem_append_right _ (List.mem_flatMap.2 ⟨i, List.mem_range.2 (by omega), hy⟩))
      exact ⟨b, ds, h1, hb⟩
    by_cases h0 : len = 0
    · subst h0
      refine ⟨[], some a, m, hcs, by simp, fun h => (by cases h), by simp, fun h => absurd rfl h⟩
    · obtain ⟨b0, _⟩ := hR 0 (by omega)
      have hinh : Inhabited α := ⟨b0⟩
      obtain ⟨Q, hQ⟩ := Deep.choose_lt (α := α) (n := len) (p := fun i q => ∃ ds, W.cells? 0 (a.add (i * s)) s = some ds ∧ R W ds q) hR
      have hql : ((List.range len).map Q).length = len := by simp
      refine ⟨(List.range len).map Q, some a, m, by rw [hql]; exact hcs, by rw [hql]; exact hl, fun h => (by cases h), by rw [hql]; omega, fun _ => ?_⟩
      obtain ⟨b, off, spot⟩ := a
      have hspot : spot = none := by
        obtain ⟨ds, h1, _⟩ := hQ 0 (by omega)
        obtain ⟨_, h3, h4⟩ := World.cells?_some h1
        have h5 := h4 0 hpos
        rw [List.getElem?_eq_getElem (by omega)] at h5
        simpa [Addr.add] using World.cell?_spot h5
      subst hspot
      refine ⟨b, off, rfl, hlt' (.cell b off) (List.mem_append_left _ (MemPlace.mem_row.2 ⟨0, by rw [hs]; exact Nat.mul_pos (by omega) hpos, by simp⟩)), fun k x hk => ?_⟩
      have hkl : k < len := by have := (List.getElem?_eq_some_iff.1 hk).1; omega
      obtain ⟨ds, h1, h2⟩ := hQ k hkl
      obtain ⟨_, h3, h4⟩ := World.cells?_some h1
      obtain rfl : Q k = x := by simpa [hkl] using hk
      refine ⟨ds, h3, fun j v hv => ?_, h2⟩
      have hj : j < s := by have := (List.getElem?_eq_some_iff.1 hv).1; omega
      have h5 := h4 j hj
      rw [hv, Addr.add_mid, Addr.add_mid] at h5
      exact h5
/- the fields of a struct from offset o on -/
def OpensF (P : Program) {β : Type} (fs : List Field) (o : Nat) (T : Rd β) : Prop :=
  ∀ {H : Type} (enc : TypeId × Value → H) (W : World) (n : Nat) (cs : List Value) (xs : List (DataW H × List MemPlace)), xs.length = fs.length →
    (∀ (i : Nat) (f : Field), fs[i]? = some f → DataW.trod enc P W 0 (fun _ => true) true n f.type ((cs.drop f.offset).take (P.cellsOf f.type)) = xs[i]?) → (∀ y ∈ xs.flatMap (·.2), y.block < W.heap.size) → cs.length = o + (fs.map fun f => P.cellsOf f.type).sum → ∃ b, T W (cs.drop o) b
theorem opensF_nil {o : Nat} : OpensF P [] o rdNil := fun _ _ _ _ _ _ _ _ hl => ⟨(), by
  unfold rdNil
  simp only [List.map_nil, List.sum_nil, Nat.add_zero] at hl
  rw [← hl, List.drop_length]⟩
theorem opensF_cons {α β : Type} {f : Field} {fs : List Field} {o s : Nat} {R : Rd α} {T : Rd β} (ho : f.offset = o) (hs : P.cellsOf f.type = s) (h : Opens P f.type R) (t : OpensF P fs (o + s) T) : OpensF P (f :: fs) o (rdCons s R T) := fun {H} enc W n cs xs hxl hf hlt hl => by
  cases xs with
  | nil => simp at hxl
  | cons x xs =>
    simp only [List.length_cons, Nat.add_right_cancel_iff] at hxl
    have h0 := hf 0 f rfl
    simp only [List.getElem?_cons_zero] at h0
    rw [ho, hs] at h0
    obtain ⟨a, ha⟩ := h enc W n _ x h0 fun y hy => hlt y (by simp [hy])
    simp only [List.map_cons, List.sum_cons, hs] at hl
    obtain ⟨b, hb⟩ := t enc W n cs xs hxl (fun i g hg => by have := hf (i + 1) g (by simpa using hg); simpa using this) (fun y hy => hlt y (by simp only [List.flatMap_cons, List.mem_append]; exact .inr hy)) (by omega)
    refine ⟨(a, b), (cs.drop o).take s, cs.drop (o + s), ?_, by rw [List.length_take, List.length_drop]; omega, ha, hb⟩
    rw [← List.drop_drop, List.take_append_drop]
theorem opens_struct {β : Type} {t : TypeId} {fs : Array Field} {T : Rd β} (ht : P.underlying t = some (.struct fs)) (hc : P.cellsOf t = (fs.toList.map fun f => P.cellsOf f.type).sum) (h : OpensF P fs.toList 0 T) : Opens P t T := fun {H} enc W fuel cs x hx hlt => by
  obtain ⟨xs, n, _, hy, hlen, hyl, hf⟩ := DataW.trod_struct ht hx
  subst hy
  obtain ⟨b, hb⟩ := h enc W n cs xs (by rw [hyl]; exact Array.length_toList.symm) (fun i f hi => hf i f (by rw [← Array.getElem?_toList]; exact hi)) hlt (by rw [hlen, hc, Nat.zero_add])
  exact ⟨b, by simpa using hb⟩
end
/- an argument of a card -/
theorem open_arg {P : Program} {α : Type} {t : TypeId} {R : Rd α} (h : Opens P t R) {H : Type} {enc : TypeId × Value → H} {W : World} {v : Value} {d : DataW H} {ps : List MemPlace} (hT : DataW.Trod enc P W 0 (fun _ => true) true t v d ps) (hlt : ∀ y ∈ ps, y.block < W.heap.size) : ∃ a, R W v.cells.toList a := by
  obtain ⟨fuel, hf⟩ := hT
  exact h enc W fuel _ _ hf hlt
/- an argument that is a slice -/
theorem open_argSl {P : Program} {α : Type} {t e : TypeId} {s : Nat} {R : Rd α} (ht : P.underlying t = some (.slice e)) (ho : Opens P t (rdSl s R)) {H : Type} {enc : TypeId × Value → H} {W : World} {r : Reach} {base : Nat} {v : Value} {d : DataW H} {ps : List MemPlace} (hval : Value.okWide P W r base t v) (hT : DataW.Trod enc P W 0 (fun _ => true) true t v d ps) (hlt : ∀ y ∈ ps, y.block < W.heap.size) : ∃ A c l, v = .slice A l.length c ∧ rdSl s R W [.slice A l.length c] l := by
  obtain ⟨a0, len, cap, rfl⟩ := okWide_slice ht hval
  obtain ⟨l, hl⟩ := open_arg ho hT hlt
  have h0 := hl
  obtain ⟨A, c, e, _⟩ := hl
  have e : Value.slice a0 len cap = .slice A l.length c := by simpa [Value.cells] using e
  rw [e] at h0
  exact ⟨A, c, l, e, by simpa [Value.cells] using h0⟩
end Go.Proofs.Ytefhenkdakokeaa

/- Integers that are handed in, as plain numbers. -/
set_option maxRecDepth 4000
namespace Go.Proofs.Ytefhenkdakokeaa
open Go Go.RowKit
end Go.Proofs.Ytefhenkdakokeaa

/- Slices of ints: as they lie in memory, of one's own. No function of the program is named here. -/
set_option maxRecDepth 4000
namespace Go.Proofs.Ytefhenkdakokeaa
open Go Go.ChangeShapes Go.WideShapes Go.ChangeAt Go.RowKit
def IntsAt (w : World) (v : Value) (l : List Int) : Prop := rdSl 1 (rdInt .i64) w [v] l
theorem IntsAt.below {w w' : World} {v : Value} {l : List Int} {B : Nat} (h : IntsAt w v l) (hb : Below B w w') (hB : w.heap.size ≤ B) : IntsAt w' v l := stays_sl (stays_int _) B w w' _ _ h hb hB
end Go.Proofs.Ytefhenkdakokeaa

/- Volumes as they lie in memory: a slice of them, opened, taken apart, laid. No function of the program is named here. -/
set_option maxRecDepth 4000
namespace Go.Proofs.Ytefhenkdakokeaa
open Go Go.ChangeShapes Go.WideShapes Go.ChangeAt Go.RowKit
abbrev Vl := ByteArray × List Int
def rdVol : Rd Vl := rdMap (fun x => (x.1, x.2.1)) (rdCons 1 rdStr (rdCons 1 (rdSl 1 (rdInt .i64)) rdNil))
def VolsAt (w : World) (v : Value) (l : List Vl) : Prop := rdSl 2 rdVol w [v] l
theorem stays_vol : rdVol.Stays := stays_map (stays_cons' stays_str (stays_cons' (stays_sl (stays_int _)) stays_rnil))
theorem VolsAt.below {w w' : World} {v : Value} {l : List Vl} {B : Nat} (h : VolsAt w v l) (hb : Below B w w') (hB : w.heap.size ≤ B) : VolsAt w' v l := stays_sl stays_vol B w w' _ _ h hb hB
/- one volume's cells -/
def VolAt (w : World) (ds : List Value) (x : Vl) : Prop := ∃ A c, ds = [.string x.1, .slice A x.2.length c] ∧ IntsAt w (.slice A x.2.length c) x.2 ∧ x.1.size ≤ maxLen
theorem vol_cells {w : World} {ds : List Value} {x : Vl} (h : rdVol w ds x) : VolAt w ds x := by
  obtain ⟨⟨s, L, _⟩, h, rfl⟩ := h
  obtain ⟨c0, d0, rfl, _, ⟨rfl, hs⟩, c1, d1, rfl, _, h1, h2⟩ := h
  have h2 : d1 = [] := h2
  subst h2
  obtain ⟨A, c, rfl, _⟩ := id h1
  exact ⟨A, c, rfl, h1, hs⟩
theorem vol_rd {w : World} {ds : List Value} {x : Vl} (h : VolAt w ds x) : rdVol w ds x := by
  obtain ⟨A, c, rfl, h1, h2⟩ := h
  exact ⟨(x.1, x.2, ()), ⟨_, _, rfl, rfl, ⟨rfl, h2⟩, _, [], rfl, rfl, h1, rfl⟩, rfl⟩
theorem VolAt.below {w w' : World} {ds : List Value} {x : Vl} {B : Nat} (h : VolAt w ds x) (hb : Below B w w') (hB : w.heap.size ≤ B) : VolAt w' ds x := vol_cells (stays_vol B w w' _ _ (vol_rd h) hb hB)
end Go.Proofs.Ytefhenkdakokeaa

/- What names may be, as plain functions of bytes; the document's way and the program's way to a name of four bytes. No function of the program is named here. -/
set_option maxRecDepth 4000
namespace Go.Proofs.Ytefhenkdakokeaa
open Go
def letter (x : BitVec 8) : Bool := decide (97 ≤ bd x) && decide (bd x ≤ 122)
def goodN (q : List (BitVec 8)) : Bool := decide (1 ≤ q.length) && decide (q.length ≤ 4) && q.all letter
def goodNs (l : List (List (BitVec 8))) : Bool := l.all goodN
end Go.Proofs.Ytefhenkdakokeaa

/- Which blocks volumes use: the program's Used. -/
set_option maxRecDepth 4000
namespace Go.Proofs.Ytefhenkdakokeaa
open Go Go.RowKit
end Go.Proofs.Ytefhenkdakokeaa

/- How many blocks are free: OnesCount16, Free. -/
set_option maxRecDepth 4000
namespace Go.Proofs.Ytefhenkdakokeaa
open Go Go.RowKit
end Go.Proofs.Ytefhenkdakokeaa

/- A sector of one byte, as the program has it. -/
set_option maxRecDepth 4000
namespace Go.Proofs.Ytefhenkdakokeaa
open Go Go.RowKit
def blk (x : BitVec 8) : List (BitVec 8) := List.replicate 32 x
theorem length_blk (x : BitVec 8) : (blk x).length = 32 := by simp [blk]
theorem size_blk : (Try.prog.info? 32).map (·.size) = some 32 := by kernel_rfl
theorem zeros_blk : (#[.int .u8 0, .int .u8 0, .int .u8 0, .int .u8 0, .int .u8 0, .int .u8 0, .int .u8 0, .int .u8 0, .int .u8 0, .int .u8 0, .int .u8 0, .int .u8 0, .int .u8 0, .int .u8 0, .int .u8 0, .int .u8 0, .int .u8 0, .int .u8 0, .int .u8 0, .int .u8 0, .int .u8 0, .int .u8 0, .int .u8 0, .int .u8 0, .int .u8 0, .int .u8 0, .int .u8 0, .int .u8 0, .int .u8 0, .int .u8 0, .int .u8 0, .int .u8 0] : Array Value) = bs (blk 0#8) := by rfl
end Go.Proofs.Ytefhenkdakokeaa

/- Two arrays of integers: what their comparison tells. -/
set_option maxRecDepth 4000
namespace Go.Proofs.Ytefhenkdakokeaa
open Go
theorem forIn_until {P : Program} {w : World} {β : Type} (b r : β) (f : Nat → β → Sem (ForInStep β)) (p : Nat → Bool) : ∀ l : List Nat, (∀ i ∈ l, (f i b).run P w = .ok (if p i then .yield b else .done r) w) → (forIn l b f).run P w = .ok (if l.all p then b else r) w
  | [], _ => by simp [Sem.run_pure]
  | i :: l, h => by
    simp only [List.forIn_cons, Sem.run_bind, h i (by simp), Result.andThen]
    cases hp : p i with
    | true =>
      simp only [List.all_cons, hp, Bool.true_and, if_true]
      exact forIn_until b r f p l fun j hj => h j (by simp [hj])
    | false => simp [List.all_cons, hp, Sem.run_pure]
theorem equal_ints {P : Program} (w : World) (d : Nat) (t e : TypeId) (k : IntKind) (n : Nat) (xs ys : Array Value) (f g : Nat → Int) (ht : P.underlying t = some (.array n e)) (he : P.underlying e = some (.int k)) (hs : (P.info? e).map (·.size) = some 1)
    (hx : ∀ i, i < n → xs[i]? = some (.int k (f i))) (hy : ∀ i, i < n → ys[i]? = some (.int k (g i))) : (Op.equalIn (d + 2) t (.agg xs) (.agg ys)).run P w = .ok ((List.range n).all fun i => f i == g i) w := by
  obtain ⟨i0, hi, hs⟩ := Option.map_eq_some_iff.1 hs
  have hsz : (sizeOf e).run P w = .ok 1 w := by simp [sizeOf, typeInfo, hi, hs]
  rw [show Op.equalIn (d + 2) t (.agg xs) (.agg ys) = Op.equalIn ((d + 1) + 1) t (.agg xs) (.agg ys) from rfl]
  unfold Op.equalIn
  simp only [Sem.run_bind, run_underlying ht, Result.andThen_ok, hsz]
  rw [Std.Legacy.Range.forIn_eq_forIn_range', forIn_until (p := fun i => f i == g i) (r := ⟨some false, ()⟩)]
  · have e1 : (List.range' 0 (Std.Legacy.Range.size [:n]) 1).all (fun i => f i == g i) = (List.range n).all fun i => f i == g i := by
      rw [List.range_eq_range']; simp [Std.Legacy.Range.size]
    simp only [e1]
    cases (List.range n).all fun i => f i == g i <;> simp [Sem.run_pure]
  · intro i hi
    have hin : i < n := by simp [Std.Legacy.Range.size] at hi; omega
    have hp : (Go.part e xs (i * 1)).run P w = .ok (.int k (f i)) w := by simp [Go.part, isAgg, run_underlying he, hx i hin]
    have hq : (Go.part e ys (i * 1)).run P w = .ok (.int k (g i)) w := by simp [Go.part, isAgg, run_underlying he, hy i hin]
    simp only [Sem.run_bind, hp, hq, Result.andThen_ok, run_equalIn_int w d e k k (f i) (g i) he]
    cases f i == g i <;> simp
theorem equal_bytes (t : TypeId) (n : Nat) (p q : List (BitVec 8)) (hp : p.length = n) (hq : q.length = n) (ht : Try.prog.underlying t = some (.array n 5)) (w : World) : (Op.equalIn 10000 t (.agg (bs p)) (.agg (bs q))).run Try.prog w = .ok (decide (p = q)) w := by
  rw [equal_ints w 9998 t 5 .u8 n (bs p) (bs q) (fun i => bd (p.getD i 0)) (fun i => bd (q.getD i 0)) ht Try.underlying5 size_u8 (fun i hi => get_bs p i (by omega)) (fun i hi => get_bs q i (by omega))]
  congr 1
  by_cases h : p = q
  · subst h; simp
  · rw [decide_eq_false h, ← Bool.not_eq_true, List.all_eq_true]
    intro hall
    refine h (List.ext_getElem (by omega) fun i h1 h2 => ?_)
    have := hall i (List.mem_range.2 (by omega))
    simp [h1, h2] at this
    exact bd_inj this
end Go.Proofs.Ytefhenkdakokeaa

/- Two sectors compared. -/
set_option maxRecDepth 4000
namespace Go.Proofs.Ytefhenkdakokeaa
open Go Go.RowKit
theorem eql_blk (p q : List (BitVec 8)) (hp : p.length = 32) (hq : q.length = 32) (w : World) : (Op.equalIn 10000 32 (.agg (bs p)) (.agg (bs q))).run Try.prog w = .ok (decide (p = q)) w := equal_bytes _ 32 p q hp hq Try.underlying32 w
end Go.Proofs.Ytefhenkdakokeaa

set_option maxRecDepth 4000
namespace Go.Proofs.Ytefhenkdakokeaa
open Go Go.RowKit
theorem mod_any (k : Int) (n : Nat) (w : World) (h0 : 0 < n) (h1 : n < 100000) :
    Calls Try.prog 21 #[.int .i64 k, .int .i64 (n : Int)] w fun e w' => e = .returned (.int .i64 (modK k n : Int)) ∧ w = w' := by
  have t1 : k.tmod n < n := Int.tmod_lt_of_pos _ (by omega)
  have t2 : -(n : Int) < k.tmod n := by
    have := Int.lt_tmod_of_pos k (show (0 : Int) < n by omega); omega
  have e : ((modK k n : Nat) : Int) = (k.tmod n + n) % n := by
    unfold modK; rw [Int.toNat_of_nonneg (Int.emod_nonneg _ (by omega))]
  have HE := Lib.hid e
  clear e
  go_enter Try.func21, Try.ntmps21
  go_wp2
  go_ret
  exact ⟨ret_int HE.out.symm, rfl⟩
end Go.Proofs.Ytefhenkdakokeaa
