/- Slices of bytes and lists of them: what they read as, how they are appended, taken apart and handed on. No function of the program is named here. -/
import Derived.Test.YtppbgkdkioldbaaProg
import Derived.Test.YtppbgkdkioldbaaMem
import Derived.WalkKit
import Derived.Still
import Derived.Laws.AppendOwn
import Derived.Laws.AppendOwnNone
import Derived.Laws.OwnMore
import Derived.Laws.CopyOwn
import Derived.Laws.MakeOwn
import Derived.OwnWalk
import Derived.Maps.AppendAt
import Derived.Deep.MidRow
import Derived.Maps.RangeWalk
import Derived.Lib.SlBytesConst
import Derived.Lib.Hide
set_option maxRecDepth 4000
namespace Go.Proofs.Ytppbgkdkioldbaa
open Go Go.RowKit
theorem i64_id (n : Int) (h0 : 0 ≤ n) (h1 : n < 9223372036854775808) : IntKind.i64.wrap n = n := by
  rw [IntKind.wrap_i64]; omega
theorem ret_int {k : IntKind} {a b : Int} (h : a = b) : Ending.returned (.int k a) = .returned (.int k b) := by rw [h]
def bytesV (q : List (BitVec 8)) : List Value := q.map fun x => Value.int .u8 (bd x)
theorem size_u8 : (Try.prog.info? 5).map (·.size) = some 1 := by kernel_rfl
theorem one_bytesV (q : List (BitVec 8)) : ∀ v ∈ bytesV q, v.oneCell' = true := by
  intro v hv; simp only [bytesV, List.mem_map] at hv; obtain ⟨x, _, rfl⟩ := hv; rfl
theorem info_u8 : (Try.prog.info? 5).map (fun i => (i.zero, i.size, i.bytes)) = some (some (.int .u8 0), 1, 1) := by kernel_rfl
/- a slice value that reads as the bytes q -/
def Slice (w : World) (v : Value) (q : List (BitVec 8)) : Prop :=
  ∃ A c, v = .slice A q.length c ∧ q.length ≤ c ∧ (q ≠ [] → ∃ b o, A = some ⟨b, o, none⟩ ∧ b < w.heap.size ∧ ∀ j x, q[j]? = some x → w.cell? ⟨b, o + j, none⟩ = some (.int .u8 (bd x)))
/- a slice value that reads as these slices of bytes -/
def Parts (w : World) (v : Value) (ps : List (List (BitVec 8))) : Prop :=
  ∃ A c, v = .slice A ps.length c ∧ (ps ≠ [] → ∃ b o, A = some ⟨b, o, none⟩ ∧ b < w.heap.size ∧ ∀ k q, ps[k]? = some q → ∃ u, w.cell? ⟨b, o + k, none⟩ = some u ∧ Slice w u q)
theorem Slice.below {w w' : World} {B : Nat} {v : Value} {q : List (BitVec 8)} (h : Slice w v q) (hb : Below B w w') (hB : w.heap.size ≤ B) : Slice w' v q := by
  obtain ⟨A, c, h1, h2, h3⟩ := h
  refine ⟨A, c, h1, h2, fun hne => ?_⟩
  obtain ⟨b, o, h4, h5, h6⟩ := h3 hne
  exact ⟨b, o, h4, Nat.lt_of_lt_of_le h5 hb.size, fun j x hx => (hb.cell (p := ⟨b, o + j, none⟩) (Nat.lt_of_lt_of_le h5 hB)).trans (h6 j x hx)⟩
theorem flat_succ (ps : List (List (BitVec 8))) (k : Nat) (hk : k < ps.length) : (ps.take (k + 1)).flatten = (ps.take k).flatten ++ ps[k] := by
  rw [List.take_succ_eq_append_getElem hk, List.flatten_append]; simp
theorem flat_le (ps : List (List (BitVec 8))) (k : Nat) (hk : k < ps.length) : ((ps.take k).flatten ++ ps[k]).length ≤ ps.flatten.length := by
  rw [← flat_succ ps k hk]
  have : ps.flatten = (ps.take (k + 1)).flatten ++ (ps.drop (k + 1)).flatten := by rw [← List.flatten_append, List.take_append_drop]
  rw [this, List.length_append]; omega
theorem bytes_slice {w : World} {g c : Nat} {q : List (BitVec 8)} {t : TypeId} {fr : Nat × Nat} (hg : w.heap[g]? = some (.cells (bs q) t fr)) (hc : q.length ≤ c) : Slice w (.slice (some ⟨g, 0, none⟩) q.length c) q := by
  refine ⟨_, c, rfl, hc, fun _ => ⟨g, 0, rfl, ?_, fun j x hx => ?_⟩⟩
  · by_cases hl : g < w.heap.size
    · exact hl
    · rw [Array.getElem?_eq_none (by omega)] at hg; cases hg
  · have hj := (List.getElem?_eq_some_iff.1 hx).1
    rw [Nat.zero_add, cell_of_row w g j _ _ _ hg, get_bs q j hj, List.getD_eq_getElem?_getD, hx]; rfl
theorem conv2 (w : World) (o : Obj) (C : Array Value) (n c : Nat) : (convert 56 56 (.slice (some ⟨w.heap.size + 1, 0, none⟩) n c)).run Try.prog ((w.alloc o).alloc (.cells C 5)) = .ok (.slice (some ⟨w.heap.size + 1, 0, none⟩) n c) ((w.alloc o).alloc (.cells C 5 (C.size, C.size + 1))) := by
  have h := Lib.run_convert_bytes_const (P := Try.prog) (w.alloc o) 56 5 C n c Try.underlying56 Try.underlying5
  rw [show (w.alloc o).heap.size = w.heap.size + 1 by simp] at h
  exact h
theorem row_slice {w : World} {g c : Nat} {q : List (BitVec 8)} {t : TypeId} (hg : Row w g t (bs q)) (hc : q.length ≤ c) : Slice w (.slice (some ⟨g, 0, none⟩) q.length c) q := bytes_slice hg hc
theorem owns_refl (w : World) (row : Option Nat) : w.grownBy w row := ⟨rfl, rfl, rfl, Nat.le_refl _, fun _ _ _ => rfl⟩
theorem grown_of_below {w w' : World} (hb : Below w.heap.size w w') (row : Option Nat) : w.grownBy w' row := ⟨hb.os, hb.tape, hb.output, hb.size, fun k hk _ => hb.block k hk⟩
theorem below_of_grown {w w' : World} {base : Nat} {row : Option Nat} (h : w.grownBy w' row) (hr : ∀ g, row = some g → base ≤ g) (hs : base ≤ w.heap.size) : Below base w w' :=
  ⟨h.os, h.tape, h.output, h.size, fun k hk => h.block k (by omega) (fun e => by have := hr k e.symm; omega)⟩
theorem wpList_append_slice {w : World} {ops : Array Oper} {rest : List Oper} {o : Oper} {a : Act} {Q : Exit → Act → World → Prop} (hgd : o.guard = none) (s x : Operand)
    (ho : o.op = .call { callee := .builtin .append, args := #[s, x], argTypes := #[56, 56] }) (base : Nat)
    (v : Value) (n : Nat) (xs : List Value) (hs : a.eval s = v) (hown : w.ownsRow base 5 1 v n xs)
    (A : Option Addr) (m c : Nat) (q : List (BitVec 8)) (hx : a.eval x = .slice A m c) (hq : Slice w (.slice A m c) q) (hA : A = none → c = 0)
    (hnm : n + m ≤ 1000000000) (hbase : base ≤ w.heap.size)
    (h : ∀ v' w', w'.ownsRow base 5 1 v' (n + m) (xs ++ bytesV q) → Below base w w' → wpList Try.prog ops Q rest (a.put o.dst v') w') : wpList Try.prog ops Q (o :: rest) a w := by
  obtain ⟨i0, hi, hz0, hz1, hz2⟩ := info_parts info_u8
  have hblk : ∀ g, v.ownBlock = some g → base ≤ g := fun g hg => (hown.lt g hg).1
  obtain ⟨A', c', e1, _, h3⟩ := hq
  injection e1 with e1 e2 e3
  subst e1 e2 e3
  cases A with
  | none =>
    have hq0 : q = [] := by
      apply Decidable.byContradiction
      intro hne
      obtain ⟨_, _, h4, _⟩ := h3 hne
      cases h4
    subst hq0
    obtain rfl := hA rfl
    refine wpList_append_own_none hgd s x 56 ho base 5 i0 1 Try.underlying56 hi v n xs hs hown hx ?_
    exact h v w (by simpa [bytesV] using hown) (Below.refl _ _)
  | some ad =>
    refine wpList_append_own w hgd s x 56 ho base 5 i0 (.int .u8 0) 1 1 Try.underlying56 hi hz0 hz1 hz2 rfl (by omega) v n xs hs hown ad q.length c (bytesV q) hx (by simp [bytesV]) ?_ (one_bytesV q) (by unfold maxLen; omega) (by omega) hbase ?_
    · intro j u hu
      have hne : q ≠ [] := by rintro rfl; simp [bytesV] at hu
      obtain ⟨b, o, h4, _, h6⟩ := h3 hne
      have h4 := Option.some.inj h4
      subst h4
      rw [Addr.add_mid]
      simp only [bytesV, List.getElem?_map, Option.map_eq_some_iff] at hu
      obtain ⟨y, hy, rfl⟩ := hu
      exact h6 j y hy
    · intro v' w' h1 h2 _
      exact h v' w' h1 (below_of_grown h2 hblk hbase)
theorem own_empty (w : World) : (w.alloc (.cells #[] 5)).ownsRow w.heap.size 5 1 (.slice (some ⟨w.heap.size, 0, none⟩) 0 0) 0 [] :=
  ⟨rfl, .inr ⟨w.heap.size, 0, #[], rfl, Nat.le_refl _, heap_alloc_new w _, Nat.le_refl _, by unfold maxLen; omega, rfl, rfl⟩⟩
theorem owns_call {w w' : World} {base e size n : Nat} {v : Value} {xs : List Value} (h : w.ownsRow base e size v n xs) (hb : Below w.heap.size w w') : w'.ownsRow base e size v n xs := by
  refine h.kept (row := none) (grown_of_below hb none) ?_
  cases hv : v.ownBlock with
  | none => exact .inl rfl
  | some g => exact .inr (by simp)
/- a slice of the call's own that is not empty: where it lies and what it holds -/
theorem owns_form {w : World} {base n : Nat} {e : TypeId} {v : Value} {q : List (BitVec 8)} (h : w.ownsRow base e 1 v n (bytesV q)) (hq : 0 < q.length) :
    ∃ g cap, v = .slice (some ⟨g, 0, none⟩) q.length cap ∧ base ≤ g ∧ g < w.heap.size ∧ q.length ≤ cap ∧ ∀ j x, q[j]? = some x → w.cell? ⟨g, j, none⟩ = some (.int .u8 (bd x)) := by
  have hn : q.length = n := by have := h.1; simp [bytesV] at this; omega
  subst hn
  rcases h.2 with ⟨_, h0⟩ | ⟨g, cap, cur, rfl, hg, hh, hc, _⟩
  · omega
  · refine ⟨g, cap, rfl, hg, (h.lt g rfl).2, hc, fun j x hx => ?_⟩
    have hj := (List.getElem?_eq_some_iff.1 hx).1
    have := h.cellAt j (by omega)
    rw [this]
    simp [bytesV, hx]
theorem parts1 {w : World} {v : Value} {q : List (BitVec 8)} (h : Slice w v q) : Parts (w.alloc (.cells #[v] 56)) (.slice (some ⟨w.heap.size, 0, none⟩) 1 1) [q] := by
  have r := Row.fresh w 56 #[v]
  refine ⟨_, 1, rfl, fun _ => ⟨w.heap.size, 0, rfl, r.lt, fun k p hp => ?_⟩⟩
  match k, hp with
  | 0, hp => obtain rfl : q = p := by simpa using hp
             exact ⟨v, r.get rfl, h.below ((Below.refl _ _).alloc (Nat.le_refl _) _) (Nat.le_refl _)⟩
theorem parts3 {w : World} {a b c : Value} {p q r : List (BitVec 8)} (ha : Slice w a p) (hb : Slice w b q) (hc : Slice w c r) : Parts (w.alloc (.cells #[a, b, c] 56)) (.slice (some ⟨w.heap.size, 0, none⟩) 3 3) [p, q, r] := by
  have t := Row.fresh w 56 #[a, b, c]
  have hx := (Below.refl w.heap.size w).alloc (Nat.le_refl _) (.cells #[a, b, c] 56)
  refine ⟨_, 3, rfl, fun _ => ⟨w.heap.size, 0, rfl, t.lt, fun k s hs => ?_⟩⟩
  match k, hs with
  | 0, hs => obtain rfl : p = s := by simpa using hs
             exact ⟨a, t.get rfl, ha.below hx (Nat.le_refl _)⟩
  | 1, hs => obtain rfl : q = s := by simpa using hs
             exact ⟨b, t.get rfl, hb.below hx (Nat.le_refl _)⟩
  | 2, hs => obtain rfl : r = s := by simpa using hs
             exact ⟨c, t.get rfl, hc.below hx (Nat.le_refl _)⟩
theorem slice_nil (w : World) : Slice w (.slice none 0 0) [] := ⟨none, 0, rfl, by simp, fun h => absurd rfl h⟩
theorem Slice.take {w : World} {A : Option Addr} {c k : Nat} {q : List (BitVec 8)} (h : Slice w (.slice A q.length c) q) (hk : k ≤ q.length) : Slice w (.slice A k c) (q.take k) := by
  obtain ⟨A', c', h1, h2, h3⟩ := h
  injection h1 with h1 _ h1c
  subst h1 h1c
  refine ⟨A, c, by rw [List.length_take, Nat.min_eq_left hk], by rw [List.length_take]; omega, fun hne => ?_⟩
  obtain ⟨b, o, h4, h5, h6⟩ := h3 (by intro e; subst e; simp at hne)
  refine ⟨b, o, h4, h5, fun j x hx => h6 j x ?_⟩
  rw [List.getElem?_take] at hx
  split at hx
  · exact hx
  · cases hx
theorem Slice.drop {w : World} {A : Option Addr} {c k : Nat} {q : List (BitVec 8)} (h : Slice w (.slice A q.length c) q) (hk : k ≤ q.length) : Slice w (.slice (if c = k then A else A.map (·.add k)) (q.length - k) (c - k)) (q.drop k) := by
  obtain ⟨A', c', h1, h2, h3⟩ := h
  injection h1 with h1 _ h1c
  subst h1 h1c
  refine ⟨_, c - k, by rw [List.length_drop], by rw [List.length_drop]; omega, fun hne => ?_⟩
  have hl : 0 < (q.drop k).length := List.length_pos_iff.2 hne
  rw [List.length_drop] at hl
  obtain ⟨b, o, h4, h5, h6⟩ := h3 (by intro e; subst e; simp at hne)
  subst h4
  refine ⟨b, o + k, ?_, h5, fun j x hx => ?_⟩
  · rw [if_neg (by omega)]; simp [Addr.add_mid]
  · rw [List.getElem?_drop] at hx
    rw [Nat.add_assoc]; exact h6 _ x hx
theorem range_call {w w' : World} {g : Nat} {cs : List Value} (h : w.rangeAt g 0 cs) (hb : Below w.heap.size w w') : w'.rangeAt g 0 cs := fun j v hv => by
  have hc := h j v hv
  exact (hb.cell (p := ⟨g, 0 + j, none⟩) (World.block_lt_of_cell? w _ hc)).trans hc
theorem Parts.below {w w' : World} {B : Nat} {v : Value} {ps : List (List (BitVec 8))} (h : Parts w v ps) (hb : Below B w w') (hB : w.heap.size ≤ B) : Parts w' v ps := by
  obtain ⟨A, c, h1, h3⟩ := h
  refine ⟨A, c, h1, fun hne => ?_⟩
  obtain ⟨b, o, h4, h5, h6⟩ := h3 hne
  refine ⟨b, o, h4, Nat.lt_of_lt_of_le h5 hb.size, fun k q hq => ?_⟩
  obtain ⟨u, h7, h8⟩ := h6 k q hq
  exact ⟨u, (hb.cell (p := ⟨b, o + k, none⟩) (Nat.lt_of_lt_of_le h5 hB)).trans h7, h8.below hb hB⟩
theorem mem_flat (ps : List (List (BitVec 8))) (q : List (BitVec 8)) (h : q ∈ ps) : q.length ≤ ps.flatten.length := by
  induction ps with
  | nil => cases h
  | cons p r ih =>
    rw [List.flatten_cons, List.length_append]
    rcases List.mem_cons.1 h with rfl | h
    · omega
    · have := ih h; omega
/- a slice of bytes that may be appended: nil has no room -/
def Item (w : World) (u : Value) (q : List (BitVec 8)) : Prop := ∃ A c, u = .slice A q.length c ∧ Slice w (.slice A q.length c) q ∧ (A = none → c = 0) ∧ q.length ≤ maxLen
def Hand (w : World) (v : Value) (ps : List (List (BitVec 8))) : Prop :=
  ∃ A c, v = .slice A ps.length c ∧ (ps ≠ [] → ∃ b o, A = some ⟨b, o, none⟩ ∧ b < w.heap.size ∧ ∀ k q, ps[k]? = some q → ∃ u, w.cell? ⟨b, o + k, none⟩ = some u ∧ Item w u q)
theorem Item.below {w w' : World} {B : Nat} {u : Value} {q : List (BitVec 8)} (h : Item w u q) (hb : Below B w w') (hB : w.heap.size ≤ B) : Item w' u q := by
  obtain ⟨A, c, h1, h2, h3⟩ := h
  exact ⟨A, c, h1, h2.below hb hB, h3⟩
theorem Item.slice {w : World} {u : Value} {q : List (BitVec 8)} (h : Item w u q) : Slice w u q := by
  obtain ⟨A, c, rfl, h2, h3⟩ := h
  exact h2
theorem Hand.below {w w' : World} {B : Nat} {v : Value} {ps : List (List (BitVec 8))} (h : Hand w v ps) (hb : Below B w w') (hB : w.heap.size ≤ B) : Hand w' v ps := by
  obtain ⟨A, c, h1, h3⟩ := h
  refine ⟨A, c, h1, fun hne => ?_⟩
  obtain ⟨b, o, h4, h5, h6⟩ := h3 hne
  refine ⟨b, o, h4, Nat.lt_of_lt_of_le h5 hb.size, fun k q hq => ?_⟩
  obtain ⟨u, h7, h8⟩ := h6 k q hq
  exact ⟨u, (hb.cell (p := ⟨b, o + k, none⟩) (Nat.lt_of_lt_of_le h5 hB)).trans h7, h8.below hb hB⟩
theorem flat_len (ps : List (List (BitVec 8))) (k : Nat) (hk : k < ps.length) : (ps.take (k + 1)).flatten.length = (ps.take k).flatten.length + ps[k].length := by
  rw [flat_succ ps k hk, List.length_append]
theorem info_sl : (Try.prog.info? 56).map (fun i => (i.zero, i.size, i.bytes)) = some (some (.slice none 0 0), 1, 24) := by kernel_rfl
theorem own_mono {w : World} {base base' e size n : Nat} {v : Value} {xs : List Value} (h : w.ownsRow base e size v n xs) (hb : base' ≤ base) : w.ownsRow base' e size v n xs := by
  refine ⟨h.1, ?_⟩
  rcases h.2 with hn | ⟨g, cap, cur, h1, h2, h3⟩
  · exact .inl hn
  · exact .inr ⟨g, cap, cur, h1, Nat.le_trans hb h2, h3⟩
theorem own_ne {w : World} {b b' n m : Nat} {v u : Value} {xs ys : List Value} (h : w.ownsRow b 56 1 v n xs) (h' : w.ownsRow b' 5 1 u m ys) : u.ownBlock = none ∨ u.ownBlock ≠ v.ownBlock := by
  rcases h'.2 with ⟨rfl, _⟩ | ⟨g', cap', cur', rfl, _, h3', _⟩
  · exact .inl rfl
  · refine .inr fun e => ?_
    rcases h.2 with ⟨rfl, _⟩ | ⟨g, cap, cur, rfl, _, h3, _⟩
    · cases e
    · injection e with e
      change g' = g at e
      subst e
      rw [h3] at h3'
      injection h3' with h3'
      injection h3' with _ h3'
      cases h3'
theorem own_form {w : World} {b e n : Nat} {v : Value} {xs : List Value} (h : w.ownsRow b e 1 v n xs) : ∃ A c, v = .slice A n c := by
  rcases h.2 with ⟨rfl, rfl⟩ | ⟨g, cap, cur, rfl, _⟩
  · exact ⟨none, 0, rfl⟩
  · exact ⟨_, cap, rfl⟩
theorem own_slice {w : World} {base : Nat} {v : Value} {q : List (BitVec 8)} (h : w.ownsRow base 5 1 v q.length (bytesV q)) : Slice w v q := by
  by_cases hq : q = []
  · subst hq
    rcases h.2 with ⟨rfl, _⟩ | ⟨g, cap, cur, rfl, _⟩
    · exact ⟨none, 0, rfl, by simp, fun h => absurd rfl h⟩
    · exact ⟨_, cap, rfl, by simp, fun h => absurd rfl h⟩
  · obtain ⟨g, cap, rfl, _, h3, h4, h5⟩ := owns_form h (List.length_pos_iff.2 hq)
    exact ⟨_, cap, rfl, h4, fun _ => ⟨g, 0, rfl, h3, fun j x hx => by rw [Nat.zero_add]; exact h5 j x hx⟩⟩
/- slices of the call's own, in a slice of the call's own -/
def Owns (w wr : World) (v : Value) (ps : List (List (BitVec 8))) : Prop :=
  ∃ vs : List Value, wr.ownsRow w.heap.size 56 1 v ps.length vs ∧ Below w.heap.size w wr ∧ ∀ (j : Nat) (q : List (BitVec 8)), ps[j]? = some q → ∃ u, vs[j]? = some u ∧ wr.ownsRow w.heap.size 5 1 u q.length (bytesV q)
theorem Owns.parts {w wr : World} {v : Value} {ps : List (List (BitVec 8))} (h : Owns w wr v ps) : Parts wr v ps := by
  obtain ⟨vs, h1, _, h3⟩ := h
  rcases h1.2 with ⟨rfl, h0⟩ | ⟨g, cap, cur, rfl, hg, hh, hc, _⟩
  · obtain rfl : ps = [] := List.length_eq_zero_iff.1 h0
    exact ⟨none, 0, rfl, fun h => absurd rfl h⟩
  · refine ⟨_, cap, rfl, fun _ => ⟨g, 0, rfl, (h1.lt g rfl).2, fun k q hq => ?_⟩⟩
    obtain ⟨u, hu, ho⟩ := h3 k q hq
    have hk := (List.getElem?_eq_some_iff.1 hq).1
    exact ⟨u, by rw [Nat.zero_add, h1.cellAt k (by omega), hu], own_slice ho⟩
theorem Owns.step {w wr w4 w6 : World} {v v1 v2 : Value} {ps : List (List (BitVec 8))} {k : Nat} {vs : List Value} (hk : k < ps.length)
    (h1 : wr.ownsRow w.heap.size 56 1 v k vs) (hb : Below w.heap.size w wr) (h3 : ∀ (j : Nat) (q : List (BitVec 8)), (ps.take k)[j]? = some q → ∃ u, vs[j]? = some u ∧ wr.ownsRow w.heap.size 5 1 u q.length (bytesV q))
    (own1 : w4.ownsRow wr.heap.size 5 1 v1 ps[k].length (bytesV ps[k])) (hb4 : Below wr.heap.size (wr.alloc (.cells #[] 5)) w4)
    (own2 : w6.ownsRow w.heap.size 56 1 v2 (k + 1) (vs ++ [v1])) (hg : (w4.alloc (.cells #[v1] 56)).grownBy w6 v.ownBlock) : Owns w w6 v2 (ps.take (k + 1)) := by
  have hb5 : Below wr.heap.size wr (w4.alloc (.cells #[v1] 56)) := (((Below.refl wr.heap.size wr).alloc (Nat.le_refl _) _).trans hb4).alloc (Nat.le_trans (by simp) hb4.size) _
  have o5 := owns_call h1 hb5
  have hl : vs.length = k := by simpa using h1.1
  refine ⟨vs ++ [v1], by rw [List.length_take, Nat.min_eq_left (by omega)]; exact own2, ?_, fun j q hq => ?_⟩
  · refine (hb.trans (hb5.mono hb.size)).trans (below_of_grown hg (fun g e => (o5.lt g e).1) (Nat.le_trans hb.size hb5.size))
  · have hj := (List.getElem?_eq_some_iff.1 hq).1
    rw [List.length_take] at hj
    by_cases hjk : j < k
    · obtain ⟨u, hu, ho⟩ := h3 j q (by rw [List.getElem?_take, if_pos (by omega)] at hq; rw [List.getElem?_take, if_pos hjk]; exact hq)
      have ho5 := owns_call ho hb5
      exact ⟨u, by rw [List.getElem?_append_left (by omega)]; exact hu, ho5.kept hg (own_ne o5 ho5)⟩
    · obtain rfl : j = k := by omega
      obtain rfl : ps[j] = q := by rw [List.getElem?_take, if_pos (by omega), List.getElem?_eq_getElem hk] at hq; injection hq
      have ho5 := (own_mono own1 hb.size).alloc (.cells #[v1] 56)
      exact ⟨v1, by rw [List.getElem?_append_right (by omega), hl]; simp, ho5.kept hg (own_ne o5 ho5)⟩
/- the slices of a slice of slices, as a list -/
theorem Parts.list {w : World} {v : Value} {ps : List (List (BitVec 8))} (h : Parts w v ps) : ∃ A c, ∃ us : List Value, v = .slice A ps.length c ∧ us.length = ps.length ∧ (∀ ad, A = some ad → ∀ (j : Nat) (u : Value), us[j]? = some u → w.cell? (ad.add j) = some u) ∧ (A = none → ps = []) ∧
    (∀ u ∈ us, Value.oneCell' u = true) ∧ ∀ (k : Nat) (q : List (BitVec 8)), ps[k]? = some q → ∃ u, us[k]? = some u ∧ Slice w u q := by
  obtain ⟨A, c, rfl, h3⟩ := h
  by_cases hne : ps = []
  · subst hne
    exact ⟨A, c, [], rfl, rfl, fun _ _ j u hu => (by simp at hu), fun _ => rfl, fun u hu => (by cases hu), fun k q hq => (by simp at hq)⟩
  · obtain ⟨b, o, rfl, _, hc⟩ := h3 hne
    have hk : ∀ k, k < ps.length → ∃ u, w.cell? ⟨b, o + k, none⟩ = some u ∧ Slice w u (ps.getD k []) := fun k hk => hc k _ (by rw [List.getD_eq_getElem?_getD, List.getElem?_eq_getElem hk]; rfl)
    refine ⟨some ⟨b, o, none⟩, c, (List.range ps.length).map fun k => (w.cell? ⟨b, o + k, none⟩).getD undef, rfl, by simp, ?_, fun h => (by cases h), ?_, ?_⟩
    · rintro ad e j u hu
      injection e with e
      subst e
      simp only [List.getElem?_map, Option.map_eq_some_iff] at hu
      obtain ⟨k, hk1, rfl⟩ := hu
      have hlt : j < ps.length := by have := (List.getElem?_eq_some_iff.1 hk1).1; simpa using this
      obtain rfl : j = k := by simpa [hlt] using hk1
      obtain ⟨u, hu, _⟩ := hk _ hlt
      rw [Addr.add_mid, hu]; rfl
    · intro u hu
      simp only [List.mem_map, List.mem_range] at hu
      obtain ⟨k, hlt, rfl⟩ := hu
      obtain ⟨u, hu, A', c', rfl, _⟩ := hk k hlt
      rw [hu]; rfl
    · intro k q hq
      have hlt := (List.getElem?_eq_some_iff.1 hq).1
      obtain ⟨u, hu, hs⟩ := hk k hlt
      rw [List.getD_eq_getElem?_getD, hq] at hs
      exact ⟨u, by simp [hlt, hu], hs⟩
theorem parts_own {w : World} {base g N cap : Nat} {bv : Value} {us : List Value} {l : List (BitVec 8)} {ps : List (List (BitVec 8))} (h : w.ownsRow base 56 1 (.slice (some ⟨g, 0, none⟩) N cap) N ([bv] ++ us)) (hN : N = ps.length + 1)
    (hb : Slice w bv l) (hu : ∀ (k : Nat) (q : List (BitVec 8)), ps[k]? = some q → ∃ u, us[k]? = some u ∧ Slice w u q) : Parts w (.slice (some ⟨g, 0, none⟩) N cap) (l :: ps) := by
  subst hN
  refine ⟨_, cap, rfl, fun _ => ⟨g, 0, rfl, (h.lt g rfl).2, fun k q hq => ?_⟩⟩
  have hk := (List.getElem?_eq_some_iff.1 hq).1
  rw [Nat.zero_add, h.cellAt k (by simp at hk; omega)]
  cases k with
  | zero => obtain rfl : l = q := by simpa using hq
            exact ⟨bv, rfl, hb⟩
  | succ k => obtain ⟨u, hu1, hu2⟩ := hu k q (by simpa using hq)
              exact ⟨u, by simpa using hu1, hu2⟩
theorem below_only {w w' : World} {g B : Nat} (h : w.grownBy w' (some g)) (hg : B ≤ g) (hs : B ≤ w.heap.size) : Below B w w' := below_of_grown h (fun k e => by injection e with e; omega) hs
theorem conv3 (w : World) (o o' : Obj) (C : Array Value) (n c : Nat) : (convert 56 56 (.slice (some ⟨w.heap.size + 1 + 1, 0, none⟩) n c)).run Try.prog (((w.alloc o).alloc o').alloc (.cells C 5)) = .ok (.slice (some ⟨w.heap.size + 1 + 1, 0, none⟩) n c) (((w.alloc o).alloc o').alloc (.cells C 5 (C.size, C.size + 1))) := by
  have h := Lib.run_convert_bytes_const (P := Try.prog) ((w.alloc o).alloc o') 56 5 C n c Try.underlying56 Try.underlying5
  rw [show ((w.alloc o).alloc o').heap.size = w.heap.size + 1 + 1 by simp] at h
  exact h
theorem parts2 {w : World} {a b : Value} {p q : List (BitVec 8)} (ha : Slice w a p) (hb : Slice w b q) : Parts (w.alloc (.cells #[a, b] 56)) (.slice (some ⟨w.heap.size, 0, none⟩) 2 2) [p, q] := by
  have t := Row.fresh w 56 #[a, b]
  have hx := (Below.refl w.heap.size w).alloc (Nat.le_refl _) (.cells #[a, b] 56)
  refine ⟨_, 2, rfl, fun _ => ⟨w.heap.size, 0, rfl, t.lt, fun k s hs => ?_⟩⟩
  match k, hs with
  | 0, hs => obtain rfl : p = s := by simpa using hs
             exact ⟨a, t.get rfl, ha.below hx (Nat.le_refl _)⟩
  | 1, hs => obtain rfl : q = s := by simpa using hs
             exact ⟨b, t.get rfl, hb.below hx (Nat.le_refl _)⟩
theorem consts3 (w : World) (p q r : List (BitVec 8)) (f g h : Nat × Nat) :
    Slice (((w.alloc (.cells (bs p) 5 f)).alloc (.cells (bs q) 5 g)).alloc (.cells (bs r) 5 h)) (.slice (some ⟨w.heap.size, 0, none⟩) p.length p.length) p ∧
    Slice (((w.alloc (.cells (bs p) 5 f)).alloc (.cells (bs q) 5 g)).alloc (.cells (bs r) 5 h)) (.slice (some ⟨w.heap.size + 1, 0, none⟩) q.length q.length) q ∧
    Slice (((w.alloc (.cells (bs p) 5 f)).alloc (.cells (bs q) 5 g)).alloc (.cells (bs r) 5 h)) (.slice (some ⟨w.heap.size + 1 + 1, 0, none⟩) r.length r.length) r := by
  refine ⟨bytes_slice (t := 5) (fr := f) ?_ (Nat.le_refl _), bytes_slice (t := 5) (fr := g) ?_ (Nat.le_refl _), bytes_slice (t := 5) (fr := h) ?_ (Nat.le_refl _)⟩
  · rw [Below.heap_alloc _ _ _ (by simp; omega), Below.heap_alloc _ _ _ (by simp), heap_alloc_new]
  · rw [Below.heap_alloc _ _ _ (by simp), heap_alloc2_new]
  · have e : w.heap.size + 1 + 1 = ((w.alloc (.cells (bs p) 5 f)).alloc (.cells (bs q) 5 g)).heap.size := by simp
    rw [e, heap_alloc_new]
theorem hand1 {w : World} {v : Value} {q : List (BitVec 8)} (h : Item w v q) : Hand (w.alloc (.cells #[v] 56)) (.slice (some ⟨w.heap.size, 0, none⟩) 1 1) [q] := by
  have r := Row.fresh w 56 #[v]
  refine ⟨_, 1, rfl, fun _ => ⟨w.heap.size, 0, rfl, r.lt, fun k p hp => ?_⟩⟩
  match k, hp with
  | 0, hp => obtain rfl : q = p := by simpa using hp
             exact ⟨v, r.get rfl, h.below ((Below.refl _ _).alloc (Nat.le_refl _) _) (Nat.le_refl _)⟩
/- the slices of a slice of slices that was handed in, as a list -/
theorem Hand.list {w : World} {v : Value} {ps : List (List (BitVec 8))} (h : Hand w v ps) : ∃ A c, ∃ us : List Value, v = .slice A ps.length c ∧ us.length = ps.length ∧ (∀ ad, A = some ad → ∀ (j : Nat) (u : Value), us[j]? = some u → w.cell? (ad.add j) = some u) ∧ (A = none → ps = []) ∧
    (∀ u ∈ us, Value.oneCell' u = true) ∧ ∀ (k : Nat) (q : List (BitVec 8)), ps[k]? = some q → ∃ u, us[k]? = some u ∧ Item w u q := by
  obtain ⟨A, c, rfl, h3⟩ := h
  by_cases hne : ps = []
  · subst hne
    exact ⟨A, c, [], rfl, rfl, fun _ _ j u hu => (by simp at hu), fun _ => rfl, fun u hu => (by cases hu), fun k q hq => (by simp at hq)⟩
  · obtain ⟨b, o, rfl, _, hc⟩ := h3 hne
    have hk : ∀ k, k < ps.length → ∃ u, w.cell? ⟨b, o + k, none⟩ = some u ∧ Item w u (ps.getD k []) := fun k hk => hc k _ (by rw [List.getD_eq_getElem?_getD, List.getElem?_eq_getElem hk]; rfl)
    refine ⟨some ⟨b, o, none⟩, c, (List.range ps.length).map fun k => (w.cell? ⟨b, o + k, none⟩).getD undef, rfl, by simp, ?_, fun h => (by cases h), ?_, ?_⟩
    · rintro ad e j u hu
      injection e with e
      subst e
      simp only [List.getElem?_map, Option.map_eq_some_iff] at hu
      obtain ⟨k, hk1, rfl⟩ := hu
      have hlt : j < ps.length := by have := (List.getElem?_eq_some_iff.1 hk1).1; simpa using this
      obtain rfl : j = k := by simpa [hlt] using hk1
      obtain ⟨u, hu, _⟩ := hk _ hlt
      rw [Addr.add_mid, hu]; rfl
    · intro u hu
      simp only [List.mem_map, List.mem_range] at hu
      obtain ⟨k, hlt, rfl⟩ := hu
      obtain ⟨u, hu, A', c', rfl, _⟩ := hk k hlt
      rw [hu]; rfl
    · intro k q hq
      have hlt := (List.getElem?_eq_some_iff.1 hq).1
      obtain ⟨u, hu, hs⟩ := hk k hlt
      rw [List.getD_eq_getElem?_getD, hq] at hs
      exact ⟨u, by simp [hlt, hu], hs⟩
theorem hand_own {w : World} {base g N cap : Nat} {bv : Value} {us : List Value} {l : List (BitVec 8)} {ps : List (List (BitVec 8))} (h : w.ownsRow base 56 1 (.slice (some ⟨g, 0, none⟩) N cap) N ([bv] ++ us)) (hN : N = ps.length + 1)
    (hb : Item w bv l) (hu : ∀ (k : Nat) (q : List (BitVec 8)), ps[k]? = some q → ∃ u, us[k]? = some u ∧ Item w u q) : Hand w (.slice (some ⟨g, 0, none⟩) N cap) (l :: ps) := by
  subst hN
  refine ⟨_, cap, rfl, fun _ => ⟨g, 0, rfl, (h.lt g rfl).2, fun k q hq => ?_⟩⟩
  have hk := (List.getElem?_eq_some_iff.1 hq).1
  rw [Nat.zero_add, h.cellAt k (by simp at hk; omega)]
  cases k with
  | zero => obtain rfl : l = q := by simpa using hq
            exact ⟨bv, rfl, hb⟩
  | succ k => obtain ⟨u, hu1, hu2⟩ := hu k q (by simpa using hq)
              exact ⟨u, by simpa using hu1, hu2⟩
theorem wpList_append_parts {w : World} {ops : Array Oper} {rest : List Oper} {o : Oper} {a : Act} {Q : Exit → Act → World → Prop} (hgd : o.guard = none) (s x : Operand)
    (ho : o.op = .call { callee := .builtin .append, args := #[s, x], argTypes := #[86, 86] }) (base : Nat)
    (v : Value) (n : Nat) (xs : List Value) (hs : a.eval s = v) (hown : w.ownsRow base 56 1 v n xs)
    (A : Option Addr) (m c : Nat) (us : List Value) (hx : a.eval x = .slice A m c) (hul : us.length = m) (huc : ∀ ad, A = some ad → ∀ (j : Nat) (u : Value), us[j]? = some u → w.cell? (ad.add j) = some u) (hun : A = none → m = 0 ∧ c = 0) (huo : ∀ u ∈ us, Value.oneCell' u = true)
    (hnm : n + m ≤ 1000000000) (hbase : base ≤ w.heap.size)
    (h : ∀ v' w', w'.ownsRow base 56 1 v' (n + m) (xs ++ us) → Below base w w' → wpList Try.prog ops Q rest (a.put o.dst v') w') : wpList Try.prog ops Q (o :: rest) a w := by
  obtain ⟨i1, hi1, hz10, hz11, hz12⟩ := info_parts info_sl
  have hblk : ∀ g, v.ownBlock = some g → base ≤ g := fun g hg => (hown.lt g hg).1
  cases A with
  | none =>
    obtain ⟨rfl, rfl⟩ := hun rfl
    obtain rfl : us = [] := List.length_eq_zero_iff.1 hul
    refine wpList_append_own_none hgd s x 86 ho base 56 i1 1 Try.underlying86 hi1 v n xs hs hown hx ?_
    exact h v w (by simpa using hown) (Below.refl _ _)
  | some ad =>
    refine wpList_append_own w hgd s x 86 ho base 56 i1 (.slice none 0 0) 1 24 Try.underlying86 hi1 hz10 hz11 hz12 rfl (by omega) v n xs hs hown ad m c us hx (by omega) (huc ad rfl) huo (by unfold maxLen; omega) (by omega) hbase ?_
    intro v' w' h1 h2 _
    exact h v' w' h1 (below_of_grown h2 hblk hbase)
theorem item_row {w : World} {g c : Nat} {q : List (BitVec 8)} {t : TypeId} (hg : Row w g t (bs q)) (hc : q.length ≤ c) (hm : q.length ≤ maxLen) : Item w (.slice (some ⟨g, 0, none⟩) q.length c) q :=
  ⟨_, c, rfl, row_slice hg hc, fun h => (by cases h), hm⟩
theorem hand2 {w : World} {a b : Value} {p q : List (BitVec 8)} (ha : Item w a p) (hb : Item w b q) : Hand (w.alloc (.cells #[a, b] 56)) (.slice (some ⟨w.heap.size, 0, none⟩) 2 2) [p, q] := by
  have t := Row.fresh w 56 #[a, b]
  have hx := (Below.refl w.heap.size w).alloc (Nat.le_refl _) (.cells #[a, b] 56)
  refine ⟨_, 2, rfl, fun _ => ⟨w.heap.size, 0, rfl, t.lt, fun k s hs => ?_⟩⟩
  match k, hs with
  | 0, hs => obtain rfl : p = s := by simpa using hs
             exact ⟨a, t.get rfl, ha.below hx (Nat.le_refl _)⟩
  | 1, hs => obtain rfl : q = s := by simpa using hs
             exact ⟨b, t.get rfl, hb.below hx (Nat.le_refl _)⟩
theorem own_lit1 (w : World) (u : Value) : (w.alloc (.cells #[u] 56)).ownsRow w.heap.size 56 1 (.slice (some ⟨w.heap.size, 0, none⟩) 1 1) 1 [u] :=
  World.ownsRow_lit w #[u] 1 (Nat.le_refl _) (by unfold maxLen; omega) rfl
theorem own_nil {w : World} {base e n : Nat} {v : Value} {xs : List Value} (h : w.ownsRow base e 1 v n xs) : ∀ m c, v = .slice none m c → c = 0 := by
  intro m c e
  rcases h.2 with ⟨rfl, _⟩ | ⟨g, cap, cur, rfl, _⟩
  · injection e with _ _ e; exact e.symm
  · injection e with e _ _; cases e
theorem row_range {w W : World} {B g : Nat} {t : TypeId} {l : List (BitVec 8)} (h : Row w g t (bs l)) (hb : Below B w W) (hg : g < B) : W.rangeAt g 0 (bs l).toList := fun j v hv => by
  rw [Nat.zero_add, (h.below hb hg).cell]; simpa using hv
theorem tmod_nat (x : Int) (hx : 0 ≤ x) (n : Nat) : x.tmod (n : Int) = ((x.toNat % n : Nat) : Int) := by
  obtain ⟨m, rfl⟩ := Int.eq_ofNat_of_zero_le hx
  rw [Int.tmod_eq_emod_of_nonneg hx]; simp
theorem bs_toList (l : List (BitVec 8)) : (bs l).toList = bytesV l := by simp [bs, bytesV]
theorem wp_append_slice {w : World} {o : Oper} {a : Act} {K : Act → World → Prop} {Q : Exit → Act → World → Prop} (s x : Operand)
    (ho : o.op = .call { callee := .builtin .append, args := #[s, x], argTypes := #[56, 56] }) (base : Nat)
    (v : Value) (n : Nat) (xs : List Value) (hs : a.eval s = v) (hown : w.ownsRow base 5 1 v n xs)
    (A : Option Addr) (m c : Nat) (q : List (BitVec 8)) (hx : a.eval x = .slice A m c) (hq : Slice w (.slice A m c) q) (hA : A = none → c = 0)
    (hnm : n + m ≤ 1000000000) (hbase : base ≤ w.heap.size)
    (h : ∀ v' w', w'.ownsRow base 5 1 v' (n + m) (xs ++ bytesV q) → Below base w w' → K (a.put o.dst v') w') : o.wp Try.prog a w K Q := by
  obtain ⟨i0, hi, hz0, hz1, hz2⟩ := info_parts info_u8
  have hblk : ∀ g, v.ownBlock = some g → base ≤ g := fun g hg => (hown.lt g hg).1
  obtain ⟨A', c', e1, _, h3⟩ := hq
  injection e1 with e1 e2 e3
  subst e1 e2 e3
  cases A with
  | none =>
    have hq0 : q = [] := by
      apply Decidable.byContradiction
      intro hne
      obtain ⟨_, _, h4, _⟩ := h3 hne
      cases h4
    subst hq0
    obtain rfl := hA rfl
    have hrun := run_append_owned_none (P := Try.prog) (w := w) base 56 o.type 5 i0 1 Try.underlying56 hi v n xs hown
    unfold Oper.wp
    simp only [List.length_nil] at hx
    simp [execOp, ho, resolve, invoke, builtin, hs, hx, hrun, Result.andThen]
    exact h v w (by simpa [bytesV] using hown) (Below.refl _ _)
  | some ad =>
    refine wp_append_own w s x 56 ho base 5 i0 (.int .u8 0) 1 1 Try.underlying56 hi hz0 hz1 hz2 rfl (by omega) v n xs hs hown ad q.length c (bytesV q) hx (by simp [bytesV]) ?_ (one_bytesV q) (by unfold maxLen; omega) (by omega) hbase ?_
    · intro j u hu
      have hne : q ≠ [] := by rintro rfl; simp [bytesV] at hu
      obtain ⟨b, o, h4, _, h6⟩ := h3 hne
      have h4 := Option.some.inj h4
      subst h4
      rw [Addr.add_mid]
      simp only [bytesV, List.getElem?_map, Option.map_eq_some_iff] at hu
      obtain ⟨y, hy, rfl⟩ := hu
      exact h6 j y hy
    · intro v' w' h1 h2 _
      exact h v' w' h1 (below_of_grown h2 hblk hbase)
theorem grown_setRow (w : World) (g : Nat) (cs : Array Value) : w.grownBy (w.setRow g cs) (some g) :=
  ⟨rfl, rfl, rfl, by rw [size_setRow]; exact Nat.le_refl _, fun k _ hk => setRow_other w g k cs (fun e => hk (by rw [e]))⟩
theorem copied (cur q : List (BitVec 8)) : ((bs cur).toList.take 0 ++ (bytesV q ++ (bs cur).toList.drop (0 + (bytesV q).length))).toArray = bs (q ++ cur.drop q.length) := by
  simp [bs, bytesV]
theorem wpList_copy_bytes {w : World} {ops : Array Oper} {rest : List Oper} {o : Oper} {a : Act} {Q : Exit → Act → World → Prop} (hgd : o.guard = none) (d s : Operand)
    (ho : o.op = .call { callee := .builtin .copy, args := #[d, s], argTypes := #[56, 56] })
    (g n m : Nat) (hd : a.eval d = .slice (some ⟨g, 0, none⟩) n m) (v : Value) (hs : a.eval s = v) (q cur : List (BitVec 8)) (hq : Slice w v q) (t : TypeId) (hg : Row w g t (bs cur)) (hn : cur.length = n) (hle : q.length ≤ n)
    (h : ∀ w', Row w' g t (bs (q ++ cur.drop q.length)) → w.grownBy w' (some g) → wpList Try.prog ops Q rest (a.put o.dst (goInt q.length)) w') : wpList Try.prog ops Q (o :: rest) a w := by
  obtain ⟨A, c, rfl, _, h3⟩ := hq
  by_cases hne : q = []
  · subst hne
    refine wpList_copy_nothing hgd d s 56 56 ho 5 Try.underlying56 size_u8 _ _ n m 0 c hd hs (Nat.zero_min _) ?_
    exact h w (by simpa using hg) (owns_refl w _)
  · obtain ⟨b, o', rfl, hbl, hc⟩ := h3 hne
    refine wpList_copy_own hgd d s 56 56 ho 5 Try.underlying56 size_u8 g 0 n m ⟨b, o', none⟩ q.length c hd hs (bs cur) t hg (bytesV q) (by rw [show (bytesV q).length = q.length by simp [bytesV]]; exact (Nat.min_eq_left hle).symm) ?_ (by rw [size_bs]; simp [bytesV]; omega) (one_bytesV q) ?_
    · intro j u hu
      rw [Addr.add_mid]
      simp only [bytesV, List.getElem?_map, Option.map_eq_some_iff] at hu
      obtain ⟨y, hy, rfl⟩ := hu
      exact hc j y hy
    · rw [copied, show (bytesV q).length = q.length by simp [bytesV]]
      exact h _ (hg.setRow _) (grown_setRow _ _ _)
def modK (k : Int) (n : Nat) : Nat := ((k.tmod n + n) % n).toNat
theorem modK_lt (k : Int) (n : Nat) (h : 0 < n) : modK k n < n := by
  unfold modK
  have h1 := Int.emod_nonneg (k.tmod n + n) (show (n : Int) ≠ 0 by omega)
  have h2 := Int.emod_lt_of_pos (k.tmod n + n) (show (0 : Int) < n by omega)
  omega
theorem wpList_guarded {P : Program} {ops : Array Oper} {Q : Exit → Act → World → Prop} {a : Act} {w : World} {rest : List Oper} {o : Oper} (hw : Region.wanted o (yielded ops a.tmps) = true)
    (h : ∀ K : Act → World → Prop, (∀ a w, wpList P ops Q rest a w → K a w) → o.wp P a w K Q) : wpList P ops Q (o :: rest) a w :=
  wpList_step fun K hK => by rw [if_pos hw]; exact h K hK
theorem Hand.parts {w : World} {v : Value} {ps : List (List (BitVec 8))} (h : Hand w v ps) : Parts w v ps := by
  obtain ⟨A, c, h1, h3⟩ := h
  refine ⟨A, c, h1, fun hne => ?_⟩
  obtain ⟨b, o, h4, h5, h6⟩ := h3 hne
  refine ⟨b, o, h4, h5, fun k q hq => ?_⟩
  obtain ⟨u, h7, h8⟩ := h6 k q hq
  exact ⟨u, h7, h8.slice⟩
theorem slice_set {w : World} {g cap m : Nat} {q : List (BitVec 8)} {cur : Array Value} {t : TypeId} (hg : Row w g t cur) (ht : cur.toList.take q.length = bytesV q) (hc : q.length ≤ cap) (hm : m < q.length) (y : BitVec 8) :
    Slice (w.setCell ⟨g, m, none⟩ (.int .u8 (bd y))) (.slice (some ⟨g, 0, none⟩) q.length cap) (q.set m y) := by
  have hr := hg.put m (.int .u8 (bd y))
  refine ⟨_, cap, by rw [List.length_set], by rw [List.length_set]; exact hc, fun _ => ⟨g, 0, rfl, hr.lt, fun j x hx => ?_⟩⟩
  rw [Nat.zero_add, hr.cell, Array.getElem?_setIfInBounds]
  have hcj : ∀ j, j < q.length → cur[j]? = (bytesV q)[j]? := fun j hj => by
    rw [← ht, List.getElem?_take, if_pos hj]; simp
  have hj : j < q.length := by have := (List.getElem?_eq_some_iff.1 hx).1; rwa [List.length_set] at this
  have hcur : j < cur.size := by
    have := hcj j hj
    have h2 : (bytesV q)[j]? = some (.int .u8 (bd q[j])) := by simp [bytesV, hj]
    rw [h2] at this
    exact (Array.getElem?_eq_some_iff.1 this).1
  by_cases hmj : m = j
  · subst hmj
    rw [if_pos rfl, if_pos hcur]
    rw [List.getElem?_set_self hm] at hx
    injection hx with hx
    rw [hx]
  · rw [if_neg hmj, hcj j hj]
    rw [List.getElem?_set_ne hmj] at hx
    simp [bytesV, hx]
/- a row of which the first cells are bytes: one of them is stored -/
theorem row_put {w : World} {g m : Nat} {q : List (BitVec 8)} {cur : Array Value} {t : TypeId} (hg : Row w g t cur) (ht : cur.toList.take q.length = bytesV q) (y : BitVec 8) :
    ∃ cur' : Array Value, Row (w.setCell ⟨g, m, none⟩ (.int .u8 (bd y))) g t cur' ∧ cur'.toList.take (q.set m y).length = bytesV (q.set m y) := by
  refine ⟨_, hg.put m (.int .u8 (bd y)), ?_⟩
  have hl : q.length ≤ cur.size := by
    have h := congrArg List.length ht
    simp [bytesV] at h
    omega
  rw [List.length_set, Array.toList_setIfInBounds, List.take_set, ht]
  simp [bytesV, List.map_set]
theorem row_pre {w : World} {g cap : Nat} {q : List (BitVec 8)} {cur : Array Value} {t : TypeId} (hg : Row w g t cur) (ht : cur.toList.take q.length = bytesV q) (hc : q.length ≤ cap) : Slice w (.slice (some ⟨g, 0, none⟩) q.length cap) q := by
  refine ⟨_, cap, rfl, hc, fun _ => ⟨g, 0, rfl, hg.lt, fun j x hx => ?_⟩⟩
  have hj := (List.getElem?_eq_some_iff.1 hx).1
  have h1 : (cur.toList.take q.length)[j]? = (bytesV q)[j]? := by rw [ht]
  rw [List.getElem?_take, if_pos hj] at h1
  rw [Nat.zero_add, hg.cell]
  have h2 : cur[j]? = (bytesV q)[j]? := by rw [← h1]; simp
  rw [h2]; simp [bytesV, hx]
theorem row_at {w : World} {g m : Nat} {q : List (BitVec 8)} {cur : Array Value} {t : TypeId} (hg : Row w g t cur) (ht : cur.toList.take q.length = bytesV q) (hm : m < q.length) : w.cell? ⟨g, m, none⟩ = some (.int .u8 (bd (q.getD m 0))) := by
  have h1 : (cur.toList.take q.length)[m]? = (bytesV q)[m]? := by rw [ht]
  rw [List.getElem?_take, if_pos hm] at h1
  rw [hg.cell]
  have h2 : cur[m]? = (bytesV q)[m]? := by rw [← h1]; simp
  rw [h2]; simp [bytesV, List.getD_eq_getElem?_getD, hm]
theorem own_row {w : World} {base : Nat} {v : Value} {q : List (BitVec 8)} (h : w.ownsRow base 5 1 v q.length (bytesV q)) (hq : 0 < q.length) :
    ∃ g cap cur, v = .slice (some ⟨g, 0, none⟩) q.length cap ∧ base ≤ g ∧ Row w g 5 cur ∧ q.length ≤ cap ∧ cur.toList.take q.length = bytesV q := by
  rcases h.2 with ⟨_, h0⟩ | ⟨g, cap, cur, h1, h2, h3, h4, _, _, h7⟩
  · omega
  · exact ⟨g, cap, cur, h1, h2, h3, h4, by simpa using h7⟩
end Go.Proofs.Ytppbgkdkioldbaa
