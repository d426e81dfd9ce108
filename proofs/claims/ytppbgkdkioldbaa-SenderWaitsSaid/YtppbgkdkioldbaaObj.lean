/- What a call changes when it works on things that were there: a footprint; rows of elements of several cells. No function of the program is named here. -/
import Derived.Test.YtppbgkdkioldbaaSl
import Derived.Deep.MidRow
import Derived.OwnWalk
import Derived.Laws.OwnMore
set_option maxRecDepth 4000
namespace Go.Proofs.Ytppbgkdkioldbaa
open Go Go.RowKit
/- all blocks but those of F are as they were -/
structure Chg (F : Nat → Prop) (w w' : World) : Prop where
  os : w'.os = w.os
  tape : w'.tape = w.tape
  output : w'.output = w.output
  size : w.heap.size ≤ w'.heap.size
  block : ∀ k, k < w.heap.size → ¬ F k → w'.heap[k]? = w.heap[k]?
section
variable {F F' : Nat → Prop} {a b c w w' : World}
theorem Chg.refl (F : Nat → Prop) (w : World) : Chg F w w := ⟨rfl, rfl, rfl, Nat.le_refl _, fun _ _ _ => rfl⟩
theorem Chg.trans (h : Chg F a b) (k : Chg F' b c) (hF : ∀ i, F' i → F i ∨ a.heap.size ≤ i) : Chg F a c :=
  ⟨k.os.trans h.os, k.tape.trans h.tape, k.output.trans h.output, Nat.le_trans h.size k.size, fun i hi hn => (k.block i (Nat.lt_of_lt_of_le hi h.size) fun hf => by rcases hF i hf with h1 | h1; exact hn h1; omega).trans (h.block i hi hn)⟩
theorem Chg.mono (h : Chg F a b) (hF : ∀ i, F i → F' i ∨ a.heap.size ≤ i) : Chg F' a b := (Chg.refl F' a).trans h hF
theorem Chg.of_below (h : Below w.heap.size w w') : Chg F w w' := ⟨h.os, h.tape, h.output, h.size, fun k hk _ => h.block k hk⟩
theorem Chg.drew (h : Chg F a w) : Chg F a w.drew := ⟨h.os, h.tape, h.output, h.size, h.block⟩
theorem Chg.alloc (h : Chg F a w) (o : Obj) : Chg F a (w.alloc o) := h.trans (F' := fun _ => False) (Chg.of_below ((Below.refl _ _).alloc (Nat.le_refl _) o)) (fun _ h => h.elim)
theorem Chg.setCell (h : Chg F a w) {p : Addr} (hp : F p.block ∨ a.heap.size ≤ p.block) (v : Value) : Chg F a (w.setCell p v) :=
  ⟨h.os, h.tape, h.output, by rw [World.size_setCell]; exact h.size, fun k hk hn => (Below.heap_setCell _ _ _ _ (fun e => by subst e; rcases hp with h1 | h1; exact hn h1; omega)).trans (h.block k hk hn)⟩
theorem Chg.setCells {g : Nat} (hp : F g ∨ a.heap.size ≤ g) : ∀ (vs : List Value) (o : Nat) {w : World}, Chg F a w → Chg F a (w.setCells g o vs)
  | [], _, _, h => h
  | v :: vs, o, _, h => Chg.setCells hp vs (o + 1) (h.setCell (p := ⟨g, o, none⟩) hp v)
theorem Chg.one (w : World) (g o : Nat) (v : Value) : Chg (fun k => k = g) w (w.setCell ⟨g, o, none⟩ v) := (Chg.refl (fun k => k = g) w).setCell (p := ⟨g, o, none⟩) (.inl rfl) v
theorem Chg.below (h : Chg F w w') {B : Nat} (hF : ∀ i, F i → B ≤ i) (hB : B ≤ w.heap.size) : Below B w w' := ⟨h.os, h.tape, h.output, h.size, fun k hk => h.block k (by omega) fun hf => by have := hF k hf; omega⟩
theorem Chg.grown (h : Chg F a w) {row : Option Nat} (hg : w.grownBy w' row) (hr : ∀ k, row = some k → F k ∨ a.heap.size ≤ k) : Chg F a w' :=
  h.trans (F' := fun k => row = some k) ⟨hg.os, hg.tape, hg.output, hg.size, fun k hk hn => hg.block k hk fun e => hn e.symm⟩ hr
theorem Row.chg {g : Nat} {t : TypeId} {cs : Array Value} (h : Row w g t cs) (k : Chg F w w') (hg : ¬ F g) : Row w' g t cs := (k.block g h.lt hg).trans h
theorem own_chg {base e size n : Nat} {v : Value} {xs : List Value} (h : w.ownsRow base e size v n xs) (k : Chg F w w') (hg : ∀ g, v.ownBlock = some g → ¬ F g) : w'.ownsRow base e size v n xs := by
  refine ⟨h.1, ?_⟩
  rcases h.2 with hn | ⟨g, cap, cur, rfl, h2, h3, h4⟩
  · exact .inl hn
  · refine .inr ⟨g, cap, cur, rfl, h2, ?_, h4⟩
    have hlt : g < w.heap.size := (Array.getElem?_eq_some_iff.1 h3).1
    rw [k.block g hlt (hg g rfl)]; exact h3
end
/- rows of elements of several cells -/
def spl {α : Type} (L : List α) (o : Nat) (vs : List α) : List α := L.take o ++ vs ++ L.drop (o + vs.length)
theorem length_spl {α : Type} (L : List α) (o : Nat) (vs : List α) (h : o + vs.length ≤ L.length) : (spl L o vs).length = L.length := by simp [spl]; omega
theorem set_eq_spl {α : Type} (L : List α) (o : Nat) (v : α) (h : o < L.length) : L.set o v = spl L o [v] := by
  rw [spl, List.set_eq_take_append_cons_drop, if_pos h]; simp
theorem spl_cons {α : Type} (L : List α) (o : Nat) (v : α) (vs : List α) (h : o + (vs.length + 1) ≤ L.length) : spl (L.set o v) (o + 1) vs = spl L o (v :: vs) := by
  unfold spl
  rw [List.take_set, List.drop_set_of_lt (by omega), List.length_cons, show o + 1 + vs.length = o + (vs.length + 1) by omega]
  congr 1
  rw [List.take_succ_eq_append_getElem (by omega), List.set_append_right _ _ (by rw [List.length_take]; exact Nat.min_le_left _ _), List.length_take, Nat.min_eq_left (by omega), Nat.sub_self]
  simp
theorem row_setCells {g : Nat} {t : TypeId} : ∀ (vs : List Value) (o : Nat) (w : World) (cs : Array Value), Row w g t cs → o + vs.length ≤ cs.size → Row (w.setCells g o vs) g t (spl cs.toList o vs).toArray
  | [], o, w, cs, h, _ => by
    have e : (spl cs.toList o []).toArray = cs := by simp [spl]
    rw [e]; exact h
  | v :: vs, o, w, cs, h, hl => by
    simp only [List.length_cons] at hl
    have h2 := row_setCells vs (o + 1) _ _ (h.put o v) (by simp; omega)
    rw [Array.toList_setIfInBounds, spl_cons cs.toList o v vs (by simpa using hl)] at h2
    exact h2
theorem flat_get {α : Type} {sz : Nat} : ∀ (l : List (List α)), (∀ c ∈ l, c.length = sz) → ∀ (k j : Nat) (c : List α), l[k]? = some c → j < sz → l.flatten[k * sz + j]? = c[j]?
  | [], _, k, j, c, hk, _ => by simp at hk
  | d :: l, h, 0, j, c, hk, hj => by
    obtain rfl : d = c := by simpa using hk
    have hd := h d (by simp)
    rw [List.flatten_cons, Nat.zero_mul, Nat.zero_add, List.getElem?_append_left (by omega)]
  | d :: l, h, k + 1, j, c, hk, hj => by
    have hd := h d (by simp)
    have ih := flat_get l (fun c hc => h c (by simp [hc])) k j c (by simpa using hk) hj
    have e : (k + 1) * sz + j = d.length + (k * sz + j) := by rw [hd, Nat.succ_mul]; omega
    rw [List.flatten_cons, e, List.getElem?_append_right (by omega), Nat.add_sub_cancel_left]
    exact ih
theorem flat_length {α : Type} {sz : Nat} : ∀ (l : List (List α)), (∀ c ∈ l, c.length = sz) → l.flatten.length = l.length * sz
  | [], _ => by simp
  | d :: l, h => by
    rw [List.flatten_cons, List.length_append, flat_length l (fun c hc => h c (by simp [hc])), h d (by simp), List.length_cons, Nat.succ_mul]; omega
theorem flat_spl {α : Type} {sz : Nat} : ∀ (l : List (List α)), (∀ c ∈ l, c.length = sz) → ∀ (k : Nat) (c : List α), k < l.length → c.length = sz → spl l.flatten (k * sz) c = (l.set k c).flatten
  | [], _, k, c, hk, _ => by simp at hk
  | d :: l, h, 0, c, hk, hc => by
    have hd := h d (by simp)
    simp only [spl, Nat.zero_mul, List.take_zero, List.nil_append, Nat.zero_add, List.flatten_cons, List.set_cons_zero]
    rw [List.drop_append_of_le_length (by omega), hc, ← hd, List.drop_length, List.nil_append]
  | d :: l, h, k + 1, c, hk, hc => by
    have hd := h d (by simp)
    have ih := flat_spl l (fun c hc => h c (by simp [hc])) k c (by simpa using hk) hc
    rw [List.set_cons_succ, List.flatten_cons, List.flatten_cons, ← ih]
    have e : (k + 1) * sz = d.length + k * sz := by rw [hd, Nat.succ_mul]; omega
    unfold spl
    rw [e, List.take_length_add_append, show d.length + k * sz + c.length = d.length + (k * sz + c.length) by omega, List.drop_length_add_append]
    simp
theorem flat_snoc {α : Type} (l : List (List α)) (c : List α) : (l ++ [c]).flatten = l.flatten ++ c := by simp
/- an element of an owned row of elements: read and written -/
section
variable {w : World} {base e sz n cap g : Nat} {l : List (List Value)}
theorem own_elem (h : w.ownsRow base e sz (.slice (some ⟨g, 0, none⟩) n cap) n l.flatten) (hl : ∀ c ∈ l, c.length = sz) {k : Nat} {c : List Value} (hk : l[k]? = some c) : w.rangeAt g (k * sz) c := fun j v hv => by
  have hkl := (List.getElem?_eq_some_iff.1 hk).1
  have hc : c.length = sz := hl c (List.mem_of_getElem? hk)
  have hj : j < sz := by have := (List.getElem?_eq_some_iff.1 hv).1; omega
  have hn : l.length * sz = n * sz := by rw [← flat_length l hl]; exact h.1
  have hb : k * sz + j < n * sz := by
    rw [← hn]
    have := Nat.mul_le_mul_right sz (Nat.succ_le_of_lt hkl)
    rw [Nat.succ_mul] at this
    omega
  rw [h.cellAt _ hb, flat_get l hl k j c hk hj]
  exact hv
theorem own_there (h : w.ownsRow base e sz (.slice (some ⟨g, 0, none⟩) n cap) n l.flatten) (hl : ∀ c ∈ l, c.length = sz) {k : Nat} (hk : k < l.length) : w.there g (k * sz) sz := fun j hj => by
  have hr := own_elem h hl (List.getElem?_eq_getElem hk)
  have hc : l[k].length = sz := hl _ (List.getElem_mem hk)
  exact ⟨by rw [hr j _ (List.getElem?_eq_getElem (show j < l[k].length by omega))]; rfl, h.frozenAt _⟩
theorem own_store (h : w.ownsRow base e sz (.slice (some ⟨g, 0, none⟩) n cap) n l.flatten) (hl : ∀ c ∈ l, c.length = sz) {k : Nat} (hk : k < l.length) {c : List Value} (hc : c.length = sz) :
    (w.setCells g (k * sz) c).ownsRow base e sz (.slice (some ⟨g, 0, none⟩) n cap) n (l.set k c).flatten := by
  obtain ⟨h1, h2⟩ := h
  rcases h2 with ⟨h3, _⟩ | ⟨g', cap', cur, h3, h4, h5, h6, h7, h8, h9⟩
  · cases h3
  · injection h3 with h3 _ h3'
    injection h3 with h3
    injection h3 with h3
    subst h3 h3'
    have hll : l.flatten.length = l.length * sz := flat_length l hl
    have hkk : k * sz + sz ≤ l.length * sz := by
      have := Nat.mul_le_mul_right sz (Nat.succ_le_of_lt hk)
      rw [Nat.succ_mul] at this
      omega
    have hnc : n * sz ≤ cur.size := by rw [h8]; exact Nat.mul_le_mul_right sz h6
    have hr := row_setCells c (k * sz) w cur h5 (by omega)
    have hL : cur.toList.length = cur.size := Array.length_toList
    refine ⟨?_, .inr ⟨g, cap, _, rfl, h4, hr, h6, h7, ?_, ?_⟩⟩
    · rw [flat_length (l.set k c) (fun d hd => by rcases List.mem_or_eq_of_mem_set hd with h | h; exact hl d h; rw [h]; exact hc), List.length_set, ← hll]; exact h1
    · rw [List.size_toArray, length_spl cur.toList (k * sz) c (by omega), hL]; exact h8
    · rw [← flat_spl l hl k c hk hc, ← h9]
      unfold spl
      rw [List.take_append, List.take_append, List.take_take, List.length_append, List.length_take, List.take_of_length_le (l := c) (by simp; omega), Nat.min_eq_right (by omega), List.take_take, Nat.min_eq_left (by omega), Nat.min_eq_left (by omega)]
      congr 1
      rw [List.drop_take]
end
/- append: where the slice then lies: where it lay, or in a new block -/
def Where (w : World) (v v' : Value) : Prop := v'.ownBlock = v.ownBlock ∨ ∀ k, v'.ownBlock = some k → w.heap.size ≤ k
theorem Where.cases {w : World} {v v' : Value} (h : Where w v v') {k : Nat} (hk : v'.ownBlock = some k) : v.ownBlock = some k ∨ w.heap.size ≤ k := by
  rcases h with h | h
  · exact .inl (by rw [← h]; exact hk)
  · exact .inr (h k hk)
theorem run_append_where {P : Program} (w : World) (base : Nat) (t ty e : TypeId) (i : TypeInfo) (z : Value) (size bytes : Nat) (ht : P.underlying t = some (.slice e)) (hi : P.info? e = some i) (hz : i.zero = some z)
    (hsize : i.size = size) (hby : i.bytes = bytes) (hzs : z.cells.size = size) (hsz : 0 < size)
    (v : Value) (n : Nat) (xs : List Value) (hown : w.ownsRow base e size v n xs)
    (a : Addr) (m c : Nat) (news : List Value) (hl : news.length = m * size) (hnews : ∀ j u, news[j]? = some u → w.cell? (a.add j) = some u) (h1 : ∀ u ∈ news, u.oneCell' = true)
    (h63 : n + m ≤ maxLen) (hbytes : (n + m) * bytes ≤ 140737488355328) (hbase : base ≤ w.heap.size) :
    ∃ v' w', (Builtin.append_ #[t, t] ty #[v, .slice (some a) m c]).run P w = .ok v' w' ∧ w'.ownsRow base e size v' (n + m) (xs ++ news) ∧ w.grownBy w' v.ownBlock ∧ Where w v v' := by
  obtain ⟨v', w', hr, h2, h3, _⟩ := run_append_own (P := P) w base t ty e i z size bytes ht hi hz hsize hby hzs hsz v n xs hown a m c news hl hnews h1 h63 hbytes hbase
  refine ⟨v', w', hr, h2, h3, ?_⟩
  rcases hown.2 with ⟨rfl, rfl⟩ | ⟨g, cap, cur, rfl, _, _, _, _, _, _⟩
  · obtain rfl : xs = [] := List.eq_nil_of_length_eq_zero (by simpa using hown.1)
    obtain ⟨v2, w2, hr2, h4, _, _⟩ := run_append_own (P := P) w w.heap.size t ty e i z size bytes ht hi hz hsize hby hzs hsz (.slice none 0 0) 0 [] (World.ownsRow_nil _ _ _ _) a m c news hl hnews h1 h63 hbytes (Nat.le_refl _)
    rw [hr] at hr2
    injection hr2 with hr2 _
    subst hr2
    exact .inr fun k hk => (h4.lt k hk).1
  · by_cases hroom : n + m ≤ cap
    · obtain ⟨w2, hr2, _⟩ := run_append_fits (P := P) w base t ty e i size ht hi hsize g n cap xs hown a m c news hl hnews h1 hroom
      rw [hr] at hr2
      injection hr2 with hr2 _
      subst hr2
      exact .inl rfl
    · have hr2 := run_append_grow (P := P) w t ty e i z ht hi hz ⟨g, 0, none⟩ n cap xs (by rw [hsize]; exact hown.1) (hown.cells (g := g) rfl) a m c news (by rw [hsize]; exact hl) hnews (by omega) (by have := h63; simp only [maxLen] at this; omega) (growslice_fits (by omega) (by rw [hby]; exact hbytes))
      rw [hr] at hr2
      injection hr2 with hr2 _
      subst hr2
      refine .inr fun k hk => ?_
      injection hk with hk
      exact Nat.le_of_eq hk
theorem wp_append_where {P : Program} {w : World} {o : Oper} {a : Act} {K : Act → World → Prop} {Q : Exit → Act → World → Prop} (s x : Operand) (t : TypeId)
    (ho : o.op = .call { callee := .builtin .append, args := #[s, x], argTypes := #[t, t] })
    (base : Nat) (e : TypeId) (size bytes : Nat) (z : Value) (ht : P.underlying t = some (.slice e)) (hi : (P.info? e).map (fun i => (i.zero, i.size, i.bytes)) = some (some z, size, bytes)) (hzs : z.cells.size = size) (hsz : 0 < size)
    (v : Value) (n : Nat) (xs : List Value) (hs : a.eval s = v) (hown : w.ownsRow base e size v n xs)
    (ad : Addr) (m c : Nat) (news : List Value) (hx : a.eval x = .slice (some ad) m c) (hl : news.length = m * size) (hnews : ∀ j u, news[j]? = some u → w.cell? (ad.add j) = some u) (h1 : ∀ u ∈ news, u.oneCell' = true)
    (h63 : n + m ≤ maxLen) (hbytes : (n + m) * bytes ≤ 140737488355328) (hbase : base ≤ w.heap.size)
    (h : ∀ v' w', w'.ownsRow base e size v' (n + m) (xs ++ news) → w.grownBy w' v.ownBlock → Where w v v' → K (a.put o.dst v') w') : o.wp P a w K Q := by
  obtain ⟨i, hi1, hz1, hz2, hz3⟩ := info_parts hi
  obtain ⟨v', w', hr, h2, h3, h4⟩ := run_append_where (P := P) w base t o.type e i z size bytes ht hi1 hz1 hz2 hz3 hzs hsz v n xs hown ad m c news hl hnews h1 h63 hbytes hbase
  unfold Oper.wp execOp
  simp only [ho, resolve, invoke, builtin, Sem.run_bind, Sem.run_pure, Result.andThen_ok, List.map_toArray, List.map_cons, List.map_nil, hs, hx, hr]
  exact h v' w' h2 h3 h4
theorem results_cell_tmp {P : Program} {fn : Func} {p u : Tmp} {ty : TypeId} (h : fn.results = #[.cell p ty, .tmp u]) (tmps : Array Value) (w : World) (g : Nat) (t : TypeId) (cs : Array Value) (fr : Nat × Nat) (d : TypeDesc)
    (hp : tmps.getD p undef = .pointer (some ⟨g, 0, none⟩)) (hg : w.heap[g]? = some (.cells cs t fr))
    (hu : P.underlying ty = some d) (hd : (match d with | .struct _ | .array _ _ => true | _ => false) = true) (hi : (P.info? ty).map (·.size) = some cs.size) :
    (results fn tmps).run P w = .ok (.tuple #[.agg cs, tmps.getD u undef]) w := by
  have hp' : tmps[p]?.getD undef = .pointer (some ⟨g, 0, none⟩) := by simpa using hp
  simp [results, h, hp', asAddr, run_loadVar_row w g t ty cs fr d hg hu hd hi]
theorem own_apart {w : World} {base e size n g : Nat} {t : TypeId} {v : Value} {xs : List Value} {cs : Array Value} (h : w.ownsRow base e size v n xs) (r : Row w g t cs) (hne : e ≠ t) : ∀ k, v.ownBlock = some k → k ≠ g := by
  intro k hk e0
  subst e0
  rcases h.2 with ⟨rfl, _⟩ | ⟨g', cap, cur, rfl, _, h3, _⟩
  · cases hk
  · injection hk with hk
    change g' = k at hk
    subst hk
    unfold Row at r
    rw [h3] at r
    injection r with r
    injection r with _ r _
    exact hne r
theorem own_apart2 {w : World} {base base' e e' size size' n n' : Nat} {v v' : Value} {xs xs' : List Value} (h : w.ownsRow base e size v n xs) (h' : w.ownsRow base' e' size' v' n' xs') (hne : e ≠ e') : ∀ k, v.ownBlock = some k → v'.ownBlock ≠ some k := by
  intro k hk hk'
  rcases h'.2 with ⟨rfl, _⟩ | ⟨g', cap, cur, rfl, _, h3, _⟩
  · cases hk'
  · injection hk' with hk'
    change g' = k at hk'
    subst hk'
    exact own_apart h (show Row w g' e' cur from h3) hne g' hk rfl
theorem own_slice_form {w : World} {base e size n : Nat} {v : Value} {xs : List Value} (h : w.ownsRow base e size v n xs) : ∃ A c, v = .slice A n c ∧ n ≤ c := by
  rcases h.2 with ⟨rfl, rfl⟩ | ⟨g, cap, cur, rfl, _, _, h4, _⟩
  · exact ⟨none, 0, rfl, Nat.le_refl _⟩
  · exact ⟨_, cap, rfl, h4⟩
theorem len_bytesV (b : List (BitVec 8)) : (bytesV b).length = b.length := by simp [bytesV]
theorem own_n {w : World} {base e size n m c : Nat} {A : Option Addr} {xs : List Value} (h : w.ownsRow base e size (.slice A n c) m xs) : m = n := by
  rcases h.2 with ⟨e, hn⟩ | ⟨_, _, _, e, _⟩
  · injection e with _ e _; rw [e]; exact hn
  · injection e with _ e _; exact e.symm
end Go.Proofs.Ytppbgkdkioldbaa
