/- What an argument holds, read by its type: integers, bools, texts, rows of bytes, slices, structs, put together as the type is. No function of the program is named here. -/
import Derived.Test.YtppbgkdkioldbaaObj
import Derived.Test.YtppbgkdkioldbaaOpenB
set_option maxRecDepth 4000
namespace Go.Proofs.Ytppbgkdkioldbaa
open Go Go.ChangeShapes Go.WideShapes Go.ChangeAt Go.RowKit
/- the cells cs hold a, in the world w -/
def Rd (α : Type) := World → List Value → α → Prop
def Rd.Stays {α : Type} (R : Rd α) : Prop := ∀ (B : Nat) (w w' : World) (cs : List Value) (a : α), R w cs a → Below B w w' → w.heap.size ≤ B → R w' cs a
def Opens (P : Program) {α : Type} (t : TypeId) (R : Rd α) : Prop :=
  ∀ {H : Type} (enc : TypeId × Value → H) (W : World) (fuel : Nat) (cs : List Value) (x : DataW H × List MemPlace), DataW.trod enc P W 0 (fun _ => true) true fuel t cs = some x → (∀ y ∈ x.2, y.block < W.heap.size) → ∃ a, R W cs a
def rdInt (k : IntKind) : Rd Int := fun _ cs n => cs = [.int k n] ∧ (Lit.int k n).wf = true
def rdU8 : Rd (BitVec 8) := fun _ cs x => cs = [.int .u8 (bd x)]
def rdBool : Rd Bool := fun _ cs b => cs = [.bool b]
def rdStr : Rd ByteArray := fun _ cs s => cs = [.string s] ∧ s.size ≤ maxLen
def rdRow (n : Nat) : Rd (List (BitVec 8)) := fun _ cs b => cs = bytesV b ∧ b.length = n
def rdNil : Rd Unit := fun _ cs _ => cs = []
def rdCons {α β : Type} (s : Nat) (R : Rd α) (T : Rd β) : Rd (α × β) := fun w cs ab => ∃ c d, cs = c ++ d ∧ c.length = s ∧ R w c ab.1 ∧ T w d ab.2
def rdSl {α : Type} (s : Nat) (R : Rd α) : Rd (List α) := fun w cs l => ∃ A c, cs = [.slice A l.length c] ∧ l.length ≤ c ∧ (A = none → c = 0) ∧ l.length ≤ maxLen ∧
  (l ≠ [] → ∃ b o, A = some ⟨b, o, none⟩ ∧ b < w.heap.size ∧ ∀ k x, l[k]? = some x → ∃ ds, ds.length = s ∧ w.rangeAt b (o + k * s) ds ∧ R w ds x)
def rdMap {α β : Type} (f : α → β) (R : Rd α) : Rd β := fun w cs b => ∃ a, R w cs a ∧ b = f a
theorem stays_int (k : IntKind) : (rdInt k).Stays := fun _ _ _ _ _ h _ _ => h
theorem stays_u8 : rdU8.Stays := fun _ _ _ _ _ h _ _ => h
theorem stays_bool : rdBool.Stays := fun _ _ _ _ _ h _ _ => h
theorem stays_str : rdStr.Stays := fun _ _ _ _ _ h _ _ => h
theorem stays_row (n : Nat) : (rdRow n).Stays := fun _ _ _ _ _ h _ _ => h
theorem stays_rnil : rdNil.Stays := fun _ _ _ _ _ h _ _ => h
theorem stays_cons' {α β : Type} {s : Nat} {R : Rd α} {T : Rd β} (h : R.Stays) (t : T.Stays) : (rdCons s R T).Stays := fun B w w' _ _ ⟨c, d, e, hl, h1, h2⟩ hb hB => ⟨c, d, e, hl, h B w w' _ _ h1 hb hB, t B w w' _ _ h2 hb hB⟩
theorem stays_map {α β : Type} {f : α → β} {R : Rd α} (h : R.Stays) : (rdMap f R).Stays := fun B w w' _ _ ⟨a, h1, e⟩ hb hB => ⟨a, h B w w' _ _ h1 hb hB, e⟩
theorem stays_sl {α : Type} {s : Nat} {R : Rd α} (h : R.Stays) : (rdSl s R).Stays := fun B w w' cs l ⟨A, c, h1, h2, h3, h4, h5⟩ hb hB => by
  refine ⟨A, c, h1, h2, h3, h4, fun hne => ?_⟩
  obtain ⟨b, o, h6, h7, h8⟩ := h5 hne
  refine ⟨b, o, h6, Nat.lt_of_lt_of_le h7 hb.size, fun k x hx => ?_⟩
  obtain ⟨ds, h9, h10, h11⟩ := h8 k x hx
  exact ⟨ds, h9, fun j v hv => (hb.cell (p := ⟨b, o + k * s + j, none⟩) (Nat.lt_of_lt_of_le h7 hB)).trans (h10 j v hv), h B w w' _ _ h11 hb hB⟩
section
variable {P : Program}
theorem opens_int {t : TypeId} {k : IntKind} (ht : P.underlying t = some (.int k)) : Opens P t (rdInt k) := fun _ _ _ _ _ h _ => by
  obtain ⟨n, h1, _, h2⟩ := DataW.trod_int ht h
  exact ⟨n, h1, h2⟩
theorem opens_u8 {t : TypeId} (ht : P.underlying t = some (.int .u8)) : Opens P t rdU8 := fun _ _ _ _ _ h _ => by
  obtain ⟨n, h1, _, h2⟩ := DataW.trod_int ht h
  have hb := bounds_u8 h2
  exact ⟨BitVec.ofInt 8 n, by unfold rdU8; rw [h1, ← bd_of n hb.1 (by omega)]⟩
theorem opens_bool {t : TypeId} (ht : P.underlying t = some .bool) : Opens P t rdBool := fun _ _ _ _ _ h _ => by
  obtain ⟨b, h1, _⟩ := DataW.trod_bool ht h
  exact ⟨b, h1⟩
theorem opens_str {t : TypeId} (ht : P.underlying t = some .string) : Opens P t rdStr := fun _ _ _ _ _ h _ => by
  obtain ⟨s, h1, _, h2⟩ := DataW.trod_string ht h
  exact ⟨s, h1, h2⟩
theorem opens_map {α β : Type} {t : TypeId} {f : α → β} {R : Rd α} (h : Opens P t R) : Opens P t (rdMap f R) := fun enc W fuel cs x hx hlt => by
  obtain ⟨a, ha⟩ := h enc W fuel cs x hx hlt
  exact ⟨f a, a, ha, rfl⟩
theorem opens_row {t e : TypeId} {n : Nat} (ht : P.underlying t = some (.array n e)) (he : P.underlying e = some (.int .u8)) (hce : P.cellsOf e = 1) (hct : P.cellsOf t = n) : Opens P t (rdRow n) := fun enc W fuel cs x h _ => by
  obtain ⟨xs, m, _, _, hl, hx, hi⟩ := DataW.trod_array ht h
  have hs : cs.length = n := by rw [hl, hct]
  have hint : ∀ i, i < n → ∃ z, cs[i]? = some (.int .u8 z) ∧ (Lit.int .u8 z).wf = true := fun i hin => by
    have h1 := hi i hin
    rw [List.getElem?_eq_getElem (by omega)] at h1
    obtain ⟨z, hz, _, hw⟩ := DataW.trod_int he h1
    refine ⟨z, ?_, hw⟩
    simp only [hce, Nat.mul_one] at hz
    rw [List.take_one, List.head?_drop] at hz
    cases hc : cs[i]? with
    | none => rw [hc] at hz; cases hz
    | some v => rw [hc] at hz; simpa using hz
  refine ⟨cs.map fun v => BitVec.ofInt 8 (intIn v), ?_, by simp [hs]⟩
  apply List.ext_getElem?
  intro i
  by_cases hin : i < n
  · obtain ⟨z, hz, hw⟩ := hint i hin
    have hb := bounds_u8 hw
    simp [bytesV, hz, intIn, ← bd_of z hb.1 (by omega)]
  · rw [List.getElem?_eq_none (by omega), List.getElem?_eq_none (by simp [bytesV]; omega)]
theorem opens_sl {α : Type} {t e : TypeId} {s : Nat} {R : Rd α} (ht : P.underlying t = some (.slice e)) (hs : P.cellsOf e = s) (hpos : 0 < s) (he : Opens P e R) : Opens P t (rdSl s R) := fun {H} enc W fuel cs x h hlt => by
  rcases Deep.open_slice ht h with ⟨h0, _⟩ | ⟨a, len, cap, m, n, D, Pl, hcs, _, hl, hm, hmm, hx, hi⟩
  · exact ⟨[], none, 0, h0, by simp, fun _ => rfl, by simp, fun h => absurd rfl h⟩
  · simp only [if_true] at hmm
    subst hmm
    have hlt' : ∀ y ∈ MemPlace.row a (m * P.cellsOf e) ++ (List.range m).flatMap Pl, y.block < W.heap.size := by rw [hx] at hlt; exact hlt
    have hR : ∀ i, i < len → ∃ b, ∃ ds, W.cells? 0 (a.add (i * s)) s = some ds ∧ R W ds b := fun i hil => by
      obtain ⟨ds, h1, h2⟩ := hi i (by omega)
      rw [hs] at h1
      obtain ⟨b, hb⟩ := he enc W n ds _ h2 fun y hy => hlt' y (List.mem_append_right _ (List.mem_flatMap.2 ⟨i, List.mem_range.2 (by omega), hy⟩))
      exact ⟨b, ds, h1, hb⟩
    by_cases h0 : len = 0
    · subst h0
      refine ⟨[], some a, m, hcs, by simp, fun h => (by cases h), by simp, fun h => absurd rfl h⟩
    · obtain ⟨b0, _⟩ := hR 0 (by omega)
      have hinh : Inhabited α := ⟨b0⟩
      obtain ⟨Q, hQ⟩ := Deep.choose_lt (α := α) (n := len) (p := fun i q => ∃ ds, W.cells? 0 (a.add (i * s)) s = some ds ∧ R W ds q) hR
      have hql : ((List.range len).map Q).length = len := by simp
      refine ⟨(List.range len).map Q, some a, m, by rw [hql]; exact hcs, by rw [hql]; exact hl, fun h => (by cases h), by rw [hql]; omega, fun _ => ?_⟩
      obtain ⟨b, off, spot⟩ := a
      have hspot : spot = none := by
        obtain ⟨ds, h1, _⟩ := hQ 0 (by omega)
        obtain ⟨_, h3, h4⟩ := World.cells?_some h1
        have h5 := h4 0 hpos
        rw [List.getElem?_eq_getElem (by omega)] at h5
        simpa [Addr.add] using World.cell?_spot h5
      subst hspot
      refine ⟨b, off, rfl, hlt' (.cell b off) (List.mem_append_left _ (MemPlace.mem_row.2 ⟨0, by rw [hs]; exact Nat.mul_pos (by omega) hpos, by simp⟩)), fun k x hk => ?_⟩
      have hkl : k < len := by have := (List.getElem?_eq_some_iff.1 hk).1; omega
      obtain ⟨ds, h1, h2⟩ := hQ k hkl
      obtain ⟨_, h3, h4⟩ := World.cells?_some h1
      obtain rfl : Q k = x := by simpa [hkl] using hk
      refine ⟨ds, h3, fun j v hv => ?_, h2⟩
      have hj : j < s := by have := (List.getElem?_eq_some_iff.1 hv).1; omega
      have h5 := h4 j hj
      rw [hv, Addr.add_mid, Addr.add_mid] at h5
      exact h5
/- the fields of a struct from offset o on -/
def OpensF (P : Program) {β : Type} (fs : List Field) (o : Nat) (T : Rd β) : Prop :=
  ∀ {H : Type} (enc : TypeId × Value → H) (W : World) (n : Nat) (cs : List Value) (xs : List (DataW H × List MemPlace)), xs.length = fs.length →
    (∀ (i : Nat) (f : Field), fs[i]? = some f → DataW.trod enc P W 0 (fun _ => true) true n f.type ((cs.drop f.offset).take (P.cellsOf f.type)) = xs[i]?) → (∀ y ∈ xs.flatMap (·.2), y.block < W.heap.size) → cs.length = o + (fs.map fun f => P.cellsOf f.type).sum → ∃ b, T W (cs.drop o) b
theorem opensF_nil {o : Nat} : OpensF P [] o rdNil := fun _ _ _ _ _ _ _ _ hl => ⟨(), by
  unfold rdNil
  simp only [List.map_nil, List.sum_nil, Nat.add_zero] at hl
  rw [← hl, List.drop_length]⟩
theorem opensF_cons {α β : Type} {f : Field} {fs : List Field} {o s : Nat} {R : Rd α} {T : Rd β} (ho : f.offset = o) (hs : P.cellsOf f.type = s) (h : Opens P f.type R) (t : OpensF P fs (o + s) T) : OpensF P (f :: fs) o (rdCons s R T) := fun {H} enc W n cs xs hxl hf hlt hl => by
  cases xs with
  | nil => simp at hxl
  | cons x xs =>
    simp only [List.length_cons, Nat.add_right_cancel_iff] at hxl
    have h0 := hf 0 f rfl
    simp only [List.getElem?_cons_zero] at h0
    rw [ho, hs] at h0
    obtain ⟨a, ha⟩ := h enc W n _ x h0 fun y hy => hlt y (by simp [hy])
    simp only [List.map_cons, List.sum_cons, hs] at hl
    obtain ⟨b, hb⟩ := t enc W n cs xs hxl (fun i g hg => by have := hf (i + 1) g (by simpa using hg); simpa using this) (fun y hy => hlt y (by simp only [List.flatMap_cons, List.mem_append]; exact .inr hy)) (by omega)
    refine ⟨(a, b), (cs.drop o).take s, cs.drop (o + s), ?_, by rw [List.length_take, List.length_drop]; omega, ha, hb⟩
    rw [← List.drop_drop, List.take_append_drop]
theorem opens_struct {β : Type} {t : TypeId} {fs : Array Field} {T : Rd β} (ht : P.underlying t = some (.struct fs)) (hc : P.cellsOf t = (fs.toList.map fun f => P.cellsOf f.type).sum) (h : OpensF P fs.toList 0 T) : Opens P t T := fun {H} enc W fuel cs x hx hlt => by
  obtain ⟨xs, n, _, hy, hlen, hyl, hf⟩ := DataW.trod_struct ht hx
  subst hy
  obtain ⟨b, hb⟩ := h enc W n cs xs (by rw [hyl]; exact Array.length_toList.symm) (fun i f hi => hf i f (by rw [← Array.getElem?_toList]; exact hi)) hlt (by rw [hlen, hc, Nat.zero_add])
  exact ⟨b, by simpa using hb⟩
end
/- an argument of a card -/
theorem open_arg {P : Program} {α : Type} {t : TypeId} {R : Rd α} (h : Opens P t R) {H : Type} {enc : TypeId × Value → H} {W : World} {v : Value} {d : DataW H} {ps : List MemPlace} (hT : DataW.Trod enc P W 0 (fun _ => true) true t v d ps) (hlt : ∀ y ∈ ps, y.block < W.heap.size) : ∃ a, R W v.cells.toList a := by
  obtain ⟨fuel, hf⟩ := hT
  exact h enc W fuel _ _ hf hlt
theorem okWide_rec {P : Program} {w : World} {r : Reach} {base : Nat} {t : TypeId} {fs : Array Field} {v : Value} (ht : P.underlying t = some (.struct fs)) (h : Value.okWide P w r base t v) : ∃ cs, v = .agg cs := by
  simp only [Value.okWide, ht] at h
  cases v <;> simp_all
/- an argument that is a slice -/
theorem open_argSl {P : Program} {α : Type} {t e : TypeId} {s : Nat} {R : Rd α} (ht : P.underlying t = some (.slice e)) (ho : Opens P t (rdSl s R)) {H : Type} {enc : TypeId × Value → H} {W : World} {r : Reach} {base : Nat} {v : Value} {d : DataW H} {ps : List MemPlace} (hval : Value.okWide P W r base t v) (hT : DataW.Trod enc P W 0 (fun _ => true) true t v d ps) (hlt : ∀ y ∈ ps, y.block < W.heap.size) : ∃ A c l, v = .slice A l.length c ∧ rdSl s R W [.slice A l.length c] l := by
  obtain ⟨a0, len, cap, rfl⟩ := okWide_slice ht hval
  obtain ⟨l, hl⟩ := open_arg ho hT hlt
  have h0 := hl
  obtain ⟨A, c, e, _⟩ := hl
  have e : Value.slice a0 len cap = .slice A l.length c := by simpa [Value.cells] using e
  rw [e] at h0
  exact ⟨A, c, l, e, by simpa [Value.cells] using h0⟩
/- an argument that is a struct -/
theorem open_argRec {P : Program} {α : Type} {t : TypeId} {fs : Array Field} {R : Rd α} (ht : P.underlying t = some (.struct fs)) (ho : Opens P t R) {H : Type} {enc : TypeId × Value → H} {W : World} {r : Reach} {base : Nat} {v : Value} {d : DataW H} {ps : List MemPlace} (hval : Value.okWide P W r base t v) (hT : DataW.Trod enc P W 0 (fun _ => true) true t v d ps) (hlt : ∀ y ∈ ps, y.block < W.heap.size) : ∃ cs x, v = .agg cs.toArray ∧ R W cs x := by
  obtain ⟨cs, rfl⟩ := okWide_rec ht hval
  obtain ⟨x, hx⟩ := open_arg ho hT hlt
  exact ⟨cs.toList, x, by simp, by simpa [Value.cells] using hx⟩
/- an argument that is a byte; one that is an array of bytes -/
theorem open_argU8 {P : Program} {t : TypeId} (ht : P.underlying t = some (.int .u8)) {H : Type} {enc : TypeId × Value → H} {W : World} {r : Reach} {base : Nat} {v : Value} {d : DataW H} {ps : List MemPlace} (hval : Value.okWide P W r base t v) (hT : DataW.Trod enc P W 0 (fun _ => true) true t v d ps) (hlt : ∀ y ∈ ps, y.block < W.heap.size) : ∃ x : BitVec 8, v = .int .u8 (bd x) := by
  obtain ⟨n, rfl⟩ := okWide_int ht hval
  obtain ⟨x, hx⟩ := open_arg (opens_u8 ht) hT hlt
  exact ⟨x, by simpa [rdU8, Value.cells] using hx⟩
theorem open_argBytes {P : Program} {t e : TypeId} {n : Nat} (ht : P.underlying t = some (.array n e)) (he : P.underlying e = some (.int .u8)) (hce : P.cellsOf e = 1) (hct : P.cellsOf t = n) {H : Type} {enc : TypeId × Value → H} {W : World} {r : Reach} {base : Nat} {v : Value} {d : DataW H} {ps : List MemPlace} (hval : Value.okWide P W r base t v) (hT : DataW.Trod enc P W 0 (fun _ => true) true t v d ps) (hlt : ∀ y ∈ ps, y.block < W.heap.size) : ∃ q : List (BitVec 8), q.length = n ∧ v = .agg (bs q) := by
  obtain ⟨cs, rfl⟩ := okWide_arr ht hval
  obtain ⟨q, h1, h2⟩ := open_arg (opens_row ht he hce hct) hT hlt
  exact ⟨q, h2, congrArg Value.agg (by apply Array.toList_inj.1; rw [bs_toList]; simpa [Value.cells] using h1)⟩
/- slices of bytes as these readers have them -/
theorem rdSl_item {w : World} {u : Value} {q : List (BitVec 8)} (h : rdSl 1 rdU8 w [u] q) : Item w u q := by
  obtain ⟨A, c, h1, h2, h3, h4, h5⟩ := h
  injection h1 with h1 _
  refine ⟨A, c, h1, ⟨A, c, rfl, h2, fun hne => ?_⟩, h3, h4⟩
  obtain ⟨b, o, h6, h7, h8⟩ := h5 hne
  refine ⟨b, o, h6, h7, fun j x hx => ?_⟩
  obtain ⟨ds, _, h9, h10⟩ := h8 j x hx
  have := h9 0 (.int .u8 (bd x)) (by rw [h10]; rfl)
  simpa using this
end Go.Proofs.Ytppbgkdkioldbaa
