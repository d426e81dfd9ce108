/- Literals of structs and of slices of structs: their cells, side by side. No function of the program is named here. -/
import Derived.Test.YtppbgkdkioldbaaObj
import Derived.Great.BuildSlice
set_option maxRecDepth 4000
namespace Go.Proofs.Ytppbgkdkioldbaa
open Go Go.RowKit
theorem spl_spl {α : Type} (L : List α) (o : Nat) (a b : List α) (h : o + a.length + b.length ≤ L.length) : spl (spl L o a) (o + a.length) b = spl L o (a ++ b) := by
  unfold spl
  have e1 : (L.take o).length = o := by rw [List.length_take]; omega
  have e2 : (L.take o ++ a).length = o + a.length := by rw [List.length_append, e1]
  rw [← e2, List.take_left, e2, List.length_append, ← List.append_assoc, ← Nat.add_assoc]
  congr 1
  rw [show o + a.length + b.length = (L.take o ++ a).length + b.length by rw [e2], List.drop_length_add_append, List.drop_drop, e2]
theorem fill_set (off : Nat) (v : Array Value) (cells : Array Value) (h : off + v.size ≤ cells.size) : v.zipIdx.foldl (fun cs (x : Value × Nat) => cs.setIfInBounds (off + x.2) x.1) cells = (spl cells.toList off v.toList).toArray := by
  rw [← Array.foldl_toList, Array.toList_zipIdx]
  obtain ⟨h1, h2⟩ := Great.foldl_set off v.toList 0 cells
  apply Array.ext_getElem?
  intro k
  rw [h2 k, Nat.add_zero]
  have hL : cells.toList.length = cells.size := Array.length_toList
  have hv : v.toList.length = v.size := Array.length_toList
  have e1 : (cells.toList.take off).length = off := by rw [List.length_take]; omega
  rw [show (spl cells.toList off v.toList).toArray[k]? = (spl cells.toList off v.toList)[k]? from List.getElem?_toArray]
  unfold spl
  by_cases hk : off ≤ k
  · by_cases hk2 : k < off + v.size
    · rw [if_pos ⟨hk, by omega, by omega⟩, List.getElem?_append_left (by rw [List.length_append, e1]; omega), List.getElem?_append_right (by omega), e1]
    · rw [if_neg (by omega), List.getElem?_append_right (by rw [List.length_append, e1]; omega), List.getElem?_drop, List.length_append, e1, hv]
      rw [show off + v.size + (k - (off + v.size)) = k by omega]; simp
  · rw [if_neg (by omega), List.append_assoc, List.getElem?_append_left (by omega), List.getElem?_take, if_pos (by omega)]; simp
theorem fill_parts (place : Nat → Option (Nat × Nat)) : ∀ (vs : List Value) (i0 off : Nat) (cells : Array Value),
    (∀ k v, vs[k]? = some v → place (i0 + k) = some (off + ((vs.take k).map (·.cells.size)).sum, v.cells.size)) → off + (vs.map (·.cells.size)).sum ≤ cells.size →
    Instr.fill place cells ((vs.zipIdx i0).map fun x => (x.2, x.1)) = some (spl cells.toList off (vs.flatMap fun v => v.cells.toList)).toArray
  | [], _, off, cells, _, _ => by simp [Instr.fill, spl]
  | v :: vs, i0, off, cells, hp, hs => by
    simp only [List.map_cons, List.sum_cons] at hs
    have h0 := hp 0 v rfl
    simp only [List.take_zero, List.map_nil, List.sum_nil, Nat.add_zero] at h0
    have hL : cells.toList.length = cells.size := Array.length_toList
    have hv : v.cells.toList.length = v.cells.size := Array.length_toList
    have e := fill_set off v.cells cells (by omega)
    have h9 := length_spl cells.toList off v.cells.toList (by omega)
    have h8 : (spl cells.toList off v.cells.toList).toArray.size = (spl cells.toList off v.cells.toList).length := List.size_toArray
    have ih := fill_parts place vs (i0 + 1) (off + v.cells.size) (spl cells.toList off v.cells.toList).toArray (fun k u hu => by
      have := hp (k + 1) u (by simpa using hu)
      rw [show i0 + 1 + k = i0 + (k + 1) by omega, this]
      simp [Nat.add_assoc]) (by rw [h8, h9]; omega)
    simp only [List.zipIdx_cons, List.map_cons, Instr.fill, h0]
    have hno : (decide (v.cells.size ≠ v.cells.size) || decide (off + v.cells.size > cells.size)) = false := by
      rw [decide_eq_false (by simp), decide_eq_false (by omega)]; rfl
    rw [if_neg (by simp; omega), e, ih]
    congr 2
    simp only [List.flatMap_cons]
    have hfl : (vs.flatMap fun v => v.cells.toList).length = (vs.map (·.cells.size)).sum := by simp [List.length_flatMap]
    rw [← hv, spl_spl _ _ _ _ (by omega)]
/- a slice literal of one element of several cells -/
theorem wp_buildOne {P : Program} {o : Oper} {a : Act} {w : World} {K : Act → World → Prop} {Q : Exit → Act → World → Prop} (t e : TypeId) (x : Operand) (ho : o.op = .buildSlice t 1 #[(0, x)]) (cells : Array Value) (z : Value) (sz : Nat) (hx : a.eval x = .agg cells)
    (hu : P.underlying t = some (.slice e)) (hie : (P.info? e).map (fun i => (i.zero, i.size)) = some (some z, sz)) (hc : cells.size = sz) (hpos : 0 < sz) (hsmall : sz ≤ 2 ^ 24)
    (h : K (a.put o.dst (.slice (some ⟨w.heap.size, 0, none⟩) 1 1)) (w.alloc (.cells cells e))) : o.wp P a w K Q := by
  obtain ⟨ie, hi, he⟩ := Option.map_eq_some_iff.1 hie
  injection he with hz hsz
  refine wp_buildSlice t e 1 _ ho cells ie z hu hi hz (by rw [hsz]; omega) (by rw [hsz]; omega) ?_ h
  have hf := fill_parts (fun i => some (i * ie.size, ie.size)) [.agg cells] 0 0 ((Array.range (1 * ie.size)).map (z.cells[· % z.cells.size]!)) (fun k v hk => by
    match k, hk with
    | 0, hk => obtain rfl : Value.agg cells = v := by simpa using hk
               simp [Value.cells, hsz, hc]) (by simp [Value.cells, hsz, hc])
  have e1 : (#[(0, x)].map fun (i, x) => (i, a.eval x)).toList = (([Value.agg cells].zipIdx 0).map fun x => (x.2, x.1)) := by simp [hx]
  rw [e1, hf]
  congr 1
  have e2 : ([Value.agg cells].flatMap fun v => v.cells.toList) = cells.toList := by simp [Value.cells]
  rw [e2]
  apply Array.ext'
  unfold spl
  simp [hsz, hc]
/- of two -/
theorem wp_buildTwo {P : Program} {o : Oper} {a : Act} {w : World} {K : Act → World → Prop} {Q : Exit → Act → World → Prop} (t e : TypeId) (x y : Operand) (ho : o.op = .buildSlice t 2 #[(0, x), (1, y)]) (c1 c2 : Array Value) (z : Value) (sz : Nat) (hx : a.eval x = .agg c1) (hy : a.eval y = .agg c2)
    (hu : P.underlying t = some (.slice e)) (hie : (P.info? e).map (fun i => (i.zero, i.size)) = some (some z, sz)) (hc1 : c1.size = sz) (hc2 : c2.size = sz) (hpos : 0 < sz) (hsmall : sz ≤ 2 ^ 20)
    (h : K (a.put o.dst (.slice (some ⟨w.heap.size, 0, none⟩) 2 2)) (w.alloc (.cells (c1.toList ++ c2.toList).toArray e))) : o.wp P a w K Q := by
  obtain ⟨ie, hi, he⟩ := Option.map_eq_some_iff.1 hie
  injection he with hz hsz
  refine wp_buildSlice t e 2 _ ho (c1.toList ++ c2.toList).toArray ie z hu hi hz (by rw [hsz]; omega) (by rw [hsz]; omega) ?_ h
  have hf := fill_parts (fun i => some (i * ie.size, ie.size)) [.agg c1, .agg c2] 0 0 ((Array.range (2 * ie.size)).map (z.cells[· % z.cells.size]!)) (fun k v hk => by
    match k, hk with
    | 0, hk => obtain rfl : Value.agg c1 = v := by simpa using hk
               simp [Value.cells, hsz, hc1]
    | 1, hk => obtain rfl : Value.agg c2 = v := by simpa using hk
               simp [Value.cells, hsz, hc1, hc2]) (by simp [Value.cells, hsz, hc1, hc2]; omega)
  have e1 : (#[(0, x), (1, y)].map fun (i, x) => (i, a.eval x)).toList = (([Value.agg c1, Value.agg c2].zipIdx 0).map fun x => (x.2, x.1)) := by simp [hx, hy]
  rw [e1, hf]
  congr 1
  have e2 : ([Value.agg c1, Value.agg c2].flatMap fun v => v.cells.toList) = c1.toList ++ c2.toList := by simp [Value.cells]
  rw [e2]
  apply Array.ext'
  unfold spl
  have h4 : (c1.toList ++ c2.toList).length = 2 * ie.size := by rw [List.length_append, Array.length_toList, Array.length_toList, hc1, hc2, hsz]; omega
  rw [List.take_zero, List.nil_append, List.drop_of_length_le (by rw [h4]; simp), List.append_nil]
/- a struct literal of which every field is given, in order -/
def placesOf (P : Program) (t : TypeId) : Option (Nat × List (Nat × Nat)) :=
  match P.info? t, P.underlying t with
  | some it, some (.struct fields) =>
    match it.zero, fields.toList.mapM (fun f => (P.info? f.type).map fun i => (f.offset, i.size)) with
    | some z, some places => some (z.cells.size, places)
    | _, _ => none
  | _, _ => none
def fits : Nat → List Nat → List (Nat × Nat) → Bool
  | _, [], [] => true
  | o, s :: ss, (o', s') :: ps => o == o' && s == s' && fits (o + s) ss ps
  | _, _, _ => false
theorem fits_at : ∀ (ss : List Nat) (o : Nat) (ps : List (Nat × Nat)), fits o ss ps = true → ∀ (k s : Nat), ss[k]? = some s → ps[k]? = some (o + (ss.take k).sum, s)
  | [], _, _, _, k, s, h => by simp at h
  | s0 :: ss, o, [], h, _, _, _ => by simp [fits] at h
  | s0 :: ss, o, (o', s') :: ps, h, 0, s, hk => by
    simp only [fits, Bool.and_eq_true, beq_iff_eq] at h
    obtain ⟨⟨rfl, rfl⟩, _⟩ := h
    obtain rfl : s0 = s := by simpa using hk
    simp
  | s0 :: ss, o, (o', s') :: ps, h, k + 1, s, hk => by
    simp only [fits, Bool.and_eq_true, beq_iff_eq] at h
    obtain ⟨⟨rfl, rfl⟩, h⟩ := h
    have := fits_at ss (o + s0) ps h k s (by simpa using hk)
    rw [List.getElem?_cons_succ, this]
    simp [Nat.add_assoc]
theorem built_struct {P : Program} {t : TypeId} {n : Nat} {places : List (Nat × Nat)} (hp : placesOf P t = some (n, places)) (vs : List Value) (hf : fits 0 (vs.map (·.cells.size)) places = true) (hn : (vs.map (·.cells.size)).sum = n) :
    P.built t ((vs.zipIdx 0).map fun x => (x.2, x.1)) = some (vs.flatMap fun v => v.cells.toList).toArray := by
  unfold placesOf at hp
  unfold Program.built
  cases hit : P.info? t with
  | none => simp [hit] at hp
  | some it =>
    cases hu : P.underlying t with
    | none => simp [hit, hu] at hp
    | some d =>
      cases d <;> try (simp [hit, hu] at hp; done)
      case struct fields =>
        simp only [hit, hu] at hp ⊢
        cases hz : it.zero with
        | none => simp [hz] at hp
        | some z =>
          cases hm : fields.toList.mapM (fun f => (P.info? f.type).map fun i => (f.offset, i.size)) with
          | none => simp [hz, hm] at hp
          | some pl =>
            simp only [hz, hm, Option.some.injEq, Prod.mk.injEq] at hp ⊢
            obtain ⟨hzn, rfl⟩ := hp
            have h := fill_parts (fun i => pl.toArray[i]?) vs 0 0 z.cells (fun k v hk => by
              rw [Nat.zero_add]
              have := fits_at _ 0 pl hf k v.cells.size (by simp [hk])
              rw [List.getElem?_toArray, this, List.map_take]) (by omega)
            rw [h]
            congr 1
            apply Array.ext'
            have hl : (vs.flatMap fun v => v.cells.toList).length = z.cells.toList.length := by
              have hL : z.cells.toList.length = z.cells.size := Array.length_toList
              rw [hL, hzn, ← hn]; simp [List.length_flatMap]
            unfold spl
            rw [List.take_zero, List.nil_append, Nat.zero_add, hl, List.drop_length, List.append_nil]
theorem wp_buildStruct {P : Program} {o : Oper} {a : Act} {w : World} {K : Act → World → Prop} {Q : Exit → Act → World → Prop} (t : TypeId) (parts : Array (Nat × Operand)) (ho : o.op = .build t parts) {n : Nat} {places : List (Nat × Nat)} (hp : placesOf P t = some (n, places))
    (vs : List Value) (hv : (parts.map fun (i, x) => (i, a.eval x)).toList = (vs.zipIdx 0).map fun x => (x.2, x.1)) (hf : fits 0 (vs.map (·.cells.size)) places = true) (hn : (vs.map (·.cells.size)).sum = n)
    (h : K (a.put o.dst (.agg (vs.flatMap fun v => v.cells.toList).toArray)) w) : o.wp P a w K Q := by
  have hb := built_struct hp vs hf hn
  rw [← hv] at hb
  exact wp_build t parts ho (by rw [hb]; rfl) (by rw [hb]; exact h)
end Go.Proofs.Ytppbgkdkioldbaa
