/- Merged: StMore Fill Lit Keep KeepB NamesRef NamesCut ReadW. -/
import Derived.Great.BuildSlice
import Derived.Laws.BytesArg
import Derived.Deep.DeepCutAuto
import Derived.Deep.CutBlock
import Derived.Test.YteidjbbhhfdcpaaDoorMGen0
/- Blocks that come to a list of blocks. No function of the program is named here. -/
set_option maxRecDepth 4000
namespace Go.Proofs.YteidjbbhhfdcpaaDoor
open Go Go.RowKit
section
variable {w0 W W' : World} {F : Nat → Prop} {R : List Blk}
theorem St.join (h : St w0 F R W) {g : Nat} {t : TypeId} {cs : Array Value} (hr : Row W g t cs) (hg : w0.heap.size ≤ g) (hne : ∀ b ∈ R, b.g ≠ g) : St w0 F (R ++ [⟨g, t, cs⟩]) W := by
  have at_ : ∀ (j : Nat) (s : Blk), (R ++ [(⟨g, t, cs⟩ : Blk)])[j]? = some s → (j < R.length ∧ R[j]? = some s) ∨ (j = R.length ∧ s = ⟨g, t, cs⟩) := fun j s hj => by
    by_cases e : j < R.length
    · rw [List.getElem?_append_left e] at hj; exact .inl ⟨e, hj⟩
    · rw [List.getElem?_append_right (by omega)] at hj
      have e2 : j - R.length = 0 := by
        rcases Nat.eq_zero_or_pos (j - R.length) with h0 | h0
        · exact h0
        · rw [List.getElem?_eq_none (by simp; omega)] at hj; cases hj
      rw [e2] at hj
      exact .inr ⟨by omega, (Option.some.inj hj).symm⟩
  refine ⟨h.chg, fun j s hj => ?_, fun i j s u hij hi hj => ?_, fun j s hj => ?_⟩
  · rcases at_ j s hj with ⟨_, hk⟩ | ⟨_, rfl⟩
    · exact h.rows j s hk
    · exact hr
  · rcases at_ i s hi with ⟨_, hk⟩ | ⟨e1, rfl⟩ <;> rcases at_ j u hj with ⟨_, hu⟩ | ⟨e2, rfl⟩
    · exact h.apart _ _ _ _ hij hk hu
    · exact hne s (List.mem_of_getElem? hk)
    · exact fun e => hne u (List.mem_of_getElem? hu) e.symm
    · omega
  · rcases at_ j s hj with ⟨_, hk⟩ | ⟨_, rfl⟩
    · exact h.own j s hk
    · exact .inr hg
/- a block that is none of the list's changes -/
theorem St.far (h : St w0 F R W) {g : Nat} (k : W.grownBy W' (some g)) (hg : w0.heap.size ≤ g) (hne : ∀ b ∈ R, b.g ≠ g) : St w0 F R W' :=
  ⟨h.chg.grown k (fun j e => by cases e; exact .inr hg), fun j r hj => (h.rows j r hj).only k (hne r (List.mem_of_getElem? hj)), h.apart, h.own⟩
theorem St.lt (h : St w0 F R W) {b : Blk} (hb : b ∈ R) : b.g < W.heap.size := by
  obtain ⟨k, hk⟩ := List.getElem?_of_mem hb
  exact (h.rows k b hk).lt
end
theorem row_ne {w : World} {g k : Nat} {t u : TypeId} {cs ds : Array Value} (h : Row w g t cs) (h' : Row w k u ds) (hne : t ≠ u) : g ≠ k := by
  rintro rfl
  have := h.symm.trans h'
  injection this with this
  injection this with _ this _
  exact hne this
/- a guarded load of a whole row, said so that other operations fall at once -/
theorem wplG_row {P : Program} {ops : Array Oper} {rest : List Oper} {dst : Option Tmp} {type : TypeId} {pos : String} {after : Array Edge} {gd : Option (Nat × Bool)} {a : Act} {w : World} {Q : Exit → Act → World → Prop} (ty : TypeId) (x : Nat) (g : Nat) (t : TypeId) (cs : Array Value) (fr : Nat × Nat) (d : TypeDesc)
    (hw : Region.wanted { dst := dst, op := .load ty (.tmp x), type := type, pos := pos, after := after, guard := gd } (yielded ops a.tmps) = true) (hx : a.eval (.tmp x) = .pointer (some ⟨g, 0, none⟩)) (hg : w.heap[g]? = some (.cells cs t fr))
    (hu : P.underlying ty = some d) (hd : (match d with | .struct _ | .array _ _ => true | _ => false) = true) (hi : (P.info? ty).map (·.size) = some cs.size)
    (h : wpList P ops Q rest (a.put dst (.agg cs)) w) : wpList P ops Q ({ dst := dst, op := .load ty (.tmp x), type := type, pos := pos, after := after, guard := gd } :: rest) a w :=
  wpList_guarded hw fun _ hK => wp_load_row ty (.tmp x) rfl g hx t cs fr d hg hu hd hi (hK _ _ h)
end Go.Proofs.YteidjbbhhfdcpaaDoor

/- Literals of structs and of slices of structs: their cells, side by side. No function of the program is named here. -/
set_option maxRecDepth 4000
namespace Go.Proofs.YteidjbbhhfdcpaaDoor
open Go Go.RowKit
theorem spl_spl {α : Type} (L : List α) (o : Nat) (a b : List α) (h : o + a.length + b.length ≤ L.length) : spl (spl L o a) (o + a.length) b = spl L o (a ++ b) := by
  unfold spl
  have e1 : (L.take o).length = o := by rw [List.length_take]; omega
  have e2 : (L.take o ++ a).length = o + a.length := by rw [List.length_append, e1]
  rw [← e2, List.take_left, e2, List.length_append, ← List.append_assoc, ← Nat.add_assoc]
  congr 1
  rw [show o + a.length + b.length = (L.take o ++ a).length + b.length by rw [e2], List.drop_length_add_append, List.drop_drop, e2]
theorem fill_set (off : Nat) (v : Array Value) (cells : Array Value) (h : off + v.size ≤ cells.size) : v.zipIdx.foldl (fun cs (x : Value × Nat) => cs.setIfInBounds (off + x.2) x.1) cells = (spl cells.toList off v.toList).toArray := by
  rw [← Array.foldl_toList, Array.toList_zipIdx]
  obtain ⟨h1, h2⟩ := Great.foldl_set off v.toList 0 cells
  apply Array.ext_getElem?
  intro k
  rw [h2 k, Nat.add_zero]
  have hL : cells.toList.length = cells.size := Array.length_toList
  have hv : v.toList.length = v.size := Array.length_toList
  have e1 : (cells.toList.take off).length = off := by rw [List.length_take]; omega
  rw [show (spl cells.toList off v.toList).toArray[k]? = (spl cells.toList off v.toList)[k]? from List.getElem?_toArray]
  unfold spl
  by_cases hk : off ≤ k
  · by_cases hk2 : k < off + v.size
    · rw [if_pos ⟨hk, by omega, by omega⟩, List.getElem?_append_left (by rw [List.length_append, e1]; omega), List.getElem?_append_right (by omega), e1]
    · rw [if_neg (by omega), List.getElem?_append_right (by rw [List.length_append, e1]; omega), List.getElem?_drop, List.length_append, e1, hv]
      rw [show off + v.size + (k - (off + v.size)) = k by omega]; simp
  · rw [if_neg (by omega), List.append_assoc, List.getElem?_append_left (by omega), List.getElem?_take, if_pos (by omega)]; simp
theorem fill_parts (place : Nat → Option (Nat × Nat)) : ∀ (vs : List Value) (i0 off : Nat) (cells : Array Value),
    (∀ k v, vs[k]? = some v → place (i0 + k) = some (off + ((vs.take k).map (·.cells.size)).sum, v.cells.size)) → off + (vs.map (·.cells.size)).sum ≤ cells.size →
    Instr.fill place cells ((vs.zipIdx i0).map fun x => (x.2, x.1)) = some (spl cells.toList off (vs.flatMap fun v => v.cells.toList)).toArray
  | [], _, off, cells, _, _ => by simp [Instr.fill, spl]
  | v :: vs, i0, off, cells, hp, hs => by
    simp only [List.map_cons, List.sum_cons] at hs
    have h0 := hp 0 v rfl
    simp only [List.take_zero, List.map_nil, List.sum_nil, Nat.add_zero] at h0
    have hL : cells.toList.length = cells.size := Array.length_toList
    have hv : v.cells.toList.length = v.cells.size := Array.length_toList
    have e := fill_set off v.cells cells (by omega)
    have h9 := length_spl cells.toList off v.cells.toList (by omega)
    have h8 : (spl cells.toList off v.cells.toList).toArray.size = (spl cells.toList off v.cells.toList).length := List.size_toArray
    have ih := fill_parts place vs (i0 + 1) (off + v.cells.size) (spl cells.toList off v.cells.toList).toArray (fun k u hu => by
      have := hp (k + 1) u (by simpa using hu)
      rw [show i0 + 1 + k = i0 + (k + 1) by omega, this]
      simp [Nat.add_assoc]) (by rw [h8, h9]; omega)
    simp only [List.zipIdx_cons, List.map_cons, Instr.fill, h0]
    have hno : (decide (v.cells.size ≠ v.cells.size) || decide (off + v.cells.size > cells.size)) = false := by
      rw [decide_eq_false (by simp), decide_eq_false (by omega)]; rfl
    rw [if_neg (by simp; omega), e, ih]
    congr 2
    simp only [List.flatMap_cons]
    have hfl : (vs.flatMap fun v => v.cells.toList).length = (vs.map (·.cells.size)).sum := by simp [List.length_flatMap]
    rw [← hv, spl_spl _ _ _ _ (by omega)]
/- a slice literal of one element of several cells -/
theorem wp_buildOne {P : Program} {o : Oper} {a : Act} {w : World} {K : Act → World → Prop} {Q : Exit → Act → World → Prop} (t e : TypeId) (x : Operand) (ho : o.op = .buildSlice t 1 #[(0, x)]) (cells : Array Value) (z : Value) (sz : Nat) (hx : a.eval x = .agg cells)
    (hu : P.underlying t = some (.slice e)) (hie : (P.info? e).map (fun i => (i.zero, i.size)) = some (some z, sz)) (hc : cells.size = sz) (hpos : 0 < sz) (hsmall : sz ≤ 2 ^ 24)
    (h : K (a.put o.dst (.slice (some ⟨w.heap.size, 0, none⟩) 1 1)) (w.alloc (.cells cells e))) : o.wp P a w K Q := by
  obtain ⟨ie, hi, he⟩ := Option.map_eq_some_iff.1 hie
  injection he with hz hsz
  refine wp_buildSlice t e 1 _ ho cells ie z hu hi hz (by rw [hsz]; omega) (by rw [hsz]; omega) ?_ h
  have hf := fill_parts (fun i => some (i * ie.size, ie.size)) [.agg cells] 0 0 ((Array.range (1 * ie.size)).map (z.cells[· % z.cells.size]!)) (fun k v hk => by
    match k, hk with
    | 0, hk => obtain rfl : Value.agg cells = v := by simpa using hk
               simp [Value.cells, hsz, hc]) (by simp [Value.cells, hsz, hc])
  have e1 : (#[(0, x)].map fun (i, x) => (i, a.eval x)).toList = (([Value.agg cells].zipIdx 0).map fun x => (x.2, x.1)) := by simp [hx]
  rw [e1, hf]
  congr 1
  have e2 : ([Value.agg cells].flatMap fun v => v.cells.toList) = cells.toList := by simp [Value.cells]
  rw [e2]
  apply Array.ext'
  unfold spl
  simp [hsz, hc]
/- of two -/
theorem wp_buildTwo {P : Program} {o : Oper} {a : Act} {w : World} {K : Act → World → Prop} {Q : Exit → Act → World → Prop} (t e : TypeId) (x y : Operand) (ho : o.op = .buildSlice t 2 #[(0, x), (1, y)]) (c1 c2 : Array Value) (z : Value) (sz : Nat) (hx : a.eval x = .agg c1) (hy : a.eval y = .agg c2)
    (hu : P.underlying t = some (.slice e)) (hie : (P.info? e).map (fun i => (i.zero, i.size)) = some (some z, sz)) (hc1 : c1.size = sz) (hc2 : c2.size = sz) (hpos : 0 < sz) (hsmall : sz ≤ 2 ^ 20)
    (h : K (a.put o.dst (.slice (some ⟨w.heap.size, 0, none⟩) 2 2)) (w.alloc (.cells (c1.toList ++ c2.toList).toArray e))) : o.wp P a w K Q := by
  obtain ⟨ie, hi, he⟩ := Option.map_eq_some_iff.1 hie
  injection he with hz hsz
  refine wp_buildSlice t e 2 _ ho (c1.toList ++ c2.toList).toArray ie z hu hi hz (by rw [hsz]; omega) (by rw [hsz]; omega) ?_ h
  have hf := fill_parts (fun i => some (i * ie.size, ie.size)) [.agg c1, .agg c2] 0 0 ((Array.range (2 * ie.size)).map (z.cells[· % z.cells.size]!)) (fun k v hk => by
    match k, hk with
    | 0, hk => obtain rfl : Value.agg c1 = v := by simpa using hk
               simp [Value.cells, hsz, hc1]
    | 1, hk => obtain rfl : Value.agg c2 = v := by simpa using hk
               simp [Value.cells, hsz, hc1, hc2]) (by simp [Value.cells, hsz, hc1, hc2]; omega)
  have e1 : (#[(0, x), (1, y)].map fun (i, x) => (i, a.eval x)).toList = (([Value.agg c1, Value.agg c2].zipIdx 0).map fun x => (x.2, x.1)) := by simp [hx, hy]
  rw [e1, hf]
  congr 1
  have e2 : ([Value.agg c1, Value.agg c2].flatMap fun v => v.cells.toList) = c1.toList ++ c2.toList := by simp [Value.cells]
  rw [e2]
  apply Array.ext'
  unfold spl
  have h4 : (c1.toList ++ c2.toList).length = 2 * ie.size := by rw [List.length_append, Array.length_toList, Array.length_toList, hc1, hc2, hsz]; omega
  rw [List.take_zero, List.nil_append, List.drop_of_length_le (by rw [h4]; simp), List.append_nil]
/- a struct literal of which every field is given, in order -/
def placesOf (P : Program) (t : TypeId) : Option (Nat × List (Nat × Nat)) :=
  match P.info? t, P.underlying t with
  | some it, some (.struct fields) =>
    match it.zero, fields.toList.mapM (fun f => (P.info? f.type).map fun i => (f.offset, i.size)) with
    | some z, some places => some (z.cells.size, places)
    | _, _ => none
  | _, _ => none
def fits : Nat → List Nat → List (Nat × Nat) → Bool
  | _, [], [] => true
  | o, s :: ss, (o', s') :: ps => o == o' && s == s' && fits (o + s) ss ps
  | _, _, _ => false
theorem fits_at : ∀ (ss : List Nat) (o : Nat) (ps : List (Nat × Nat)), fits o ss ps = true → ∀ (k s : Nat), ss[k]? = some s → ps[k]? = some (o + (ss.take k).sum, s)
  | [], _, _, _, k, s, h => by simp at h
  | s0 :: ss, o, [], h, _, _, _ => by simp [fits] at h
  | s0 :: ss, o, (o', s') :: ps, h, 0, s, hk => by
    simp only [fits, Bool.and_eq_true, beq_iff_eq] at h
    obtain ⟨⟨rfl, rfl⟩, _⟩ := h
    obtain rfl : s0 = s := by simpa using hk
    simp
  | s0 :: ss, o, (o', s') :: ps, h, k + 1, s, hk => by
    simp only [fits, Bool.and_eq_true, beq_iff_eq] at h
    obtain ⟨⟨rfl, rfl⟩, h⟩ := h
    have := fits_at ss (o + s0) ps h k s (by simpa using hk)
    rw [List.getElem?_cons_succ, this]
    simp [Nat.add_assoc]
theorem built_struct {P : Program} {t : TypeId} {n : Nat} {places : List (Nat × Nat)} (hp : placesOf P t = some (n, places)) (vs : List Value) (hf : fits 0 (vs.map (·.cells.size)) places = true) (hn : (vs.map (·.cells.size)).sum = n) :
    P.built t ((vs.zipIdx 0).map fun x => (x.2, x.1)) = some (vs.flatMap fun v => v.cells.toList).toArray := by
  unfold placesOf at hp
  unfold Program.built
  cases hit : P.info? t with
  | none => simp [hit] at hp
  | some it =>
    cases hu : P.underlying t with
    | none => simp [hit, hu] at hp
    | some d =>
      cases d <;> try (simp [hit, hu] at hp; done)
      case struct fields =>
        simp only [hit, hu] at hp ⊢
        cases hz : it.zero with
        | none => simp [hz] at hp
        | some z =>
          cases hm : fields.toList.mapM (fun f => (P.info? f.type).map fun i => (f.offset, i.size)) with
          | none => simp [hz, hm] at hp
          | some pl =>
            simp only [hz, hm, Option.some.injEq, Prod.mk.injEq] at hp ⊢
            obtain ⟨hzn, rfl⟩ := hp
            have h := fill_parts (fun i => pl.toArray[i]?) vs 0 0 z.cells (fun k v hk => by
              rw [Nat.zero_add]
              have := fits_at _ 0 pl hf k v.cells.size (by simp [hk])
              rw [List.getElem?_toArray, this, List.map_take]) (by omega)
            rw [h]
            congr 1
            apply Array.ext'
            have hl : (vs.flatMap fun v => v.cells.toList).length = z.cells.toList.length := by
              have hL : z.cells.toList.length = z.cells.size := Array.length_toList
              rw [hL, hzn, ← hn]; simp [List.length_flatMap]
            unfold spl
            rw [List.take_zero, List.nil_append, Nat.zero_add, hl, List.drop_length, List.append_nil]
theorem wp_buildStruct {P : Program} {o : Oper} {a : Act} {w : World} {K : Act → World → Prop} {Q : Exit → Act → World → Prop} (t : TypeId) (parts : Array (Nat × Operand)) (ho : o.op = .build t parts) {n : Nat} {places : List (Nat × Nat)} (hp : placesOf P t = some (n, places))
    (vs : List Value) (hv : (parts.map fun (i, x) => (i, a.eval x)).toList = (vs.zipIdx 0).map fun x => (x.2, x.1)) (hf : fits 0 (vs.map (·.cells.size)) places = true) (hn : (vs.map (·.cells.size)).sum = n)
    (h : K (a.put o.dst (.agg (vs.flatMap fun v => v.cells.toList).toArray)) w) : o.wp P a w K Q := by
  have hb := built_struct hp vs hf hn
  rw [← hv] at hb
  exact wp_build t parts ho (by rw [hb]; rfl) (by rw [hb]; exact h)
end Go.Proofs.YteidjbbhhfdcpaaDoor

/- Literals of bytes in a region that is walked by what each operation yields. -/
set_option maxRecDepth 4000
namespace Go.Proofs.YteidjbbhhfdcpaaDoor
open Go Go.RowKit
theorem run_conv_lit (w : World) (g n c : Nat) (C : Array Value) (fr : Nat × Nat) (hg : w.heap[g]? = some (.cells C 5 fr)) :
    ∃ w', (convert 29 29 (.slice (some ⟨g, 0, none⟩) n c)).run Tryd.prog w = .ok (.slice (some ⟨g, 0, none⟩) n c) w' ∧ ∀ B, B ≤ g → Keeps B w w' := by
  have hsh : w.shape? g = some (5, C.size) := by unfold World.shape?; rw [hg]
  refine ⟨w.freeze ⟨g, C.size, none⟩ 1, by simp [convert, run_underlying Tryd.underlying29, run_underlying Tryd.underlying5, markStringish, hsh], fun B hB => ⟨⟨rfl, rfl, rfl, by simp [World.freeze], fun k hk => ?_⟩, fun k cs t fr' hk => ?_⟩⟩
  · simp only [World.freeze, if_neg (show ¬ (1 = 0) by decide), Array.getElem?_modify]
    rw [if_neg (by omega)]
  · simp only [World.freeze, if_neg (show ¬ (1 = 0) by decide), Array.getElem?_modify]
    by_cases hkg : g = k
    · subst hkg
      rw [if_pos rfl, hk]
      exact ⟨_, rfl⟩
    · rw [if_neg hkg]; exact ⟨fr', hk⟩
section
variable {o : Oper} {a : Act} {w : World} {R : Value → World → Prop}
theorem does_conv {B t : Nat} {v : Value} {q : List (BitVec 8)} (ho : o.op = .convert 29 29 (.tmp t)) (ht : a.tmps[t]? = some v) (hv : lit B q v w) (h : ∀ w', Keeps B w w' → lit B q v w' → R v w') : Does Tryd.prog o a w R := by
  obtain ⟨g, fr, rfl, hB, hg⟩ := hv
  obtain ⟨w', hr, hk⟩ := run_conv_lit w g q.length q.length _ fr hg
  obtain ⟨fr', h'⟩ := (hk B hB).rows _ _ _ _ hg
  refine does_run (w' := w') (v := .slice (some ⟨g, 0, none⟩) q.length q.length) ?_ (h w' (hk B hB) ⟨g, fr', rfl, hB, h'⟩)
  simp only [execOp, ho, eval_of_get ht, Sem.run_bind, hr, Result.andThen_ok, Sem.run_pure]
end
theorem lit_new {B : Nat} (w : World) (q : List (BitVec 8)) (hB : B ≤ w.heap.size) : lit B q (.slice (some ⟨w.heap.size, 0, none⟩) q.length q.length) (w.alloc (.cells (bs q) 5)) := ⟨_, _, rfl, hB, heap_alloc_new w _⟩
end Go.Proofs.YteidjbbhhfdcpaaDoor

set_option maxRecDepth 4000
namespace Go.Proofs.YteidjbbhhfdcpaaDoor
open Go Go.RowKit
def str (q : List (BitVec 8)) : ByteArray := strOfNums (q.map bd)
theorem keep_conv {w : World} {v : Value} {q : List (BitVec 8)} (h : Slice w v q) : (convert 29 9 v).run Tryd.prog w = .ok (.string (str q)) w := by
  obtain ⟨A, c, rfl, _, h3⟩ := h
  by_cases hq : q = []
  · subst hq
    cases A with
    | none => exact run_convert_bytes_nil w 29 5 Tryd.underlying29 Tryd.underlying5 0 c 9 Tryd.underlying9
    | some a =>
      have hl : (loadCells a 0).run Tryd.prog w = .ok ((([] : List Int).map (Value.int .u8)).toArray) w := run_loadCells_list (P := Tryd.prog) w a [] (fun j v hv => by simp at hv)
      exact (run_convert_bytes_string w 29 9 5 (some a) 0 c Tryd.underlying29 Tryd.underlying5 Tryd.underlying9).trans (run_bytesToString w a 0 c [] hl)
  · obtain ⟨b, o, rfl, _, hc⟩ := h3 hq
    refine run_convert_bytes_arg w 29 5 Tryd.underlying29 Tryd.underlying5 b o q.length c (q.map bd) (by simp) (fun i hi => ?_) 9 Tryd.underlying9
    rw [hc i q[i] (List.getElem?_eq_getElem hi)]
    simp [hi]
theorem keep_true (a b : Value) (q : List (BitVec 8)) (w : World) (ha : Slice w a q) (hb : Slice w b q) :
    Calls Tryd.prog 14 #[a, b] w fun e w' => e = .returned (.bool true) ∧ w = w' := by
  have e1 := keep_conv ha
  have e2 := keep_conv hb
  clear ha hb
  generalize str q = s at *
  go_enter Tryd.func14, Tryd.ntmps14
  go_wp2
  go_ret
  simp
end Go.Proofs.YteidjbbhhfdcpaaDoor

/- Strings of bytes compared. -/
set_option maxRecDepth 4000
namespace Go.Proofs.YteidjbbhhfdcpaaDoor
open Go Go.RowKit
theorem str_inj {p q : List (BitVec 8)} (h1 : (str p).data.toList = (str q).data.toList) : p = q := by
  unfold str at h1
  rw [strOfNums_data, strOfNums_data, List.map_map, List.map_map] at h1
  refine (List.map_inj_right ?_).1 h1
  intro x y hxy
  simp only [Function.comp] at hxy
  have hx := bd_lo x; have hx' := bd_hi x; have hy := bd_lo y; have hy' := bd_hi y
  apply bd_inj
  have h2 := congrArg UInt8.toNat hxy
  simp only [UInt8.toNat_ofNat'] at h2
  omega
theorem keepb_any (a b : Value) (p q : List (BitVec 8)) (w : World) (ha : Slice w a p) (hb : Slice w b q) :
    Calls Tryd.prog 14 #[a, b] w fun e w' => e = .returned (.bool (decide (p = q))) ∧ w = w' := by
  have e1 := keep_conv ha
  have e2 := keep_conv hb
  have HE : Hid (((str p).toList == (str q).toList) = decide (p = q)) := Lib.hid (by
    rw [ByteArray.toList_eq, ByteArray.toList_eq]
    by_cases h : p = q
    · subst h; rw [decide_eq_true rfl]; exact beq_self_eq_true _
    · rw [decide_eq_false h]
      exact beq_eq_false_iff_ne.2 fun e => h (str_inj e))
  clear ha hb
  generalize str p = s at *
  generalize str q = t at *
  go_enter Tryd.func14, Tryd.ntmps14
  go_wp2
  go_ret
  exact ⟨congrArg (fun b => Ending.returned (.bool b)) HE.out, rfl⟩
end Go.Proofs.YteidjbbhhfdcpaaDoor

/- The document's names: Good, Pad, Cut. -/
set_option maxRecDepth 4000
namespace Go.Proofs.YteidjbbhhfdcpaaDoor
open Go Go.RowKit
attribute [local go_sem] strB_size
set_option maxHeartbeats 1600000 in
theorem refgoodn_any (l : List (List (BitVec 8))) (v : Value) (w : World) (hv : Strs w v l) (hl : l.length ≤ maxLen) :
    Calls Tryd.prog 18 #[v] w fun e w' => e = .returned (.bool (goodNs l)) ∧ w = w' := by
  obtain ⟨A, c, rfl⟩ : ∃ A c, v = .slice A l.length c := by obtain ⟨A, c, h, _⟩ := hv; exact ⟨A, c, h⟩
  obtain ⟨n, hn⟩ : ∃ n, l.length = n := ⟨_, rfl⟩
  have HN := Lib.hid hn
  have HM : Hid (∀ q ∈ l, q.length ≤ maxLen) := Lib.hid (by obtain ⟨_, _, _, _, _, hm, _⟩ := hv; exact hm)
  rw [hn] at hv hl ⊢
  have HV := Lib.hid hv
  unfold maxLen at hl
  obtain ⟨G, hG⟩ : ∃ G, goodNs l = G := ⟨_, rfl⟩
  have HY : Hid ((∀ j < n, goodN (l.getD j []) = true) → G = true) := Lib.hid fun h => by rw [← hG]; exact good_all (by rw [hn]; exact h)
  have HNO : Hid (∀ j < n, goodN (l.getD j []) = false → G = false) := Lib.hid fun j hj h => by rw [← hG]; exact good_no (by rw [hn]; exact hj) h
  rw [hG]
  clear hn hG hv
  go_enter Tryd.func18, Tryd.ntmps18
  go_wp2_with fail
  go_loopw [3] (fun i wr => ∃ k : Nat, k ≤ n ∧ i = .int .i64 k ∧ (∀ j < k, goodN (l.getD j []) = true) ∧ wr = w) (fun i _ => n - (intOf i).toNat)
  case atStart => exact ⟨0, by omega, rfl, fun j hj => by omega, rfl⟩
  case round =>
    obtain ⟨k, hk, rfl, hok, rfl⟩ := hrel
    have HOK := Lib.hid hok
    clear hok
    by_cases hlt : k < n
    · obtain ⟨q, hx⟩ : ∃ x, l[k]? = some x := ⟨_, List.getElem?_eq_getElem (by rw [HN.out]; exact hlt)⟩
      have HQD : Hid (l.getD k [] = q) := Lib.hid (by rw [List.getD_eq_getElem?_getD, hx]; rfl)
      have HQM : Hid (q.length ≤ maxLen) := Lib.hid (HM.out q (List.mem_of_getElem? hx))
      obtain ⟨b, o, rfl, hbw, hcell⟩ := strs_at HV.out hx
      obtain ⟨m, hm⟩ : ∃ m, q.length = m := ⟨_, rfl⟩
      have hk0 : (0 : Int) ≤ (k : Int) := by omega
      have hk1 : (k : Int) < (n : Int) := by omega
      have hkd : decide ((k : Int) < (n : Int)) = true := decide_eq_true hk1
      have HQ4 : Hid (goodN q = (decide (1 ≤ m) && decide (m ≤ 4) && q.all letter)) := Lib.hid (by rw [← hm]; rfl)
      clear hx hbw
      by_cases h1 : m < 1
      · have hd1 : decide ((m : Int) < 1) = true := decide_eq_true (by omega)
        have hG : G = false := HNO.out k hlt (by rw [HQD.out, HQ4.out, decide_eq_false (by omega)]; rfl)
        go_wp2_with fail
        go_ret
        first | exact ⟨rfl, rfl⟩ | (rw [hG]; exact ⟨rfl, rfl⟩)
      have hd1 : decide ((m : Int) < 1) = false := decide_eq_false (by omega)
      by_cases h4 : 4 < m
      · have hd2 : decide ((4 : Int) < (m : Int)) = true := decide_eq_true (by omega)
        have hG : G = false := HNO.out k hlt (by rw [HQD.out, HQ4.out, decide_eq_false (show ¬ m ≤ 4 by omega), Bool.and_false]; rfl)
        go_wp2_with fail
        go_ret
        first | exact ⟨rfl, rfl⟩ | (rw [hG]; exact ⟨rfl, rfl⟩)
      have hd2 : decide ((4 : Int) < (m : Int)) = false := decide_eq_false (by omega)
      have HQ5 : Hid (goodN q = q.all letter) := Lib.hid (by rw [HQ4.out, decide_eq_true (by omega), decide_eq_true (by omega)]; rfl)
      have HML : Hid (q.length = m) := Lib.hid hm
      have HG0 : Hid (goodN q = false → G = false) := Lib.hid fun h => HNO.out k hlt (by rw [HQD.out, h])
      have HIX : Hid (∀ w (j : Nat), j < m → (Instr.index 9 (.string (strB q)) (.int .i64 (j : Int))).run Tryd.prog w = .ok (.int .u8 (bd (q.getD j 0#8))) w) := Lib.hid fun w j hj => run_ix w 9 q .i64 j Tryd.underlying9 (by rw [hm]; exact hj)
      have hw : IntKind.i64.wrap ((k : Int) + 1) = ((k + 1 : Nat) : Int) := by rw [i64_id _ (by omega) (by omega)]; omega
      go_wp2_with fail
      clear hd1 hd2
      go_loopw [4] (fun i ws => ∃ j : Nat, j ≤ m ∧ i = .int .i64 j ∧ (∀ s < j, letter (q.getD s 0#8) = true) ∧ ws = wr) (fun i _ => m - (intOf i).toNat)
      case atStart => exact ⟨0, by omega, rfl, fun j hj => by omega, rfl⟩
      case round =>
        obtain ⟨j, hj, rfl, hok, rfl⟩ := hrel
        have HOJ := Lib.hid hok
        clear hok
        by_cases hjm : j < m
        · have hix := fun w => HIX.out w j hjm
          have hj0 : decide ((j : Int) < (m : Int)) = true := decide_eq_true (by omega)
          have hj1 : (j : Int) < (m : Int) := by omega
          have hj2 : (0 : Int) ≤ (j : Int) := by omega
          obtain ⟨x, hx⟩ : ∃ x, q.getD j 0#8 = x := ⟨_, rfl⟩
          have HX := Lib.hid hx
          rw [hx] at hix
          clear hx
          by_cases h97 : bd x < 97
          · have hd1 : decide (bd x < 97) = true := decide_eq_true h97
            have hG : G = false := HG0.out (by rw [HQ5.out]; exact all_no (by rw [HML.out]; exact hjm) (by rw [HX.out]; unfold letter; rw [decide_eq_false (by omega)]; rfl))
            go_wp2_with fail
            go_ret
            first | exact ⟨rfl, rfl⟩ | (rw [hG]; exact ⟨rfl, rfl⟩)
          have hd1 : decide (bd x < 97) = false := decide_eq_false h97
          by_cases h122 : 122 < bd x
          · have hd2 : decide (122 < bd x) = true := decide_eq_true h122
            have hG : G = false := HG0.out (by rw [HQ5.out]; exact all_no (by rw [HML.out]; exact hjm) (by rw [HX.out]; unfold letter; rw [decide_eq_false (show ¬ bd x ≤ 122 by omega), Bool.and_false]))
            go_wp2_with fail
            go_ret
            first | exact ⟨rfl, rfl⟩ | (rw [hG]; exact ⟨rfl, rfl⟩)
          have hd2 : decide (122 < bd x) = false := decide_eq_false h122
          have hwj : IntKind.i64.wrap ((j : Int) + 1) = ((j + 1 : Nat) : Int) := by rw [i64_id _ (by omega) (by omega)]; omega
          go_wp2_with fail
          refine ⟨⟨j + 1, by omega, by go_num, fun s hs => ?_, trivial⟩, by simp [intOf]; omega⟩
          rcases Nat.lt_succ_iff_lt_or_eq.1 hs with h | h
          · exact HOJ.out s h
          · subst h; rw [HX.out]; unfold letter; rw [decide_eq_true (by omega), decide_eq_true (by omega)]; rfl
        · have hj0 : decide ((j : Int) < (m : Int)) = false := decide_eq_false (by omega)
          have HAL : Hid (q.all letter = true) := Lib.hid (all_of fun s hs => HOJ.out s (by rw [HML.out] at hs; omega))
          go_wp2_with fail
          refine ⟨⟨k + 1, by omega, by go_num, fun j hj => ?_, trivial⟩, by simp [intOf]; omega⟩
          rcases Nat.lt_succ_iff_lt_or_eq.1 hj with h | h
          · exact HOK.out j h
          · subst h; rw [HQD.out, HQ5.out]; exact HAL.out
    · have hkd : decide ((k : Int) < (n : Int)) = false := decide_eq_false (by omega)
      have hG : G = true := HY.out fun j hj => HOK.out j (by omega)
      go_wp2_with fail
      go_ret
      first | exact ⟨rfl, rfl⟩ | (rw [hG]; exact ⟨rfl, rfl⟩)
/- the first k bytes of a name laid -/
def padK (q : List (BitVec 8)) (k : Nat) : List (BitVec 8) := padN (q.take k)
theorem padK_zero (q : List (BitVec 8)) : padK q 0 = zer 4 := by unfold padK padN; rw [List.take_zero, List.nil_append, zer, List.take_replicate]; rfl
theorem padK_end (q : List (BitVec 8)) (k : Nat) (h : k = 4 ∨ q.length ≤ k) : padK q k = padN q := by
  rcases h with rfl | h
  · unfold padK padN
    rw [List.take_append, List.take_append, List.take_take, Nat.min_self, List.length_take]
    unfold zer
    rw [List.take_replicate, List.take_replicate]
    congr 2
    omega
  · unfold padK; rw [List.take_of_length_le h]
theorem padK_set (q : List (BitVec 8)) (k : Nat) (h : k < q.length) : (padK q k).set k (q.getD k 0#8) = padK q (k + 1) := by
  apply List.ext_getElem (by rw [List.length_set]; unfold padK; rw [length_padN, length_padN])
  intro i h1 h2
  have hi : i < 4 := by rw [List.length_set] at h1; unfold padK at h1; rw [length_padN] at h1; exact h1
  have g : ∀ k (hh : i < (padK q k).length), (padK q k)[i] = if i < k ∧ i < q.length then q.getD i 0#8 else 0#8 := fun k hh => by
    have e : padK q k = (q.take k ++ zer 4).take 4 := rfl
    rw [List.getElem_of_eq e, List.getElem_take]
    by_cases hc : i < k ∧ i < q.length
    · rw [if_pos hc, List.getElem_append_left (by rw [List.length_take]; omega), List.getElem_take, List.getD_eq_getElem?_getD, List.getElem?_eq_getElem hc.2]; rfl
    · rw [if_neg hc, List.getElem_append_right (by rw [List.length_take]; omega)]
      exact List.getElem_replicate ..
  rw [List.getElem_set, g _ (by simpa using h1), g]
  by_cases e : k = i
  · subst e; rw [if_pos rfl, if_pos ⟨by omega, h⟩]
  · rw [if_neg e]
    by_cases hc : i < k ∧ i < q.length
    · rw [if_pos hc, if_pos ⟨by omega, hc.2⟩]
    · rw [if_neg hc, if_neg (by omega)]
set_option maxHeartbeats 800000 in
theorem refpad_any (q : List (BitVec 8)) (w : World) (hm : q.length ≤ maxLen) :
    Calls Tryd.prog 19 #[.string (strB q)] w fun e w' => e = .returned (.agg (bs (padN q))) ∧ Below w.heap.size w w' := by
  obtain ⟨n, hn⟩ : ∃ n, q.length = n := ⟨_, rfl⟩
  have HN := Lib.hid hn
  have HMM := Lib.hid hm
  have HIX : Hid (∀ w (j : Nat), j < n → (Instr.index 9 (.string (strB q)) (.int .i64 (j : Int))).run Tryd.prog w = .ok (.int .u8 (bd (q.getD j 0#8))) w) := Lib.hid fun w j hj => run_ix w 9 q .i64 j Tryd.underlying9 (by rw [hn]; exact hj)
  have HS := St.nil w noF
  clear hm
  go_enter Tryd.func19, Tryd.ntmps19
  go_upto_region 3 with (first | ((with_reducible refine wpList_plain ?_ ?_); exact rfl; intro KK hKK; refine wp_st_alloc HS 49 (bs (zer 4)) rfl (.agg (bs (zer 4))) (by kernel_rfl) (rfl) (fun g2 W1 HSx => hKK _ _ ?_); clear hKK KK HS; have HS : St w noF [⟨g2, 49, bs (zer 4)⟩] W1 := HSx; clear HSx) | ((with_reducible refine wpList_plain ?_ ?_); exact rfl; intro KK hKK; refine wp_st_alloc HS 49 (bs (zer 4)) rfl (.agg (bs (zer 4))) (by kernel_rfl) (rfl) (fun g3 W2 HSx => hKK _ _ ?_); clear hKK KK HS; have HS : St w noF [⟨g2, 49, bs (zer 4)⟩, ⟨g3, 49, bs (zer 4)⟩] W2 := HSx; clear HSx))
  go_loopw [4] (fun i wr => ∃ k : Nat, k ≤ 4 ∧ k ≤ n ∧ i = .int .i64 k ∧ St w noF [⟨g2, 49, bs (zer 4)⟩, ⟨g3, 49, bs (padK q k)⟩] wr) (fun i _ => 4 - (intOf i).toNat)
  case atStart => exact ⟨0, by omega, by omega, rfl, by rw [padK_zero]; exact HS⟩
  case round =>
    clear HS
    obtain ⟨k, hk4, hkn, rfl, HS⟩ := hrel
    by_cases h4 : k < 4
    · have hd4 : decide ((k : Int) < 4) = true := decide_eq_true (by omega)
      by_cases hlt : k < n
      · have hdn : decide ((k : Int) < (n : Int)) = true := decide_eq_true (by omega)
        have hix := fun w => HIX.out w k hlt
        have hk0 : (0 : Int) ≤ (k : Int) := by omega
        have hk1 : (k : Int) < 4 := by omega
        have hw : IntKind.i64.wrap ((k : Int) + 1) = ((k + 1 : Nat) : Int) := by rw [i64_id _ (by omega) (by omega)]; omega
        have HPS := Lib.hid (padK_set q k (by rw [HN.out]; exact hlt))
        obtain ⟨x, hx⟩ : ∃ x, q.getD k 0#8 = x := ⟨_, rfl⟩
        rw [hx] at hix HPS
        clear hx
        have HFIT : Hid (k < (bs (padK q k)).size) := Lib.hid (by rw [size_bs]; unfold padK; rw [length_padN]; exact h4)
        go_wp2_with (first | ((with_reducible refine wpList_plain ?_ ?_); exact rfl; intro KK hKK; refine wp_st_put HS 1 k 5 (.tmp 19) (.tmp 18) rfl rfl rfl (.int .u8 (bd x)) rfl (by kernel_rfl) rfl rfl (HFIT.out) (bs (padK q (k + 1))) ((set_bs _ _ _).trans (congrArg bs HPS.out)) (fun W3 HSx => hKK _ _ ?_); clear hKK KK HS; have HS : St w noF [⟨g2, 49, bs (zer 4)⟩, ⟨g3, 49, bs (padK q (k + 1))⟩] W3 := HSx; clear HSx))
        exact ⟨⟨k + 1, by omega, by omega, by go_num, HS⟩, by simp [intOf]; omega⟩
      · have hdn : decide ((k : Int) < (n : Int)) = false := decide_eq_false (by omega)
        have HE := Lib.hid (padK_end q k (.inr (by rw [HN.out]; omega)))
        rw [HE.out] at HS
        go_wp2_with (first | ((with_reducible refine wpList_plain ?_ ?_); exact rfl; intro KK hKK; refine wp_st_load HS 1 0 49 (.tmp 3) rfl rfl rfl (bs (padN q)) (slab_whole _) _ Tryd.underlying49 rfl (by rw [size_bs, length_padN]; exact size_b4) (hKK _ _ ?_); clear hKK KK) | ((with_reducible refine wpList_plain ?_ ?_); exact rfl; intro KK hKK; refine wp_st_store HS 0 0 49 (.tmp 2) (.tmp 20) rfl rfl rfl (.agg (bs (padN q))) rfl (by rw [show Value.cells (.agg (bs (padN q))) = bs (padN q) from rfl, size_bs, length_padN]; exact size_b4) (by rw [show Value.cells (.agg (bs (padN q))) = bs (padN q) from rfl, size_bs, length_padN, size_bs, length_zer]; decide) (by exact one_bs _) (bs (padN q)) (spl_agg _ _ _ rfl (by rw [size_bs, size_bs, length_padN, length_zer])) (fun W4 HSx => hKK _ _ ?_); clear hKK KK HS; have HS : St w noF [⟨g2, 49, bs (padN q)⟩, ⟨g3, 49, bs (padN q)⟩] W4 := HSx; clear HSx))
        exact bodyPost_ret (v := .agg (bs (padN q))) (results_cell_row Tryd.results19 _ _ g2 49 (bs (padN q)) (0, 0) _ rfl (HS.row 0 rfl) Tryd.underlying49 rfl (by rw [size_bs, length_padN]; exact size_b4)) rfl ⟨rfl, HS.below⟩
    · have hd4 : decide ((k : Int) < 4) = false := decide_eq_false (by omega)
      have HE := Lib.hid (padK_end q k (.inl (by omega)))
      rw [HE.out] at HS
      go_wp2_with (first | ((with_reducible refine wpList_plain ?_ ?_); exact rfl; intro KK hKK; refine wp_st_load HS 1 0 49 (.tmp 3) rfl rfl rfl (bs (padN q)) (slab_whole _) _ Tryd.underlying49 rfl (by rw [size_bs, length_padN]; exact size_b4) (hKK _ _ ?_); clear hKK KK) | ((with_reducible refine wpList_plain ?_ ?_); exact rfl; intro KK hKK; refine wp_st_store HS 0 0 49 (.tmp 2) (.tmp 20) rfl rfl rfl (.agg (bs (padN q))) rfl (by rw [show Value.cells (.agg (bs (padN q))) = bs (padN q) from rfl, size_bs, length_padN]; exact size_b4) (by rw [show Value.cells (.agg (bs (padN q))) = bs (padN q) from rfl, size_bs, length_padN, size_bs, length_zer]; decide) (by exact one_bs _) (bs (padN q)) (spl_agg _ _ _ rfl (by rw [size_bs, size_bs, length_padN, length_zer])) (fun W4 HSx => hKK _ _ ?_); clear hKK KK HS; have HS : St w noF [⟨g2, 49, bs (padN q)⟩, ⟨g3, 49, bs (padN q)⟩] W4 := HSx; clear HSx))
      exact bodyPost_ret (v := .agg (bs (padN q))) (results_cell_row Tryd.results19 _ _ g2 49 (bs (padN q)) (0, 0) _ rfl (HS.row 0 rfl) Tryd.underlying49 rfl (by rw [size_bs, length_padN]; exact size_b4)) rfl ⟨rfl, HS.below⟩
end Go.Proofs.YteidjbbhhfdcpaaDoor

/- The document's name of four bytes. -/
set_option maxRecDepth 4000
namespace Go.Proofs.YteidjbbhhfdcpaaDoor
open Go Go.RowKit
attribute [local go_sem] strB_size
def nmC (s : List (BitVec 8)) (b : Bool) : Array Value := #[.string (strB s), .bool b]
theorem nm_zero : (#[.string ⟨#[]⟩, .bool false] : Array Value) = nmC [] false := by unfold nmC; rw [str_lit0]
theorem one_nm (s : List (BitVec 8)) (b : Bool) : (Value.agg (nmC s b)).cells.all (·.oneCell') = true := by
  rw [Array.all_eq_true_iff_forall_mem]; intro v hv
  have : v ∈ #[Value.string (strB s), Value.bool b] := hv
  simp only [List.mem_toArray, List.mem_cons, List.mem_nil_iff, or_false] at this
  rcases this with rfl | rfl <;> rfl
theorem size_nm : (Tryd.prog.info? 59).map (·.size) = some 2 := by kernel_rfl
theorem neq_b4 (p q : List (BitVec 8)) (hp : p.length = 4) (hq : q.length = 4) (w : World) : (Op.equalIn 10000 49 (.agg (bs p)) (.agg (bs q))).run Tryd.prog w = .ok (decide (p = q)) w := equal_bytes _ 4 p q hp hq Tryd.underlying49 w
theorem first_take {b : List (BitVec 8)} {k : Nat} (hk : k ≤ b.length) (h : ∀ j < k, ¬ b.getD j 0#8 = 0#8) (h0 : k = b.length ∨ b.getD k 0#8 = 0#8) : firstZ b = b.take k := by
  have e : b = b.take k ++ b.drop k := (List.take_append_drop k b).symm
  unfold firstZ
  conv => lhs; rw [e]
  rw [List.takeWhile_append_of_pos]
  · have : (b.drop k).takeWhile (fun x => decide (x ≠ 0#8)) = [] := by
      rcases h0 with rfl | h0
      · rw [List.drop_length]; rfl
      · by_cases hl : k < b.length
        · rw [List.drop_eq_getElem_cons hl, List.takeWhile_cons_of_neg]
          rw [List.getD_eq_getElem?_getD, List.getElem?_eq_getElem hl] at h0
          simpa using h0
        · rw [List.drop_of_length_le (by omega)]; rfl
    rw [this, List.append_nil]
  · intro x hx
    obtain ⟨j, hj, rfl⟩ := List.getElem_of_mem hx
    rw [List.length_take] at hj
    have := h j (by omega)
    rw [List.getD_eq_getElem?_getD, List.getElem?_eq_getElem (by omega)] at this
    rw [List.getElem_take]
    simpa using this
set_option maxRecDepth 20000 in
set_option maxHeartbeats 3200000 in
theorem refcutn_any (b : List (BitVec 8)) (w : World) (hl : b.length = 4) :
    Calls Tryd.prog 23 #[.agg (bs b)] w fun e w' => e = .returned (.agg (nmC (cutN b).1 (cutN b).2)) ∧ Below w.heap.size w w' := by
  rw [← cut_eq hl]
  have HL := Lib.hid hl
  have hnz := nm_zero
  have HS := St.nil w noF
  go_enter Tryd.func23, Tryd.ntmps23
  go_upto_region 2 with (first | ((with_reducible refine wpList_plain ?_ ?_); exact rfl; intro KK hKK; refine wp_st_box HS 49 (.tmp 0) rfl _ rfl (bs b) (rfl) (fun g1 W1 HSx => hKK _ _ ?_); clear hKK KK HS; have HS : St w noF [⟨g1, 49, bs b⟩] W1 := HSx; clear HSx) | ((with_reducible refine wpList_plain ?_ ?_); exact rfl; intro KK hKK; refine wp_st_alloc HS 59 (nmC [] false) rfl (.agg (nmC [] false)) (by kernel_rfl) (nm_zero) (fun g2 W2 HSx => hKK _ _ ?_); clear hKK KK HS; have HS : St w noF [⟨g1, 49, bs b⟩, ⟨g2, 59, nmC [] false⟩] W2 := HSx; clear HSx))
  go_loopw [3] (fun i wr => ∃ k : Nat, k ≤ 4 ∧ i = .int .i64 k ∧ (∀ j < k, ¬ b.getD j 0#8 = 0#8) ∧ wr = W2) (fun i _ => 4 - (intOf i).toNat)
  case atStart => exact ⟨0, by omega, rfl, fun j hj => by omega, rfl⟩
  case round =>
    obtain ⟨k, hk4, rfl, hnz', rfl⟩ := hrel
    have HNZ := Lib.hid hnz'
    clear hnz'
    by_cases h4 : k < 4
    · have hd4 : decide ((k : Int) < 4) = true := decide_eq_true (by omega)
      have hk0 : (0 : Int) ≤ (k : Int) := by omega
      have hk1 : (k : Int) < 4 := by omega
      obtain ⟨x, hx⟩ : ∃ x, b.getD k 0#8 = x := ⟨_, rfl⟩
      have hc : wr.cell? ⟨g1, k, none⟩ = some (.int .u8 (bd x)) := (HS.row 0 rfl).get ((get_bs b k (by rw [HL.out]; exact h4)).trans (congrArg (fun y => some (Value.int .u8 (bd y))) hx))
      have HX := Lib.hid hx
      clear hx
      have hw : IntKind.i64.wrap ((k : Int) + 1) = ((k + 1 : Nat) : Int) := by rw [i64_id _ (by omega) (by omega)]; omega
      by_cases h0 : x = 0#8
      · have hb1 : (bd x == 0) = true := by rw [h0]; rfl
        have HF : Hid (firstZ b = b.take k) := Lib.hid (first_take (by rw [HL.out]; omega) HNZ.out (.inr (by rw [HX.out, h0])))
        clear h0
        obtain ⟨t, ht⟩ : ∃ t, b.take k = t := ⟨_, rfl⟩
        have HTL : Hid (t.length = k) := Lib.hid (by rw [← ht, List.length_take, HL.out]; omega)
        have hsl : Slice wr (.slice (some ⟨g1, 0, none⟩) k 4) t := by
          have := row_piece (HS.row 0 rfl) (off := 0) (n := k) (c := 4) (by rw [HL.out]; omega) hk4
          rwa [List.drop_zero, ht] at this
        have hcv := conv_bytes hsl 9 Tryd.underlying9
        have HR : Hid (cutR b = if (decide (padN t = b) && (decide (t = []) || goodN t)) then (t, true) else ([], false)) := Lib.hid (by unfold cutR okFirst; rw [HF.out, ht])
        have HM : Hid (t.length ≤ maxLen) := Lib.hid (by rw [HTL.out]; unfold maxLen; omega)
        have hk0 : (0 : Int) ≤ (k : Int) := by omega
        have hk4' : (k : Int) ≤ 4 := by omega
        clear ht hsl
        have HQ := Lib.hid (fun W => neq_b4 (padN t) b (length_padN t) HL.out W)
        go_upto_region 5 with fail
        clear HF
        clear hcv
        have hF0 : Wl [fun W => St w noF [⟨g1, 49, bs b⟩, ⟨g2, 59, nmC [] false⟩] W] 0 wr.drew := HS.drew
        by_cases hp : padN t = b
        case neg =>
          have HPD := Lib.hid (decide_eq_false hp)
          have HE : Hid (cutR b = ([], false)) := Lib.hid (by rw [HR.out, HPD.out]; rfl)
          clear hp HS
          refine wp_region_phs [is (.string (strB t)), is ((.agg (bs (padN t)))), is (.agg (bs b)), is (.bool true), is (.bool true), is undef, is undef, is undef, is undef, is undef, is undef, is undef, is undef, is (.bool true)] [true, true, true, true, true, true, true, true, true, true, true, true, true, true] [(fun W => St w noF [⟨g1, 49, bs b⟩, ⟨g2, 59, nmC [] false⟩] W)] [false, false, false, false, false, false, false, false, false, false, false, false, false, false] [some 0, some 0, some 0, some 0, some 0, some 0, some 0, some 0, some 0, some 0, some 0, some 0, some 0, some 0] [some 18, some 19, some 20, some 21, some 22, some 23, some 24, some 25, some 26, some 27, some 28, some 29, some 30, some 31] 14 0 (fun i => !([5, 6, 7, 8, 9, 10, 11, 12] : List Nat).contains i) rfl rfl (by kernel_rfl) (by kernel_rfl) (by kernel_rfl) (by kernel_rfl) ?_ ?_ ?_ ?_ ?_ ?_
          · repeat first | exact wok_nil | refine wok_cons (by first | exact fun _ _ h k => h.same k) ?_
          · repeat first | exact vok_nil | refine vok_rig (by first | exact fun _ _ _ h => h) ?_ | refine vok_soft (by first | exact fun _ _ _ h _ => h) ?_
          · exact hF0
          · repeat first | exact all_end (by decide) | refine all_cons (by first | exact rfl | exact ⟨rfl, fun _ _ h => Or.inl h⟩ | exact ⟨rfl, fun _ _ h => Or.inr ⟨h, rfl⟩⟩) ?_
          · refine allp_mild 0 rfl rfl rfl (fun a x W hout hin hP => ?_) ?_
            · have e4 : a.tmps[4]? = some (.string (strB t)) := (hout 4 (by kernel_rfl)).trans rfl
              exact does_move rfl e4 ⟨Same.refl _, rfl⟩
            refine allp_mild 0 rfl rfl rfl (fun a x W hout hin hP => ?_) ?_
            · have e18 := hin.is 0 18 (by kernel_rfl) (by decide) (by kernel_rfl) (by kernel_rfl) _ rfl
              have C := refpad_any t W HM.out
              clear hP
              clear hin hout
              intro K0 Q hK
              go_simp
              refine C.mono ?_
              rintro e W' ⟨rfl, hb⟩
              exact hK _ _ ⟨hb, rfl⟩
            refine allp_mild 0 rfl rfl rfl (fun a x W hout hin hP => ?_) ?_
            · have e1 : a.tmps[1]? = some (.pointer (some ⟨g1, 0, none⟩)) := (hout 1 (by kernel_rfl)).trans rfl
              clear hin hout
              intro K0 Q hK
              exact wp_st_load hP 0 0 49 (.tmp 1) rfl rfl (eval_of_get e1) (bs b) (slab_whole _) _ Tryd.underlying49 rfl (by rw [size_bs, HL.out]; exact size_b4) (hK _ _ ⟨Same.refl _, rfl⟩)
            refine allp_mild 0 rfl rfl rfl (fun a x W hout hin hP => ?_) ?_
            · have e19 := hin.is 1 19 (by kernel_rfl) (by decide) (by kernel_rfl) (by kernel_rfl) _ rfl
              have e20 := hin.is 2 20 (by kernel_rfl) (by decide) (by kernel_rfl) (by kernel_rfl) _ rfl
              have q := HQ.out W
              rw [HPD.out] at q
              clear hP
              clear hin hout
              intro K0 Q hK
              go_simp
              exact hK _ _ ⟨Same.refl _, rfl⟩
            refine allp_mild 0 rfl rfl rfl (fun a x W hout hin hP => ?_) ?_
            · have e21 := hin.is 3 21 (by kernel_rfl) (by decide) (by kernel_rfl) (by kernel_rfl) _ rfl
              exact does_move rfl e21 ⟨Same.refl _, rfl⟩
            refine allp_skip rfl rfl (fun _ => rfl) ?_
            refine allp_skip rfl rfl (fun _ => rfl) ?_
            refine allp_skip rfl rfl (fun _ => rfl) ?_
            refine allp_skip rfl rfl (fun _ => rfl) ?_
            refine allp_skip rfl rfl (fun _ => rfl) ?_
            refine allp_skip rfl rfl (fun _ => rfl) ?_
            refine allp_skip rfl rfl (fun _ => rfl) ?_
            refine allp_skip rfl rfl (fun _ => rfl) ?_
            refine allp_mild 0 rfl rfl rfl (fun a x W hout hin hP => ?_) ?_
            · have e22 := hin.is 4 22 (by kernel_rfl) (by decide) (by kernel_rfl) (by kernel_rfl) _ rfl
              have e30 := hin.is 12 30 (by kernel_rfl) (by decide) (by kernel_rfl) (by kernel_rfl) _ rfl
              exact does_pick rfl e22 ⟨Same.refl _, rfl⟩
            exact all_end (by decide)
          · intro x W hP hV
            have h31 : x 13 = .bool true := hV 13 (by decide) (.inl (by kernel_rfl))
            have HS : St w noF [⟨g1, 49, bs b⟩, ⟨g2, 59, nmC [] false⟩] W := hP
            clear hV hP
            simp only [putL, Act.put, List.setIfInBounds_toArray, List.set_cons_succ, List.set_cons_zero, h31]
            refine wpAnyH_done (by kernel_rfl) ?_ _
            clear h31
            go_wp2_with (first | ((with_reducible refine wpList_plain ?_ ?_); exact rfl; intro KK hKK; refine wp_st_store HS 1 0 59 (.tmp 2) (.tmp 32) rfl rfl rfl (.agg (nmC [] false)) rfl (size_nm) (Nat.le_of_eq rfl) (one_nm _ _) (nmC [] false) (spl_agg _ _ _ rfl rfl) (fun W11 HSx => hKK _ _ ?_); clear hKK KK HS; have HS : St w noF [⟨g1, 49, bs b⟩, ⟨g2, 59, nmC [] false⟩] W11 := HSx; clear HSx))
            exact bodyPost_ret (v := .agg (nmC [] false)) (results_cell_row Tryd.results23 _ _ g2 59 (nmC [] false) (0, 0) _ rfl (HS.row 1 rfl) Tryd.underlying59 rfl size_nm) rfl ⟨by rw [HE.out], HS.below⟩
        case pos =>
        have HPD := Lib.hid (decide_eq_true hp)
        clear hp
        by_cases h0 : k = 0
        · have hdk : decide ((0 : Int) < (k : Int)) = false := decide_eq_false (by omega)
          have ht0 : t = [] := List.length_eq_zero_iff.1 (by rw [HTL.out, h0])
          have HE : Hid (cutR b = (t, true)) := Lib.hid (by rw [HR.out, HPD.out, decide_eq_true ht0]; rfl)
          clear HS ht0
          refine wp_region_phs [is (.string (strB t)), is ((.agg (bs (padN t)))), is (.agg (bs b)), is (.bool false), is (.bool false), is (.int .i64 k), is (.bool false), is (.bool false), is undef, is undef, is undef, is undef, is (.bool false), is (.bool false)] [true, true, true, true, true, true, true, true, true, true, true, true, true, true] [(fun W => St w noF [⟨g1, 49, bs b⟩, ⟨g2, 59, nmC [] false⟩] W)] [false, false, false, false, false, false, false, false, false, false, false, false, false, false] [some 0, some 0, some 0, some 0, some 0, some 0, some 0, some 0, some 0, some 0, some 0, some 0, some 0, some 0] [some 18, some 19, some 20, some 21, some 22, some 23, some 24, some 25, some 26, some 27, some 28, some 29, some 30, some 31] 14 0 (fun i => !([8, 9, 10, 11] : List Nat).contains i) rfl rfl (by kernel_rfl) (by kernel_rfl) (by kernel_rfl) (by kernel_rfl) ?_ ?_ ?_ ?_ ?_ ?_
          · repeat first | exact wok_nil | refine wok_cons (by first | exact fun _ _ h k => h.same k) ?_
          · repeat first | exact vok_nil | refine vok_rig (by first | exact fun _ _ _ h => h) ?_ | refine vok_soft (by first | exact fun _ _ _ h _ => h) ?_
          · exact hF0
          · repeat first | exact all_end (by decide) | refine all_cons (by first | exact rfl | exact ⟨rfl, fun _ _ h => Or.inl h⟩ | exact ⟨rfl, fun _ _ h => Or.inr ⟨h, rfl⟩⟩) ?_
          · refine allp_mild 0 rfl rfl rfl (fun a x W hout hin hP => ?_) ?_
            · have e4 : a.tmps[4]? = some (.string (strB t)) := (hout 4 (by kernel_rfl)).trans rfl
              exact does_move rfl e4 ⟨Same.refl _, rfl⟩
            refine allp_mild 0 rfl rfl rfl (fun a x W hout hin hP => ?_) ?_
            · have e18 := hin.is 0 18 (by kernel_rfl) (by decide) (by kernel_rfl) (by kernel_rfl) _ rfl
              have C := refpad_any t W HM.out
              clear hP
              clear hin hout
              intro K0 Q hK
              go_simp
              refine C.mono ?_
              rintro e W' ⟨rfl, hb⟩
              exact hK _ _ ⟨hb, rfl⟩
            refine allp_mild 0 rfl rfl rfl (fun a x W hout hin hP => ?_) ?_
            · have e1 : a.tmps[1]? = some (.pointer (some ⟨g1, 0, none⟩)) := (hout 1 (by kernel_rfl)).trans rfl
              clear hin hout
              intro K0 Q hK
              exact wp_st_load hP 0 0 49 (.tmp 1) rfl rfl (eval_of_get e1) (bs b) (slab_whole _) _ Tryd.underlying49 rfl (by rw [size_bs, HL.out]; exact size_b4) (hK _ _ ⟨Same.refl _, rfl⟩)
            refine allp_mild 0 rfl rfl rfl (fun a x W hout hin hP => ?_) ?_
            · have e19 := hin.is 1 19 (by kernel_rfl) (by decide) (by kernel_rfl) (by kernel_rfl) _ rfl
              have e20 := hin.is 2 20 (by kernel_rfl) (by decide) (by kernel_rfl) (by kernel_rfl) _ rfl
              have q := HQ.out W
              rw [HPD.out] at q
              clear hP
              clear hin hout
              intro K0 Q hK
              go_simp
              exact hK _ _ ⟨Same.refl _, rfl⟩
            refine allp_mild 0 rfl rfl rfl (fun a x W hout hin hP => ?_) ?_
            · have e21 := hin.is 3 21 (by kernel_rfl) (by decide) (by kernel_rfl) (by kernel_rfl) _ rfl
              exact does_move rfl e21 ⟨Same.refl _, rfl⟩
            refine allp_mild 0 rfl rfl rfl (fun a x W hout hin hP => ?_) ?_
            · have e3 : a.tmps[3]? = some (.int .i64 k) := (hout 3 (by kernel_rfl)).trans rfl
              exact does_move rfl e3 ⟨Same.refl _, rfl⟩
            refine allp_mild 0 rfl rfl rfl (fun a x W hout hin hP => ?_) ?_
            · have e23 := hin.is 5 23 (by kernel_rfl) (by decide) (by kernel_rfl) (by kernel_rfl) _ rfl
              clear hin hout
              intro K Q hK
              go_simp
              exact hK _ _ ⟨Same.refl _, rfl⟩
            refine allp_mild 0 rfl rfl rfl (fun a x W hout hin hP => ?_) ?_
            · have e24 := hin.is 6 24 (by kernel_rfl) (by decide) (by kernel_rfl) (by kernel_rfl) _ rfl
              exact does_move rfl e24 ⟨Same.refl _, rfl⟩
            refine allp_skip rfl rfl (fun _ => rfl) ?_
            refine allp_skip rfl rfl (fun _ => rfl) ?_
            refine allp_skip rfl rfl (fun _ => rfl) ?_
            refine allp_skip rfl rfl (fun _ => rfl) ?_
            refine allp_mild 0 rfl rfl rfl (fun a x W hout hin hP => ?_) ?_
            · have e25 := hin.is 7 25 (by kernel_rfl) (by decide) (by kernel_rfl) (by kernel_rfl) _ rfl
              have e29 := hin.is 11 29 (by kernel_rfl) (by decide) (by kernel_rfl) (by kernel_rfl) _ rfl
              exact does_pick rfl e25 ⟨Same.refl _, rfl⟩
            refine allp_mild 0 rfl rfl rfl (fun a x W hout hin hP => ?_) ?_
            · have e22 := hin.is 4 22 (by kernel_rfl) (by decide) (by kernel_rfl) (by kernel_rfl) _ rfl
              have e30 := hin.is 12 30 (by kernel_rfl) (by decide) (by kernel_rfl) (by kernel_rfl) _ rfl
              exact does_pick rfl e22 ⟨Same.refl _, eval_of_get e30⟩
            exact all_end (by decide)
          · intro x W hP hV
            have h31 : x 13 = .bool false := hV 13 (by decide) (.inl (by kernel_rfl))
            have HS : St w noF [⟨g1, 49, bs b⟩, ⟨g2, 59, nmC [] false⟩] W := hP
            clear hV hP
            simp only [putL, Act.put, List.setIfInBounds_toArray, List.set_cons_succ, List.set_cons_zero, h31]
            refine wpAnyH_done (by kernel_rfl) ?_ _
            clear h31
            go_wp2_with (first | ((with_reducible refine wpList_plain ?_ ?_); exact rfl; intro KK hKK; refine wp_st_store HS 1 0 59 (.tmp 2) (.tmp 34) rfl rfl rfl (.agg (nmC t true)) rfl (size_nm) (Nat.le_of_eq rfl) (one_nm _ _) (nmC t true) (spl_agg _ _ _ rfl rfl) (fun W11 HSx => hKK _ _ ?_); clear hKK KK HS; have HS : St w noF [⟨g1, 49, bs b⟩, ⟨g2, 59, nmC t true⟩] W11 := HSx; clear HSx))
            exact bodyPost_ret (v := .agg (nmC t true)) (results_cell_row Tryd.results23 _ _ g2 59 (nmC t true) (0, 0) _ rfl (HS.row 1 rfl) Tryd.underlying59 rfl size_nm) rfl ⟨by rw [HE.out], HS.below⟩
        · have hdk : decide ((0 : Int) < (k : Int)) = true := decide_eq_true (by omega)
          have hkk : 0 < k := by omega
          have ht0 : ¬ t = [] := fun h => h0 (by rw [← HTL.out, h]; rfl)
          cases hg : goodN t with
          | true =>
            have HG := Lib.hid hg
            have HE : Hid (cutR b = (t, true)) := Lib.hid (by rw [HR.out, HPD.out, hg, Bool.or_true]; rfl)
            clear HS ht0 hg
            refine wp_region_phs [is (.string (strB t)), is ((.agg (bs (padN t)))), is (.agg (bs b)), is (.bool false), is (.bool false), is (.int .i64 k), is (.bool true), is (.bool true), is (.string (strB t)), (fun v W => Strs W v [t]), is (.bool true), is (.bool false), is (.bool false), is (.bool false)] [true, true, true, true, true, true, true, true, true, false, true, true, true, true] [(fun W => St w noF [⟨g1, 49, bs b⟩, ⟨g2, 59, nmC [] false⟩] W)] [false, false, false, false, false, false, false, false, false, false, false, false, false, false] [some 0, some 0, some 0, some 0, some 0, some 0, some 0, some 0, some 0, some 0, some 0, some 0, some 0, some 0] [some 18, some 19, some 20, some 21, some 22, some 23, some 24, some 25, some 26, some 27, some 28, some 29, some 30, some 31] 14 0 (fun _ => true) rfl rfl (by kernel_rfl) (by kernel_rfl) (by kernel_rfl) (by kernel_rfl) ?_ ?_ ?_ ?_ ?_ ?_
            · repeat first | exact wok_nil | refine wok_cons (by first | exact fun _ _ h k => h.same k) ?_
            · repeat first | exact vok_nil | refine vok_rig (by first | exact fun _ _ _ h => h) ?_ | refine vok_soft (by first | exact fun _ _ _ h _ => h | exact fun _ _ _ h k => Strs.below h k (Nat.le_refl _)) ?_
            · exact hF0
            · repeat first | exact all_end (by decide) | refine all_cons (by first | exact rfl | exact ⟨rfl, fun _ _ h => Or.inl h⟩ | exact ⟨rfl, fun _ _ h => Or.inr ⟨h, rfl⟩⟩) ?_
            · refine allp_mild 0 rfl rfl rfl (fun a x W hout hin hP => ?_) ?_
              · have e4 : a.tmps[4]? = some (.string (strB t)) := (hout 4 (by kernel_rfl)).trans rfl
                exact does_move rfl e4 ⟨Same.refl _, rfl⟩
              refine allp_mild 0 rfl rfl rfl (fun a x W hout hin hP => ?_) ?_
              · have e18 := hin.is 0 18 (by kernel_rfl) (by decide) (by kernel_rfl) (by kernel_rfl) _ rfl
                have C := refpad_any t W HM.out
                clear hP
                clear hin hout
                intro K0 Q hK
                go_simp
                refine C.mono ?_
                rintro e W' ⟨rfl, hb⟩
                exact hK _ _ ⟨hb, rfl⟩
              refine allp_mild 0 rfl rfl rfl (fun a x W hout hin hP => ?_) ?_
              · have e1 : a.tmps[1]? = some (.pointer (some ⟨g1, 0, none⟩)) := (hout 1 (by kernel_rfl)).trans rfl
                clear hin hout
                intro K0 Q hK
                exact wp_st_load hP 0 0 49 (.tmp 1) rfl rfl (eval_of_get e1) (bs b) (slab_whole _) _ Tryd.underlying49 rfl (by rw [size_bs, HL.out]; exact size_b4) (hK _ _ ⟨Same.refl _, rfl⟩)
              refine allp_mild 0 rfl rfl rfl (fun a x W hout hin hP => ?_) ?_
              · have e19 := hin.is 1 19 (by kernel_rfl) (by decide) (by kernel_rfl) (by kernel_rfl) _ rfl
                have e20 := hin.is 2 20 (by kernel_rfl) (by decide) (by kernel_rfl) (by kernel_rfl) _ rfl
                have q := HQ.out W
                rw [HPD.out] at q
                clear hP
                clear hin hout
                intro K0 Q hK
                go_simp
                exact hK _ _ ⟨Same.refl _, rfl⟩
              refine allp_mild 0 rfl rfl rfl (fun a x W hout hin hP => ?_) ?_
              · have e21 := hin.is 3 21 (by kernel_rfl) (by decide) (by kernel_rfl) (by kernel_rfl) _ rfl
                exact does_move rfl e21 ⟨Same.refl _, rfl⟩
              refine allp_mild 0 rfl rfl rfl (fun a x W hout hin hP => ?_) ?_
              · have e3 : a.tmps[3]? = some (.int .i64 k) := (hout 3 (by kernel_rfl)).trans rfl
                exact does_move rfl e3 ⟨Same.refl _, rfl⟩
              refine allp_mild 0 rfl rfl rfl (fun a x W hout hin hP => ?_) ?_
              · have e23 := hin.is 5 23 (by kernel_rfl) (by decide) (by kernel_rfl) (by kernel_rfl) _ rfl
                clear hin hout
                intro K Q hK
                go_simp
                exact hK _ _ ⟨Same.refl _, rfl⟩
              refine allp_mild 0 rfl rfl rfl (fun a x W hout hin hP => ?_) ?_
              · have e24 := hin.is 6 24 (by kernel_rfl) (by decide) (by kernel_rfl) (by kernel_rfl) _ rfl
                exact does_move rfl e24 ⟨Same.refl _, rfl⟩
              refine allp_mild 0 rfl rfl rfl (fun a x W hout hin hP => ?_) ?_
              · have e4 : a.tmps[4]? = some (.string (strB t)) := (hout 4 (by kernel_rfl)).trans rfl
                exact does_move rfl e4 ⟨Same.refl _, rfl⟩
              refine allp_mild 0 rfl rfl rfl (fun a x W hout hin hP => ?_) ?_
              · have e26 := hin.is 8 26 (by kernel_rfl) (by decide) (by kernel_rfl) (by kernel_rfl) _ rfl
                clear hP
                clear hin hout
                intro K0 Q hK
                go_simp
                exact hK _ _ ⟨Same.alloc _ _, strs1 W t HM.out 9⟩
              refine allp_mild 0 rfl rfl rfl (fun a x W hout hin hP => ?_) ?_
              · obtain ⟨v27, e27, hv27⟩ := hin.get 9 27 (by kernel_rfl) (by decide) (by kernel_rfl) (.inr ⟨rfl, by kernel_rfl⟩)
                have C := (show goodNs [t] = true by unfold goodNs; simp [HG.out]) ▸ refgoodn_any [t] _ W hv27 (by unfold maxLen; simp)
                clear hP
                clear hin hout
                intro K0 Q hK
                go_simp
                refine C.mono ?_
                rintro e W' ⟨rfl, rfl⟩
                exact hK _ _ ⟨Same.refl _, rfl⟩
              refine allp_mild 0 rfl rfl rfl (fun a x W hout hin hP => ?_) ?_
              · have e28 := hin.is 10 28 (by kernel_rfl) (by decide) (by kernel_rfl) (by kernel_rfl) _ rfl
                exact does_not rfl e28 ⟨Same.refl _, rfl⟩
              refine allp_mild 0 rfl rfl rfl (fun a x W hout hin hP => ?_) ?_
              · have e25 := hin.is 7 25 (by kernel_rfl) (by decide) (by kernel_rfl) (by kernel_rfl) _ rfl
                have e29 := hin.is 11 29 (by kernel_rfl) (by decide) (by kernel_rfl) (by kernel_rfl) _ rfl
                exact does_pick rfl e25 ⟨Same.refl _, eval_of_get e29⟩
              refine allp_mild 0 rfl rfl rfl (fun a x W hout hin hP => ?_) ?_
              · have e22 := hin.is 4 22 (by kernel_rfl) (by decide) (by kernel_rfl) (by kernel_rfl) _ rfl
                have e30 := hin.is 12 30 (by kernel_rfl) (by decide) (by kernel_rfl) (by kernel_rfl) _ rfl
                exact does_pick rfl e22 ⟨Same.refl _, eval_of_get e30⟩
              exact all_end (by decide)
            · intro x W hP hV
              have h31 : x 13 = .bool false := hV 13 (by decide) (.inl (by kernel_rfl))
              have HS : St w noF [⟨g1, 49, bs b⟩, ⟨g2, 59, nmC [] false⟩] W := hP
              clear hV hP
              simp only [putL, Act.put, List.setIfInBounds_toArray, List.set_cons_succ, List.set_cons_zero, h31]
              refine wpAnyH_done (by kernel_rfl) ?_ _
              clear h31
              go_wp2_with (first | ((with_reducible refine wpList_plain ?_ ?_); exact rfl; intro KK hKK; refine wp_st_store HS 1 0 59 (.tmp 2) (.tmp 34) rfl rfl rfl (.agg (nmC t true)) rfl (size_nm) (Nat.le_of_eq rfl) (one_nm _ _) (nmC t true) (spl_agg _ _ _ rfl rfl) (fun W11 HSx => hKK _ _ ?_); clear hKK KK HS; have HS : St w noF [⟨g1, 49, bs b⟩, ⟨g2, 59, nmC t true⟩] W11 := HSx; clear HSx))
              exact bodyPost_ret (v := .agg (nmC t true)) (results_cell_row Tryd.results23 _ _ g2 59 (nmC t true) (0, 0) _ rfl (HS.row 1 rfl) Tryd.underlying59 rfl size_nm) rfl ⟨by rw [HE.out], HS.below⟩
          | false =>
            have HG := Lib.hid hg
            have HE : Hid (cutR b = ([], false)) := Lib.hid (by rw [HR.out, HPD.out, hg, decide_eq_false ht0]; rfl)
            clear HS ht0 hg
            refine wp_region_phs [is (.string (strB t)), is ((.agg (bs (padN t)))), is (.agg (bs b)), is (.bool false), is (.bool false), is (.int .i64 k), is (.bool true), is (.bool true), is (.string (strB t)), (fun v W => Strs W v [t]), is (.bool false), is (.bool true), is (.bool true), is (.bool true)] [true, true, true, true, true, true, true, true, true, false, true, true, true, true] [(fun W => St w noF [⟨g1, 49, bs b⟩, ⟨g2, 59, nmC [] false⟩] W)] [false, false, false, false, false, false, false, false, false, false, false, false, false, false] [some 0, some 0, some 0, some 0, some 0, some 0, some 0, some 0, some 0, some 0, some 0, some 0, some 0, some 0] [some 18, some 19, some 20, some 21, some 22, some 23, some 24, some 25, some 26, some 27, some 28, some 29, some 30, some 31] 14 0 (fun _ => true) rfl rfl (by kernel_rfl) (by kernel_rfl) (by kernel_rfl) (by kernel_rfl) ?_ ?_ ?_ ?_ ?_ ?_
            · repeat first | exact wok_nil | refine wok_cons (by first | exact fun _ _ h k => h.same k) ?_
            · repeat first | exact vok_nil | refine vok_rig (by first | exact fun _ _ _ h => h) ?_ | refine vok_soft (by first | exact fun _ _ _ h _ => h | exact fun _ _ _ h k => Strs.below h k (Nat.le_refl _)) ?_
            · exact hF0
            · repeat first | exact all_end (by decide) | refine all_cons (by first | exact rfl | exact ⟨rfl, fun _ _ h => Or.inl h⟩ | exact ⟨rfl, fun _ _ h => Or.inr ⟨h, rfl⟩⟩) ?_
            · refine allp_mild 0 rfl rfl rfl (fun a x W hout hin hP => ?_) ?_
              · have e4 : a.tmps[4]? = some (.string (strB t)) := (hout 4 (by kernel_rfl)).trans rfl
                exact does_move rfl e4 ⟨Same.refl _, rfl⟩
              refine allp_mild 0 rfl rfl rfl (fun a x W hout hin hP => ?_) ?_
              · have e18 := hin.is 0 18 (by kernel_rfl) (by decide) (by kernel_rfl) (by kernel_rfl) _ rfl
                have C := refpad_any t W HM.out
                clear hP
                clear hin hout
                intro K0 Q hK
                go_simp
                refine C.mono ?_
                rintro e W' ⟨rfl, hb⟩
                exact hK _ _ ⟨hb, rfl⟩
              refine allp_mild 0 rfl rfl rfl (fun a x W hout hin hP => ?_) ?_
              · have e1 : a.tmps[1]? = some (.pointer (some ⟨g1, 0, none⟩)) := (hout 1 (by kernel_rfl)).trans rfl
                clear hin hout
                intro K0 Q hK
                exact wp_st_load hP 0 0 49 (.tmp 1) rfl rfl (eval_of_get e1) (bs b) (slab_whole _) _ Tryd.underlying49 rfl (by rw [size_bs, HL.out]; exact size_b4) (hK _ _ ⟨Same.refl _, rfl⟩)
              refine allp_mild 0 rfl rfl rfl (fun a x W hout hin hP => ?_) ?_
              · have e19 := hin.is 1 19 (by kernel_rfl) (by decide) (by kernel_rfl) (by kernel_rfl) _ rfl
                have e20 := hin.is 2 20 (by kernel_rfl) (by decide) (by kernel_rfl) (by kernel_rfl) _ rfl
                have q := HQ.out W
                rw [HPD.out] at q
                clear hP
                clear hin hout
                intro K0 Q hK
                go_simp
                exact hK _ _ ⟨Same.refl _, rfl⟩
              refine allp_mild 0 rfl rfl rfl (fun a x W hout hin hP => ?_) ?_
              · have e21 := hin.is 3 21 (by kernel_rfl) (by decide) (by kernel_rfl) (by kernel_rfl) _ rfl
                exact does_move rfl e21 ⟨Same.refl _, rfl⟩
              refine allp_mild 0 rfl rfl rfl (fun a x W hout hin hP => ?_) ?_
              · have e3 : a.tmps[3]? = some (.int .i64 k) := (hout 3 (by kernel_rfl)).trans rfl
                exact does_move rfl e3 ⟨Same.refl _, rfl⟩
              refine allp_mild 0 rfl rfl rfl (fun a x W hout hin hP => ?_) ?_
              · have e23 := hin.is 5 23 (by kernel_rfl) (by decide) (by kernel_rfl) (by kernel_rfl) _ rfl
                clear hin hout
                intro K Q hK
                go_simp
                exact hK _ _ ⟨Same.refl _, rfl⟩
              refine allp_mild 0 rfl rfl rfl (fun a x W hout hin hP => ?_) ?_
              · have e24 := hin.is 6 24 (by kernel_rfl) (by decide) (by kernel_rfl) (by kernel_rfl) _ rfl
                exact does_move rfl e24 ⟨Same.refl _, rfl⟩
              refine allp_mild 0 rfl rfl rfl (fun a x W hout hin hP => ?_) ?_
              · have e4 : a.tmps[4]? = some (.string (strB t)) := (hout 4 (by kernel_rfl)).trans rfl
                exact does_move rfl e4 ⟨Same.refl _, rfl⟩
              refine allp_mild 0 rfl rfl rfl (fun a x W hout hin hP => ?_) ?_
              · have e26 := hin.is 8 26 (by kernel_rfl) (by decide) (by kernel_rfl) (by kernel_rfl) _ rfl
                clear hP
                clear hin hout
                intro K0 Q hK
                go_simp
                exact hK _ _ ⟨Same.alloc _ _, strs1 W t HM.out 9⟩
              refine allp_mild 0 rfl rfl rfl (fun a x W hout hin hP => ?_) ?_
              · obtain ⟨v27, e27, hv27⟩ := hin.get 9 27 (by kernel_rfl) (by decide) (by kernel_rfl) (.inr ⟨rfl, by kernel_rfl⟩)
                have C := (show goodNs [t] = false by unfold goodNs; simp [HG.out]) ▸ refgoodn_any [t] _ W hv27 (by unfold maxLen; simp)
                clear hP
                clear hin hout
                intro K0 Q hK
                go_simp
                refine C.mono ?_
                rintro e W' ⟨rfl, rfl⟩
                exact hK _ _ ⟨Same.refl _, rfl⟩
              refine allp_mild 0 rfl rfl rfl (fun a x W hout hin hP => ?_) ?_
              · have e28 := hin.is 10 28 (by kernel_rfl) (by decide) (by kernel_rfl) (by kernel_rfl) _ rfl
                exact does_not rfl e28 ⟨Same.refl _, rfl⟩
              refine allp_mild 0 rfl rfl rfl (fun a x W hout hin hP => ?_) ?_
              · have e25 := hin.is 7 25 (by kernel_rfl) (by decide) (by kernel_rfl) (by kernel_rfl) _ rfl
                have e29 := hin.is 11 29 (by kernel_rfl) (by decide) (by kernel_rfl) (by kernel_rfl) _ rfl
                exact does_pick rfl e25 ⟨Same.refl _, eval_of_get e29⟩
              refine allp_mild 0 rfl rfl rfl (fun a x W hout hin hP => ?_) ?_
              · have e22 := hin.is 4 22 (by kernel_rfl) (by decide) (by kernel_rfl) (by kernel_rfl) _ rfl
                have e30 := hin.is 12 30 (by kernel_rfl) (by decide) (by kernel_rfl) (by kernel_rfl) _ rfl
                exact does_pick rfl e22 ⟨Same.refl _, eval_of_get e30⟩
              exact all_end (by decide)
            · intro x W hP hV
              have h31 : x 13 = .bool true := hV 13 (by decide) (.inl (by kernel_rfl))
              have HS : St w noF [⟨g1, 49, bs b⟩, ⟨g2, 59, nmC [] false⟩] W := hP
              clear hV hP
              simp only [putL, Act.put, List.setIfInBounds_toArray, List.set_cons_succ, List.set_cons_zero, h31]
              refine wpAnyH_done (by kernel_rfl) ?_ _
              clear h31
              go_wp2_with (first | ((with_reducible refine wpList_plain ?_ ?_); exact rfl; intro KK hKK; refine wp_st_store HS 1 0 59 (.tmp 2) (.tmp 32) rfl rfl rfl (.agg (nmC [] false)) rfl (size_nm) (Nat.le_of_eq rfl) (one_nm _ _) (nmC [] false) (spl_agg _ _ _ rfl rfl) (fun W11 HSx => hKK _ _ ?_); clear hKK KK HS; have HS : St w noF [⟨g1, 49, bs b⟩, ⟨g2, 59, nmC [] false⟩] W11 := HSx; clear HSx))
              exact bodyPost_ret (v := .agg (nmC [] false)) (results_cell_row Tryd.results23 _ _ g2 59 (nmC [] false) (0, 0) _ rfl (HS.row 1 rfl) Tryd.underlying59 rfl size_nm) rfl ⟨by rw [HE.out], HS.below⟩
      · have hb1 : (bd x == 0) = false := beq_eq_false_iff_ne.2 fun e => h0 (bd_inj (by rw [e]; rfl))
        have HX0 : Hid (¬ b.getD k 0#8 = 0#8) := Lib.hid (by rw [HX.out]; exact h0)
        clear h0
        go_wp2_with fail
        refine ⟨⟨k + 1, by omega, by go_num, fun j hj => ?_, trivial⟩, by simp [intOf]; omega⟩
        rcases Nat.lt_succ_iff_lt_or_eq.1 hj with h | h
        · exact HNZ.out j h
        · subst h; exact HX0.out
    · have hd4 : decide ((k : Int) < 4) = false := decide_eq_false (by omega)
      have HF : Hid (firstZ b = b.take k) := Lib.hid (first_take (by rw [HL.out]; omega) HNZ.out (.inl (by rw [HL.out]; omega)))
      obtain ⟨t, ht⟩ : ∃ t, b.take k = t := ⟨_, rfl⟩
      have HTL : Hid (t.length = k) := Lib.hid (by rw [← ht, List.length_take, HL.out]; omega)
      have hsl : Slice wr (.slice (some ⟨g1, 0, none⟩) k 4) t := by
        have := row_piece (HS.row 0 rfl) (off := 0) (n := k) (c := 4) (by rw [HL.out]; omega) hk4
        rwa [List.drop_zero, ht] at this
      have hcv := conv_bytes hsl 9 Tryd.underlying9
      have HR : Hid (cutR b = if (decide (padN t = b) && (decide (t = []) || goodN t)) then (t, true) else ([], false)) := Lib.hid (by unfold cutR okFirst; rw [HF.out, ht])
      have HM : Hid (t.length ≤ maxLen) := Lib.hid (by rw [HTL.out]; unfold maxLen; omega)
      have hk0 : (0 : Int) ≤ (k : Int) := by omega
      have hk4' : (k : Int) ≤ 4 := by omega
      clear ht hsl
      have HQ := Lib.hid (fun W => neq_b4 (padN t) b (length_padN t) HL.out W)
      go_upto_region 5 with fail
      clear HF
      clear hcv
      have hF0 : Wl [fun W => St w noF [⟨g1, 49, bs b⟩, ⟨g2, 59, nmC [] false⟩] W] 0 wr.drew := HS.drew
      by_cases hp : padN t = b
      case neg =>
        have HPD := Lib.hid (decide_eq_false hp)
        have HE : Hid (cutR b = ([], false)) := Lib.hid (by rw [HR.out, HPD.out]; rfl)
        clear hp HS
        refine wp_region_phs [is (.string (strB t)), is ((.agg (bs (padN t)))), is (.agg (bs b)), is (.bool true), is (.bool true), is undef, is undef, is undef, is undef, is undef, is undef, is undef, is undef, is (.bool true)] [true, true, true, true, true, true, true, true, true, true, true, true, true, true] [(fun W => St w noF [⟨g1, 49, bs b⟩, ⟨g2, 59, nmC [] false⟩] W)] [false, false, false, false, false, false, false, false, false, false, false, false, false, false] [some 0, some 0, some 0, some 0, some 0, some 0, some 0, some 0, some 0, some 0, some 0, some 0, some 0, some 0] [some 18, some 19, some 20, some 21, some 22, some 23, some 24, some 25, some 26, some 27, some 28, some 29, some 30, some 31] 14 0 (fun i => !([5, 6, 7, 8, 9, 10, 11, 12] : List Nat).contains i) rfl rfl (by kernel_rfl) (by kernel_rfl) (by kernel_rfl) (by kernel_rfl) ?_ ?_ ?_ ?_ ?_ ?_
        · repeat first | exact wok_nil | refine wok_cons (by first | exact fun _ _ h k => h.same k) ?_
        · repeat first | exact vok_nil | refine vok_rig (by first | exact fun _ _ _ h => h) ?_ | refine vok_soft (by first | exact fun _ _ _ h _ => h) ?_
        · exact hF0
        · repeat first | exact all_end (by decide) | refine all_cons (by first | exact rfl | exact ⟨rfl, fun _ _ h => Or.inl h⟩ | exact ⟨rfl, fun _ _ h => Or.inr ⟨h, rfl⟩⟩) ?_
        · refine allp_mild 0 rfl rfl rfl (fun a x W hout hin hP => ?_) ?_
          · have e4 : a.tmps[4]? = some (.string (strB t)) := (hout 4 (by kernel_rfl)).trans rfl
            exact does_move rfl e4 ⟨Same.refl _, rfl⟩
          refine allp_mild 0 rfl rfl rfl (fun a x W hout hin hP => ?_) ?_
          · have e18 := hin.is 0 18 (by kernel_rfl) (by decide) (by kernel_rfl) (by kernel_rfl) _ rfl
            have C := refpad_any t W HM.out
            clear hP
            clear hin hout
            intro K0 Q hK
            go_simp
            refine C.mono ?_
            rintro e W' ⟨rfl, hb⟩
            exact hK _ _ ⟨hb, rfl⟩
          refine allp_mild 0 rfl rfl rfl (fun a x W hout hin hP => ?_) ?_
          · have e1 : a.tmps[1]? = some (.pointer (some ⟨g1, 0, none⟩)) := (hout 1 (by kernel_rfl)).trans rfl
            clear hin hout
            intro K0 Q hK
            exact wp_st_load hP 0 0 49 (.tmp 1) rfl rfl (eval_of_get e1) (bs b) (slab_whole _) _ Tryd.underlying49 rfl (by rw [size_bs, HL.out]; exact size_b4) (hK _ _ ⟨Same.refl _, rfl⟩)
          refine allp_mild 0 rfl rfl rfl (fun a x W hout hin hP => ?_) ?_
          · have e19 := hin.is 1 19 (by kernel_rfl) (by decide) (by kernel_rfl) (by kernel_rfl) _ rfl
            have e20 := hin.is 2 20 (by kernel_rfl) (by decide) (by kernel_rfl) (by kernel_rfl) _ rfl
            have q := HQ.out W
            rw [HPD.out] at q
            clear hP
            clear hin hout
            intro K0 Q hK
            go_simp
            exact hK _ _ ⟨Same.refl _, rfl⟩
          refine allp_mild 0 rfl rfl rfl (fun a x W hout hin hP => ?_) ?_
          · have e21 := hin.is 3 21 (by kernel_rfl) (by decide) (by kernel_rfl) (by kernel_rfl) _ rfl
            exact does_move rfl e21 ⟨Same.refl _, rfl⟩
          refine allp_skip rfl rfl (fun _ => rfl) ?_
          refine allp_skip rfl rfl (fun _ => rfl) ?_
          refine allp_skip rfl rfl (fun _ => rfl) ?_
          refine allp_skip rfl rfl (fun _ => rfl) ?_
          refine allp_skip rfl rfl (fun _ => rfl) ?_
          refine allp_skip rfl rfl (fun _ => rfl) ?_
          refine allp_skip rfl rfl (fun _ => rfl) ?_
          refine allp_skip rfl rfl (fun _ => rfl) ?_
          refine allp_mild 0 rfl rfl rfl (fun a x W hout hin hP => ?_) ?_
          · have e22 := hin.is 4 22 (by kernel_rfl) (by decide) (by kernel_rfl) (by kernel_rfl) _ rfl
            have e30 := hin.is 12 30 (by kernel_rfl) (by decide) (by kernel_rfl) (by kernel_rfl) _ rfl
            exact does_pick rfl e22 ⟨Same.refl _, rfl⟩
          exact all_end (by decide)
        · intro x W hP hV
          have h31 : x 13 = .bool true := hV 13 (by decide) (.inl (by kernel_rfl))
          have HS : St w noF [⟨g1, 49, bs b⟩, ⟨g2, 59, nmC [] false⟩] W := hP
          clear hV hP
          simp only [putL, Act.put, List.setIfInBounds_toArray, List.set_cons_succ, List.set_cons_zero, h31]
          refine wpAnyH_done (by kernel_rfl) ?_ _
          clear h31
          go_wp2_with (first | ((with_reducible refine wpList_plain ?_ ?_); exact rfl; intro KK hKK; refine wp_st_store HS 1 0 59 (.tmp 2) (.tmp 32) rfl rfl rfl (.agg (nmC [] false)) rfl (size_nm) (Nat.le_of_eq rfl) (one_nm _ _) (nmC [] false) (spl_agg _ _ _ rfl rfl) (fun W11 HSx => hKK _ _ ?_); clear hKK KK HS; have HS : St w noF [⟨g1, 49, bs b⟩, ⟨g2, 59, nmC [] false⟩] W11 := HSx; clear HSx))
          exact bodyPost_ret (v := .agg (nmC [] false)) (results_cell_row Tryd.results23 _ _ g2 59 (nmC [] false) (0, 0) _ rfl (HS.row 1 rfl) Tryd.underlying59 rfl size_nm) rfl ⟨by rw [HE.out], HS.below⟩
      case pos =>
      have HPD := Lib.hid (decide_eq_true hp)
      clear hp
      by_cases h0 : k = 0
      · exact absurd h0 (by omega)
      · have hdk : decide ((0 : Int) < (k : Int)) = true := decide_eq_true (by omega)
        have hkk : 0 < k := by omega
        have ht0 : ¬ t = [] := fun h => h0 (by rw [← HTL.out, h]; rfl)
        cases hg : goodN t with
        | true =>
          have HG := Lib.hid hg
          have HE : Hid (cutR b = (t, true)) := Lib.hid (by rw [HR.out, HPD.out, hg, Bool.or_true]; rfl)
          clear HS ht0 hg
          refine wp_region_phs [is (.string (strB t)), is ((.agg (bs (padN t)))), is (.agg (bs b)), is (.bool false), is (.bool false), is (.int .i64 k), is (.bool true), is (.bool true), is (.string (strB t)), (fun v W => Strs W v [t]), is (.bool true), is (.bool false), is (.bool false), is (.bool false)] [true, true, true, true, true, true, true, true, true, false, true, true, true, true] [(fun W => St w noF [⟨g1, 49, bs b⟩, ⟨g2, 59, nmC [] false⟩] W)] [false, false, false, false, false, false, false, false, false, false, false, false, false, false] [some 0, some 0, some 0, some 0, some 0, some 0, some 0, some 0, some 0, some 0, some 0, some 0, some 0, some 0] [some 18, some 19, some 20, some 21, some 22, some 23, some 24, some 25, some 26, some 27, some 28, some 29, some 30, some 31] 14 0 (fun _ => true) rfl rfl (by kernel_rfl) (by kernel_rfl) (by kernel_rfl) (by kernel_rfl) ?_ ?_ ?_ ?_ ?_ ?_
          · repeat first | exact wok_nil | refine wok_cons (by first | exact fun _ _ h k => h.same k) ?_
          · repeat first | exact vok_nil | refine vok_rig (by first | exact fun _ _ _ h => h) ?_ | refine vok_soft (by first | exact fun _ _ _ h _ => h | exact fun _ _ _ h k => Strs.below h k (Nat.le_refl _)) ?_
          · exact hF0
          · repeat first | exact all_end (by decide) | refine all_cons (by first | exact rfl | exact ⟨rfl, fun _ _ h => Or.inl h⟩ | exact ⟨rfl, fun _ _ h => Or.inr ⟨h, rfl⟩⟩) ?_
          · refine allp_mild 0 rfl rfl rfl (fun a x W hout hin hP => ?_) ?_
            · have e4 : a.tmps[4]? = some (.string (strB t)) := (hout 4 (by kernel_rfl)).trans rfl
              exact does_move rfl e4 ⟨Same.refl _, rfl⟩
            refine allp_mild 0 rfl rfl rfl (fun a x W hout hin hP => ?_) ?_
            · have e18 := hin.is 0 18 (by kernel_rfl) (by decide) (by kernel_rfl) (by kernel_rfl) _ rfl
              have C := refpad_any t W HM.out
              clear hP
              clear hin hout
              intro K0 Q hK
              go_simp
              refine C.mono ?_
              rintro e W' ⟨rfl, hb⟩
              exact hK _ _ ⟨hb, rfl⟩
            refine allp_mild 0 rfl rfl rfl (fun a x W hout hin hP => ?_) ?_
            · have e1 : a.tmps[1]? = some (.pointer (some ⟨g1, 0, none⟩)) := (hout 1 (by kernel_rfl)).trans rfl
              clear hin hout
              intro K0 Q hK
              exact wp_st_load hP 0 0 49 (.tmp 1) rfl rfl (eval_of_get e1) (bs b) (slab_whole _) _ Tryd.underlying49 rfl (by rw [size_bs, HL.out]; exact size_b4) (hK _ _ ⟨Same.refl _, rfl⟩)
            refine allp_mild 0 rfl rfl rfl (fun a x W hout hin hP => ?_) ?_
            · have e19 := hin.is 1 19 (by kernel_rfl) (by decide) (by kernel_rfl) (by kernel_rfl) _ rfl
              have e20 := hin.is 2 20 (by kernel_rfl) (by decide) (by kernel_rfl) (by kernel_rfl) _ rfl
              have q := HQ.out W
              rw [HPD.out] at q
              clear hP
              clear hin hout
              intro K0 Q hK
              go_simp
              exact hK _ _ ⟨Same.refl _, rfl⟩
            refine allp_mild 0 rfl rfl rfl (fun a x W hout hin hP => ?_) ?_
            · have e21 := hin.is 3 21 (by kernel_rfl) (by decide) (by kernel_rfl) (by kernel_rfl) _ rfl
              exact does_move rfl e21 ⟨Same.refl _, rfl⟩
            refine allp_mild 0 rfl rfl rfl (fun a x W hout hin hP => ?_) ?_
            · have e3 : a.tmps[3]? = some (.int .i64 k) := (hout 3 (by kernel_rfl)).trans rfl
              exact does_move rfl e3 ⟨Same.refl _, rfl⟩
            refine allp_mild 0 rfl rfl rfl (fun a x W hout hin hP => ?_) ?_
            · have e23 := hin.is 5 23 (by kernel_rfl) (by decide) (by kernel_rfl) (by kernel_rfl) _ rfl
              clear hin hout
              intro K Q hK
              go_simp
              exact hK _ _ ⟨Same.refl _, rfl⟩
            refine allp_mild 0 rfl rfl rfl (fun a x W hout hin hP => ?_) ?_
            · have e24 := hin.is 6 24 (by kernel_rfl) (by decide) (by kernel_rfl) (by kernel_rfl) _ rfl
              exact does_move rfl e24 ⟨Same.refl _, rfl⟩
            refine allp_mild 0 rfl rfl rfl (fun a x W hout hin hP => ?_) ?_
            · have e4 : a.tmps[4]? = some (.string (strB t)) := (hout 4 (by kernel_rfl)).trans rfl
              exact does_move rfl e4 ⟨Same.refl _, rfl⟩
            refine allp_mild 0 rfl rfl rfl (fun a x W hout hin hP => ?_) ?_
            · have e26 := hin.is 8 26 (by kernel_rfl) (by decide) (by kernel_rfl) (by kernel_rfl) _ rfl
              clear hP
              clear hin hout
              intro K0 Q hK
              go_simp
              exact hK _ _ ⟨Same.alloc _ _, strs1 W t HM.out 9⟩
            refine allp_mild 0 rfl rfl rfl (fun a x W hout hin hP => ?_) ?_
            · obtain ⟨v27, e27, hv27⟩ := hin.get 9 27 (by kernel_rfl) (by decide) (by kernel_rfl) (.inr ⟨rfl, by kernel_rfl⟩)
              have C := (show goodNs [t] = true by unfold goodNs; simp [HG.out]) ▸ refgoodn_any [t] _ W hv27 (by unfold maxLen; simp)
              clear hP
              clear hin hout
              intro K0 Q hK
              go_simp
              refine C.mono ?_
              rintro e W' ⟨rfl, rfl⟩
              exact hK _ _ ⟨Same.refl _, rfl⟩
            refine allp_mild 0 rfl rfl rfl (fun a x W hout hin hP => ?_) ?_
            · have e28 := hin.is 10 28 (by kernel_rfl) (by decide) (by kernel_rfl) (by kernel_rfl) _ rfl
              exact does_not rfl e28 ⟨Same.refl _, rfl⟩
            refine allp_mild 0 rfl rfl rfl (fun a x W hout hin hP => ?_) ?_
            · have e25 := hin.is 7 25 (by kernel_rfl) (by decide) (by kernel_rfl) (by kernel_rfl) _ rfl
              have e29 := hin.is 11 29 (by kernel_rfl) (by decide) (by kernel_rfl) (by kernel_rfl) _ rfl
              exact does_pick rfl e25 ⟨Same.refl _, eval_of_get e29⟩
            refine allp_mild 0 rfl rfl rfl (fun a x W hout hin hP => ?_) ?_
            · have e22 := hin.is 4 22 (by kernel_rfl) (by decide) (by kernel_rfl) (by kernel_rfl) _ rfl
              have e30 := hin.is 12 30 (by kernel_rfl) (by decide) (by kernel_rfl) (by kernel_rfl) _ rfl
              exact does_pick rfl e22 ⟨Same.refl _, eval_of_get e30⟩
            exact all_end (by decide)
          · intro x W hP hV
            have h31 : x 13 = .bool false := hV 13 (by decide) (.inl (by kernel_rfl))
            have HS : St w noF [⟨g1, 49, bs b⟩, ⟨g2, 59, nmC [] false⟩] W := hP
            clear hV hP
            simp only [putL, Act.put, List.setIfInBounds_toArray, List.set_cons_succ, List.set_cons_zero, h31]
            refine wpAnyH_done (by kernel_rfl) ?_ _
            clear h31
            go_wp2_with (first | ((with_reducible refine wpList_plain ?_ ?_); exact rfl; intro KK hKK; refine wp_st_store HS 1 0 59 (.tmp 2) (.tmp 34) rfl rfl rfl (.agg (nmC t true)) rfl (size_nm) (Nat.le_of_eq rfl) (one_nm _ _) (nmC t true) (spl_agg _ _ _ rfl rfl) (fun W11 HSx => hKK _ _ ?_); clear hKK KK HS; have HS : St w noF [⟨g1, 49, bs b⟩, ⟨g2, 59, nmC t true⟩] W11 := HSx; clear HSx))
            exact bodyPost_ret (v := .agg (nmC t true)) (results_cell_row Tryd.results23 _ _ g2 59 (nmC t true) (0, 0) _ rfl (HS.row 1 rfl) Tryd.underlying59 rfl size_nm) rfl ⟨by rw [HE.out], HS.below⟩
        | false =>
          have HG := Lib.hid hg
          have HE : Hid (cutR b = ([], false)) := Lib.hid (by rw [HR.out, HPD.out, hg, decide_eq_false ht0]; rfl)
          clear HS ht0 hg
          refine wp_region_phs [is (.string (strB t)), is ((.agg (bs (padN t)))), is (.agg (bs b)), is (.bool false), is (.bool false), is (.int .i64 k), is (.bool true), is (.bool true), is (.string (strB t)), (fun v W => Strs W v [t]), is (.bool false), is (.bool true), is (.bool true), is (.bool true)] [true, true, true, true, true, true, true, true, true, false, true, true, true, true] [(fun W => St w noF [⟨g1, 49, bs b⟩, ⟨g2, 59, nmC [] false⟩] W)] [false, false, false, false, false, false, false, false, false, false, false, false, false, false] [some 0, some 0, some 0, some 0, some 0, some 0, some 0, some 0, some 0, some 0, some 0, some 0, some 0, some 0] [some 18, some 19, some 20, some 21, some 22, some 23, some 24, some 25, some 26, some 27, some 28, some 29, some 30, some 31] 14 0 (fun _ => true) rfl rfl (by kernel_rfl) (by kernel_rfl) (by kernel_rfl) (by kernel_rfl) ?_ ?_ ?_ ?_ ?_ ?_
          · repeat first | exact wok_nil | refine wok_cons (by first | exact fun _ _ h k => h.same k) ?_
          · repeat first | exact vok_nil | refine vok_rig (by first | exact fun _ _ _ h => h) ?_ | refine vok_soft (by first | exact fun _ _ _ h _ => h | exact fun _ _ _ h k => Strs.below h k (Nat.le_refl _)) ?_
          · exact hF0
          · repeat first | exact all_end (by decide) | refine all_cons (by first | exact rfl | exact ⟨rfl, fun _ _ h => Or.inl h⟩ | exact ⟨rfl, fun _ _ h => Or.inr ⟨h, rfl⟩⟩) ?_
          · refine allp_mild 0 rfl rfl rfl (fun a x W hout hin hP => ?_) ?_
            · have e4 : a.tmps[4]? = some (.string (strB t)) := (hout 4 (by kernel_rfl)).trans rfl
              exact does_move rfl e4 ⟨Same.refl _, rfl⟩
            refine allp_mild 0 rfl rfl rfl (fun a x W hout hin hP => ?_) ?_
            · have e18 := hin.is 0 18 (by kernel_rfl) (by decide) (by kernel_rfl) (by kernel_rfl) _ rfl
              have C := refpad_any t W HM.out
              clear hP
              clear hin hout
              intro K0 Q hK
              go_simp
              refine C.mono ?_
              rintro e W' ⟨rfl, hb⟩
              exact hK _ _ ⟨hb, rfl⟩
            refine allp_mild 0 rfl rfl rfl (fun a x W hout hin hP => ?_) ?_
            · have e1 : a.tmps[1]? = some (.pointer (some ⟨g1, 0, none⟩)) := (hout 1 (by kernel_rfl)).trans rfl
              clear hin hout
              intro K0 Q hK
              exact wp_st_load hP 0 0 49 (.tmp 1) rfl rfl (eval_of_get e1) (bs b) (slab_whole _) _ Tryd.underlying49 rfl (by rw [size_bs, HL.out]; exact size_b4) (hK _ _ ⟨Same.refl _, rfl⟩)
            refine allp_mild 0 rfl rfl rfl (fun a x W hout hin hP => ?_) ?_
            · have e19 := hin.is 1 19 (by kernel_rfl) (by decide) (by kernel_rfl) (by kernel_rfl) _ rfl
              have e20 := hin.is 2 20 (by kernel_rfl) (by decide) (by kernel_rfl) (by kernel_rfl) _ rfl
              have q := HQ.out W
              rw [HPD.out] at q
              clear hP
              clear hin hout
              intro K0 Q hK
              go_simp
              exact hK _ _ ⟨Same.refl _, rfl⟩
            refine allp_mild 0 rfl rfl rfl (fun a x W hout hin hP => ?_) ?_
            · have e21 := hin.is 3 21 (by kernel_rfl) (by decide) (by kernel_rfl) (by kernel_rfl) _ rfl
              exact does_move rfl e21 ⟨Same.refl _, rfl⟩
            refine allp_mild 0 rfl rfl rfl (fun a x W hout hin hP => ?_) ?_
            · have e3 : a.tmps[3]? = some (.int .i64 k) := (hout 3 (by kernel_rfl)).trans rfl
              exact does_move rfl e3 ⟨Same.refl _, rfl⟩
            refine allp_mild 0 rfl rfl rfl (fun a x W hout hin hP => ?_) ?_
            · have e23 := hin.is 5 23 (by kernel_rfl) (by decide) (by kernel_rfl) (by kernel_rfl) _ rfl
              clear hin hout
              intro K Q hK
              go_simp
              exact hK _ _ ⟨Same.refl _, rfl⟩
            refine allp_mild 0 rfl rfl rfl (fun a x W hout hin hP => ?_) ?_
            · have e24 := hin.is 6 24 (by kernel_rfl) (by decide) (by kernel_rfl) (by kernel_rfl) _ rfl
              exact does_move rfl e24 ⟨Same.refl _, rfl⟩
            refine allp_mild 0 rfl rfl rfl (fun a x W hout hin hP => ?_) ?_
            · have e4 : a.tmps[4]? = some (.string (strB t)) := (hout 4 (by kernel_rfl)).trans rfl
              exact does_move rfl e4 ⟨Same.refl _, rfl⟩
            refine allp_mild 0 rfl rfl rfl (fun a x W hout hin hP => ?_) ?_
            · have e26 := hin.is 8 26 (by kernel_rfl) (by decide) (by kernel_rfl) (by kernel_rfl) _ rfl
              clear hP
              clear hin hout
              intro K0 Q hK
              go_simp
              exact hK _ _ ⟨Same.alloc _ _, strs1 W t HM.out 9⟩
            refine allp_mild 0 rfl rfl rfl (fun a x W hout hin hP => ?_) ?_
            · obtain ⟨v27, e27, hv27⟩ := hin.get 9 27 (by kernel_rfl) (by decide) (by kernel_rfl) (.inr ⟨rfl, by kernel_rfl⟩)
              have C := (show goodNs [t] = false by unfold goodNs; simp [HG.out]) ▸ refgoodn_any [t] _ W hv27 (by unfold maxLen; simp)
              clear hP
              clear hin hout
              intro K0 Q hK
              go_simp
              refine C.mono ?_
              rintro e W' ⟨rfl, rfl⟩
              exact hK _ _ ⟨Same.refl _, rfl⟩
            refine allp_mild 0 rfl rfl rfl (fun a x W hout hin hP => ?_) ?_
            · have e28 := hin.is 10 28 (by kernel_rfl) (by decide) (by kernel_rfl) (by kernel_rfl) _ rfl
              exact does_not rfl e28 ⟨Same.refl _, rfl⟩
            refine allp_mild 0 rfl rfl rfl (fun a x W hout hin hP => ?_) ?_
            · have e25 := hin.is 7 25 (by kernel_rfl) (by decide) (by kernel_rfl) (by kernel_rfl) _ rfl
              have e29 := hin.is 11 29 (by kernel_rfl) (by decide) (by kernel_rfl) (by kernel_rfl) _ rfl
              exact does_pick rfl e25 ⟨Same.refl _, eval_of_get e29⟩
            refine allp_mild 0 rfl rfl rfl (fun a x W hout hin hP => ?_) ?_
            · have e22 := hin.is 4 22 (by kernel_rfl) (by decide) (by kernel_rfl) (by kernel_rfl) _ rfl
              have e30 := hin.is 12 30 (by kernel_rfl) (by decide) (by kernel_rfl) (by kernel_rfl) _ rfl
              exact does_pick rfl e22 ⟨Same.refl _, eval_of_get e30⟩
            exact all_end (by decide)
          · intro x W hP hV
            have h31 : x 13 = .bool true := hV 13 (by decide) (.inl (by kernel_rfl))
            have HS : St w noF [⟨g1, 49, bs b⟩, ⟨g2, 59, nmC [] false⟩] W := hP
            clear hV hP
            simp only [putL, Act.put, List.setIfInBounds_toArray, List.set_cons_succ, List.set_cons_zero, h31]
            refine wpAnyH_done (by kernel_rfl) ?_ _
            clear h31
            go_wp2_with (first | ((with_reducible refine wpList_plain ?_ ?_); exact rfl; intro KK hKK; refine wp_st_store HS 1 0 59 (.tmp 2) (.tmp 32) rfl rfl rfl (.agg (nmC [] false)) rfl (size_nm) (Nat.le_of_eq rfl) (one_nm _ _) (nmC [] false) (spl_agg _ _ _ rfl rfl) (fun W11 HSx => hKK _ _ ?_); clear hKK KK HS; have HS : St w noF [⟨g1, 49, bs b⟩, ⟨g2, 59, nmC [] false⟩] W11 := HSx; clear HSx))
            exact bodyPost_ret (v := .agg (nmC [] false)) (results_cell_row Tryd.results23 _ _ g2 59 (nmC [] false) (0, 0) _ rfl (HS.row 1 rfl) Tryd.underlying59 rfl size_nm) rfl ⟨by rw [HE.out], HS.below⟩
end Go.Proofs.YteidjbbhhfdcpaaDoor

/- Arguments of words (uint32, uint16, arrays of them) opened. No function of the program is named here. -/
set_option maxRecDepth 4000
namespace Go.Proofs.YteidjbbhhfdcpaaDoor
open Go Go.ChangeShapes Go.WideShapes Go.ChangeAt Go.RowKit
def rdU32 : Rd (BitVec 32) := fun _ cs x => cs = [.int .u32 (wd x)]
def rdU16 : Rd (BitVec 16) := fun _ cs x => cs = [.int .u16 (hd x)]
def rdWords (n : Nat) : Rd (List (BitVec 32)) := fun _ cs b => cs = b.map (fun x => Value.int .u32 (wd x)) ∧ b.length = n
theorem bounds_u32L {n : Int} (h : (Lit.int .u32 n).wf = true) : 0 ≤ n ∧ n < 4294967296 := by
  simp only [Lit.wf, Bool.and_eq_true, decide_eq_true_eq] at h
  have h1 : IntKind.u32.min = 0 := by decide
  have h2 : IntKind.u32.max = 4294967295 := by decide
  omega
theorem bounds_u16L {n : Int} (h : (Lit.int .u16 n).wf = true) : 0 ≤ n ∧ n < 65536 := by
  simp only [Lit.wf, Bool.and_eq_true, decide_eq_true_eq] at h
  have h1 : IntKind.u16.min = 0 := by decide
  have h2 : IntKind.u16.max = 65535 := by decide
  omega
theorem opens_u32 {P : Program} {t : TypeId} (ht : P.underlying t = some (.int .u32)) : Opens P t rdU32 := fun _ _ _ _ _ h _ => by
  obtain ⟨n, h1, _, h2⟩ := DataW.trod_int ht h
  have hb := bounds_u32L h2
  exact ⟨BitVec.ofInt 32 n, by unfold rdU32; rw [h1, ← wd_of n hb.1 hb.2]⟩
theorem opens_u16 {P : Program} {t : TypeId} (ht : P.underlying t = some (.int .u16)) : Opens P t rdU16 := fun _ _ _ _ _ h _ => by
  obtain ⟨n, h1, _, h2⟩ := DataW.trod_int ht h
  have hb := bounds_u16L h2
  exact ⟨BitVec.ofInt 16 n, by unfold rdU16; rw [h1, ← hd_of n hb.1 hb.2]⟩
theorem opens_words {P : Program} {t e : TypeId} {n : Nat} (ht : P.underlying t = some (.array n e)) (he : P.underlying e = some (.int .u32)) (hce : P.cellsOf e = 1) (hct : P.cellsOf t = n) : Opens P t (rdWords n) := fun enc W fuel cs x h _ => by
  obtain ⟨xs, m, _, _, hl, hx, hi⟩ := DataW.trod_array ht h
  have hs : cs.length = n := by rw [hl, hct]
  have hint : ∀ i, i < n → ∃ z, cs[i]? = some (.int .u32 z) ∧ (Lit.int .u32 z).wf = true := fun i hin => by
    have h1 := hi i hin
    rw [List.getElem?_eq_getElem (by omega)] at h1
    obtain ⟨z, hz, _, hw⟩ := DataW.trod_int he h1
    refine ⟨z, ?_, hw⟩
    simp only [hce, Nat.mul_one] at hz
    rw [List.take_one, List.head?_drop] at hz
    cases hc : cs[i]? with
    | none => rw [hc] at hz; cases hz
    | some v => rw [hc] at hz; simpa using hz
  refine ⟨cs.map fun v => BitVec.ofInt 32 (intIn v), ?_, by simp [hs]⟩
  apply List.ext_getElem?
  intro i
  by_cases hin : i < n
  · obtain ⟨z, hz, hw⟩ := hint i hin
    have hb := bounds_u32L hw
    simp [hz, intIn, ← wd_of z hb.1 hb.2]
  · rw [List.getElem?_eq_none (by omega), List.getElem?_eq_none (by simp; omega)]
theorem open_words {P : Program} {t e : TypeId} {n : Nat} (ht : P.underlying t = some (.array n e)) (he : P.underlying e = some (.int .u32)) (hce : P.cellsOf e = 1) (hct : P.cellsOf t = n) {H : Type} {enc : TypeId × Value → H} {W : World} {r : Reach} {base : Nat} {v : Value} {d : DataW H} {ps : List MemPlace} (hval : Value.okWide P W r base t v) (hT : DataW.Trod enc P W 0 (fun _ => true) true t v d ps) (hlt : ∀ y ∈ ps, y.block < W.heap.size) : ∃ q : List (BitVec 32), q.length = n ∧ v = .agg (ws q) := by
  obtain ⟨cs, rfl⟩ := okWide_arr ht hval
  obtain ⟨q, h1, h2⟩ := open_arg (opens_words ht he hce hct) hT hlt
  exact ⟨q, h2, congrArg Value.agg (by apply Array.toList_inj.1; simpa [Value.cells, ws] using h1)⟩
end Go.Proofs.YteidjbbhhfdcpaaDoor
