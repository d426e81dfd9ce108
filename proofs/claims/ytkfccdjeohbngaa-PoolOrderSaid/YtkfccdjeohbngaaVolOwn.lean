/- Slices of volumes of one's own: appended to, read. No function of the program is named here. -/
import Derived.Test.YtkfccdjeohbngaaVols
import Derived.Test.YtkfccdjeohbngaaStMore
import Derived.Deep.DeepAppendWide
set_option maxRecDepth 4000
namespace Go.Proofs.Ytkfccdjeohbngaa
open Go Go.RowKit
theorem info_vol : (Try.prog.info? 42).map (fun i => (i.zero, i.size, i.bytes)) = some (some (.agg #[.string ⟨#[]⟩, .slice none 0 0]), 2, 40) := by kernel_rfl
/- a volume's blocks: known in an earlier world, or of one's own -/
def InV (base : Nat) (W : World) (A : Option Addr) (c : Nat) (L : List Int) : Prop :=
  (∃ w1 : World, w1.heap.size ≤ base ∧ Below base w1 W ∧ IntsAt w1 (.slice A L.length c) L) ∨
  (W.ownsRow base 3 1 (.slice A L.length c) L.length (intsV L) ∧ ∀ x ∈ L, -9223372036854775808 ≤ x ∧ x < 9223372036854775808)
def CellsV (base : Nat) (W : World) (vs : List (List Value)) (l : List Vl) : Prop :=
  vs.length = l.length ∧ (∀ c ∈ vs, c.length = 2) ∧ ∀ (j : Nat) (x : Vl), l[j]? = some x → ∃ A c, vs[j]? = some [.string x.1, .slice A x.2.length c] ∧ InV base W A c x.2 ∧ x.1.size ≤ maxLen
def OV (base : Nat) (W : World) (v : Value) (l : List Vl) : Prop := ∃ vs, W.ownsRow base 42 2 v l.length vs.flatten ∧ CellsV base W vs l
theorem InV.ints {base : Nat} {W : World} {A : Option Addr} {c : Nat} {L : List Int} (h : InV base W A c L) : IntsAt W (.slice A L.length c) L := by
  rcases h with ⟨w1, h1, h2, h3⟩ | ⟨h1, h2⟩
  · exact h3.below h2 h1
  · exact ints_own h1 h2
theorem InV.call {base : Nat} {W W' : World} {A : Option Addr} {c : Nat} {L : List Int} (h : InV base W A c L) (hb : Below W.heap.size W W') (hB : base ≤ W.heap.size) : InV base W' A c L := by
  rcases h with ⟨w1, h1, h2, h3⟩ | ⟨h1, h2⟩
  · exact .inl ⟨w1, h1, h2.trans (hb.mono hB), h3⟩
  · exact .inr ⟨owns_call h1 hb, h2⟩
theorem CellsV.call {base : Nat} {W W' : World} {vs : List (List Value)} {l : List Vl} (h : CellsV base W vs l) (hb : Below W.heap.size W W') (hB : base ≤ W.heap.size) : CellsV base W' vs l :=
  ⟨h.1, h.2.1, fun j x hx => by obtain ⟨A, c, h1, h2, h3⟩ := h.2.2 j x hx; exact ⟨A, c, h1, h2.call hb hB, h3⟩⟩
theorem OV.call {base : Nat} {W W' : World} {v : Value} {l : List Vl} (h : OV base W v l) (hb : Below W.heap.size W W') (hB : base ≤ W.heap.size) : OV base W' v l := by
  obtain ⟨vs, h1, h2⟩ := h
  exact ⟨vs, owns_call h1 hb, h2.call hb hB⟩
theorem OV.form {base : Nat} {W : World} {v : Value} {l : List Vl} (h : OV base W v l) : ∃ A c, v = .slice A l.length c ∧ l.length ≤ c := by
  obtain ⟨vs, h1, _⟩ := h
  exact own_slice_form h1
theorem OV.form2 {base : Nat} {W : World} {v : Value} {l : List Vl} (h : OV base W v l) : ∃ A n c, v = .slice A n c ∧ l.length = n ∧ n ≤ c := by
  obtain ⟨A, c, e, h1⟩ := h.form
  exact ⟨A, _, c, e, rfl, h1⟩
theorem OV.vols {base : Nat} {W : World} {v : Value} {l : List Vl} (h : OV base W v l) (hm : l.length ≤ maxLen) : VolsAt W v l := by
  obtain ⟨vs, h1, hvl, hv2, h3⟩ := h
  rcases h1.2 with ⟨rfl, h0⟩ | ⟨g, cap, cur, rfl, _, hrow, hcap, _, hsz, htk⟩
  · have hl0 : l = [] := List.eq_nil_of_length_eq_zero h0
    subst hl0
    exact vols_none W
  · refine ⟨_, _, rfl, hcap, fun h => (by cases h), hm, fun _ => ⟨g, 0, rfl, (h1.lt g rfl).2, fun k x hx => ?_⟩⟩
    obtain ⟨A2, c2, hcs, ho, hms⟩ := h3 k x hx
    refine ⟨_, rfl, fun j v hv => ?_, vol_rd ⟨A2, c2, rfl, ho.ints, hms⟩⟩
    have hk : k < l.length := (List.getElem?_eq_some_iff.1 hx).1
    have hj : j < 2 := (List.getElem?_eq_some_iff.1 hv).1
    rw [Nat.zero_add, h1.cellAt (k * 2 + j) (by omega), flat_get (sz := 2) vs hv2 k j _ hcs hj]
    exact hv
theorem OV.nil (base : Nat) (W : World) : OV base W (.slice none 0 0) [] := ⟨[], by simpa using World.ownsRow_nil _ _ _ _, rfl, fun c hc => by simp at hc, fun j x hx => by simp at hx⟩
theorem OV.empty (base : Nat) (W : World) (h : base ≤ W.heap.size) : OV base (W.alloc (.cells #[] 42)) (.slice (some ⟨W.heap.size, 0, none⟩) 0 0) [] :=
  ⟨[], ⟨rfl, .inr ⟨W.heap.size, 0, #[], rfl, h, heap_alloc_new W _, Nat.le_refl _, by unfold maxLen; simp, rfl, rfl⟩⟩, rfl, fun c hc => by simp at hc, fun j x hx => by simp at hx⟩
/- what is laid there to be appended -/
def VolsIn (base : Nat) (W : World) (A : Option Addr) (m c : Nat) (l : List Vl) : Prop :=
  m = l.length ∧ (A = none → c = 0 ∧ l = []) ∧ ∃ vs, CellsV base W vs l ∧ ∀ ad, A = some ad → ∀ j u, vs.flatten[j]? = some u → W.cell? (ad.add j) = some u
theorem vols_in {base : Nat} {w W : World} {A : Option Addr} {n c : Nat} {l : List Vl} (h : VolsAt w (.slice A n c) l) (hw : w.heap.size ≤ base) (hb : Below base w W) : VolsIn base W A n c l := by
  have hln := vols_len h
  obtain ⟨A', c', e1, _, hn, _, h5⟩ := id h
  have e1 : Value.slice A n c = .slice A' l.length c' := by simpa using e1
  injection e1 with e1 e2 e3
  subst e1 e3
  by_cases hl : l = []
  · subst hl
    exact ⟨hln.symm, fun hA => ⟨hn hA, rfl⟩, [], ⟨rfl, fun c hc => by simp at hc, fun j x hx => by simp at hx⟩, fun ad _ j u hu => by simp at hu⟩
  obtain ⟨b, o, rfl, h7, h8⟩ := h5 hl
  have H : ∀ k, ∃ ds : List Value, k < l.length → ds.length = 2 ∧ w.rangeAt b (o + k * 2) ds ∧ ∃ x, l[k]? = some x ∧ VolAt w ds x := fun k => by
    by_cases hk : k < l.length
    · obtain ⟨ds, h9, h10, h11⟩ := h8 k _ (List.getElem?_eq_getElem hk)
      exact ⟨ds, fun _ => ⟨h9, h10, _, List.getElem?_eq_getElem hk, vol_cells h11⟩⟩
    · exact ⟨[], fun h => absurd h hk⟩
  have hd := fun k => Classical.choose_spec (H k)
  obtain ⟨D, hD⟩ : ∃ D : Nat → List Value, (fun k => Classical.choose (H k)) = D := ⟨_, rfl⟩
  have hd : ∀ k, k < l.length → (D k).length = 2 ∧ w.rangeAt b (o + k * 2) (D k) ∧ ∃ x, l[k]? = some x ∧ VolAt w (D k) x := fun k hk => by rw [← hD]; exact hd k hk
  refine ⟨hln.symm, fun h => (by cases h), (List.range l.length).map D, ⟨by simp, fun c hc => ?_, fun j x hx => ?_⟩, fun ad had j u hu => ?_⟩
  · obtain ⟨k, hk, rfl⟩ := List.mem_map.1 hc
    exact (hd k (List.mem_range.1 hk)).1
  · have hj := (List.getElem?_eq_some_iff.1 hx).1
    obtain ⟨_, _, y, hy, A2, c2, e, hi, hs⟩ := hd j hj
    rw [hx] at hy
    cases hy
    exact ⟨A2, c2, by rw [List.getElem?_map, List.getElem?_range hj]; simp [e], .inl ⟨w, hw, hb, hi⟩, hs⟩
  · cases had
    rw [Addr.add_mid]
    have h2 : ∀ c ∈ (List.range l.length).map D, c.length = 2 := fun c hc => by
      obtain ⟨k, hk, rfl⟩ := List.mem_map.1 hc
      exact (hd k (List.mem_range.1 hk)).1
    have hjl : j / 2 < l.length := by
      have hlt := (List.getElem?_eq_some_iff.1 hu).1
      have hfl : ((List.range l.length).map D).flatten.length = l.length * 2 := by
        rw [flat_length (sz := 2) _ h2]; simp
      omega
    have hg : ((List.range l.length).map D)[j / 2]? = some (D (j / 2)) := by rw [List.getElem?_map, List.getElem?_range hjl]; rfl
    have := flat_get (sz := 2) _ h2 (j / 2) (j % 2) _ hg (by omega)
    rw [show j / 2 * 2 + j % 2 = j by omega, hu] at this
    have hc := (hd _ hjl).2.1 (j % 2) u this.symm
    rw [show o + j / 2 * 2 + j % 2 = o + j by omega] at hc
    exact (hb.cell (p := ⟨b, o + j, none⟩) (by show b < base; omega)).trans hc
theorem OV.volsIn {base : Nat} {W : World} {A : Option Addr} {n c : Nat} {l : List Vl} (h : OV base W (.slice A n c) l) : VolsIn base W A n c l := by
  obtain ⟨vs, h1, h2⟩ := h
  rcases h1.2 with ⟨e, h0⟩ | ⟨g, cap, cur, e, _, _⟩
  · injection e with e1 e2 e3
    have hl0 : l = [] := List.eq_nil_of_length_eq_zero h0
    subst hl0 e1 e2 e3
    exact ⟨rfl, fun _ => ⟨rfl, rfl⟩, vs, h2, fun ad had => by cases had⟩
  · injection e with e1 e2 e3
    subst e1 e2 e3
    refine ⟨rfl, fun h => (by cases h), vs, h2, fun ad had j u hu => ?_⟩
    cases had
    rw [Addr.add_mid, Nat.zero_add]
    have hj := (List.getElem?_eq_some_iff.1 hu).1
    rw [flat_length (sz := 2) _ h2.2.1, h2.1] at hj
    rw [h1.cellAt j (by omega)]
    exact hu
theorem vol_lit {base : Nat} {W : World} {g : Nat} {s : ByteArray} {A : Option Addr} {c : Nat} {L : List Int} (hr : Row W g 42 #[.string s, .slice A L.length c]) (hi : InV base W A c L) (hs : s.size ≤ maxLen) : VolsIn base W (some ⟨g, 0, none⟩) 1 1 [(s, L)] :=
  ⟨rfl, fun h => (by cases h), [[.string s, .slice A L.length c]], ⟨rfl, fun c hc => (by rw [List.mem_singleton.1 hc]; rfl), fun j x hx => (by
    cases j with
    | zero => (cases hx; exact ⟨A, c, rfl, hi, hs⟩)
    | succ j => (simp at hx))⟩, fun ad had j u hu => by
      cases had
      rw [Addr.add_mid, Nat.zero_add]
      exact hr.get (by rw [← Array.getElem?_toList]; simpa using hu)⟩
theorem vols_lit {W : World} {g : Nat} {s : ByteArray} {A : Option Addr} {c : Nat} {L : List Int} (hr : Row W g 42 #[.string s, .slice A L.length c]) (hi : IntsAt W (.slice A L.length c) L) (hs : s.size ≤ maxLen) : VolsAt W (.slice (some ⟨g, 0, none⟩) 1 1) [(s, L)] :=
  vols_row (l := [(s, L)]) hr (Nat.le_refl _) (by show 1 ≤ maxLen; decide) fun k x hx => by
    cases k with
    | zero => cases hx; exact ⟨A, c, rfl, hi, hs⟩
    | succ k => simp at hx
theorem CellsV.append {base : Nat} {W : World} {vs us : List (List Value)} {l m : List Vl} (h : CellsV base W vs l) (k : CellsV base W us m) : CellsV base W (vs ++ us) (l ++ m) := by
  refine ⟨by rw [List.length_append, List.length_append, h.1, k.1], fun c hc => ?_, fun j x hx => ?_⟩
  · rcases List.mem_append.1 hc with hc | hc
    · exact h.2.1 c hc
    · exact k.2.1 c hc
  · by_cases hj : j < l.length
    · rw [List.getElem?_append_left hj] at hx
      rw [List.getElem?_append_left (by rw [h.1]; exact hj)]
      exact h.2.2 j x hx
    · rw [List.getElem?_append_right (by omega)] at hx
      rw [List.getElem?_append_right (by rw [h.1]; omega), h.1]
      exact k.2.2 _ x hx
theorem one_volV {base : Nat} {W : World} {vs : List (List Value)} {l : List Vl} (h : CellsV base W vs l) : ∀ v ∈ vs.flatten, v.oneCell' = true := by
  intro v hv
  obtain ⟨c, hc, hv⟩ := List.mem_flatten.1 hv
  obtain ⟨j, hj, rfl⟩ := List.getElem_of_mem hc
  obtain ⟨A, cc, e, _⟩ := h.2.2 j _ (List.getElem?_eq_getElem (by rw [← h.1]; exact hj))
  rw [List.getElem?_eq_getElem hj] at e
  injection e with e
  rw [e] at hv
  simp at hv
  rcases hv with rfl | rfl <;> rfl
theorem CellsV.grown {base : Nat} {W W' : World} {v : Value} {n : Nat} {xs : List Value} {us : List (List Value)} {m : List Vl} (h : CellsV base W us m) (ho : W.ownsRow base 42 2 v n xs) (hg : W.grownBy W' v.ownBlock) (hB : base ≤ W.heap.size) : CellsV base W' us m := by
  have hbl : Below base W W' := below_of_grown hg (fun g e => (ho.lt g e).1) hB
  refine ⟨h.1, h.2.1, fun j x hx => ?_⟩
  obtain ⟨A, c, h1, h2, h3⟩ := h.2.2 j x hx
  refine ⟨A, c, h1, ?_, h3⟩
  rcases h2 with ⟨w1, k1, k2, k3⟩ | ⟨k1, k2⟩
  · exact .inl ⟨w1, k1, k2.trans hbl, k3⟩
  · refine .inr ⟨k1.kept hg ?_, k2⟩
    cases hu : (Value.slice A x.2.length c).ownBlock with
    | none => exact .inl rfl
    | some g => exact .inr fun e => own_apart2 ho k1 (by decide) g e.symm hu
theorem wp_append_vols {w : World} {o : Oper} {a : Act} {K : Act → World → Prop} {Q : Exit → Act → World → Prop} (s x : Operand)
    (ho : o.op = .call { callee := .builtin .append, args := #[s, x], argTypes := #[22, 22] }) (base : Nat)
    (v : Value) (l1 : List Vl) (hs : a.eval s = v) (hown : OV base w v l1)
    (A : Option Addr) (m c : Nat) (l2 : List Vl) (hx : a.eval x = .slice A m c) (h2 : VolsIn base w A m c l2) (hnm : l1.length + l2.length ≤ 1000000) (hbase : base ≤ w.heap.size)
    (h : ∀ v' w', OV base w' v' (l1 ++ l2) → Below base w w' → K (a.put o.dst v') w') : o.wp Try.prog a w K Q := by
  obtain ⟨i0, hi, hz0, hz1, hz2⟩ := info_parts info_vol
  obtain ⟨vs, hown, hcv⟩ := hown
  obtain ⟨rfl, hA, us, hus, hcell⟩ := h2
  cases A with
  | none =>
    obtain ⟨rfl, rfl⟩ := hA rfl
    have hrun : (Builtin.append_ #[22, 22] o.type #[v, .slice none 0 0]).run Try.prog w = .ok v w := by
      rcases hown.2 with ⟨rfl, h0⟩ | ⟨g, cap, cur, rfl, _, hrow, hcap, _⟩
      · simp [Builtin.append_, run_underlying Try.underlying22, sizeOf, typeInfo, hi, Builtin.lenOf, Builtin.firstCells]
      · simp [Builtin.append_, run_underlying Try.underlying22, sizeOf, typeInfo, hi, Builtin.lenOf, Builtin.firstCells, storeCells, hcap]
    unfold Oper.wp execOp
    simp only [ho, resolve, invoke, builtin, Sem.run_bind, Sem.run_pure, Result.andThen_ok, List.map_toArray, List.map_cons, List.map_nil, hs, hx, List.length_nil, hrun]
    exact h _ _ (by rw [List.append_nil]; exact ⟨vs, hown, hcv⟩) (Below.refl _ _)
  | some ad =>
    have h2l : us.flatten.length = l2.length * 2 := by rw [flat_length (sz := 2) _ hus.2.1, hus.1]
    refine wp_append_own_wide w s x 22 ho base 42 i0 (.agg #[.string ⟨#[]⟩, .slice none 0 0]) 2 40 Try.underlying22 hi hz0 hz1 hz2 rfl (by decide) v l1.length vs.flatten hs hown ad l2.length c us.flatten hx h2l (hcell ad rfl) (one_volV hus) (by unfold maxLen; omega) (by omega) hbase fun v' w' o2 hg _ => ?_
    refine h v' w' ⟨vs ++ us, by rw [List.length_append, List.flatten_append]; exact o2, ?_⟩ (below_of_grown hg (fun g e => (hown.lt g e).1) hbase)
    exact (hcv.append hus).grown hown hg hbase
end Go.Proofs.Ytkfccdjeohbngaa
