/- An argument opened: what a chain begins with, and its records. And the block in which it lies. -/
import Derived.Test.YtnfceejmkcohnaaDoorOpenArr
import Derived.Test.YtnfceejmkcohnaaDoorOpenParts
import Derived.Test.YtnfceejmkcohnaaDoorPartL
namespace Go.Proofs.YtnfceejmkcohnaaDoor
open Go Go.ChangeShapes Go.WideShapes Go.ChangeAt Go.RowKit
theorem cellsD : Tryd.prog.cellsOf 24 = 32 := by kernel_rfl
theorem cellsP : Tryd.prog.cellsOf 25 = 1 := by kernel_rfl
theorem cellsC : Tryd.prog.cellsOf 27 = 33 := by kernel_rfl
theorem okWide_str {P : Program} {w : World} {r : Reach} {base : Nat} {t : TypeId} {fs : Array Field} {v : Value} (ht : P.underlying t = some (.struct fs)) (h : Value.okWide P w r base t v) : ∃ cs, v = .agg cs := by
  simp only [Value.okWide, ht] at h
  cases v <;> simp_all
theorem raw_bytes {H : Type} {enc : TypeId × Value → H} {P : Program} {W : World} {t e : TypeId} {n fuel : Nat} {cs : List Value} {x : DataW H × List MemPlace} (ht : P.underlying t = some (.array n e)) (he : P.underlying e = some (.int .u8)) (hce : P.cellsOf e = 1) (hct : P.cellsOf t = n)
    (hf : DataW.trod enc P W 0 (fun _ => true) true fuel t cs = some x) : ∃ q : List (BitVec 8), q.length = n ∧ cs = (bs q).toList := by
  obtain ⟨xs, m, _, _, hl, hx, hi⟩ := DataW.trod_array ht hf
  have hs : cs.length = n := by rw [← hct]; exact hl
  have hz : ∀ i, i < n → ∃ z, cs[i]? = some (.int .u8 z) ∧ (Lit.int .u8 z).wf = true := fun i hin => by
    have h1 := hi i hin
    rw [List.getElem?_eq_getElem (by omega)] at h1
    obtain ⟨z, hz, _, hw⟩ := DataW.trod_int he h1
    refine ⟨z, ?_, hw⟩
    simp only [hce, Nat.mul_one] at hz
    rw [List.take_one, List.head?_drop] at hz
    have hin' : i < cs.length := by omega
    rw [List.getElem?_eq_getElem hin'] at hz ⊢
    simpa using hz
  refine ⟨cs.map fun v => BitVec.ofInt 8 (intIn v), by simp [hs], ?_⟩
  apply List.ext_getElem?
  intro i
  by_cases hlt : i < n
  · obtain ⟨z, hz, hw⟩ := hz i hlt
    have hb := bounds_u8 hw
    have e1 : (bs (cs.map fun v => BitVec.ofInt 8 (intIn v)))[i]? = some (.int .u8 (bd (BitVec.ofInt 8 z))) := by
      rw [get_bs _ i (by simp [hs]; omega)]
      simp [List.getD_eq_getElem?_getD, hz, intIn]
    rw [hz, Array.getElem?_toList, e1, ← bd_of z hb.1 (by omega)]
  · rw [List.getElem?_eq_none (by omega), List.getElem?_eq_none (by simp [bs]; omega)]
theorem raw_parts {H : Type} {enc : TypeId × Value → H} {W : World} {fuel : Nat} {cs : List Value} {x : DataW H × List MemPlace}
    (hf : DataW.trod enc Tryd.prog W 0 (fun _ => true) true fuel 25 cs = some x) (hlt : ∀ y ∈ x.2, y.block < W.heap.size) :
    ∃ u qs, cs = [u] ∧ Hand W u qs ∧ qs.length ≤ maxLen ∧ ∀ n c, u = .slice none n c → c = 0 := by
  rcases Deep.open_slice1 Tryd.underlying25 cellsSl hf with ⟨hcs, hx⟩ | ⟨a, len, cap, m, n, V, D, Pl, hcs, _, hl, hm, hmm, hx, hcell⟩
  · exact ⟨_, [], hcs, ⟨none, 0, rfl, fun h => absurd rfl h⟩, by simp, fun n c e => by injection e with _ _ e; exact e.symm⟩
  · subst hx
    simp only [if_true] at hmm
    subst hmm
    obtain ⟨Q, hQ⟩ := Deep.choose_lt (α := List (BitVec 8)) (n := len) (p := fun i q => Item W (V i) q) (fun i hi => open_item (hcell i (by omega)).2 (fun y hy => hlt y (List.mem_append_right _ (List.mem_flatMap.2 ⟨i, List.mem_range.2 (by omega), hy⟩))))
    have hql : ((List.range len).map Q).length = len := by simp
    refine ⟨_, (List.range len).map Q, hcs, ⟨some a, _, by rw [hql], fun hne => ?_⟩, by rw [hql]; omega, fun n c e => by injection e with e _ _; cases e⟩
    have hpos : 0 < len := by rw [← hql]; exact List.length_pos_iff.2 hne
    obtain ⟨b, off, spot⟩ := a
    have hspot : spot = none := by simpa [Addr.add] using World.cell?_spot (hcell 0 (by omega)).1
    subst hspot
    refine ⟨b, off, rfl, hlt (.cell b off) (List.mem_append_left _ (MemPlace.mem_row.2 ⟨0, by omega, by simp⟩)), fun k q hq => ?_⟩
    have hk : k < len := by have := (List.getElem?_eq_some_iff.1 hq).1; omega
    have hc := (hcell k (by omega)).1
    rw [Addr.add_mid] at hc
    refine ⟨V k, hc, ?_⟩
    obtain rfl : Q k = q := by simpa [hk] using hq
    exact hQ k hk
/- the cells of it -/
def chCells (h : List (BitVec 8)) (u : Value) : Array Value := bs h ++ #[u]
theorem open_ch {H : Type} {enc : TypeId × Value → H} {W : World} {r : Reach} {base : Nat} {v : Value} {d : DataW H} {ps : List MemPlace} (hval : Value.okWide Tryd.prog W r base 27 v)
    (h : DataW.Trod enc Tryd.prog W 0 (fun _ => true) true 27 v d ps) (hlt : ∀ x ∈ ps, x.block < W.heap.size) :
    ∃ hh u qs, v = .agg (chCells hh u) ∧ hh.length = 32 ∧ Hand W u qs ∧ qs.length ≤ maxLen ∧ ∀ n c, u = .slice none n c → c = 0 := by
  obtain ⟨cs, rfl⟩ := okWide_str Tryd.underlying27 hval
  obtain ⟨fuel, hf⟩ := h
  obtain ⟨xs, n, _, hx, hl, hlen, hfi⟩ := DataW.trod_struct Tryd.underlying27 hf
  simp only [Prod.mk.injEq] at hx
  obtain ⟨_, rfl⟩ := hx
  have h0 := hfi 0 _ rfl
  have h1 := hfi 1 _ rfl
  change DataW.trod enc Tryd.prog W 0 (fun _ => true) true n 24 ((_ : List Value).take (Tryd.prog.cellsOf 24)) = _ at h0
  change DataW.trod enc Tryd.prog W 0 (fun _ => true) true n 25 ((_ : List Value).take (Tryd.prog.cellsOf 25)) = _ at h1
  rw [cellsD] at h0
  rw [cellsP] at h1
  have l2 : xs.length = 2 := by simpa using hlen
  rw [List.getElem?_eq_getElem (by omega)] at h0 h1
  obtain ⟨hh, hhl, hhe⟩ := raw_bytes Tryd.underlying24 Tryd.underlying5 cellsB cellsD h0
  obtain ⟨u, qs, hue, hH, hm, hN⟩ := raw_parts h1 (fun y hy => hlt y (List.mem_flatMap.2 ⟨_, List.getElem_mem _, hy⟩))
  refine ⟨hh, u, qs, ?_, hhl, hH, hm, hN⟩
  have hcl : cs.toList.length = 33 := by rw [← cellsC]; simpa [Value.cells] using hl
  have e : cs.toList = cs.toList.take 32 ++ (cs.toList.drop 32).take 1 := by
    rw [← List.take_append_drop 32 cs.toList]
    congr 1
    · simp
    · rw [List.take_append_drop, List.take_of_length_le (by rw [List.length_drop]; omega)]
  congr 1
  apply Array.toList_inj.1
  rw [e]
  have e0 : cs.toList.take 32 = (bs hh).toList := by simpa [Value.cells] using hhe
  have e1 : (cs.toList.drop 32).take 1 = [u] := by simpa [Value.cells] using hue
  rw [e0, e1]
  simp [chCells]
section
variable {w w' : World} {g : Nat} {t : TypeId} {h : List (BitVec 8)} {u : Value}
theorem ch_head (hr : Row w g t (chCells h u)) : w.rangeAt g 0 (bs h).toList := fun j v hv => by
  have hj := (List.getElem?_eq_some_iff.1 hv).1
  rw [Nat.zero_add, hr.cell, chCells, Array.getElem?_append_left (by simpa using hj)]
  simpa using hv
theorem ch_list (hr : Row w g t (chCells h u)) (hh : h.length = 32) : w.cell? ⟨g, 32, none⟩ = some u := by
  rw [hr.cell, chCells, Array.getElem?_append_right (by rw [size_bs, hh]; exact Nat.le_refl _), size_bs, hh]; rfl
theorem ch_slice (hr : Row w g t (chCells h u)) (hh : h.length = 32) : Slice w (.slice (some ⟨g, 0, none⟩) 32 32) h := by
  refine ⟨_, 32, by rw [hh], by rw [hh]; exact Nat.le_refl _, fun _ => ⟨g, 0, rfl, hr.lt, fun j x hx => ?_⟩⟩
  have hj := (List.getElem?_eq_some_iff.1 hx).1
  rw [Nat.zero_add, hr.cell, chCells, Array.getElem?_append_left (by rw [size_bs]; exact hj), get_bs h j hj, List.getD_eq_getElem?_getD, hx]; rfl
end
theorem Hand.parts {w : World} {v : Value} {ps : List (List (BitVec 8))} (h : Hand w v ps) : Parts w v ps := by
  obtain ⟨A, c, h1, h3⟩ := h
  refine ⟨A, c, h1, fun hne => ?_⟩
  obtain ⟨b, o, h4, h5, h6⟩ := h3 hne
  refine ⟨b, o, h4, h5, fun k q hq => ?_⟩
  obtain ⟨u, h7, h8⟩ := h6 k q hq
  exact ⟨u, h7, h8.slice⟩
end Go.Proofs.YtnfceejmkcohnaaDoor
