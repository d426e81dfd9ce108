/- What a chain begins with, and its records, opened, with their room; parts of a list of parts. -/
import Derived.Test.YtnfceejmkcohnaaDoorOpenCh
namespace Go.Proofs.YtnfceejmkcohnaaDoor
open Go Go.ChangeShapes Go.WideShapes Go.ChangeAt Go.RowKit
theorem raw_parts2 {H : Type} {enc : TypeId × Value → H} {W : World} {fuel : Nat} {cs : List Value} {x : DataW H × List MemPlace}
    (hf : DataW.trod enc Tryd.prog W 0 (fun _ => true) true fuel 25 cs = some x) (hlt : ∀ y ∈ x.2, y.block < W.heap.size) :
    ∃ u qs, cs = [u] ∧ Hand W u qs ∧ qs.length ≤ maxLen ∧ (∀ n c, u = .slice none n c → c = 0) ∧ ∀ A n c, u = .slice A n c → n ≤ c := by
  rcases Deep.open_slice1 Tryd.underlying25 cellsSl hf with ⟨hcs, hx⟩ | ⟨a, len, cap, m, n, V, D, Pl, hcs, _, hl, hm, hmm, hx, hcell⟩
  · exact ⟨_, [], hcs, ⟨none, 0, rfl, fun h => absurd rfl h⟩, by simp, (fun n c e => by injection e with _ _ e; exact e.symm), fun A n c e => by injection e with _ e1 e2; omega⟩
  · subst hx
    simp only [if_true] at hmm
    subst hmm
    obtain ⟨Q, hQ⟩ := Deep.choose_lt (α := List (BitVec 8)) (n := len) (p := fun i q => Item W (V i) q) (fun i hi => open_item (hcell i (by omega)).2 (fun y hy => hlt y (List.mem_append_right _ (List.mem_flatMap.2 ⟨i, List.mem_range.2 (by omega), hy⟩))))
    have hql : ((List.range len).map Q).length = len := by simp
    refine ⟨_, (List.range len).map Q, hcs, ⟨some a, _, by rw [hql], fun hne => ?_⟩, by rw [hql]; omega, (fun n c e => by injection e with e _ _; cases e), fun A n c e => by injection e with _ e1 e2; omega⟩
    have hpos : 0 < len := by rw [← hql]; exact List.length_pos_iff.2 hne
    obtain ⟨b, off, spot⟩ := a
    have hspot : spot = none := by simpa [Addr.add] using World.cell?_spot (hcell 0 (by omega)).1
    subst hspot
    refine ⟨b, off, rfl, hlt (.cell b off) (List.mem_append_left _ (MemPlace.mem_row.2 ⟨0, by omega, by simp⟩)), fun k q hq => ?_⟩
    have hk : k < len := by have := (List.getElem?_eq_some_iff.1 hq).1; omega
    have hc := (hcell k (by omega)).1
    rw [Addr.add_mid] at hc
    refine ⟨V k, hc, ?_⟩
    obtain rfl : Q k = q := by simpa [hk] using hq
    exact hQ k hk
theorem open_ch2 {H : Type} {enc : TypeId × Value → H} {W : World} {r : Reach} {base : Nat} {v : Value} {d : DataW H} {ps : List MemPlace} (hval : Value.okWide Tryd.prog W r base 27 v)
    (h : DataW.Trod enc Tryd.prog W 0 (fun _ => true) true 27 v d ps) (hlt : ∀ x ∈ ps, x.block < W.heap.size) :
    ∃ hh u qs, v = .agg (chCells hh u) ∧ hh.length = 32 ∧ Hand W u qs ∧ qs.length ≤ maxLen ∧ (∀ n c, u = .slice none n c → c = 0) ∧ ∀ A n c, u = .slice A n c → n ≤ c := by
  obtain ⟨cs, rfl⟩ := okWide_str Tryd.underlying27 hval
  obtain ⟨fuel, hf⟩ := h
  obtain ⟨xs, n, _, hx, hl, hlen, hfi⟩ := DataW.trod_struct Tryd.underlying27 hf
  simp only [Prod.mk.injEq] at hx
  obtain ⟨_, rfl⟩ := hx
  have h0 := hfi 0 _ rfl
  have h1 := hfi 1 _ rfl
  change DataW.trod enc Tryd.prog W 0 (fun _ => true) true n 24 ((_ : List Value).take (Tryd.prog.cellsOf 24)) = _ at h0
  change DataW.trod enc Tryd.prog W 0 (fun _ => true) true n 25 ((_ : List Value).take (Tryd.prog.cellsOf 25)) = _ at h1
  rw [cellsD] at h0
  rw [cellsP] at h1
  have l2 : xs.length = 2 := by simpa using hlen
  rw [List.getElem?_eq_getElem (by omega)] at h0 h1
  obtain ⟨hh, hhl, hhe⟩ := raw_bytes Tryd.underlying24 Tryd.underlying5 cellsB cellsD h0
  obtain ⟨u, qs, hue, hH, hm, hN⟩ := raw_parts2 h1 (fun y hy => hlt y (List.mem_flatMap.2 ⟨_, List.getElem_mem _, hy⟩))
  refine ⟨hh, u, qs, ?_, hhl, hH, hm, hN⟩
  have hcl : cs.toList.length = 33 := by rw [← cellsC]; simpa [Value.cells] using hl
  have e : cs.toList = cs.toList.take 32 ++ (cs.toList.drop 32).take 1 := by
    rw [← List.take_append_drop 32 cs.toList]
    congr 1
    · simp
    · rw [List.take_append_drop, List.take_of_length_le (by rw [List.length_drop]; omega)]
  congr 1
  apply Array.toList_inj.1
  rw [e]
  have e0 : cs.toList.take 32 = (bs hh).toList := by simpa [Value.cells] using hhe
  have e1 : (cs.toList.drop 32).take 1 = [u] := by simpa [Value.cells] using hue
  rw [e0, e1]
  simp [chCells]
theorem Parts.take {w : World} {A : Option Addr} {n c k : Nat} {ps : List (List (BitVec 8))} (h : Parts w (.slice A n c) ps) (hn : ps.length = n) (hk : k ≤ n) : Parts w (.slice A k c) (ps.take k) := by
  obtain ⟨A', c', h1, h3⟩ := h
  injection h1 with h1 _ h1c
  subst h1 h1c
  refine ⟨A, c, by rw [List.length_take, hn, Nat.min_eq_left hk], fun hne => ?_⟩
  obtain ⟨b, o, h4, h5, h6⟩ := h3 (by intro e; subst e; simp at hne)
  refine ⟨b, o, h4, h5, fun j x hx => h6 j x ?_⟩
  rw [List.getElem?_take] at hx
  split at hx
  · exact hx
  · cases hx
theorem Parts.drop {w : World} {A : Option Addr} {n c k : Nat} {ps : List (List (BitVec 8))} (h : Parts w (.slice A n c) ps) (hn : ps.length = n) (hnc : n ≤ c) (hk : k ≤ n) : Parts w (.slice (if c = k then A else A.map (·.add k)) (n - k) (c - k)) (ps.drop k) := by
  obtain ⟨A', c', h1, h3⟩ := h
  injection h1 with h1 _ h1c
  subst h1 h1c
  refine ⟨_, c - k, by rw [List.length_drop, hn], fun hne => ?_⟩
  have hl : 0 < (ps.drop k).length := List.length_pos_iff.2 hne
  rw [List.length_drop] at hl
  obtain ⟨b, o, h4, h5, h6⟩ := h3 (by intro e; subst e; simp at hne)
  subst h4
  refine ⟨b, o + k, ?_, h5, fun j x hx => ?_⟩
  · rw [if_neg (by omega)]; simp [Addr.add_mid]
  · rw [List.getElem?_drop] at hx
    rw [Nat.add_assoc]; exact h6 _ x hx
end Go.Proofs.YtnfceejmkcohnaaDoor
