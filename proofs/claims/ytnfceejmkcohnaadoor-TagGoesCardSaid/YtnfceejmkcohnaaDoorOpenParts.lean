/- An argument opened: a slice of slices of bytes. -/
import Derived.Test.YtnfceejmkcohnaaDoorOpen
import Derived.Test.YtnfceejmkcohnaaDoorFair
import Derived.Deep.Slices
namespace Go.Proofs.YtnfceejmkcohnaaDoor
open Go Go.ChangeShapes Go.WideShapes Go.ChangeAt Go.RowKit
theorem cellsSl : Tryd.prog.cellsOf 22 = 1 := by kernel_rfl
theorem open_item {H : Type} {enc : TypeId × Value → H} {W : World} {fuel : Nat} {u : Value} {x : DataW H × List MemPlace}
    (hf : DataW.trod enc Tryd.prog W 0 (fun _ => true) true fuel 22 [u] = some x) (hlt : ∀ y ∈ x.2, y.block < W.heap.size) : ∃ q, Item W u q := by
  rcases open_ints Tryd.underlying22 Tryd.underlying5 cellsB hf with ⟨hcs, hx⟩ | ⟨a, len, cap, zs, hcs, _, hl, hm, hz, hx, hcell, hwz⟩
  · simp at hcs
    subst hcs
    exact ⟨[], none, 0, rfl, ⟨none, 0, rfl, by simp, fun h => absurd rfl h⟩, fun _ => rfl, by simp⟩
  · simp at hcs
    subst hcs hx
    simp only [if_true] at hz
    have hq : ((zs.take len).map (BitVec.ofInt 8)).length = len := by rw [List.length_map, List.length_take]; omega
    refine ⟨(zs.take len).map (BitVec.ofInt 8), some a, cap, by rw [hq], ?_, fun h => (by cases h), by rw [hq]; omega⟩
    refine ⟨some a, cap, rfl, by rw [hq]; exact hl, fun hne => ?_⟩
    have hpos : 0 < len := by rw [← hq]; exact List.length_pos_iff.2 hne
    obtain ⟨b, off, spot⟩ := a
    have hspot : spot = none := by simpa [Addr.add] using World.cell?_spot (hcell 0 (by omega))
    subst hspot
    refine ⟨b, off, rfl, hlt (.cell b off) (MemPlace.mem_row.2 ⟨0, by omega, by simp⟩), fun j x hxj => ?_⟩
    have hj : j < len := by have := (List.getElem?_eq_some_iff.1 hxj).1; omega
    have hc := hcell j (by omega)
    rw [Addr.add_mid] at hc
    rw [hc]
    have hjz : j < zs.length := by omega
    have e : x = BitVec.ofInt 8 zs[j] := by
      simp only [List.getElem?_map, List.getElem?_take, if_pos hj, List.getElem?_eq_getElem hjz, Option.map_some, Option.some.injEq] at hxj
      exact hxj.symm
    have hb := bounds_u8 (hwz zs[j] (List.getElem_mem hjz))
    rw [e, ← bd_of zs[j] hb.1 (by omega)]
    simp [hjz]
theorem open_parts {H : Type} {enc : TypeId × Value → H} {W : World} {r : Reach} {base : Nat} {v : Value} {d : DataW H} {ps : List MemPlace} (hval : Value.okWide Tryd.prog W r base 25 v)
    (h : DataW.Trod enc Tryd.prog W 0 (fun _ => true) true 25 v d ps) (hlt : ∀ x ∈ ps, x.block < W.heap.size) :
    ∃ qs, Hand W v qs ∧ qs.length ≤ maxLen ∧ ∀ n c, v = .slice none n c → c = 0 := by
  obtain ⟨a0, len, cap, rfl⟩ := okWide_slice Tryd.underlying25 hval
  obtain ⟨fuel, hf⟩ := h
  rcases Deep.open_slice1 Tryd.underlying25 cellsSl hf with ⟨hcs, hx⟩ | ⟨a, len', cap', m, n, V, D, Pl, hcs, _, hl, hm, hmm, hx, hcell⟩
  · simp [Value.cells] at hcs
    obtain ⟨rfl, rfl, rfl⟩ := hcs
    exact ⟨[], ⟨none, 0, rfl, fun h => absurd rfl h⟩, by simp, fun n c e => by injection e with _ _ e; exact e.symm⟩
  · simp [Value.cells] at hcs
    obtain ⟨rfl, rfl, rfl⟩ := hcs
    simp only [Prod.mk.injEq] at hx
    obtain ⟨_, rfl⟩ := hx
    simp only [if_true] at hmm
    subst hmm
    obtain ⟨Q, hQ⟩ := Deep.choose_lt (α := List (BitVec 8)) (n := len) (p := fun i q => Item W (V i) q) (fun i hi => open_item (hcell i (by omega)).2 (fun y hy => hlt y (List.mem_append_right _ (List.mem_flatMap.2 ⟨i, List.mem_range.2 (by omega), hy⟩))))
    have hql : ((List.range len).map Q).length = len := by simp
    refine ⟨(List.range len).map Q, ⟨some a, _, by rw [hql], fun hne => ?_⟩, by rw [hql]; omega, fun n c e => by injection e with e _ _; cases e⟩
    have hpos : 0 < len := by rw [← hql]; exact List.length_pos_iff.2 hne
    obtain ⟨b, off, spot⟩ := a
    have hspot : spot = none := by simpa [Addr.add] using World.cell?_spot (hcell 0 (by omega)).1
    subst hspot
    refine ⟨b, off, rfl, hlt (.cell b off) (List.mem_append_left _ (MemPlace.mem_row.2 ⟨0, by omega, by simp⟩)), fun k q hq => ?_⟩
    have hk : k < len := by have := (List.getElem?_eq_some_iff.1 hq).1; omega
    have hc := (hcell k (by omega)).1
    rw [Addr.add_mid] at hc
    refine ⟨V k, hc, ?_⟩
    obtain rfl : Q k = q := by simpa [hk] using hq
    exact hQ k hk
end Go.Proofs.YtnfceejmkcohnaaDoor
