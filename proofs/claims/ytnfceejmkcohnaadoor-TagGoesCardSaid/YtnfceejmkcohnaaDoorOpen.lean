/- Arguments opened: a slice of bytes; and the last step of a law whose walk leaves all that was there as it was. -/
import Derived.Test.YtnfceejmkcohnaaDoorLaid
import Derived.Test.YtnfceejmkcohnaaDoorSum
import Derived.Carry
namespace Go.Proofs.YtnfceejmkcohnaaDoor
open Go Go.ChangeShapes Go.WideShapes Go.ChangeAt Go.RowKit
theorem laidOutT : laidOutB Tryd.prog = true := by kernel_rfl
theorem cellsB : Tryd.prog.cellsOf 5 = 1 := by kernel_rfl
theorem open_bytes {H : Type} {enc : TypeId × Value → H} {W : World} {r : Reach} {base : Nat} {v : Value} {d : DataW H} {ps : List MemPlace} (hval : Value.okWide Tryd.prog W r base 22 v)
    (h : DataW.Trod enc Tryd.prog W 0 (fun _ => true) true 22 v d ps) (hlt : ∀ x ∈ ps, x.block < W.heap.size) :
    ∃ A c q, v = .slice A q.length c ∧ Slice W (.slice A q.length c) q ∧ (A = none → c = 0) ∧ q.length ≤ maxLen := by
  obtain ⟨a0, len, cap, rfl⟩ := okWide_slice Tryd.underlying22 hval
  obtain ⟨fuel, hf⟩ := h
  rcases open_ints Tryd.underlying22 Tryd.underlying5 cellsB hf with ⟨hcs, hx⟩ | ⟨a, len', cap', zs, hcs, _, hl, hm, hz, hx, hcell, hwz⟩
  · simp [Value.cells] at hcs
    obtain ⟨rfl, rfl, rfl⟩ := hcs
    exact ⟨none, 0, [], rfl, ⟨none, 0, rfl, by simp, fun h => absurd rfl h⟩, fun _ => rfl, by simp⟩
  · simp [Value.cells] at hcs
    obtain ⟨rfl, rfl, rfl⟩ := hcs
    simp only [Prod.mk.injEq] at hx
    obtain ⟨_, rfl⟩ := hx
    simp only [if_true] at hz
    have hq : ((zs.take len).map (BitVec.ofInt 8)).length = len := by rw [List.length_map, List.length_take]; omega
    refine ⟨some a, cap, (zs.take len).map (BitVec.ofInt 8), by rw [hq], ?_, fun h => (by cases h), by rw [hq]; omega⟩
    refine ⟨some a, cap, rfl, by rw [hq]; exact hl, fun hne => ?_⟩
    have hpos : 0 < len := by rw [← hq]; exact List.length_pos_iff.2 hne
    obtain ⟨b, off, spot⟩ := a
    have hspot : spot = none := by simpa [Addr.add] using World.cell?_spot (hcell 0 (by omega))
    subst hspot
    refine ⟨b, off, rfl, hlt (.cell b off) (MemPlace.mem_row.2 ⟨0, by omega, by simp⟩), fun j x hxj => ?_⟩
    have hj : j < len := by have := (List.getElem?_eq_some_iff.1 hxj).1; omega
    have hc := hcell j (by omega)
    rw [Addr.add_mid] at hc
    rw [hc]
    have hjz : j < zs.length := by omega
    have e : x = BitVec.ofInt 8 zs[j] := by
      simp only [List.getElem?_map, List.getElem?_take, if_pos hj, List.getElem?_eq_getElem hjz, Option.map_some, Option.some.injEq] at hxj
      exact hxj.symm
    have hb := bounds_u8 (hwz zs[j] (List.getElem_mem hjz))
    rw [e, ← bd_of zs[j] hb.1 (by omega)]
    simp [hjz]
end Go.Proofs.YtnfceejmkcohnaaDoor
