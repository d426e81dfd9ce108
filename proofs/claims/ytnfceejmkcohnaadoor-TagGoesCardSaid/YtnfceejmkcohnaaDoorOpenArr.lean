/- Arguments opened: an array of words, an array of bytes. -/
import Derived.Test.YtnfceejmkcohnaaDoorOpen
namespace Go.Proofs.YtnfceejmkcohnaaDoor
open Go Go.ChangeShapes Go.WideShapes Go.ChangeAt Go.RowKit
theorem cellsH : Tryd.prog.cellsOf 46 = 8 := by kernel_rfl
theorem cells64 : Tryd.prog.cellsOf 48 = 64 := by kernel_rfl
theorem okWide_arr {P : Program} {w : World} {r : Reach} {base n : Nat} {t e : TypeId} {v : Value} (ht : P.underlying t = some (.array n e)) (h : Value.okWide P w r base t v) : ∃ cs, v = .agg cs := by
  simp only [Value.okWide, ht] at h
  cases v <;> simp_all
def intIn : Value → Int
  | .int _ z => z
  | _ => 0
theorem open_row {H : Type} {enc : TypeId × Value → H} {P : Program} {W : World} {t e : TypeId} {n : Nat} {k : IntKind} {cs : Array Value} {d : DataW H} {ps : List MemPlace} (ht : P.underlying t = some (.array n e)) (he : P.underlying e = some (.int k)) (hce : P.cellsOf e = 1) (hct : P.cellsOf t = n)
    (h : DataW.Trod enc P W 0 (fun _ => true) true t (.agg cs) d ps) : cs.size = n ∧ ∀ i, i < n → ∃ z, cs[i]? = some (.int k z) ∧ (Lit.int k z).wf = true := by
  obtain ⟨fuel, hf⟩ := h
  obtain ⟨xs, m, _, _, hl, hx, hi⟩ := DataW.trod_array ht hf
  have hs : cs.size = n := by simpa [Value.cells, hct] using hl
  refine ⟨hs, fun i hin => ?_⟩
  have h1 := hi i hin
  rw [List.getElem?_eq_getElem (by omega)] at h1
  obtain ⟨z, hz, _, hw⟩ := DataW.trod_int he h1
  refine ⟨z, ?_, hw⟩
  have hin' : i < cs.size := by omega
  simp only [hce, Nat.mul_one, Value.cells] at hz
  rw [List.take_one, List.head?_drop] at hz
  rw [Array.getElem?_eq_getElem hin']
  have e1 : cs.toList[i]? = some cs[i] := by simp [hin']
  rw [e1] at hz
  simpa using hz
theorem open_ws {H : Type} {enc : TypeId × Value → H} {W : World} {r : Reach} {base : Nat} {v : Value} {d : DataW H} {ps : List MemPlace} (hval : Value.okWide Tryd.prog W r base 46 v)
    (h : DataW.Trod enc Tryd.prog W 0 (fun _ => true) true 46 v d ps) : ∃ q : List (BitVec 32), q.length = 8 ∧ v = .agg (ws q) := by
  obtain ⟨cs, rfl⟩ := okWide_arr Tryd.underlying46 hval
  obtain ⟨hs, hi⟩ := open_row Tryd.underlying46 Tryd.underlying45 cellsU cellsH h
  refine ⟨cs.toList.map fun v => BitVec.ofInt 32 (intIn v), by simp [hs], ?_⟩
  congr 1
  apply Array.ext_getElem?
  intro i
  by_cases hlt : i < 8
  · obtain ⟨z, hz, hw⟩ := hi i hlt
    have hb := bounds_u32 hw
    have hin : i < cs.size := by omega
    rw [hz, get_ws _ i (by simp [hs]; omega)]
    have e1 : cs[i] = .int .u32 z := by rw [Array.getElem?_eq_getElem hin] at hz; injection hz
    simp [hin, e1, intIn, ← wd_of z hb.1 (by omega)]
  · rw [Array.getElem?_eq_none (by omega), Array.getElem?_eq_none (by rw [size_ws]; simp [hs]; omega)]
theorem open_bs {H : Type} {enc : TypeId × Value → H} {W : World} {r : Reach} {base : Nat} {v : Value} {d : DataW H} {ps : List MemPlace} (hval : Value.okWide Tryd.prog W r base 48 v)
    (h : DataW.Trod enc Tryd.prog W 0 (fun _ => true) true 48 v d ps) : ∃ q : List (BitVec 8), q.length = 64 ∧ v = .agg (bs q) := by
  obtain ⟨cs, rfl⟩ := okWide_arr Tryd.underlying48 hval
  obtain ⟨hs, hi⟩ := open_row Tryd.underlying48 Tryd.underlying5 cellsB cells64 h
  refine ⟨cs.toList.map fun v => BitVec.ofInt 8 (intIn v), by simp [hs], ?_⟩
  congr 1
  apply Array.ext_getElem?
  intro i
  by_cases hlt : i < 64
  · obtain ⟨z, hz, hw⟩ := hi i hlt
    have hb := bounds_u8 hw
    have hin : i < cs.size := by omega
    rw [hz, get_bs _ i (by simp [hs]; omega)]
    have e1 : cs[i] = .int .u8 z := by rw [Array.getElem?_eq_getElem hin] at hz; injection hz
    simp [hin, e1, intIn, ← bd_of z hb.1 (by omega)]
  · rw [Array.getElem?_eq_none (by omega), Array.getElem?_eq_none (by rw [size_bs]; simp [hs]; omega)]
end Go.Proofs.YtnfceejmkcohnaaDoor
