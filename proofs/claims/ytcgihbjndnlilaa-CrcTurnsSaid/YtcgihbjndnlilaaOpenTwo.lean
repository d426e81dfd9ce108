/- An argument opened: an array of two bytes. -/
import Derived.Test.YtcgihbjndnlilaaOpenB
namespace Go.Proofs.Ytcgihbjndnlilaa
open Go Go.ChangeShapes Go.WideShapes Go.ChangeAt Go.RowKit
theorem cells2 : Try.prog.cellsOf 32 = 2 := by kernel_rfl
theorem open_two {H : Type} {enc : TypeId × Value → H} {W : World} {r : Reach} {base : Nat} {v : Value} {d : DataW H} {ps : List MemPlace} (hval : Value.okWide Try.prog W r base 32 v)
    (h : DataW.Trod enc Try.prog W 0 (fun _ => true) true 32 v d ps) : ∃ q : List (BitVec 8), q.length = 2 ∧ v = .agg (bs q) := by
  obtain ⟨cs, rfl⟩ := okWide_arr Try.underlying32 hval
  obtain ⟨hs, hi⟩ := open_row Try.underlying32 Try.underlying5 cellsB cells2 h
  refine ⟨cs.toList.map fun v => BitVec.ofInt 8 (intIn v), by simp [hs], ?_⟩
  congr 1
  apply Array.ext_getElem?
  intro i
  by_cases hlt : i < 2
  · obtain ⟨z, hz, hw⟩ := hi i hlt
    have hb := bounds_u8 hw
    have hin : i < cs.size := by omega
    rw [hz, get_bs _ i (by simp [hs]; omega)]
    have e1 : cs[i] = .int .u8 z := by rw [Array.getElem?_eq_getElem hin] at hz; injection hz
    simp [hin, e1, intIn, ← bd_of z hb.1 (by omega)]
  · rw [Array.getElem?_eq_none (by omega), Array.getElem?_eq_none (by rw [size_bs]; simp [hs]; omega)]
end Go.Proofs.Ytcgihbjndnlilaa
