/- Arguments opened: a uint16, an array of two of them. -/
import Derived.Test.YtcgihbjndnlilaaHalf
import Derived.Test.YtcgihbjndnlilaaOpenB
namespace Go.Proofs.Ytcgihbjndnlilaa
open Go Go.ChangeShapes Go.WideShapes Go.ChangeAt Go.RowKit
theorem half_of {n : Int} (h : (Lit.int .u16 n).wf = true) : ∃ x, n = hd x := by
  have hb := bounds_u16 h
  exact ⟨_, hd_of n hb.1 (by omega)⟩
def hs (l : List (BitVec 16)) : Array Value := (l.map fun x => Value.int .u16 (hd x)).toArray
theorem size_hs (l : List (BitVec 16)) : (hs l).size = l.length := by simp [hs]
theorem get_hs (l : List (BitVec 16)) (i : Nat) (h : i < l.length) : (hs l)[i]? = some (.int .u16 (hd (l.getD i 0))) := by simp [hs, h]
theorem cellsH : Try.prog.cellsOf 23 = 1 := by kernel_rfl
theorem cells2H : Try.prog.cellsOf 35 = 2 := by kernel_rfl
theorem open_two16 {H : Type} {enc : TypeId × Value → H} {W : World} {r : Reach} {base : Nat} {v : Value} {d : DataW H} {ps : List MemPlace} (hval : Value.okWide Try.prog W r base 35 v)
    (h : DataW.Trod enc Try.prog W 0 (fun _ => true) true 35 v d ps) : ∃ q : List (BitVec 16), q.length = 2 ∧ v = .agg (hs q) := by
  obtain ⟨cs, rfl⟩ := okWide_arr Try.underlying35 hval
  obtain ⟨hs0, hi⟩ := open_row Try.underlying35 Try.underlying23 cellsH cells2H h
  refine ⟨cs.toList.map fun v => BitVec.ofInt 16 (intIn v), by simp [hs0], ?_⟩
  congr 1
  apply Array.ext_getElem?
  intro i
  by_cases hlt : i < 2
  · obtain ⟨z, hz, hw⟩ := hi i hlt
    have hb := bounds_u16 hw
    have hin : i < cs.size := by omega
    rw [hz, get_hs _ i (by simp [hs0]; omega)]
    have e1 : cs[i] = .int .u16 z := by rw [Array.getElem?_eq_getElem hin] at hz; injection hz
    simp [hin, e1, intIn, ← hd_of z hb.1 (by omega)]
  · rw [Array.getElem?_eq_none (by omega), Array.getElem?_eq_none (by rw [size_hs]; simp [hs0]; omega)]
end Go.Proofs.Ytcgihbjndnlilaa
