/- Replies: what they are, their bytes, plainly. No function of the program is named here. -/
import Derived.Test.YtamofhjnpahamaaLabelSpec
import Derived.Test.YtamofhjnpahamaaLow
set_option maxRecDepth 4000
namespace Go.Proofs.Ytamofhjnpahamaa
open Go Go.RowKit
def byteZ (z : Int) : BitVec 8 := BitVec.ofInt 8 z
def wordZ (z : Int) : BitVec 32 := BitVec.ofInt 32 z
def mayR (i e : Int) (n : Nat) : Bool := decide (0 ≤ i) && decide (i ≤ 2147483647) && decide (0 ≤ e) && decide (e ≤ 255) && decide (n ≤ 255)
def repH (i e : Int) (d : List (BitVec 8)) : List (BitVec 8) := four (wordZ i) ++ [byteZ e, byteZ d.length] ++ d
def repB (i e : Int) (d : List (BitVec 8)) : List (BitVec 8) := repH i e d ++ two (crcOf (repH i e d))
def repCells (i e : Int) (u : Value) : Array Value := #[.int .i64 i, .int .i64 e, u]
theorem length_repH (i e : Int) (d : List (BitVec 8)) : (repH i e d).length = 6 + d.length := by unfold repH four two; simp; omega
theorem length_repB (i e : Int) (d : List (BitVec 8)) : (repB i e d).length = 8 + d.length := by unfold repB; rw [List.length_append, length_repH]; simp [two]; omega
theorem wordZ_wrap (z : Int) : IntKind.u32.wrap z = wd (wordZ z) := by
  rw [IntKind.wrap_u32']; unfold wd wordZ; rw [BitVec.toNat_ofInt]; omega
theorem mayR_of {i e : Int} {n : Nat} (h : mayR i e n = true) : 0 ≤ i ∧ i ≤ 2147483647 ∧ 0 ≤ e ∧ e ≤ 255 ∧ n ≤ 255 := by
  unfold mayR at h
  simp only [Bool.and_eq_true, decide_eq_true_eq] at h
  exact ⟨h.1.1.1.1, h.1.1.1.2, h.1.1.2, h.1.2, h.2⟩
theorem mayR_no {i e : Int} {n : Nat} (h : mayR i e n = false) : ¬ (0 ≤ i ∧ i ≤ 2147483647 ∧ 0 ≤ e ∧ e ≤ 255 ∧ n ≤ 255) := fun ⟨h1, h2, h3, h4, h5⟩ => by
  unfold mayR at h
  rw [decide_eq_true h1, decide_eq_true h2, decide_eq_true h3, decide_eq_true h4, decide_eq_true h5] at h
  cases h
end Go.Proofs.Ytamofhjnpahamaa
